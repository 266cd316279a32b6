/-
  How arguments are opened: a slice of acts.
-/
import Derived.Test.YtljjgpjaleekdaaGreatDoorClientRuns
import Derived.Lib.SmallJoins
import Derived.Deep.Slices
namespace Go.Proofs.YtljjgpjaleekdaaGreatDoor
open Go.ChangeShapes Go.WideShapes Go.ChangeAt Go.RowKit Go.Deep

def Act5.none_ : Act5 := ⟨0, ⟨#[]⟩, 0, 0, .slice none 0 0, [], .slice none 0 0, []⟩

theorem aflat_length : ∀ es : List Act5, (es.flatMap Act5.cells).length = es.length * 6
  | [] => rfl
  | e :: es => by
    rw [List.flatMap_cons, List.length_append, aflat_length es, List.length_cons]
    simp only [Act5.cells, List.length_cons, List.length_nil]
    omega

theorem aflat_at : ∀ (es : List Act5) (i t : Nat), i < es.length → t < 6 → (es.flatMap Act5.cells)[i * 6 + t]? = (es.getD i Act5.none_).cells[t]?
  | [], i, t, h, _ => by simp at h
  | e :: es, 0, t, _, ht => by
    rw [List.flatMap_cons, Nat.zero_mul, Nat.zero_add, List.getElem?_append_left (by simp [Act5.cells]; omega)]
    rfl
  | e :: es, i + 1, t, h, ht => by
    rw [List.flatMap_cons, List.getElem?_append_right (by simp [Act5.cells]; omega)]
    have : (i + 1) * 6 + t - e.cells.length = i * 6 + t := by simp [Act5.cells]; omega
    rw [this, aflat_at es i t (by simpa using h) ht]
    simp [List.getD]

section
variable {H : Type} {enc : TypeId × Value → H} {w : World} {base : Nat} {spare : Nat → Bool} {held : Bool}

theorem rdI_cell {P : Program} {k : IntKind} {t e : TypeId} {m n : Nat} {c : Value} {d : DataW H} {p : List MemPlace} (ht : P.underlying t = some (.slice e)) (he : P.underlying e = some (.int k)) (hc : P.cellsOf e = 1)
    (hf : DataW.trod enc P w m spare held n t [c] = some (d, p)) : ∃ zs, RdI k w c zs := by
  rcases open_ints ht he hc hf with ⟨hcs, _⟩ | ⟨x, l, cc, zs, hcs, _, hl, hm, hz, _, hcell, hwz⟩
  · simp at hcs
    subst hcs
    exact ⟨[], none, 0, rfl, Nat.le_refl _, Nat.zero_le _, by simp, .inl ⟨rfl, fun _ => rfl⟩⟩
  · simp at hcs
    subst hcs
    have hz' : l ≤ zs.length := by rw [hz]; split <;> omega
    have hlen : (zs.take l).length = l := by rw [List.length_take]; omega
    refine ⟨zs.take l, some x, cc, by rw [hlen], by rw [hlen]; exact hl, hm, fun n hn => hwz n (List.mem_of_mem_take hn), ?_⟩
    by_cases h0 : l = 0
    · left; subst h0; exact ⟨rfl, fun h => by cases h⟩
    · right
      obtain ⟨b, off, spot⟩ := x
      have hc0 := hcell 0 (by omega)
      have hspot : spot = none := by simpa [Addr.add] using World.cell?_spot hc0
      subst hspot
      refine ⟨b, off, rfl, World.block_lt_of_cell? w _ hc0, fun i hi => ?_⟩
      have hi' : i < l := by omega
      have h1 := hcell i (by omega)
      have hadd : (⟨b, off, none⟩ : Addr).add i = ⟨b, off + i, none⟩ := by unfold Addr.add; split <;> simp_all
      rw [hadd] at h1
      rw [h1]
      simp [List.getD, hi']

theorem some_at {α : Type} {xs : List α} {i n : Nat} (h : xs.length = n) (hi : i < n) : ∃ y, xs[i]? = some y := ⟨xs[i]'(by omega), List.getElem?_eq_getElem (by omega)⟩

set_option maxRecDepth 100000 in
theorem actCells_open {n : Nat} {cs : List Value} {x : DataW H × List MemPlace} (h : DataW.trod enc Tryz.prog w base spare held n 33 cs = some x) : ∃ e : Act5, cs = e.cells ∧ e.Fits w := by
  obtain ⟨xs, m, _, _, hl, hx, hf⟩ := DataW.trod_struct Tryz.underlying33 h
  have hl' : cs.length = 6 := hl.trans (by kernel_rfl)
  match cs, hl' with
  | [c0, c1, c2, c3, c4, c5], _ =>
    have cS : Tryz.prog.cellsOf 9 = 1 := by kernel_rfl
    have cI : Tryz.prog.cellsOf 3 = 1 := by kernel_rfl
    have cB : Tryz.prog.cellsOf 31 = 1 := by kernel_rfl
    have cN : Tryz.prog.cellsOf 28 = 1 := by kernel_rfl
    have h0 : DataW.trod enc Tryz.prog w base spare held m 3 (([c0, c1, c2, c3, c4, c5].drop 0).take (Tryz.prog.cellsOf 3)) = xs[0]? := hf 0 _ rfl
    have h1 : DataW.trod enc Tryz.prog w base spare held m 9 (([c0, c1, c2, c3, c4, c5].drop 1).take (Tryz.prog.cellsOf 9)) = xs[1]? := hf 1 _ rfl
    have h2 : DataW.trod enc Tryz.prog w base spare held m 3 (([c0, c1, c2, c3, c4, c5].drop 2).take (Tryz.prog.cellsOf 3)) = xs[2]? := hf 2 _ rfl
    have h3 : DataW.trod enc Tryz.prog w base spare held m 3 (([c0, c1, c2, c3, c4, c5].drop 3).take (Tryz.prog.cellsOf 3)) = xs[3]? := hf 3 _ rfl
    have h4 : DataW.trod enc Tryz.prog w base spare held m 31 (([c0, c1, c2, c3, c4, c5].drop 4).take (Tryz.prog.cellsOf 31)) = xs[4]? := hf 4 _ rfl
    have h5 : DataW.trod enc Tryz.prog w base spare held m 28 (([c0, c1, c2, c3, c4, c5].drop 5).take (Tryz.prog.cellsOf 28)) = xs[5]? := hf 5 _ rfl
    rw [cI] at h0 h2 h3
    rw [cS] at h1
    rw [cB] at h4
    rw [cN] at h5
    obtain ⟨y0, e0⟩ := some_at (i := 0) hx (by decide)
    obtain ⟨y1, e1⟩ := some_at (i := 1) hx (by decide)
    obtain ⟨y2, e2⟩ := some_at (i := 2) hx (by decide)
    obtain ⟨y3, e3⟩ := some_at (i := 3) hx (by decide)
    obtain ⟨y4, e4⟩ := some_at (i := 4) hx (by decide)
    obtain ⟨y5, e5⟩ := some_at (i := 5) hx (by decide)
    obtain ⟨d, q0, _, _⟩ := DataW.trod_int Tryz.underlying3 (h0.trans e0)
    obtain ⟨u, q1, _, hu⟩ := DataW.trod_string Tryz.underlying9 (h1.trans e1)
    obtain ⟨a, q2, _, _⟩ := DataW.trod_int Tryz.underlying3 (h2.trans e2)
    obtain ⟨c, q3, _, _⟩ := DataW.trod_int Tryz.underlying3 (h3.trans e3)
    have h4' : DataW.trod enc Tryz.prog w base spare held m 31 [c4] = some (y4.1, y4.2) := h4.trans e4
    have h5' : DataW.trod enc Tryz.prog w base spare held m 28 [c5] = some (y5.1, y5.2) := h5.trans e5
    obtain ⟨z4, r4⟩ := rdI_cell Tryz.underlying31 Tryz.underlying5 (by kernel_rfl) h4'
    obtain ⟨l4, b4⟩ := r4.bytes
    obtain ⟨l5, r5⟩ := rdI_cell Tryz.underlying28 Tryz.underlying3 (by kernel_rfl) h5'
    simp at q0 q1 q2 q3
    subst q0 q1 q2 q3
    exact ⟨⟨d, u, a, c, c4, l4, c5, l5⟩, rfl, hu, b4, r5⟩

set_option maxRecDepth 100000 in
theorem rdA_open {b0 : Nat} {m : Nat} {v : Value} {d : DataW H} {p : List MemPlace} (hok : Value.okWide Tryz.prog w .any b0 22 v) (hd : DataW.Trod enc Tryz.prog w m spare held 22 v d p) : ∃ es, RdA w v es := by
  obtain ⟨a, len, cap, rfl⟩ := okWide_slice Tryz.underlying22 hok
  obtain ⟨fuel, hf⟩ := hd
  rcases open_slice Tryz.underlying22 hf with ⟨hcs, _⟩ | ⟨x, l, c, q, n, D, Pl, hcs, _, hl, hm, hq, _, hcell⟩
  · simp [Value.cells] at hcs
    obtain ⟨rfl, rfl, rfl⟩ := hcs
    exact ⟨[], Rd.nil _ _, by simp⟩
  · simp [Value.cells] at hcs
    obtain ⟨rfl, rfl, rfl⟩ := hcs
    have cE : Tryz.prog.cellsOf 33 = 6 := by kernel_rfl
    rw [cE] at hcell
    have hlq : len ≤ q := by rw [hq]; split <;> omega
    have key : ∀ k, k ≤ len → ∃ es : List Act5, es.length = k ∧ (∀ e ∈ es, e.Fits w) ∧ ∀ i, i < k → w.cells? m (x.add (i * 6)) 6 = some (es.getD i Act5.none_).cells := by
      intro k
      induction k with
      | zero => exact fun _ => ⟨[], rfl, by simp, fun i hi => by omega⟩
      | succ k ih =>
        intro hk
        obtain ⟨es, h1, h2, h3⟩ := ih (by omega)
        obtain ⟨cs', hc, ht⟩ := hcell k (by omega)
        obtain ⟨e, rfl, he⟩ := actCells_open ht
        refine ⟨es ++ [e], by simp [h1], ?_, ?_⟩
        · intro e' he'
          rcases List.mem_append.1 he' with h | h
          · exact h2 e' h
          · have : e' = e := by simpa using h
            subst this; exact he
        · intro i hi
          rcases Nat.lt_or_ge i k with hik | hik
          · rw [h3 i hik]
            simp [List.getD, List.getElem?_append_left (by omega : i < es.length)]
          · have : i = k := by omega
            subst this
            rw [hc]
            simp [List.getD, h1]
    obtain ⟨es, h1, h2, h3⟩ := key len (Nat.le_refl _)
    refine ⟨es, ?_, h2⟩
    by_cases h0 : len = 0
    · subst h0
      have : es = [] := List.eq_nil_of_length_eq_zero h1
      subst this
      exact ⟨some x, cap, rfl, hl, hm, by simp, .inl ⟨rfl, fun h => by cases h⟩⟩
    · obtain ⟨b, off, spot⟩ := x
      obtain ⟨_, _, hat⟩ := World.cells?_some (h3 0 (by omega))
      have hc0 := hat 0 (by omega)
      have hspot : spot = none := by
        have : ∃ v, w.cell? (((⟨b, off, spot⟩ : Addr).add (0 * 6)).add 0) = some v := ⟨_, hc0⟩
        obtain ⟨v, hv⟩ := this
        simpa [Addr.add] using World.cell?_spot hv
      subst hspot
      have hadd : ∀ i, (⟨b, off, none⟩ : Addr).add i = ⟨b, off + i, none⟩ := by intro i; unfold Addr.add; split <;> simp_all
      have hadd2 : ∀ o i, (⟨b, o, none⟩ : Addr).add i = ⟨b, o + i, none⟩ := by intro o i; unfold Addr.add; split <;> simp_all
      have hlen : (es.flatMap Act5.cells).length = len * 6 := by
        rw [aflat_length, h1]
      refine ⟨some ⟨b, off, none⟩, cap, by rw [h1], by omega, hm, by rw [hlen, h1], .inr ⟨b, off, rfl, ?_, ?_⟩⟩
      · have : ∃ v, w.cell? ⟨b, off, none⟩ = some v := ⟨(es.getD 0 Act5.none_).cells[0], by rw [hadd, hadd2] at hc0; exact hc0⟩
        obtain ⟨v, hv⟩ := this
        exact World.block_lt_of_cell? w _ hv
      · intro j u hj
        have hj' : j < len * 6 := by
          rcases Nat.lt_or_ge j (len * 6) with h | h
          · exact h
          · rw [List.getElem?_eq_none (by omega)] at hj; cases hj
        have hd : j = j / 6 * 6 + j % 6 := by omega
        obtain ⟨_, _, hat⟩ := World.cells?_some (h3 (j / 6) (by omega))
        have := hat (j % 6) (by omega)
        rw [hadd, hadd2, Nat.add_assoc, ← hd] at this
        rw [this]
        rw [hd, aflat_at es (j / 6) (j % 6) (by omega) (by omega)] at hj
        exact hj
end
end Go.Proofs.YtljjgpjaleekdaaGreatDoor
