/-
  How arguments are opened: operations, batches.
-/
import Derived.Test.YtmcdkdoickbnlaaLift
import Derived.Test.YtmcdkdoickbnlaaOps
import Derived.Lib.SmallJoins
import Derived.Deep.Slices
namespace Go.Proofs.Ytmcdkdoickbnlaa
open Go.ChangeShapes Go.WideShapes Go.ChangeAt Go.RowKit Go.Deep

section
variable {H : Type} {enc : TypeId × Value → H} {w : World} {base : Nat} {spare : Nat → Bool} {held : Bool}

theorem oget_some {α : Type} {xs : List α} {i n : Nat} (h : xs.length = n) (hi : i < n) : ∃ y, xs[i]? = some y := ⟨xs[i]'(by omega), List.getElem?_eq_getElem (by omega)⟩

theorem opCells_open {n : Nat} {cs : List Value} {x : DataW H × List MemPlace} (h : DataW.trod enc Try.prog w base spare held n 45 cs = some x) : ∃ o : Ope, cs = o.cells ∧ o.fits := by
  obtain ⟨xs, m, _, _, hl, hx, hf⟩ := DataW.trod_struct Try.underlying45 h
  have hl' : cs.length = 3 := hl.trans (by kernel_rfl)
  match cs, hl' with
  | [c0, c1, c2], _ =>
    have cS : Try.prog.cellsOf 9 = 1 := by kernel_rfl
    have cI : Try.prog.cellsOf 3 = 1 := by kernel_rfl
    have h0 : DataW.trod enc Try.prog w base spare held m 3 (([c0, c1, c2].drop 0).take (Try.prog.cellsOf 3)) = xs[0]? := hf 0 _ rfl
    have h1 : DataW.trod enc Try.prog w base spare held m 9 (([c0, c1, c2].drop 1).take (Try.prog.cellsOf 9)) = xs[1]? := hf 1 _ rfl
    have h2 : DataW.trod enc Try.prog w base spare held m 9 (([c0, c1, c2].drop 2).take (Try.prog.cellsOf 9)) = xs[2]? := hf 2 _ rfl
    rw [cI] at h0
    rw [cS] at h1 h2
    obtain ⟨y0, e0⟩ := oget_some (i := 0) hx (by decide)
    obtain ⟨y1, e1⟩ := oget_some (i := 1) hx (by decide)
    obtain ⟨y2, e2⟩ := oget_some (i := 2) hx (by decide)
    obtain ⟨k, q0, _, hk⟩ := DataW.trod_int Try.underlying3 (h0.trans e0)
    obtain ⟨u, q1, _, hu⟩ := DataW.trod_string Try.underlying9 (h1.trans e1)
    obtain ⟨v, q2, _, hv⟩ := DataW.trod_string Try.underlying9 (h2.trans e2)
    simp at q0 q1 q2
    subst q0 q1 q2
    exact ⟨⟨k, u, v⟩, rfl, hk, hu, hv⟩

theorem rdO_cell {m n : Nat} {c : Value} {d : DataW H} {p : List MemPlace} (hf : DataW.trod enc Try.prog w m spare held n 22 [c] = some (d, p)) : ∃ l, RdO w c l := by
  rcases open_slice Try.underlying22 hf with ⟨hcs, _⟩ | ⟨x, len, cap, q, n, D, Pl, hcs, _, hl, hm, hq, _, hcell⟩
  · simp at hcs
    subst hcs
    exact ⟨[], Rd.nil _ _, by simp⟩
  · simp at hcs
    subst hcs
    have cE : Try.prog.cellsOf 45 = 3 := by kernel_rfl
    rw [cE] at hcell
    have hlq : len ≤ q := by rw [hq]; split <;> omega
    have key : ∀ k, k ≤ len → ∃ l : List Ope, l.length = k ∧ (∀ o ∈ l, o.fits) ∧ ∀ i, i < k → w.cells? m (x.add (i * 3)) 3 = some (l.getD i Ope.none_).cells := by
      intro k
      induction k with
      | zero => exact fun _ => ⟨[], rfl, by simp, fun i hi => by omega⟩
      | succ k ih =>
        intro hk
        obtain ⟨l, h1, h2, h3⟩ := ih (by omega)
        obtain ⟨cs', hc, ht⟩ := hcell k (by omega)
        obtain ⟨o, rfl, ho⟩ := opCells_open ht
        refine ⟨l ++ [o], by simp [h1], ?_, ?_⟩
        · intro o' ho'
          rcases List.mem_append.1 ho' with h | h
          · exact h2 o' h
          · have : o' = o := by simpa using h
            subst this; exact ho
        · intro i hi
          rcases Nat.lt_or_ge i k with hik | hik
          · rw [h3 i hik]
            simp [List.getD, List.getElem?_append_left (by omega : i < l.length)]
          · have : i = k := by omega
            subst this
            rw [hc]
            simp [List.getD, h1]
    obtain ⟨l, h1, h2, h3⟩ := key len (Nat.le_refl _)
    refine ⟨l, ?_, h2⟩
    by_cases h0 : len = 0
    · subst h0
      have : l = [] := List.eq_nil_of_length_eq_zero h1
      subst this
      exact ⟨some x, cap, rfl, hl, hm, by simp, .inl ⟨rfl, fun h => by cases h⟩⟩
    · obtain ⟨b, off, spot⟩ := x
      obtain ⟨_, _, hat⟩ := World.cells?_some (h3 0 (by omega))
      have hc0 := hat 0 (by omega)
      have hspot : spot = none := by
        have : ∃ v, w.cell? (((⟨b, off, spot⟩ : Addr).add (0 * 3)).add 0) = some v := ⟨_, hc0⟩
        obtain ⟨v, hv⟩ := this
        simpa [Addr.add] using World.cell?_spot hv
      subst hspot
      have hadd : ∀ i, (⟨b, off, none⟩ : Addr).add i = ⟨b, off + i, none⟩ := by intro i; unfold Addr.add; split <;> simp_all
      have hadd2 : ∀ o i, (⟨b, o, none⟩ : Addr).add i = ⟨b, o + i, none⟩ := by intro o i; unfold Addr.add; split <;> simp_all
      have hlen : (l.flatMap Ope.cells).length = len * 3 := by rw [opFlat_length, h1]
      refine ⟨some ⟨b, off, none⟩, cap, by rw [h1], by omega, hm, by rw [hlen, h1], .inr ⟨b, off, rfl, ?_, ?_⟩⟩
      · have : ∃ v, w.cell? ⟨b, off, none⟩ = some v := ⟨(l.getD 0 Ope.none_).cells[0], by rw [hadd, hadd2] at hc0; exact hc0⟩
        obtain ⟨v, hv⟩ := this
        exact World.block_lt_of_cell? w _ hv
      · intro j u hj
        have hj' : j < len * 3 := by
          rcases Nat.lt_or_ge j (len * 3) with h | h
          · exact h
          · rw [List.getElem?_eq_none (by omega)] at hj; cases hj
        have hd : j = j / 3 * 3 + j % 3 := by omega
        obtain ⟨_, _, hat⟩ := World.cells?_some (h3 (j / 3) (by omega))
        have := hat (j % 3) (by omega)
        rw [hadd, hadd2, Nat.add_assoc, ← hd] at this
        rw [this]
        rw [hd, opFlat_at l (j / 3) (j % 3) (by omega) (by omega)] at hj
        exact hj

theorem rdO_open {b0 : Nat} {m : Nat} {v : Value} {d : DataW H} {p : List MemPlace} (hok : Value.okWide Try.prog w .any b0 22 v) (hd : DataW.Trod enc Try.prog w m spare held 22 v d p) : ∃ l, RdO w v l := by
  obtain ⟨a, len, cap, rfl⟩ := okWide_slice Try.underlying22 hok
  obtain ⟨fuel, hf⟩ := hd
  exact rdO_cell hf


theorem bat_open {r : Reach} {b0 : Nat} {v : Value} {d : DataW H} {p : List MemPlace} (hv : Value.okWide Try.prog w r b0 24 v) (h : DataW.Trod enc Try.prog w base spare held 24 v d p) :
    ∃ (s : Int) (vl : Value) (l : List Ope), v = .agg #[.int .i64 s, vl] ∧ (Lit.int .i64 s).wf = true ∧ RdO w vl l := by
  obtain ⟨cs, rfl, _⟩ := okWide_struct Try.underlying24 hv
  obtain ⟨n, hn⟩ := h
  have hn' : DataW.trod enc Try.prog w base spare held n 24 cs.toList = some (d, p) := hn
  obtain ⟨xs, m, _, _, hl, hx, hf⟩ := DataW.trod_struct Try.underlying24 hn'
  have hl' : cs.toList.length = 2 := hl.trans (by kernel_rfl)
  generalize hcs : cs.toList = L at hl' hf
  match L, hl' with
  | [c0, c1], _ =>
    have cO : Try.prog.cellsOf 22 = 1 := by kernel_rfl
    have cI : Try.prog.cellsOf 3 = 1 := by kernel_rfl
    have h0 : DataW.trod enc Try.prog w base spare held m 3 (([c0, c1].drop 0).take (Try.prog.cellsOf 3)) = xs[0]? := hf 0 _ rfl
    have h1 : DataW.trod enc Try.prog w base spare held m 22 (([c0, c1].drop 1).take (Try.prog.cellsOf 22)) = xs[1]? := hf 1 _ rfl
    rw [cI] at h0
    rw [cO] at h1
    obtain ⟨y0, e0⟩ := oget_some (i := 0) hx (by decide)
    obtain ⟨y1, e1⟩ := oget_some (i := 1) hx (by decide)
    obtain ⟨s, q0, _, hs⟩ := DataW.trod_int Try.underlying3 (h0.trans e0)
    have h1' : DataW.trod enc Try.prog w base spare held m 22 [c1] = some y1 := h1.trans e1
    obtain ⟨d1, p1⟩ := y1
    obtain ⟨l, hr⟩ := rdO_cell h1'
    simp at q0
    subst q0
    refine ⟨s, c1, l, ?_, hs, hr⟩
    congr 1
    exact Array.toList_inj.1 hcs
end
end Go.Proofs.Ytmcdkdoickbnlaa
