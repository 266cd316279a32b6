/-
  How arguments are opened: keys, entries, a slice of entries.
-/
import Derived.Test.YtnmmeaoapfampaaLift
import Derived.Test.YtnmmeaoapfampaaEnt
import Derived.Lib.SmallJoins
import Derived.Deep.Slices
namespace Go.Proofs.Ytnmmeaoapfampaa
open Go.ChangeShapes Go.WideShapes Go.ChangeAt Go.RowKit Go.Deep

/-- A key as the model's value. -/
abbrev keyV (u : ByteArray) (s k : Int) : Value := .agg #[.string u, .int .i64 s, .int .i64 k]

section
variable {H : Type} {enc : TypeId × Value → H} {w : World} {base : Nat} {spare : Nat → Bool} {held : Bool}

set_option maxRecDepth 100000 in
theorem get_some {α : Type} {xs : List α} {i n : Nat} (h : xs.length = n) (hi : i < n) : ∃ y, xs[i]? = some y := ⟨xs[i]'(by omega), List.getElem?_eq_getElem (by omega)⟩

set_option maxRecDepth 100000 in
theorem keyCells_open {n : Nat} {cs : List Value} {x : DataW H × List MemPlace} (h : DataW.trod enc Try.prog w base spare held n 36 cs = some x) :
    ∃ (u : ByteArray) (s k : Int), cs = [.string u, .int .i64 s, .int .i64 k] ∧ u.size ≤ maxLen ∧ (Lit.int .i64 s).wf = true ∧ (Lit.int .i64 k).wf = true := by
  obtain ⟨xs, m, _, _, hl, hx, hf⟩ := DataW.trod_struct Try.underlying36 h
  have hl' : cs.length = 3 := hl.trans (by kernel_rfl)
  match cs, hl' with
  | [c0, c1, c2], _ =>
    have cS : Try.prog.cellsOf 9 = 1 := by kernel_rfl
    have cI : Try.prog.cellsOf 3 = 1 := by kernel_rfl
    have h0 : DataW.trod enc Try.prog w base spare held m 9 (([c0, c1, c2].drop 0).take (Try.prog.cellsOf 9)) = xs[0]? := hf 0 _ rfl
    have h1 : DataW.trod enc Try.prog w base spare held m 3 (([c0, c1, c2].drop 1).take (Try.prog.cellsOf 3)) = xs[1]? := hf 1 _ rfl
    have h2 : DataW.trod enc Try.prog w base spare held m 3 (([c0, c1, c2].drop 2).take (Try.prog.cellsOf 3)) = xs[2]? := hf 2 _ rfl
    rw [cS] at h0
    rw [cI] at h1 h2
    obtain ⟨y0, e0⟩ := get_some (i := 0) hx (by decide)
    obtain ⟨y1, e1⟩ := get_some (i := 1) hx (by decide)
    obtain ⟨y2, e2⟩ := get_some (i := 2) hx (by decide)
    obtain ⟨u, q0, _, hu⟩ := DataW.trod_string Try.underlying9 (h0.trans e0)
    obtain ⟨s, q1, _, hs⟩ := DataW.trod_int Try.underlying3 (h1.trans e1)
    obtain ⟨k, q2, _, hk⟩ := DataW.trod_int Try.underlying3 (h2.trans e2)
    simp at q0 q1 q2
    subst q0 q1 q2
    exact ⟨u, s, k, rfl, hu, hs, hk⟩

set_option maxRecDepth 100000 in
theorem entCells_open {n : Nat} {cs : List Value} {x : DataW H × List MemPlace} (h : DataW.trod enc Try.prog w base spare held n 38 cs = some x) : ∃ e : Ent, cs = e.cells ∧ e.fits := by
  obtain ⟨xs, m, _, _, hl, hx, hf⟩ := DataW.trod_struct Try.underlying38 h
  have hl' : cs.length = 4 := hl.trans (by kernel_rfl)
  match cs, hl' with
  | [c0, c1, c2, c3], _ =>
    have cS : Try.prog.cellsOf 9 = 1 := by kernel_rfl
    have cK : Try.prog.cellsOf 36 = 3 := by kernel_rfl
    have h0 : DataW.trod enc Try.prog w base spare held m 36 (([c0, c1, c2, c3].drop 0).take (Try.prog.cellsOf 36)) = xs[0]? := hf 0 _ rfl
    have h1 : DataW.trod enc Try.prog w base spare held m 9 (([c0, c1, c2, c3].drop 3).take (Try.prog.cellsOf 9)) = xs[1]? := hf 1 _ rfl
    rw [cK] at h0
    rw [cS] at h1
    obtain ⟨y0, e0⟩ := get_some (i := 0) hx (by decide)
    obtain ⟨y1, e1⟩ := get_some (i := 1) hx (by decide)
    obtain ⟨u, s, k, q0, hu, hs, hk⟩ := keyCells_open (h0.trans e0)
    obtain ⟨v, q1, _, hv⟩ := DataW.trod_string Try.underlying9 (h1.trans e1)
    simp at q0 q1
    obtain ⟨rfl, rfl, rfl⟩ := q0
    subst q1
    exact ⟨⟨u, s, k, v⟩, rfl, hu, hv, hs, hk⟩

set_option maxRecDepth 100000 in
theorem key_open {r : Reach} {b0 : Nat} {v : Value} {d : DataW H} {p : List MemPlace} (hv : Value.okWide Try.prog w r b0 36 v) (h : DataW.Trod enc Try.prog w base spare held 36 v d p) :
    ∃ (u : ByteArray) (s k : Int), v = keyV u s k ∧ u.size ≤ maxLen ∧ (Lit.int .i64 s).wf = true ∧ (Lit.int .i64 k).wf = true := by
  obtain ⟨cs, rfl, _⟩ := okWide_struct Try.underlying36 hv
  obtain ⟨n, hn⟩ := h
  obtain ⟨u, s, k, hc, h1, h2, h3⟩ := keyCells_open hn
  refine ⟨u, s, k, ?_, h1, h2, h3⟩
  have : cs.toList = [.string u, .int .i64 s, .int .i64 k] := by simpa [Value.cells] using hc
  congr 1
  exact Array.toList_inj.1 this

set_option maxRecDepth 100000 in
theorem rdE_open {b0 : Nat} {m : Nat} {v : Value} {d : DataW H} {p : List MemPlace} (hok : Value.okWide Try.prog w .any b0 25 v) (hd : DataW.Trod enc Try.prog w m spare held 25 v d p) : ∃ es, RdE w v es := by
  obtain ⟨a, len, cap, rfl⟩ := okWide_slice Try.underlying25 hok
  obtain ⟨fuel, hf⟩ := hd
  rcases open_slice Try.underlying25 hf with ⟨hcs, _⟩ | ⟨x, l, c, q, n, D, Pl, hcs, _, hl, hm, hq, _, hcell⟩
  · simp [Value.cells] at hcs
    obtain ⟨rfl, rfl, rfl⟩ := hcs
    exact ⟨[], Rd.nil _ _, by simp⟩
  · simp [Value.cells] at hcs
    obtain ⟨rfl, rfl, rfl⟩ := hcs
    have cE : Try.prog.cellsOf 38 = 4 := by kernel_rfl
    rw [cE] at hcell
    have hlq : len ≤ q := by rw [hq]; split <;> omega
    have key : ∀ k, k ≤ len → ∃ es : List Ent, es.length = k ∧ (∀ e ∈ es, e.fits) ∧ ∀ i, i < k → w.cells? m (x.add (i * 4)) 4 = some (es.getD i Ent.none_).cells := by
      intro k
      induction k with
      | zero => exact fun _ => ⟨[], rfl, by simp, fun i hi => by omega⟩
      | succ k ih =>
        intro hk
        obtain ⟨es, h1, h2, h3⟩ := ih (by omega)
        obtain ⟨cs', hc, ht⟩ := hcell k (by omega)
        obtain ⟨e, rfl, he⟩ := entCells_open ht
        refine ⟨es ++ [e], by simp [h1], ?_, ?_⟩
        · intro e' he'
          rcases List.mem_append.1 he' with h | h
          · exact h2 e' h
          · have : e' = e := by simpa using h
            subst this; exact he
        · intro i hi
          rcases Nat.lt_or_ge i k with hik | hik
          · rw [h3 i hik]
            simp [List.getD, List.getElem?_append_left (by omega : i < es.length)]
          · have : i = k := by omega
            subst this
            rw [hc]
            simp [List.getD, h1]
    obtain ⟨es, h1, h2, h3⟩ := key len (Nat.le_refl _)
    refine ⟨es, ?_, h2⟩
    by_cases h0 : len = 0
    · subst h0
      have : es = [] := List.eq_nil_of_length_eq_zero h1
      subst this
      exact ⟨some x, cap, rfl, hl, hm, by simp, .inl ⟨rfl, fun h => by cases h⟩⟩
    · obtain ⟨b, off, spot⟩ := x
      obtain ⟨_, _, hat⟩ := World.cells?_some (h3 0 (by omega))
      have hc0 := hat 0 (by omega)
      have hspot : spot = none := by
        have : ∃ v, w.cell? (((⟨b, off, spot⟩ : Addr).add (0 * 4)).add 0) = some v := ⟨_, hc0⟩
        obtain ⟨v, hv⟩ := this
        simpa [Addr.add] using World.cell?_spot hv
      subst hspot
      have hadd : ∀ i, (⟨b, off, none⟩ : Addr).add i = ⟨b, off + i, none⟩ := by intro i; unfold Addr.add; split <;> simp_all
      have hadd2 : ∀ o i, (⟨b, o, none⟩ : Addr).add i = ⟨b, o + i, none⟩ := by intro o i; unfold Addr.add; split <;> simp_all
      have hlen : (es.flatMap Ent.cells).length = len * 4 := by
        rw [flat_length, h1]
      refine ⟨some ⟨b, off, none⟩, cap, by rw [h1], by omega, hm, by rw [hlen, h1], .inr ⟨b, off, rfl, ?_, ?_⟩⟩
      · have : ∃ v, w.cell? ⟨b, off, none⟩ = some v := ⟨(es.getD 0 Ent.none_).cells[0], by rw [hadd, hadd2] at hc0; exact hc0⟩
        obtain ⟨v, hv⟩ := this
        exact World.block_lt_of_cell? w _ hv
      · intro j u hj
        have hj' : j < len * 4 := by
          rcases Nat.lt_or_ge j (len * 4) with h | h
          · exact h
          · rw [List.getElem?_eq_none (by omega)] at hj; cases hj
        have hd : j = j / 4 * 4 + j % 4 := by omega
        obtain ⟨_, _, hat⟩ := World.cells?_some (h3 (j / 4) (by omega))
        have := hat (j % 4) (by omega)
        rw [hadd, hadd2, Nat.add_assoc, ← hd] at this
        rw [this]
        rw [hd, flat_at es (j / 4) (j % 4) (by omega) (by omega)] at hj
        exact hj
end
end Go.Proofs.Ytnmmeaoapfampaa
