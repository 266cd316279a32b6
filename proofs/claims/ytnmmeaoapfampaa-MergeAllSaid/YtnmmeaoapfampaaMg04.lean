import Derived.Test.YtnmmeaoapfampaaMg03
import Derived.Test.YtnmmeaoapfampaaEntLL
import Derived.Lib.SmallJoins
import Derived.Deep.Slices

/-
  How arguments are opened: a slice of slices of entries.
-/
namespace Go.Proofs.Ytnmmeaoapfampaa
open Go.ChangeShapes Go.WideShapes Go.ChangeAt Go.RowKit Go.Deep

section
variable {H : Type} {enc : TypeId × Value → H} {w : World} {base : Nat} {spare : Nat → Bool} {held : Bool}

set_option maxRecDepth 100000 in
theorem rdE_cell {m n0 : Nat} {c0 : Value} {d : DataW H} {p : List MemPlace} (hf : DataW.trod enc Try.prog w m spare held n0 25 [c0] = some (d, p)) : ∃ es, RdE w c0 es := by
  rcases open_slice Try.underlying25 hf with ⟨hcs, _⟩ | ⟨x, len, cap, q, n, D, Pl, hcs, _, hl, hm, hq, _, hcell⟩
  · simp at hcs
    subst hcs
    exact ⟨[], Rd.nil _ _, by simp⟩
  · simp at hcs
    subst hcs
    have cE : Try.prog.cellsOf 38 = 4 := by kernel_rfl
    rw [cE] at hcell
    have hlq : len ≤ q := by rw [hq]; split <;> omega
    have key : ∀ k, k ≤ len → ∃ es : List Ent, es.length = k ∧ (∀ e ∈ es, e.fits) ∧ ∀ i, i < k → w.cells? m (x.add (i * 4)) 4 = some (es.getD i Ent.none_).cells := by
      intro k
      induction k with
      | zero => exact fun _ => ⟨[], rfl, by simp, fun i hi => by omega⟩
      | succ k ih =>
        intro hk
        obtain ⟨es, h1, h2, h3⟩ := ih (by omega)
        obtain ⟨cs', hc, ht⟩ := hcell k (by omega)
        obtain ⟨e, rfl, he⟩ := entCells_open ht
        refine ⟨es ++ [e], by simp [h1], ?_, ?_⟩
        · intro e' he'
          rcases List.mem_append.1 he' with h | h
          · exact h2 e' h
          · have : e' = e := by simpa using h
            subst this; exact he
        · intro i hi
          rcases Nat.lt_or_ge i k with hik | hik
          · rw [h3 i hik]
            simp [List.getD, List.getElem?_append_left (by omega : i < es.length)]
          · have : i = k := by omega
            subst this
            rw [hc]
            simp [List.getD, h1]
    obtain ⟨es, h1, h2, h3⟩ := key len (Nat.le_refl _)
    refine ⟨es, ?_, h2⟩
    by_cases h0 : len = 0
    · subst h0
      have : es = [] := List.eq_nil_of_length_eq_zero h1
      subst this
      exact ⟨some x, cap, rfl, hl, hm, by simp, .inl ⟨rfl, fun h => by cases h⟩⟩
    · obtain ⟨b, off, spot⟩ := x
      obtain ⟨_, _, hat⟩ := World.cells?_some (h3 0 (by omega))
      have hc0 := hat 0 (by omega)
      have hspot : spot = none := by
        have : ∃ v, w.cell? (((⟨b, off, spot⟩ : Addr).add (0 * 4)).add 0) = some v := ⟨_, hc0⟩
        obtain ⟨v, hv⟩ := this
        simpa [Addr.add] using World.cell?_spot hv
      subst hspot
      have hadd : ∀ i, (⟨b, off, none⟩ : Addr).add i = ⟨b, off + i, none⟩ := by intro i; unfold Addr.add; split <;> simp_all
      have hadd2 : ∀ o i, (⟨b, o, none⟩ : Addr).add i = ⟨b, o + i, none⟩ := by intro o i; unfold Addr.add; split <;> simp_all
      have hlen : (es.flatMap Ent.cells).length = len * 4 := by
        rw [flat_length, h1]
      refine ⟨some ⟨b, off, none⟩, cap, by rw [h1], by omega, hm, by rw [hlen, h1], .inr ⟨b, off, rfl, ?_, ?_⟩⟩
      · have : ∃ v, w.cell? ⟨b, off, none⟩ = some v := ⟨(es.getD 0 Ent.none_).cells[0], by rw [hadd, hadd2] at hc0; exact hc0⟩
        obtain ⟨v, hv⟩ := this
        exact World.block_lt_of_cell? w _ hv
      · intro j u hj
        have hj' : j < len * 4 := by
          rcases Nat.lt_or_ge j (len * 4) with h | h
          · exact h
          · rw [List.getElem?_eq_none (by omega)] at hj; cases hj
        have hd : j = j / 4 * 4 + j % 4 := by omega
        obtain ⟨_, _, hat⟩ := World.cells?_some (h3 (j / 4) (by omega))
        have := hat (j % 4) (by omega)
        rw [hadd, hadd2, Nat.add_assoc, ← hd] at this
        rw [this]
        rw [hd, flat_at es (j / 4) (j % 4) (by omega) (by omega)] at hj
        exact hj

set_option maxRecDepth 100000 in
theorem rdLE_open {b0 : Nat} {m : Nat} {v : Value} {d : DataW H} {p : List MemPlace} (hok : Value.okWide Try.prog w .any b0 22 v) (hd : DataW.Trod enc Try.prog w m spare held 22 v d p) : ∃ ls, RdLE w v ls := by
  obtain ⟨a, len, cap, rfl⟩ := okWide_slice Try.underlying22 hok
  obtain ⟨fuel, hf⟩ := hd
  rcases open_slice Try.underlying22 hf with ⟨hcs, _⟩ | ⟨x, l, c, q, n, D, Pl, hcs, _, hl, hm, hq, _, hcell⟩
  · simp [Value.cells] at hcs
    obtain ⟨rfl, rfl, rfl⟩ := hcs
    exact ⟨[], [], Rd.nil _ _, fun i c l h => by simp at h⟩
  · simp [Value.cells] at hcs
    obtain ⟨rfl, rfl, rfl⟩ := hcs
    have cE : Try.prog.cellsOf 25 = 1 := by kernel_rfl
    rw [cE] at hcell
    have hlq : len ≤ q := by rw [hq]; split <;> omega
    have key : ∀ k, k ≤ len → ∃ (cs : List Value) (ls : List (List Ent)), cs.length = k ∧ ls.length = k ∧ (∀ (i : Nat) (c : Value) (l : List Ent), cs[i]? = some c → ls[i]? = some l → RdE w c l) ∧ ∀ i, i < k → w.cells? m (x.add (i * 1)) 1 = some [cs.getD i undef] := by
      intro k
      induction k with
      | zero => exact fun _ => ⟨[], [], rfl, rfl, fun i c l h => by simp at h, fun i hi => by omega⟩
      | succ k ih =>
        intro hk
        obtain ⟨cs, ls, h1, h2, h3, h4⟩ := ih (by omega)
        obtain ⟨cs', hc, ht⟩ := hcell k (by omega)
        have hl1 : cs'.length = 1 := by
          obtain ⟨_, h5, _⟩ := World.cells?_some hc
          exact h5
        obtain ⟨c, rfl⟩ : ∃ c, cs' = [c] := by
          match cs', hl1 with
          | [c], _ => exact ⟨c, rfl⟩
        obtain ⟨l, hl'⟩ := rdE_cell ht
        refine ⟨cs ++ [c], ls ++ [l], by simp [h1], by simp [h2], fun i c' l' hc' hl'' => ?_, fun i hi => ?_⟩
        · rcases Nat.lt_or_ge i k with hik | hik
          · rw [List.getElem?_append_left (by omega)] at hc' hl''
            exact h3 i c' l' hc' hl''
          · rw [List.getElem?_append_right (by omega)] at hc' hl''
            obtain ⟨hi0, _⟩ := List.getElem?_eq_some_iff.1 hc'
            have hz : i - k = 0 := by simp at hi0; omega
            rw [h1, hz] at hc'
            rw [h2, hz] at hl''
            cases hc'
            cases hl''
            exact hl'
        · rcases Nat.lt_or_ge i k with hik | hik
          · rw [h4 i hik]
            simp [List.getD, List.getElem?_append_left (by omega : i < cs.length)]
          · have : i = k := by omega
            subst this
            rw [hc]
            simp [List.getD, h1]
    obtain ⟨cs, ls, h1, h2, h3, h4⟩ := key len (Nat.le_refl _)
    refine ⟨ls, cs, ?_, h3⟩
    by_cases h0 : len = 0
    · subst h0
      have e1 : ls = [] := List.eq_nil_of_length_eq_zero h2
      have e2 : cs = [] := List.eq_nil_of_length_eq_zero h1
      subst e1 e2
      exact ⟨some x, cap, rfl, hl, hm, by simp, .inl ⟨rfl, fun h => by cases h⟩⟩
    · obtain ⟨b, off, spot⟩ := x
      obtain ⟨_, _, hat⟩ := World.cells?_some (h4 0 (by omega))
      have hc0 := hat 0 (by omega)
      have hspot : spot = none := by
        have : ∃ v, w.cell? (((⟨b, off, spot⟩ : Addr).add (0 * 1)).add 0) = some v := ⟨_, hc0⟩
        obtain ⟨v, hv⟩ := this
        simpa [Addr.add] using World.cell?_spot hv
      subst hspot
      have hadd : ∀ i, (⟨b, off, none⟩ : Addr).add i = ⟨b, off + i, none⟩ := by intro i; unfold Addr.add; split <;> simp_all
      have hadd2 : ∀ o i, (⟨b, o, none⟩ : Addr).add i = ⟨b, o + i, none⟩ := by intro o i; unfold Addr.add; split <;> simp_all
      refine ⟨some ⟨b, off, none⟩, cap, by rw [h2], by omega, hm, by omega, .inr ⟨b, off, rfl, ?_, ?_⟩⟩
      · have : ∃ v, w.cell? ⟨b, off, none⟩ = some v := ⟨[cs.getD 0 undef][0], by rw [hadd, hadd2] at hc0; exact hc0⟩
        obtain ⟨v, hv⟩ := this
        exact World.block_lt_of_cell? w _ hv
      · intro j u hj
        have hj' : j < len := by
          rcases Nat.lt_or_ge j len with h | h
          · exact h
          · rw [List.getElem?_eq_none (by omega)] at hj; cases hj
        obtain ⟨_, _, hat⟩ := World.cells?_some (h4 j hj')
        have := hat 0 (by omega)
        rw [hadd, hadd2, Nat.mul_one, Nat.add_zero] at this
        rw [this]
        simp [List.getD, hj]
end
end Go.Proofs.Ytnmmeaoapfampaa
