/-
  How arguments are opened: a slice of slices of bytes.
-/
import Derived.Test.YtlhppbogkmljbaaLists
import Derived.Test.YtlhppbogkmljbaaLift
import Derived.Lib.SmallJoins
import Derived.Deep.Slices
namespace Go.Proofs.Ytlhppbogkmljbaa
open Go.ChangeShapes Go.WideShapes Go.ChangeAt Go.RowKit Go.Deep

section
variable {H : Type} {enc : TypeId × Value → H} {w : World} {base : Nat} {spare : Nat → Bool} {held : Bool}

theorem rdI_cell {P : Program} {k : IntKind} {t e : TypeId} {m n : Nat} {c : Value} {d : DataW H} {p : List MemPlace} (ht : P.underlying t = some (.slice e)) (he : P.underlying e = some (.int k)) (hc : P.cellsOf e = 1)
    (hf : DataW.trod enc P w m spare held n t [c] = some (d, p)) : ∃ zs, RdI k w c zs := by
  rcases open_ints ht he hc hf with ⟨hcs, _⟩ | ⟨x, l, cc, zs, hcs, _, hl, hm, hz, _, hcell, hwz⟩
  · simp at hcs
    subst hcs
    exact ⟨[], none, 0, rfl, Nat.le_refl _, Nat.zero_le _, by simp, .inl ⟨rfl, fun _ => rfl⟩⟩
  · simp at hcs
    subst hcs
    have hz' : l ≤ zs.length := by rw [hz]; split <;> omega
    have hlen : (zs.take l).length = l := by rw [List.length_take]; omega
    refine ⟨zs.take l, some x, cc, by rw [hlen], by rw [hlen]; exact hl, hm, fun n hn => hwz n (List.mem_of_mem_take hn), ?_⟩
    by_cases h0 : l = 0
    · left; subst h0; exact ⟨rfl, fun h => by cases h⟩
    · right
      obtain ⟨b, off, spot⟩ := x
      have hc0 := hcell 0 (by omega)
      have hspot : spot = none := by simpa [Addr.add] using World.cell?_spot hc0
      subst hspot
      refine ⟨b, off, rfl, World.block_lt_of_cell? w _ hc0, fun i hi => ?_⟩
      have hi' : i < l := by omega
      have h1 := hcell i (by omega)
      have hadd : (⟨b, off, none⟩ : Addr).add i = ⟨b, off + i, none⟩ := by unfold Addr.add; split <;> simp_all
      rw [hadd] at h1
      rw [h1]
      simp [List.getD, hi']

set_option maxRecDepth 100000 in
theorem rdLL_open {b0 : Nat} {m : Nat} {v : Value} {d : DataW H} {p : List MemPlace} (hok : Value.okWide Try.prog w .any b0 26 v) (hd : DataW.Trod enc Try.prog w m spare held 26 v d p) : ∃ ls, RdLL w v ls := by
  obtain ⟨a, len, cap, rfl⟩ := okWide_slice Try.underlying26 hok
  obtain ⟨fuel, hf⟩ := hd
  rcases open_slice Try.underlying26 hf with ⟨hcs, _⟩ | ⟨x, l, c, q, n, D, Pl, hcs, _, hl, hm, hq, _, hcell⟩
  · simp [Value.cells] at hcs
    obtain ⟨rfl, rfl, rfl⟩ := hcs
    exact ⟨[], [], Rd.nil _ _, fun i c l h => by simp at h⟩
  · simp [Value.cells] at hcs
    obtain ⟨rfl, rfl, rfl⟩ := hcs
    have cE : Try.prog.cellsOf 22 = 1 := by kernel_rfl
    rw [cE] at hcell
    have hlq : len ≤ q := by rw [hq]; split <;> omega
    have key : ∀ k, k ≤ len → ∃ (cs : List Value) (ls : List (List UInt8)), cs.length = k ∧ ls.length = k ∧ (∀ (i : Nat) (c : Value) (l : List UInt8), cs[i]? = some c → ls[i]? = some l → RdB w c l) ∧ ∀ i, i < k → w.cells? m (x.add (i * 1)) 1 = some [cs.getD i undef] := by
      intro k
      induction k with
      | zero => exact fun _ => ⟨[], [], rfl, rfl, fun i c l h => by simp at h, fun i hi => by omega⟩
      | succ k ih =>
        intro hk
        obtain ⟨cs, ls, h1, h2, h3, h4⟩ := ih (by omega)
        obtain ⟨cs', hc, ht⟩ := hcell k (by omega)
        have hl1 : cs'.length = 1 := by
          obtain ⟨_, h5, _⟩ := World.cells?_some hc
          exact h5
        obtain ⟨c, rfl⟩ : ∃ c, cs' = [c] := by
          match cs', hl1 with
          | [c], _ => exact ⟨c, rfl⟩
        obtain ⟨zs, hzs⟩ := rdI_cell Try.underlying22 Try.underlying5 (by kernel_rfl) ht
        obtain ⟨l, hl'⟩ := hzs.bytes
        refine ⟨cs ++ [c], ls ++ [l], by simp [h1], by simp [h2], fun i c' l' hc' hl'' => ?_, fun i hi => ?_⟩
        · rcases Nat.lt_or_ge i k with hik | hik
          · rw [List.getElem?_append_left (by omega)] at hc' hl''
            exact h3 i c' l' hc' hl''
          · rw [List.getElem?_append_right (by omega)] at hc' hl''
            obtain ⟨hi0, _⟩ := List.getElem?_eq_some_iff.1 hc'
            have hz : i - k = 0 := by simp at hi0; omega
            rw [h1, hz] at hc'
            rw [h2, hz] at hl''
            cases hc'
            cases hl''
            exact hl'
        · rcases Nat.lt_or_ge i k with hik | hik
          · rw [h4 i hik]
            simp [List.getD, List.getElem?_append_left (by omega : i < cs.length)]
          · have : i = k := by omega
            subst this
            rw [hc]
            simp [List.getD, h1]
    obtain ⟨cs, ls, h1, h2, h3, h4⟩ := key len (Nat.le_refl _)
    refine ⟨ls, cs, ?_, h3⟩
    by_cases h0 : len = 0
    · subst h0
      have e1 : ls = [] := List.eq_nil_of_length_eq_zero h2
      have e2 : cs = [] := List.eq_nil_of_length_eq_zero h1
      subst e1 e2
      exact ⟨some x, cap, rfl, hl, hm, by simp, .inl ⟨rfl, fun h => by cases h⟩⟩
    · obtain ⟨b, off, spot⟩ := x
      obtain ⟨_, _, hat⟩ := World.cells?_some (h4 0 (by omega))
      have hc0 := hat 0 (by omega)
      have hspot : spot = none := by
        have : ∃ v, w.cell? (((⟨b, off, spot⟩ : Addr).add (0 * 1)).add 0) = some v := ⟨_, hc0⟩
        obtain ⟨v, hv⟩ := this
        simpa [Addr.add] using World.cell?_spot hv
      subst hspot
      have hadd : ∀ i, (⟨b, off, none⟩ : Addr).add i = ⟨b, off + i, none⟩ := by intro i; unfold Addr.add; split <;> simp_all
      have hadd2 : ∀ o i, (⟨b, o, none⟩ : Addr).add i = ⟨b, o + i, none⟩ := by intro o i; unfold Addr.add; split <;> simp_all
      refine ⟨some ⟨b, off, none⟩, cap, by rw [h2], by omega, hm, by omega, .inr ⟨b, off, rfl, ?_, ?_⟩⟩
      · have : ∃ v, w.cell? ⟨b, off, none⟩ = some v := ⟨[cs.getD 0 undef][0], by rw [hadd, hadd2] at hc0; exact hc0⟩
        obtain ⟨v, hv⟩ := this
        exact World.block_lt_of_cell? w _ hv
      · intro j u hj
        have hj' : j < len := by
          rcases Nat.lt_or_ge j len with h | h
          · exact h
          · rw [List.getElem?_eq_none (by omega)] at hj; cases hj
        obtain ⟨_, _, hat⟩ := World.cells?_some (h4 j hj')
        have := hat 0 (by omega)
        rw [hadd, hadd2, Nat.mul_one, Nat.add_zero] at this
        rw [this]
        simp [List.getD, hj]
end
end Go.Proofs.Ytlhppbogkmljbaa
