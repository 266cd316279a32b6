/-
  How arguments are opened: a slice of strings.
-/
import Derived.Test.YtlgfodlimehppaaLift
import Derived.Lib.SmallJoins
namespace Go.Proofs.Ytlgfodlimehppaa
open Go.ChangeShapes Go.WideShapes Go.ChangeAt Go.RowKit Go.Deep

/-- The slice 'v' reads as the strings 'l' in world 'w'. -/
def RdS (w : World) (v : Value) (l : List ByteArray) : Prop := Rd w 1 v l.length (l.map Value.string) ∧ ∀ s ∈ l, s.size ≤ maxLen

section
variable {H : Type} {enc : TypeId × Value → H} {w : World} {base : Nat} {spare : Nat → Bool} {held : Bool}

theorem rdS_open {b0 : Nat} {m : Nat} {v : Value} {d : DataW H} {p : List MemPlace} (hok : Value.okWide Try.prog w .any b0 22 v) (hd : DataW.Trod enc Try.prog w m spare held 22 v d p) : ∃ l, RdS w v l := by
  obtain ⟨a, len, cap, rfl⟩ := okWide_slice Try.underlying22 hok
  obtain ⟨fuel, hf⟩ := hd
  rcases open_slice Try.underlying22 hf with ⟨hcs, _⟩ | ⟨x, l, c, q, n, D, Pl, hcs, _, hl, hm, hq, _, hcell⟩
  · simp [Value.cells] at hcs
    obtain ⟨rfl, rfl, rfl⟩ := hcs
    exact ⟨[], Rd.nil _ _, by simp⟩
  · simp [Value.cells] at hcs
    obtain ⟨rfl, rfl, rfl⟩ := hcs
    have cE : Try.prog.cellsOf 9 = 1 := by kernel_rfl
    rw [cE] at hcell
    have hlq : len ≤ q := by rw [hq]; split <;> omega
    have key : ∀ k, k ≤ len → ∃ es : List ByteArray, es.length = k ∧ (∀ e ∈ es, e.size ≤ maxLen) ∧ ∀ i, i < k → w.cells? m (x.add (i * 1)) 1 = some [.string (es.getD i ⟨#[]⟩)] := by
      intro k
      induction k with
      | zero => exact fun _ => ⟨[], rfl, by simp, fun i hi => by omega⟩
      | succ k ih =>
        intro hk
        obtain ⟨es, h1, h2, h3⟩ := ih (by omega)
        obtain ⟨cs', hc, ht⟩ := hcell k (by omega)
        obtain ⟨e, hce, _, he⟩ := DataW.trod_string Try.underlying9 ht
        subst hce
        refine ⟨es ++ [e], by simp [h1], ?_, ?_⟩
        · intro e' he'
          rcases List.mem_append.1 he' with h | h
          · exact h2 e' h
          · have : e' = e := by simpa using h
            subst this; exact he
        · intro i hi
          rcases Nat.lt_or_ge i k with hik | hik
          · rw [h3 i hik]
            simp [List.getD, List.getElem?_append_left (by omega : i < es.length)]
          · have : i = k := by omega
            subst this
            rw [hc]
            simp [List.getD, h1]
    obtain ⟨es, h1, h2, h3⟩ := key len (Nat.le_refl _)
    refine ⟨es, ?_, h2⟩
    by_cases h0 : len = 0
    · subst h0
      have : es = [] := List.eq_nil_of_length_eq_zero h1
      subst this
      exact ⟨some x, cap, rfl, hl, hm, by simp, .inl ⟨rfl, fun h => by cases h⟩⟩
    · obtain ⟨b, off, spot⟩ := x
      obtain ⟨_, _, hat⟩ := World.cells?_some (h3 0 (by omega))
      have hc0 := hat 0 (by simp)
      have hspot : spot = none := by
        have : ∃ v, w.cell? (((⟨b, off, spot⟩ : Addr).add (0 * 1)).add 0) = some v := ⟨_, hc0⟩
        obtain ⟨v, hv⟩ := this
        simpa [Addr.add] using World.cell?_spot hv
      subst hspot
      have hadd : ∀ i, (⟨b, off, none⟩ : Addr).add i = ⟨b, off + i, none⟩ := by intro i; unfold Addr.add; split <;> simp_all
      have hadd2 : ∀ o i, (⟨b, o, none⟩ : Addr).add i = ⟨b, o + i, none⟩ := by intro o i; unfold Addr.add; split <;> simp_all
      refine ⟨some ⟨b, off, none⟩, cap, by rw [h1], by omega, hm, by rw [List.length_map, Nat.mul_one], .inr ⟨b, off, rfl, ?_, ?_⟩⟩
      · have : ∃ v, w.cell? ⟨b, off, none⟩ = some v := ⟨_, by rw [hadd, hadd2] at hc0; exact hc0⟩
        obtain ⟨v, hv⟩ := this
        exact World.block_lt_of_cell? w _ hv
      · intro j u hj
        have hj' : j < len := by
          rcases Nat.lt_or_ge j len with h | h
          · exact h
          · rw [List.getElem?_eq_none (by simp; omega)] at hj; cases hj
        obtain ⟨_, _, hat⟩ := World.cells?_some (h3 j hj')
        have := hat 0 (by simp)
        rw [hadd, hadd2, Nat.mul_one, Nat.add_zero] at this
        rw [this]
        rw [List.getElem?_map, List.getElem?_eq_getElem (by omega)] at hj
        simp only [Option.map_some] at hj
        rw [← hj]
        simp [List.getD, h1, hj']
end
end Go.Proofs.Ytlgfodlimehppaa
