/-
  One byte's bits that the other has too.
-/
import Derived.Test.YtlgfodlimehppaaFilFacts
namespace Go.Proofs.Ytlgfodlimehppaa
open Go.RowKit Ieee

theorem andnot_u8 (a c : UInt8) (h : ∀ k, k < 8 → a.toNat.testBit k = true → c.toNat.testBit k = true) : bits .andNot .u8 (a.toNat : Int) (c.toNat : Int) = 0 := by
  have ha := a.toNat_lt
  have hc := c.toNat_lt
  have o : ∀ n : Nat, n < 256 → (BitVec.ofInt 8 (n : Int)) = BitVec.ofNat 8 n := by
    intro n _
    exact BitVec.ofInt_natCast _ _
  show IntKind.u8.wrap ((BitVec.ofInt 8 (a.toNat : Int) &&& ~~~ BitVec.ofInt 8 (c.toNat : Int)).toNat : Int) = _
  rw [o _ ha, o _ hc]
  have e : BitVec.ofNat 8 a.toNat &&& ~~~ BitVec.ofNat 8 c.toNat = 0#8 := by
    apply BitVec.eq_of_getLsbD_eq
    intro i hi
    have := h i hi
    simp only [BitVec.getLsbD_and, BitVec.getLsbD_not, BitVec.getLsbD_ofNat, Nat.zero_testBit, hi, decide_true, Bool.true_and]
    cases h1 : a.toNat.testBit i
    · rfl
    · rw [this h1]; rfl
  rw [e]
  rfl

/-- Of two rows of bytes, where every bit of the one is in the other. -/
theorem bits_sub {f g : List UInt8} {i : Nat} (h : ∀ x, hasBit f x = true → hasBit g x = true) : bits .andNot .u8 ((f.getD i 0).toNat : Int) ((g.getD i 0).toNat : Int) = 0 := by
  apply andnot_u8
  intro k hk hf
  have := h (8 * i + k)
  rw [hasBit_eq, hasBit_eq, show (8 * i + k) / 8 = i by omega, show (8 * i + k) % 8 = k by omega] at this
  exact this hf
end Go.Proofs.Ytlgfodlimehppaa
