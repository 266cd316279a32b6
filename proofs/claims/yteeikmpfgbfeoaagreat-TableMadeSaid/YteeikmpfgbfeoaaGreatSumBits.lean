/-
  Bits of numbers of 32 and 64 bits, as the walk spells them: plain facts.
-/
import Derived.Test.YteeikmpfgbfeoaaGreatSumMath
import Derived.Laws.DeepBits32
namespace Go.Proofs.YteeikmpfgbfeoaaGreat

theorem xor_u32 (a b : Nat) (ha : a < 2 ^ 32) (hb : b < 2 ^ 32) : bits .xor .u32 (a : Int) (b : Int) = ((a ^^^ b : Nat) : Int) := by
  have hx : a ^^^ b < 2 ^ 32 := Nat.xor_lt_two_pow ha hb
  show IntKind.u32.wrap ((BitVec.ofInt 32 (a : Int) ^^^ BitVec.ofInt 32 (b : Int)).toNat : Int) = _
  rw [BitVec.toNat_xor, ofInt_u32 a ha, ofInt_u32 b hb, IntKind.wrap_u32']
  omega

theorem and_one_u32 (a : Nat) (ha : a < 2 ^ 32) : bits .and .u32 (a : Int) 1 = ((a % 2 : Nat) : Int) := by
  have h1 : (BitVec.ofInt 32 1).toNat = 1 := by decide
  show IntKind.u32.wrap ((BitVec.ofInt 32 (a : Int) &&& BitVec.ofInt 32 1).toNat : Int) = _
  rw [BitVec.toNat_and, ofInt_u32 a ha, h1, Nat.and_one_is_mod, IntKind.wrap_u32']
  omega

theorem xor_i64 (a b : Nat) (ha : a < 2 ^ 63) (hb : b < 2 ^ 63) : bits .xor .i64 (a : Int) (b : Int) = ((a ^^^ b : Nat) : Int) := by
  have hx : a ^^^ b < 2 ^ 63 := Nat.xor_lt_two_pow ha hb
  have o : ∀ c : Nat, c < 2 ^ 63 → (BitVec.ofInt 64 (c : Int)).toNat = c := by
    intro c hc
    rw [BitVec.ofInt_natCast, BitVec.toNat_ofNat]
    exact Nat.mod_eq_of_lt (by omega)
  show IntKind.i64.wrap ((BitVec.ofInt 64 (a : Int) ^^^ BitVec.ofInt 64 (b : Int)).toNat : Int) = _
  rw [BitVec.toNat_xor, o a ha, o b hb]
  exact IntWalk.i64_in _ (by omega)

/-- All bits turned round. -/
theorem not_u32 (a : Nat) (ha : a < 2 ^ 32) : a ^^^ 4294967295 = 4294967295 - a := by
  have h : a ^^^ 4294967295 < 2 ^ 32 := Nat.xor_lt_two_pow ha (by decide)
  have e : (BitVec.ofNat 32 a ^^^ BitVec.allOnes 32) = ~~~ BitVec.ofNat 32 a := BitVec.xor_allOnes
  have e2 := congrArg BitVec.toNat e
  rw [BitVec.toNat_xor, BitVec.toNat_not, BitVec.toNat_ofNat, Nat.mod_eq_of_lt ha, BitVec.toNat_allOnes] at e2
  exact e2

/-- One bit, as programs make it: shifted, then the polynomial put over it where the bit that fell out was set. -/
theorem st1_even (c : Nat) (h : c % 2 = 0) : st1 c = c / 2 := by unfold st1; rw [if_neg (by omega), Nat.xor_zero]
theorem st1_odd (c : Nat) (h : c % 2 = 1) : st1 c = c / 2 ^^^ poly := by unfold st1; rw [if_pos h]
end Go.Proofs.YteeikmpfgbfeoaaGreat
