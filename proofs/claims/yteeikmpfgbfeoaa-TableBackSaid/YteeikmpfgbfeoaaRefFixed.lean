/-
  What the document's answer for layer 1 does: numbers of so many bytes.
-/
import Derived.Test.YteeikmpfgbfeoaaWords
import Derived.Test.YteeikmpfgbfeoaaFixed
namespace Go.Proofs.Yteeikmpfgbfeoaa
open Go.RowKit

theorem fix_byte_u (n : Int) (j : Nat) (hj : j ≤ 7) : n % 18446744073709551616 / 256 ^ j % 256 = ((fixB n j).toNat : Int) := by
  rw [fixB, byte_of]
  have : j = 0 ∨ j = 1 ∨ j = 2 ∨ j = 3 ∨ j = 4 ∨ j = 5 ∨ j = 6 ∨ j = 7 := by omega
  rcases this with rfl | rfl | rfl | rfl | rfl | rfl | rfl | rfl <;> omega

theorem set_drop (l : List UInt8) (k : Nat) (c : UInt8) (h : k < l.length) : (l.set k c).drop k = c :: l.drop (k + 1) := by
  rw [List.drop_eq_getElem_cons (by rw [List.length_set]; exact h), List.getElem_set_self, List.drop_set_of_lt (by omega)]

end Go.Proofs.Yteeikmpfgbfeoaa
