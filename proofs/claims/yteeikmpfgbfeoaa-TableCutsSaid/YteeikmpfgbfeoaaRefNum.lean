/-
  What the document's answer for layer 1 does: numbers as bytes.
-/
import Derived.Test.YteeikmpfgbfeoaaText
namespace Go.Proofs.Yteeikmpfgbfeoaa
open Go.RowKit

theorem more_byte' (n : Nat) : (128 + (n : Int) % 128) = ((moreB n).toNat : Int) := by
  unfold moreB
  rw [ofNat_toNat _ (by omega)]
  omega

end Go.Proofs.Yteeikmpfgbfeoaa
