/-
  Words of this program that the other texts share: type uint8 as the program has it; a call that answers bytes in memory of its own.
-/
import Derived.Test.YtmlijnekidihbaaBase
import Derived.Test.YtmlijnekidihbaaNumMath
import Derived.Test.YtmlijnekidihbaaRows
import Derived.Lib.Hide
import Derived.Outline
namespace Go.Proofs.Ytmlijnekidihbaa
open Go.RowKit

theorem info_u8 : (Try.prog.info? 5).map (fun i => (i.zero, i.size, i.bytes)) = some (some (.int .u8 0), 1, 1) := by kernel_rfl

/-- The call answers a slice of bytes 'l' in memory of its own. -/
def RetB (B : Nat) (w : World) (l : List UInt8) (e : Ending) (w' : World) : Prop := ∃ v, e = .returned v ∧ OwnB w' B 5 v l ∧ Below B w w'

end Go.Proofs.Ytmlijnekidihbaa
