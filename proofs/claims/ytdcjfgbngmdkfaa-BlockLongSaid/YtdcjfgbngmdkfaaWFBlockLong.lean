/-
  The walk of BlockLong, on what is landed.
-/
import Derived.Test.YtdcjfgbngmdkfaaBlkPut
import Derived.Test.YtdcjfgbngmdkfaaWBlockLong
namespace Go.Proofs.Ytdcjfgbngmdkfaa
open Go.RowKit

theorem blockLong_walk (a0 a1 : Int) (W : World) (wa0 : (Lit.int .u8 a0).wf = true) (wa1 : (Lit.int .u8 a1).wf = true) :
    Calls Try.prog 6 #[.int .u8 a0, .int .u8 a1] W fun r w' => r = .returned (.bool true) ∧ Below W.heap.size W w' :=
  blockLong_walkC put_any a0 a1 W wa0 wa1
end Go.Proofs.Ytdcjfgbngmdkfaa
