/-
  The walk of MergeBack.
-/
import Derived.Test.YtnmmeaoapfampaaWMergeBack0
import Derived.Test.YtnmmeaoapfampaaWMergeBack1
namespace Go.Proofs.Ytnmmeaoapfampaa
open Go.RowKit

theorem mergeBack_walkC (HP : MergeC) (HA : ViewC) (v0 : Value) (ns : List UInt8) (a b c d : Int) (W : World) (w0 : RdB W v0 ns) (wa : (Lit.int .u8 a).wf = true) (wb : (Lit.int .u8 b).wf = true) (wc : (Lit.int .u8 c).wf = true) (wd : (Lit.int .u8 d).wf = true) :
    Calls Try.prog 6 #[v0, .int .u8 a, .int .u8 b, .int .u8 c, .int .u8 d] W fun r w' => r = .returned (.bool true) ∧ Below W.heap.size W w' := by
  by_cases h8 : c.toNat % 8 = 0
  · exact mergeBack_empty HP HA v0 ns a b c d W w0 wa wb wc wd h8
  · exact mergeBack_full HP HA v0 ns a b c d W w0 wa wb wc wd h8
end Go.Proofs.Ytnmmeaoapfampaa
