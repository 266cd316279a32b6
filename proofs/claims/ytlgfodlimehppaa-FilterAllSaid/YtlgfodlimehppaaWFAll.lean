/-
  The walk of FilterAll, on what is landed.
-/
import Derived.Test.YtlgfodlimehppaaFilMk
import Derived.Test.YtlgfodlimehppaaWFilterAll
namespace Go.Proofs.Ytlgfodlimehppaa
open Go.RowKit Ieee

theorem filterAll_walk (v0 : Value) (l : List ByteArray) (b : Nat) (v2 : Value) (f : List UInt8) (key : ByteArray) (W : World) (w0 : RdS W v0 l) (wb : (Lit.float .f64 b).wf = true) (w2 : RdB W v2 f) (wk : key.size ≤ maxLen) :
    Calls Try.prog 3 #[v0, .float .f64 b, v2, .string key] W fun r w' => r = .returned (.bool true) ∧ Below W.heap.size W w' :=
  filterAll_walkC probes_any make_any may_any v0 l b v2 f key W w0 wb w2 wk
end Go.Proofs.Ytlgfodlimehppaa
