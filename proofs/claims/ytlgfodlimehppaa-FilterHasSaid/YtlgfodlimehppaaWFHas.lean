/-
  The walk of FilterHas, on what is landed.
-/
import Derived.Test.YtlgfodlimehppaaFilMk
import Derived.Test.YtlgfodlimehppaaWFilterHas
namespace Go.Proofs.Ytlgfodlimehppaa
open Go.RowKit Ieee

theorem filterHas_walk (v0 : Value) (l : List ByteArray) (b : Nat) (W : World) (w0 : RdS W v0 l) (wb : (Lit.float .f64 b).wf = true) :
    Calls Try.prog 4 #[v0, .float .f64 b] W fun r w' => r = .returned (.bool true) ∧ Below W.heap.size W w' :=
  filterHas_walkC probes_any make_any may_any v0 l b W w0 wb
end Go.Proofs.Ytlgfodlimehppaa
