/-
  The walk of FilterEdges, on what is landed.
-/
import Derived.Test.YtlgfodlimehppaaFilMk
import Derived.Test.YtlgfodlimehppaaWFilterEdges
namespace Go.Proofs.Ytlgfodlimehppaa
open Go.RowKit Ieee

theorem filterEdges_walk (a b : Nat) (W : World) (wa : (Lit.float .f64 a).wf = true) (wb : (Lit.float .f64 b).wf = true) :
    Calls Try.prog 5 #[.float .f64 a, .float .f64 b] W fun r w' => r = .returned (.bool true) ∧ Below W.heap.size W w' :=
  filterEdges_walkC probes_any make_any a b W wa wb
end Go.Proofs.Ytlgfodlimehppaa
