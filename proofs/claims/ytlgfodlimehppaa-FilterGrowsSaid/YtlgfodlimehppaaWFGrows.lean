/-
  The walk of FilterGrows, on what is landed.
-/
import Derived.Test.YtlgfodlimehppaaFilMk
import Derived.Test.YtlgfodlimehppaaWFilterGrows
namespace Go.Proofs.Ytlgfodlimehppaa
open Go.RowKit Ieee

theorem filterGrows_walk (v0 : Value) (l : List ByteArray) (m : ByteArray) (b : Nat) (W : World) (w0 : RdS W v0 l) (wm : m.size ≤ maxLen) (wb : (Lit.float .f64 b).wf = true) :
    Calls Try.prog 6 #[v0, .string m, .float .f64 b] W fun r w' => r = .returned (.bool true) ∧ Below W.heap.size W w' :=
  filterGrows_walkC probes_any make_any may_any v0 l m b W w0 wm wb
end Go.Proofs.Ytlgfodlimehppaa
