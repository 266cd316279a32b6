/-
  No cell of these rows narrows 'for every input' (looked for: loops, veiled, ifaces, maps, wideKeys, modest, calm, conditions, laid).
  DERIVED. THE GIVEN ROWS OF THIS SEAT. 4 by the template 'for every input the law returns true; each argument reads behind the call as it read before'; 0 by the template 'total and deterministic' (their statements: YtlgfodlimehppaaTotals.lean).
  GIVEN WITH THE SEED: the statements are not yours to turn. If you find one false, say at which input.
  Laid BY PROGRAM, IN A SANDBOX (cutbox-rows.mjs): the forced cells as the released guide's own fill.sh prints them over the translation 9d120a3045d6b072… (all of the seat's roots in one cut). By AI agents, Wed Nov 11 2026. No macro, syntax, notation, axiom, sorry.
-/
import Derived.Test.YtlgfodlimehppaaChecked
import GoSem.Claim
import GoSem.ClaimJoined
import GoSem.ClaimMapViews
import Derived.JoinedTies
import Derived.KernelRfl
namespace Go.Proofs.Ytlgfodlimehppaa
/- THE CELL 'sum', in the pinned program and in every row, IS THE sha256 OF THE DUMP (.gsa) THAT YtlgfodlimehppaaProg.lean LOADS. Nothing in Lean hashes anything: it is a label: what it is worth is what the hold of that sum in a sandbox is worth. -/
noncomputable def Try.pinned : Pinned := { name := "ytlgfodlimehppaa", sum := "9d120a3045d6b072cf9cdc63413a9e7ccdc6b145e3492f73fb57dd5dfc343390", checked := Try.checked }
namespace Rows
def none {H : Type} : Left H := { results := [], args := [] }

/-- 'iceboxlaw11.FilterAll': WHATEVER THE INPUT: true; the input reads as it did. -/
def filterAllSpec : ChangeSpec := { name := "filterAll", fn := fun _ => fun
  | [d1, d2, d3, d4] => { results := [.lit (.bool true)], args := [d1, d2, d3, d4] }
  | _ => none }
def filterAllRow : OpenClaim := { program := "ytlgfodlimehppaa", sum := "9d120a3045d6b072cf9cdc63413a9e7ccdc6b145e3492f73fb57dd5dfc343390", func := "icebox/iceboxlaw11.FilterAll", spec := "filterAll", inPlace := ["math.Float64bits", "math.Float64frombits", "math.archFloor", "math.archTrunc"], apart := false }
def FilterAllSaid : Prop := filterAllRow.holds Try.pinned (OpenSpec.ofChange filterAllSpec)

/-- ITS FALSE NEIGHBOUR: 'it returns false'. Refute it at one input. -/
def filterAllWrong : ChangeSpec := { name := "filterAll", fn := fun _ => fun
  | [d1, d2, d3, d4] => { results := [.lit (.bool false)], args := [d1, d2, d3, d4] }
  | _ => none }
def FilterAllWrongFalsely : Prop := filterAllRow.holds Try.pinned (OpenSpec.ofChange filterAllWrong)

/-- 'iceboxlaw11.FilterHas': WHATEVER THE INPUT: true; the input reads as it did. -/
def filterHasSpec : ChangeSpec := { name := "filterHas", fn := fun _ => fun
  | [d1, d2] => { results := [.lit (.bool true)], args := [d1, d2] }
  | _ => none }
def filterHasRow : OpenClaim := { program := "ytlgfodlimehppaa", sum := "9d120a3045d6b072cf9cdc63413a9e7ccdc6b145e3492f73fb57dd5dfc343390", func := "icebox/iceboxlaw11.FilterHas", spec := "filterHas", inPlace := ["math.Float64bits", "math.Float64frombits", "math.archFloor", "math.archTrunc"], apart := false }
def FilterHasSaid : Prop := filterHasRow.holds Try.pinned (OpenSpec.ofChange filterHasSpec)

/-- ITS FALSE NEIGHBOUR: 'it returns false'. Refute it at one input. -/
def filterHasWrong : ChangeSpec := { name := "filterHas", fn := fun _ => fun
  | [d1, d2] => { results := [.lit (.bool false)], args := [d1, d2] }
  | _ => none }
def FilterHasWrongFalsely : Prop := filterHasRow.holds Try.pinned (OpenSpec.ofChange filterHasWrong)

/-- 'iceboxlaw11.FilterEdges': WHATEVER THE INPUT: true; the input reads as it did. -/
def filterEdgesSpec : ChangeSpec := { name := "filterEdges", fn := fun _ => fun
  | [d1, d2] => { results := [.lit (.bool true)], args := [d1, d2] }
  | _ => none }
def filterEdgesRow : OpenClaim := { program := "ytlgfodlimehppaa", sum := "9d120a3045d6b072cf9cdc63413a9e7ccdc6b145e3492f73fb57dd5dfc343390", func := "icebox/iceboxlaw11.FilterEdges", spec := "filterEdges", inPlace := ["math.Float64bits", "math.Float64frombits", "math.archFloor", "math.archTrunc"], apart := false }
def FilterEdgesSaid : Prop := filterEdgesRow.holds Try.pinned (OpenSpec.ofChange filterEdgesSpec)

/-- ITS FALSE NEIGHBOUR: 'it returns false'. Refute it at one input. -/
def filterEdgesWrong : ChangeSpec := { name := "filterEdges", fn := fun _ => fun
  | [d1, d2] => { results := [.lit (.bool false)], args := [d1, d2] }
  | _ => none }
def FilterEdgesWrongFalsely : Prop := filterEdgesRow.holds Try.pinned (OpenSpec.ofChange filterEdgesWrong)

/-- 'iceboxlaw11.FilterGrows': WHATEVER THE INPUT: true; the input reads as it did. -/
def filterGrowsSpec : ChangeSpec := { name := "filterGrows", fn := fun _ => fun
  | [d1, d2, d3] => { results := [.lit (.bool true)], args := [d1, d2, d3] }
  | _ => none }
def filterGrowsRow : OpenClaim := { program := "ytlgfodlimehppaa", sum := "9d120a3045d6b072cf9cdc63413a9e7ccdc6b145e3492f73fb57dd5dfc343390", func := "icebox/iceboxlaw11.FilterGrows", spec := "filterGrows", inPlace := ["math.Float64bits", "math.Float64frombits", "math.archFloor", "math.archTrunc"], apart := false }
def FilterGrowsSaid : Prop := filterGrowsRow.holds Try.pinned (OpenSpec.ofChange filterGrowsSpec)

/-- ITS FALSE NEIGHBOUR: 'it returns false'. Refute it at one input. -/
def filterGrowsWrong : ChangeSpec := { name := "filterGrows", fn := fun _ => fun
  | [d1, d2, d3] => { results := [.lit (.bool false)], args := [d1, d2, d3] }
  | _ => none }
def FilterGrowsWrongFalsely : Prop := filterGrowsRow.holds Try.pinned (OpenSpec.ofChange filterGrowsWrong)

/- THE SECOND FORM. 'bulk': how many values and letters a reading holds, each counted each time it is reached (what is shared counts as often as it is met; a slice's spare places count too). A statement '..UptoSaid' is the law's where the arguments, and the package variables that the reading takes, are together of bulk at most 1048576: NARROWER than '..Said'. Prove '..Said' where nothing that the law and all that it calls make is longer than what came in: it says more and counts as full. Else prove '..UptoSaid'. A law counts once. -/
mutual
def uptoBulk {H : Type} : DataW H → Nat
  | .lit (.string bytes) => bytes.length + 1
  | .lit _ => 1
  | .nil => 1
  | .ptr d => uptoBulk d + 1
  | .slice elems spare => uptoBulkAll elems + uptoBulkAll spare + 1
  | .agg parts => uptoBulkAll parts + 1
  | .iface _ d => uptoBulk d + 1
  | .map entries => uptoBulkEntries entries + 1
  | .held _ => 1
def uptoBulkAll {H : Type} : List (DataW H) → Nat
  | [] => 0
  | d :: r => uptoBulk d + uptoBulkAll r
def uptoBulkEntries {H : Type} : List (Lit × DataW H) → Nat
  | [] => 0
  | x :: r => uptoBulkEntry x + uptoBulkEntries r
def uptoBulkEntry {H : Type} : Lit × DataW H → Nat
  | (.string bytes, d) => bytes.length + uptoBulk d + 1
  | (_, d) => uptoBulk d + 1
 end
def uptoSmall : (H : Type) → List (DataW H) → Bool := fun _ ds => decide (uptoBulkAll ds ≤ 1048576)
def OpenSpec.upto (s : _root_.Go.ChangeSpec) : _root_.Go.OpenSpec := { _root_.Go.OpenSpec.ofChange s with cond := some uptoSmall }

/-- 'iceboxlaw11.FilterAll', WHERE WHAT IT READS IS OF BULK AT MOST 1048576: true; the input reads as it did. -/
def filterAllUptoRow : OpenClaim := { program := "ytlgfodlimehppaa", sum := "9d120a3045d6b072cf9cdc63413a9e7ccdc6b145e3492f73fb57dd5dfc343390", func := "icebox/iceboxlaw11.FilterAll", spec := "filterAll", inPlace := ["math.Float64bits", "math.Float64frombits", "math.archFloor", "math.archTrunc"], apart := false, narrowed := true }
def FilterAllUptoSaid : Prop := filterAllUptoRow.holds Try.pinned (OpenSpec.upto filterAllSpec)

/-- 'iceboxlaw11.FilterHas', WHERE WHAT IT READS IS OF BULK AT MOST 1048576: true; the input reads as it did. -/
def filterHasUptoRow : OpenClaim := { program := "ytlgfodlimehppaa", sum := "9d120a3045d6b072cf9cdc63413a9e7ccdc6b145e3492f73fb57dd5dfc343390", func := "icebox/iceboxlaw11.FilterHas", spec := "filterHas", inPlace := ["math.Float64bits", "math.Float64frombits", "math.archFloor", "math.archTrunc"], apart := false, narrowed := true }
def FilterHasUptoSaid : Prop := filterHasUptoRow.holds Try.pinned (OpenSpec.upto filterHasSpec)

/-- 'iceboxlaw11.FilterEdges', WHERE WHAT IT READS IS OF BULK AT MOST 1048576: true; the input reads as it did. -/
def filterEdgesUptoRow : OpenClaim := { program := "ytlgfodlimehppaa", sum := "9d120a3045d6b072cf9cdc63413a9e7ccdc6b145e3492f73fb57dd5dfc343390", func := "icebox/iceboxlaw11.FilterEdges", spec := "filterEdges", inPlace := ["math.Float64bits", "math.Float64frombits", "math.archFloor", "math.archTrunc"], apart := false, narrowed := true }
def FilterEdgesUptoSaid : Prop := filterEdgesUptoRow.holds Try.pinned (OpenSpec.upto filterEdgesSpec)

/-- 'iceboxlaw11.FilterGrows', WHERE WHAT IT READS IS OF BULK AT MOST 1048576: true; the input reads as it did. -/
def filterGrowsUptoRow : OpenClaim := { program := "ytlgfodlimehppaa", sum := "9d120a3045d6b072cf9cdc63413a9e7ccdc6b145e3492f73fb57dd5dfc343390", func := "icebox/iceboxlaw11.FilterGrows", spec := "filterGrows", inPlace := ["math.Float64bits", "math.Float64frombits", "math.archFloor", "math.archTrunc"], apart := false, narrowed := true }
def FilterGrowsUptoSaid : Prop := filterGrowsUptoRow.holds Try.pinned (OpenSpec.upto filterGrowsSpec)

end Rows
end Go.Proofs.Ytlgfodlimehppaa
