/-
  No cell of these rows narrows 'for every input' (looked for: loops, veiled, ifaces, maps, wideKeys, modest, calm, conditions, laid).
  DERIVED. THE GIVEN ROWS OF THIS SEAT. 5 by the template 'for every input the law returns true; each argument reads behind the call as it read before'; 0 by the template 'total and deterministic' (their statements: YtpbmacbogmnokaaTotals.lean).
  GIVEN WITH THE SEED: the statements are not yours to turn. If you find one false, say at which input.
  Laid BY PROGRAM, IN A SANDBOX (cutbox-rows.mjs): the forced cells as the released guide's own fill.sh prints them over the translation 54ff22bdc049b74f… (all of the seat's roots in one cut). By AI agents, Wed Nov 11 2026. No macro, syntax, notation, axiom, sorry.
-/
import Derived.Test.YtpbmacbogmnokaaChecked
import GoSem.Claim
import GoSem.ClaimJoined
import GoSem.ClaimMapViews
import Derived.JoinedTies
import Derived.KernelRfl
namespace Go.Proofs.Ytpbmacbogmnokaa
/- THE CELL 'sum', in the pinned program and in every row, IS THE sha256 OF THE DUMP (.gsa) THAT YtpbmacbogmnokaaProg.lean LOADS. Nothing in Lean hashes anything: it is a label: what it is worth is what the hold of that sum in a sandbox is worth. -/
noncomputable def Try.pinned : Pinned := { name := "ytpbmacbogmnokaa", sum := "54ff22bdc049b74f1824ee058e835a13a2da3f6a92888cd7f3dd03adf14a8fe7", checked := Try.checked }
namespace Rows
def none {H : Type} : Left H := { results := [], args := [] }

/-- 'iceboxlaw9.ReplayAll': WHATEVER THE INPUT: true; the input reads as it did. -/
def replayAllSpec : ChangeSpec := { name := "replayAll", fn := fun _ => fun
  | [d1, d2, d3] => { results := [.lit (.bool true)], args := [d1, d2, d3] }
  | _ => none }
def replayAllRow : OpenClaim := { program := "ytpbmacbogmnokaa", sum := "54ff22bdc049b74f1824ee058e835a13a2da3f6a92888cd7f3dd03adf14a8fe7", func := "icebox/iceboxlaw9.ReplayAll", spec := "replayAll", inPlace := ["internal/bytealg.abigen_runtime_cmpstring"], unfollowed := true, recurses := true, apart := false }
def ReplayAllSaid : Prop := replayAllRow.holds Try.pinned (OpenSpec.ofChange replayAllSpec)

/-- ITS FALSE NEIGHBOUR: 'it returns false'. Refute it at one input. -/
def replayAllWrong : ChangeSpec := { name := "replayAll", fn := fun _ => fun
  | [d1, d2, d3] => { results := [.lit (.bool false)], args := [d1, d2, d3] }
  | _ => none }
def ReplayAllWrongFalsely : Prop := replayAllRow.holds Try.pinned (OpenSpec.ofChange replayAllWrong)

/-- 'iceboxlaw9.ReplayCuts': WHATEVER THE INPUT: true; the input reads as it did. -/
def replayCutsSpec : ChangeSpec := { name := "replayCuts", fn := fun _ => fun
  | [d1, d2, d3] => { results := [.lit (.bool true)], args := [d1, d2, d3] }
  | _ => none }
def replayCutsRow : OpenClaim := { program := "ytpbmacbogmnokaa", sum := "54ff22bdc049b74f1824ee058e835a13a2da3f6a92888cd7f3dd03adf14a8fe7", func := "icebox/iceboxlaw9.ReplayCuts", spec := "replayCuts", inPlace := ["internal/bytealg.abigen_runtime_cmpstring"], unfollowed := true, recurses := true, apart := false }
def ReplayCutsSaid : Prop := replayCutsRow.holds Try.pinned (OpenSpec.ofChange replayCutsSpec)

/-- ITS FALSE NEIGHBOUR: 'it returns false'. Refute it at one input. -/
def replayCutsWrong : ChangeSpec := { name := "replayCuts", fn := fun _ => fun
  | [d1, d2, d3] => { results := [.lit (.bool false)], args := [d1, d2, d3] }
  | _ => none }
def ReplayCutsWrongFalsely : Prop := replayCutsRow.holds Try.pinned (OpenSpec.ofChange replayCutsWrong)

/-- 'iceboxlaw9.ReplayJoins': WHATEVER THE INPUT: true; the input reads as it did. -/
def replayJoinsSpec : ChangeSpec := { name := "replayJoins", fn := fun _ => fun
  | [d1, d2, d3, d4, d5] => { results := [.lit (.bool true)], args := [d1, d2, d3, d4, d5] }
  | _ => none }
def replayJoinsRow : OpenClaim := { program := "ytpbmacbogmnokaa", sum := "54ff22bdc049b74f1824ee058e835a13a2da3f6a92888cd7f3dd03adf14a8fe7", func := "icebox/iceboxlaw9.ReplayJoins", spec := "replayJoins", inPlace := ["internal/bytealg.abigen_runtime_cmpstring"], unfollowed := true, recurses := true, apart := false }
def ReplayJoinsSaid : Prop := replayJoinsRow.holds Try.pinned (OpenSpec.ofChange replayJoinsSpec)

/-- ITS FALSE NEIGHBOUR: 'it returns false'. Refute it at one input. -/
def replayJoinsWrong : ChangeSpec := { name := "replayJoins", fn := fun _ => fun
  | [d1, d2, d3, d4, d5] => { results := [.lit (.bool false)], args := [d1, d2, d3, d4, d5] }
  | _ => none }
def ReplayJoinsWrongFalsely : Prop := replayJoinsRow.holds Try.pinned (OpenSpec.ofChange replayJoinsWrong)

/-- 'iceboxlaw9.ReplaySpoilt': WHATEVER THE INPUT: true; the input reads as it did. -/
def replaySpoiltSpec : ChangeSpec := { name := "replaySpoilt", fn := fun _ => fun
  | [d1, d2, d3, d4] => { results := [.lit (.bool true)], args := [d1, d2, d3, d4] }
  | _ => none }
def replaySpoiltRow : OpenClaim := { program := "ytpbmacbogmnokaa", sum := "54ff22bdc049b74f1824ee058e835a13a2da3f6a92888cd7f3dd03adf14a8fe7", func := "icebox/iceboxlaw9.ReplaySpoilt", spec := "replaySpoilt", inPlace := ["internal/bytealg.abigen_runtime_cmpstring"], unfollowed := true, recurses := true, apart := false }
def ReplaySpoiltSaid : Prop := replaySpoiltRow.holds Try.pinned (OpenSpec.ofChange replaySpoiltSpec)

/-- ITS FALSE NEIGHBOUR: 'it returns false'. Refute it at one input. -/
def replaySpoiltWrong : ChangeSpec := { name := "replaySpoilt", fn := fun _ => fun
  | [d1, d2, d3, d4] => { results := [.lit (.bool false)], args := [d1, d2, d3, d4] }
  | _ => none }
def ReplaySpoiltWrongFalsely : Prop := replaySpoiltRow.holds Try.pinned (OpenSpec.ofChange replaySpoiltWrong)

/-- 'iceboxlaw9.ReplayGaps': WHATEVER THE INPUT: true; the input reads as it did. -/
def replayGapsSpec : ChangeSpec := { name := "replayGaps", fn := fun _ => fun
  | [d1, d2, d3] => { results := [.lit (.bool true)], args := [d1, d2, d3] }
  | _ => none }
def replayGapsRow : OpenClaim := { program := "ytpbmacbogmnokaa", sum := "54ff22bdc049b74f1824ee058e835a13a2da3f6a92888cd7f3dd03adf14a8fe7", func := "icebox/iceboxlaw9.ReplayGaps", spec := "replayGaps", inPlace := ["internal/bytealg.abigen_runtime_cmpstring"], unfollowed := true, recurses := true, apart := false }
def ReplayGapsSaid : Prop := replayGapsRow.holds Try.pinned (OpenSpec.ofChange replayGapsSpec)

/-- ITS FALSE NEIGHBOUR: 'it returns false'. Refute it at one input. -/
def replayGapsWrong : ChangeSpec := { name := "replayGaps", fn := fun _ => fun
  | [d1, d2, d3] => { results := [.lit (.bool false)], args := [d1, d2, d3] }
  | _ => none }
def ReplayGapsWrongFalsely : Prop := replayGapsRow.holds Try.pinned (OpenSpec.ofChange replayGapsWrong)

/- THE SECOND FORM. 'bulk': how many values and letters a reading holds, each counted each time it is reached (what is shared counts as often as it is met; a slice's spare places count too). A statement '..UptoSaid' is the law's where the arguments, and the package variables that the reading takes, are together of bulk at most 1048576: NARROWER than '..Said'. Prove '..Said' where nothing that the law and all that it calls make is longer than what came in: it says more and counts as full. Else prove '..UptoSaid'. A law counts once. -/
mutual
def uptoBulk {H : Type} : DataW H → Nat
  | .lit (.string bytes) => bytes.length + 1
  | .lit _ => 1
  | .nil => 1
  | .ptr d => uptoBulk d + 1
  | .slice elems spare => uptoBulkAll elems + uptoBulkAll spare + 1
  | .agg parts => uptoBulkAll parts + 1
  | .iface _ d => uptoBulk d + 1
  | .map entries => uptoBulkEntries entries + 1
  | .held _ => 1
def uptoBulkAll {H : Type} : List (DataW H) → Nat
  | [] => 0
  | d :: r => uptoBulk d + uptoBulkAll r
def uptoBulkEntries {H : Type} : List (Lit × DataW H) → Nat
  | [] => 0
  | x :: r => uptoBulkEntry x + uptoBulkEntries r
def uptoBulkEntry {H : Type} : Lit × DataW H → Nat
  | (.string bytes, d) => bytes.length + uptoBulk d + 1
  | (_, d) => uptoBulk d + 1
 end
def uptoSmall : (H : Type) → List (DataW H) → Bool := fun _ ds => decide (uptoBulkAll ds ≤ 1048576)
def OpenSpec.upto (s : _root_.Go.ChangeSpec) : _root_.Go.OpenSpec := { _root_.Go.OpenSpec.ofChange s with cond := some uptoSmall }

/-- 'iceboxlaw9.ReplayAll', WHERE WHAT IT READS IS OF BULK AT MOST 1048576: true; the input reads as it did. -/
def replayAllUptoRow : OpenClaim := { program := "ytpbmacbogmnokaa", sum := "54ff22bdc049b74f1824ee058e835a13a2da3f6a92888cd7f3dd03adf14a8fe7", func := "icebox/iceboxlaw9.ReplayAll", spec := "replayAll", inPlace := ["internal/bytealg.abigen_runtime_cmpstring"], unfollowed := true, recurses := true, apart := false, narrowed := true }
def ReplayAllUptoSaid : Prop := replayAllUptoRow.holds Try.pinned (OpenSpec.upto replayAllSpec)

/-- 'iceboxlaw9.ReplayCuts', WHERE WHAT IT READS IS OF BULK AT MOST 1048576: true; the input reads as it did. -/
def replayCutsUptoRow : OpenClaim := { program := "ytpbmacbogmnokaa", sum := "54ff22bdc049b74f1824ee058e835a13a2da3f6a92888cd7f3dd03adf14a8fe7", func := "icebox/iceboxlaw9.ReplayCuts", spec := "replayCuts", inPlace := ["internal/bytealg.abigen_runtime_cmpstring"], unfollowed := true, recurses := true, apart := false, narrowed := true }
def ReplayCutsUptoSaid : Prop := replayCutsUptoRow.holds Try.pinned (OpenSpec.upto replayCutsSpec)

/-- 'iceboxlaw9.ReplayJoins', WHERE WHAT IT READS IS OF BULK AT MOST 1048576: true; the input reads as it did. -/
def replayJoinsUptoRow : OpenClaim := { program := "ytpbmacbogmnokaa", sum := "54ff22bdc049b74f1824ee058e835a13a2da3f6a92888cd7f3dd03adf14a8fe7", func := "icebox/iceboxlaw9.ReplayJoins", spec := "replayJoins", inPlace := ["internal/bytealg.abigen_runtime_cmpstring"], unfollowed := true, recurses := true, apart := false, narrowed := true }
def ReplayJoinsUptoSaid : Prop := replayJoinsUptoRow.holds Try.pinned (OpenSpec.upto replayJoinsSpec)

/-- 'iceboxlaw9.ReplaySpoilt', WHERE WHAT IT READS IS OF BULK AT MOST 1048576: true; the input reads as it did. -/
def replaySpoiltUptoRow : OpenClaim := { program := "ytpbmacbogmnokaa", sum := "54ff22bdc049b74f1824ee058e835a13a2da3f6a92888cd7f3dd03adf14a8fe7", func := "icebox/iceboxlaw9.ReplaySpoilt", spec := "replaySpoilt", inPlace := ["internal/bytealg.abigen_runtime_cmpstring"], unfollowed := true, recurses := true, apart := false, narrowed := true }
def ReplaySpoiltUptoSaid : Prop := replaySpoiltUptoRow.holds Try.pinned (OpenSpec.upto replaySpoiltSpec)

/-- 'iceboxlaw9.ReplayGaps', WHERE WHAT IT READS IS OF BULK AT MOST 1048576: true; the input reads as it did. -/
def replayGapsUptoRow : OpenClaim := { program := "ytpbmacbogmnokaa", sum := "54ff22bdc049b74f1824ee058e835a13a2da3f6a92888cd7f3dd03adf14a8fe7", func := "icebox/iceboxlaw9.ReplayGaps", spec := "replayGaps", inPlace := ["internal/bytealg.abigen_runtime_cmpstring"], unfollowed := true, recurses := true, apart := false, narrowed := true }
def ReplayGapsUptoSaid : Prop := replayGapsUptoRow.holds Try.pinned (OpenSpec.upto replayGapsSpec)

end Rows
end Go.Proofs.Ytpbmacbogmnokaa
