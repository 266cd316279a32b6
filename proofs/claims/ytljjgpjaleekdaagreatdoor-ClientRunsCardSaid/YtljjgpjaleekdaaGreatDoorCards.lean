/-
  DERIVED. GIVEN WITH THE SEED: THE CARDS: each row of YtljjgpjaleekdaaGreatDoorRows.lean that lists a variable, with what it lists TIED to the program's text (the seventh form; the later family's looks); each row that meets fmt, with fmt's text TOLD by the authors' own Lean function (tested against real Go, not proved from fmt's source: count such statements apart). THE CARD IS WHAT COUNTS. Prove the row's statement (the work); the ties are given (YtljjgpjaleekdaaGreatDoorTie.lean); close each card by the builder's one call (the guide's Derived/Test/ToyasCard.lean, 'card_holds'). Laid BY PROGRAM, IN A SANDBOX (cutbox-door.mjs). By AI agents, Wed Nov 11 2026. No macro, syntax, notation, axiom, sorry.
-/
import Derived.Test.YtljjgpjaleekdaaGreatDoorRows
import GoSem.ClaimSeven
namespace Go.Proofs.YtljjgpjaleekdaaGreatDoor
namespace Rows

/-- THE TIED CARD OF 'iceboxlaw6.ClientRuns'. -/
def clientRunsCard : Claim7 := { stood := { row := clientRunsRow, standIns := [], harness := (true, "31b388050044e2a74ea8a35401c4a6147afc385b4ecef4a8fcea8903244ad5b4"), looks := false }, kinds := [], alts := [], laidByText := true, laidKinds := [.data, .pinned], laidTests := true, laidLooks := .later }
def ClientRunsCardSaid : Prop := Claim7.holds Tryz.pinned (.plain (OpenSpec.ofChange clientRunsSpec)) clientRunsCard

/-- THE SECOND FORM's CARD OF 'iceboxlaw6.ClientRuns'. -/
def clientRunsUptoCard : Claim7 := { stood := { row := clientRunsUptoRow, standIns := [], harness := (true, "31b388050044e2a74ea8a35401c4a6147afc385b4ecef4a8fcea8903244ad5b4"), looks := false }, kinds := [], alts := [], laidByText := true, laidKinds := [.data, .pinned], laidTests := true, laidLooks := .later }
def ClientRunsUptoCardSaid : Prop := Claim7.holds Tryz.pinned (.plain (OpenSpec.upto clientRunsSpec)) clientRunsUptoCard
end Rows
end Go.Proofs.YtljjgpjaleekdaaGreatDoor
