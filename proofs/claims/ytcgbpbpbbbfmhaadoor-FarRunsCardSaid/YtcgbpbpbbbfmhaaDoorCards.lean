/-
  DERIVED. GIVEN WITH THE SEED: THE CARDS: each row of YtcgbpbpbbbfmhaaDoorRows.lean that lists a variable, with what it lists TIED to the program's text (the seventh form; the later family's looks); each row that meets fmt, with fmt's text TOLD by the authors' own Lean function (tested against real Go, not proved from fmt's source: count such statements apart). THE CARD IS WHAT COUNTS. Prove the row's statement (the work); the ties are given (YtcgbpbpbbbfmhaaDoorTie.lean); close each card by the builder's one call (the guide's Derived/Test/ToyasCard.lean, 'card_holds'). Laid BY PROGRAM, IN A SANDBOX (cutbox-door.mjs). By AI agents, Wed Nov 11 2026. No macro, syntax, notation, axiom, sorry.
-/
import Derived.Test.YtcgbpbpbbbfmhaaDoorRows
import GoSem.ClaimSeven
namespace Go.Proofs.YtcgbpbpbbbfmhaaDoor
namespace Rows

/-- THE TIED CARD OF 'iceboxlaw5.FarRuns'. -/
def farRunsCard : Claim7 := { stood := { row := farRunsRow, standIns := [], harness := (true, "c860ac876b396d88a4a9597d2e7f38b4cdb0908c497134e1b07f5769033dd08a"), looks := true }, kinds := [], alts := [], laidByText := true, laidKinds := [.data, .pinned], laidTests := true, laidLooks := .later }
def FarRunsCardSaid : Prop := Claim7.holds Tryd.pinned (.plain (OpenSpec.ofChange farRunsSpec)) farRunsCard

/-- THE TIED CARD OF 'iceboxlaw5.FarKeeps'. -/
def farKeepsCard : Claim7 := { stood := { row := farKeepsRow, standIns := [], harness := (true, "c860ac876b396d88a4a9597d2e7f38b4cdb0908c497134e1b07f5769033dd08a"), looks := true }, kinds := [], alts := [], laidByText := true, laidKinds := [.data, .pinned], laidTests := true, laidLooks := .later }
def FarKeepsCardSaid : Prop := Claim7.holds Tryd.pinned (.plain (OpenSpec.ofChange farKeepsSpec)) farKeepsCard

/-- THE TIED CARD OF 'iceboxlaw5.FarFails'. -/
def farFailsCard : Claim7 := { stood := { row := farFailsRow, standIns := [], harness := (true, "c860ac876b396d88a4a9597d2e7f38b4cdb0908c497134e1b07f5769033dd08a"), looks := true }, kinds := [], alts := [], laidByText := true, laidKinds := [.data, .pinned], laidTests := true, laidLooks := .later }
def FarFailsCardSaid : Prop := Claim7.holds Tryd.pinned (.plain (OpenSpec.ofChange farFailsSpec)) farFailsCard

/-- THE TIED CARD OF 'iceboxlaw5.FarNil'. -/
def farNilCard : Claim7 := { stood := { row := farNilRow, standIns := [], harness := (true, "c860ac876b396d88a4a9597d2e7f38b4cdb0908c497134e1b07f5769033dd08a"), looks := true }, kinds := [], alts := [], laidByText := true, laidKinds := [.data, .pinned], laidTests := true, laidLooks := .later }
def FarNilCardSaid : Prop := Claim7.holds Tryd.pinned (.plain (OpenSpec.ofChange farNilSpec)) farNilCard

/-- THE SECOND FORM's CARD OF 'iceboxlaw5.FarRuns'. -/
def farRunsUptoCard : Claim7 := { stood := { row := farRunsUptoRow, standIns := [], harness := (true, "c860ac876b396d88a4a9597d2e7f38b4cdb0908c497134e1b07f5769033dd08a"), looks := true }, kinds := [], alts := [], laidByText := true, laidKinds := [.data, .pinned], laidTests := true, laidLooks := .later }
def FarRunsUptoCardSaid : Prop := Claim7.holds Tryd.pinned (.plain (OpenSpec.upto farRunsSpec)) farRunsUptoCard

/-- THE SECOND FORM's CARD OF 'iceboxlaw5.FarKeeps'. -/
def farKeepsUptoCard : Claim7 := { stood := { row := farKeepsUptoRow, standIns := [], harness := (true, "c860ac876b396d88a4a9597d2e7f38b4cdb0908c497134e1b07f5769033dd08a"), looks := true }, kinds := [], alts := [], laidByText := true, laidKinds := [.data, .pinned], laidTests := true, laidLooks := .later }
def FarKeepsUptoCardSaid : Prop := Claim7.holds Tryd.pinned (.plain (OpenSpec.upto farKeepsSpec)) farKeepsUptoCard

/-- THE SECOND FORM's CARD OF 'iceboxlaw5.FarFails'. -/
def farFailsUptoCard : Claim7 := { stood := { row := farFailsUptoRow, standIns := [], harness := (true, "c860ac876b396d88a4a9597d2e7f38b4cdb0908c497134e1b07f5769033dd08a"), looks := true }, kinds := [], alts := [], laidByText := true, laidKinds := [.data, .pinned], laidTests := true, laidLooks := .later }
def FarFailsUptoCardSaid : Prop := Claim7.holds Tryd.pinned (.plain (OpenSpec.upto farFailsSpec)) farFailsUptoCard

/-- THE SECOND FORM's CARD OF 'iceboxlaw5.FarNil'. -/
def farNilUptoCard : Claim7 := { stood := { row := farNilUptoRow, standIns := [], harness := (true, "c860ac876b396d88a4a9597d2e7f38b4cdb0908c497134e1b07f5769033dd08a"), looks := true }, kinds := [], alts := [], laidByText := true, laidKinds := [.data, .pinned], laidTests := true, laidLooks := .later }
def FarNilUptoCardSaid : Prop := Claim7.holds Tryd.pinned (.plain (OpenSpec.upto farNilSpec)) farNilUptoCard
end Rows
end Go.Proofs.YtcgbpbpbbbfmhaaDoor
