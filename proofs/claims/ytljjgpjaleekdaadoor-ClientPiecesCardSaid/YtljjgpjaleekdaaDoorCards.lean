/-
  DERIVED. GIVEN WITH THE SEED: THE CARDS: each row of YtljjgpjaleekdaaDoorRows.lean that lists a variable, with what it lists TIED to the program's text (the seventh form; the later family's looks); each row that meets fmt, with fmt's text TOLD by the authors' own Lean function (tested against real Go, not proved from fmt's source: count such statements apart). THE CARD IS WHAT COUNTS. Prove the row's statement (the work); the ties are given (YtljjgpjaleekdaaDoorTie.lean); close each card by the builder's one call (the guide's Derived/Test/ToyasCard.lean, 'card_holds'). Laid BY PROGRAM, IN A SANDBOX (cutbox-door.mjs). By AI agents, Wed Nov 11 2026. No macro, syntax, notation, axiom, sorry.
-/
import Derived.Test.YtljjgpjaleekdaaDoorRows
import GoSem.ClaimSeven
namespace Go.Proofs.YtljjgpjaleekdaaDoor
namespace Rows

/-- THE TIED CARD OF 'iceboxlaw6.ClientOnce'. -/
def clientOnceCard : Claim7 := { stood := { row := clientOnceRow, standIns := [], harness := (true, "771a14584c43ad7fe2d86c86d692711b08a56066cce8c7b8aec186f22d99cc98"), looks := false }, kinds := [], alts := [], laidByText := true, laidKinds := [.data, .pinned], laidTests := true, laidLooks := .later }
def ClientOnceCardSaid : Prop := Claim7.holds Tryd.pinned (.plain (OpenSpec.ofChange clientOnceSpec)) clientOnceCard

/-- THE TIED CARD OF 'iceboxlaw6.ClientGives'. -/
def clientGivesCard : Claim7 := { stood := { row := clientGivesRow, standIns := [], harness := (true, "771a14584c43ad7fe2d86c86d692711b08a56066cce8c7b8aec186f22d99cc98"), looks := false }, kinds := [], alts := [], laidByText := true, laidKinds := [.data, .pinned], laidTests := true, laidLooks := .later }
def ClientGivesCardSaid : Prop := Claim7.holds Tryd.pinned (.plain (OpenSpec.ofChange clientGivesSpec)) clientGivesCard

/-- THE TIED CARD OF 'iceboxlaw6.ClientOther'. -/
def clientOtherCard : Claim7 := { stood := { row := clientOtherRow, standIns := [], harness := (true, "771a14584c43ad7fe2d86c86d692711b08a56066cce8c7b8aec186f22d99cc98"), looks := false }, kinds := [], alts := [], laidByText := true, laidKinds := [.data, .pinned], laidTests := true, laidLooks := .later }
def ClientOtherCardSaid : Prop := Claim7.holds Tryd.pinned (.plain (OpenSpec.ofChange clientOtherSpec)) clientOtherCard

/-- THE TIED CARD OF 'iceboxlaw6.ClientPieces'. -/
def clientPiecesCard : Claim7 := { stood := { row := clientPiecesRow, standIns := [], harness := (true, "771a14584c43ad7fe2d86c86d692711b08a56066cce8c7b8aec186f22d99cc98"), looks := false }, kinds := [], alts := [], laidByText := true, laidKinds := [.data, .pinned], laidTests := true, laidLooks := .later }
def ClientPiecesCardSaid : Prop := Claim7.holds Tryd.pinned (.plain (OpenSpec.ofChange clientPiecesSpec)) clientPiecesCard

/-- THE TIED CARD OF 'iceboxlaw6.ClientNil'. -/
def clientNilCard : Claim7 := { stood := { row := clientNilRow, standIns := [], harness := (true, "771a14584c43ad7fe2d86c86d692711b08a56066cce8c7b8aec186f22d99cc98"), looks := false }, kinds := [], alts := [], laidByText := true, laidKinds := [.data, .pinned], laidTests := true, laidLooks := .later }
def ClientNilCardSaid : Prop := Claim7.holds Tryd.pinned (.plain (OpenSpec.ofChange clientNilSpec)) clientNilCard

/-- THE SECOND FORM's CARD OF 'iceboxlaw6.ClientOnce'. -/
def clientOnceUptoCard : Claim7 := { stood := { row := clientOnceUptoRow, standIns := [], harness := (true, "771a14584c43ad7fe2d86c86d692711b08a56066cce8c7b8aec186f22d99cc98"), looks := false }, kinds := [], alts := [], laidByText := true, laidKinds := [.data, .pinned], laidTests := true, laidLooks := .later }
def ClientOnceUptoCardSaid : Prop := Claim7.holds Tryd.pinned (.plain (OpenSpec.upto clientOnceSpec)) clientOnceUptoCard

/-- THE SECOND FORM's CARD OF 'iceboxlaw6.ClientGives'. -/
def clientGivesUptoCard : Claim7 := { stood := { row := clientGivesUptoRow, standIns := [], harness := (true, "771a14584c43ad7fe2d86c86d692711b08a56066cce8c7b8aec186f22d99cc98"), looks := false }, kinds := [], alts := [], laidByText := true, laidKinds := [.data, .pinned], laidTests := true, laidLooks := .later }
def ClientGivesUptoCardSaid : Prop := Claim7.holds Tryd.pinned (.plain (OpenSpec.upto clientGivesSpec)) clientGivesUptoCard

/-- THE SECOND FORM's CARD OF 'iceboxlaw6.ClientOther'. -/
def clientOtherUptoCard : Claim7 := { stood := { row := clientOtherUptoRow, standIns := [], harness := (true, "771a14584c43ad7fe2d86c86d692711b08a56066cce8c7b8aec186f22d99cc98"), looks := false }, kinds := [], alts := [], laidByText := true, laidKinds := [.data, .pinned], laidTests := true, laidLooks := .later }
def ClientOtherUptoCardSaid : Prop := Claim7.holds Tryd.pinned (.plain (OpenSpec.upto clientOtherSpec)) clientOtherUptoCard

/-- THE SECOND FORM's CARD OF 'iceboxlaw6.ClientPieces'. -/
def clientPiecesUptoCard : Claim7 := { stood := { row := clientPiecesUptoRow, standIns := [], harness := (true, "771a14584c43ad7fe2d86c86d692711b08a56066cce8c7b8aec186f22d99cc98"), looks := false }, kinds := [], alts := [], laidByText := true, laidKinds := [.data, .pinned], laidTests := true, laidLooks := .later }
def ClientPiecesUptoCardSaid : Prop := Claim7.holds Tryd.pinned (.plain (OpenSpec.upto clientPiecesSpec)) clientPiecesUptoCard

/-- THE SECOND FORM's CARD OF 'iceboxlaw6.ClientNil'. -/
def clientNilUptoCard : Claim7 := { stood := { row := clientNilUptoRow, standIns := [], harness := (true, "771a14584c43ad7fe2d86c86d692711b08a56066cce8c7b8aec186f22d99cc98"), looks := false }, kinds := [], alts := [], laidByText := true, laidKinds := [.data, .pinned], laidTests := true, laidLooks := .later }
def ClientNilUptoCardSaid : Prop := Claim7.holds Tryd.pinned (.plain (OpenSpec.upto clientNilSpec)) clientNilUptoCard
end Rows
end Go.Proofs.YtljjgpjaleekdaaDoor
