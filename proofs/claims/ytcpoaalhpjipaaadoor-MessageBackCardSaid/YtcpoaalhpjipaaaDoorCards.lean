/-
  DERIVED. GIVEN WITH THE SEED: THE CARDS: each row of YtcpoaalhpjipaaaDoorRows.lean that lists a variable, with what it lists TIED to the program's text (the seventh form; the later family's looks); each row that meets fmt, with fmt's text TOLD by the authors' own Lean function (tested against real Go, not proved from fmt's source: count such statements apart). THE CARD IS WHAT COUNTS. Prove the row's statement (the work); the ties are given (YtcpoaalhpjipaaaDoorTie.lean); close each card by the builder's one call (the guide's Derived/Test/ToyasCard.lean, 'card_holds'). Laid BY PROGRAM, IN A SANDBOX (cutbox-door.mjs). By AI agents, Wed Nov 11 2026. No macro, syntax, notation, axiom, sorry.
-/
import Derived.Test.YtcpoaalhpjipaaaDoorRows
import GoSem.ClaimSeven
namespace Go.Proofs.YtcpoaalhpjipaaaDoor
namespace Rows

/-- THE TIED CARD OF 'basculelaw09.MessageBytes'. -/
def messageBytesCard : Claim7 := { stood := { row := messageBytesRow, standIns := [], harness := (true, "c6bced1b414113d5460c9935115a038944a9eb7e9d17cfb6efb709265a9c7aed"), looks := false }, kinds := [], alts := [], laidByText := true, laidKinds := [.data], laidTests := true, laidLooks := .later }
def MessageBytesCardSaid : Prop := Claim7.holds Tryd.pinned (.plain (OpenSpec.ofChange messageBytesSpec)) messageBytesCard

/-- THE TIED CARD OF 'basculelaw09.MessageBatches'. -/
def messageBatchesCard : Claim7 := { stood := { row := messageBatchesRow, standIns := [], harness := (true, "c6bced1b414113d5460c9935115a038944a9eb7e9d17cfb6efb709265a9c7aed"), looks := false }, kinds := [], alts := [], laidByText := true, laidKinds := [.data], laidTests := true, laidLooks := .later }
def MessageBatchesCardSaid : Prop := Claim7.holds Tryd.pinned (.plain (OpenSpec.ofChange messageBatchesSpec)) messageBatchesCard

/-- THE TIED CARD OF 'basculelaw09.MessageBack'. -/
def messageBackCard : Claim7 := { stood := { row := messageBackRow, standIns := [], harness := (true, "c6bced1b414113d5460c9935115a038944a9eb7e9d17cfb6efb709265a9c7aed"), looks := false }, kinds := [], alts := [], laidByText := true, laidKinds := [.data], laidTests := true, laidLooks := .later }
def MessageBackCardSaid : Prop := Claim7.holds Tryd.pinned (.plain (OpenSpec.ofChange messageBackSpec)) messageBackCard

/-- THE TIED CARD OF 'basculelaw09.MessageCut'. -/
def messageCutCard : Claim7 := { stood := { row := messageCutRow, standIns := [], harness := (true, "c6bced1b414113d5460c9935115a038944a9eb7e9d17cfb6efb709265a9c7aed"), looks := false }, kinds := [], alts := [], laidByText := true, laidKinds := [.data], laidTests := true, laidLooks := .later }
def MessageCutCardSaid : Prop := Claim7.holds Tryd.pinned (.plain (OpenSpec.ofChange messageCutSpec)) messageCutCard

/-- THE SECOND FORM's CARD OF 'basculelaw09.MessageBytes'. -/
def messageBytesUptoCard : Claim7 := { stood := { row := messageBytesUptoRow, standIns := [], harness := (true, "c6bced1b414113d5460c9935115a038944a9eb7e9d17cfb6efb709265a9c7aed"), looks := false }, kinds := [], alts := [], laidByText := true, laidKinds := [.data], laidTests := true, laidLooks := .later }
def MessageBytesUptoCardSaid : Prop := Claim7.holds Tryd.pinned (.plain (OpenSpec.upto messageBytesSpec)) messageBytesUptoCard

/-- THE SECOND FORM's CARD OF 'basculelaw09.MessageBatches'. -/
def messageBatchesUptoCard : Claim7 := { stood := { row := messageBatchesUptoRow, standIns := [], harness := (true, "c6bced1b414113d5460c9935115a038944a9eb7e9d17cfb6efb709265a9c7aed"), looks := false }, kinds := [], alts := [], laidByText := true, laidKinds := [.data], laidTests := true, laidLooks := .later }
def MessageBatchesUptoCardSaid : Prop := Claim7.holds Tryd.pinned (.plain (OpenSpec.upto messageBatchesSpec)) messageBatchesUptoCard

/-- THE SECOND FORM's CARD OF 'basculelaw09.MessageBack'. -/
def messageBackUptoCard : Claim7 := { stood := { row := messageBackUptoRow, standIns := [], harness := (true, "c6bced1b414113d5460c9935115a038944a9eb7e9d17cfb6efb709265a9c7aed"), looks := false }, kinds := [], alts := [], laidByText := true, laidKinds := [.data], laidTests := true, laidLooks := .later }
def MessageBackUptoCardSaid : Prop := Claim7.holds Tryd.pinned (.plain (OpenSpec.upto messageBackSpec)) messageBackUptoCard

/-- THE SECOND FORM's CARD OF 'basculelaw09.MessageCut'. -/
def messageCutUptoCard : Claim7 := { stood := { row := messageCutUptoRow, standIns := [], harness := (true, "c6bced1b414113d5460c9935115a038944a9eb7e9d17cfb6efb709265a9c7aed"), looks := false }, kinds := [], alts := [], laidByText := true, laidKinds := [.data], laidTests := true, laidLooks := .later }
def MessageCutUptoCardSaid : Prop := Claim7.holds Tryd.pinned (.plain (OpenSpec.upto messageCutSpec)) messageCutUptoCard
end Rows
end Go.Proofs.YtcpoaalhpjipaaaDoor
