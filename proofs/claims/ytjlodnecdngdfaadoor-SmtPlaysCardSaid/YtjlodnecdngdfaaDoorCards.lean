/-
  DERIVED. GIVEN WITH THE SEED: THE CARDS: each row of YtjlodnecdngdfaaDoorRows.lean that lists a variable, with what it lists TIED to the program's text (the seventh form; the later family's looks); each row that meets fmt, with fmt's text TOLD by the authors' own Lean function (tested against real Go, not proved from fmt's source: count such statements apart). THE CARD IS WHAT COUNTS. Prove the row's statement (the work); the ties are given (YtjlodnecdngdfaaDoorTie.lean); close each card by the builder's one call (the guide's Derived/Test/ToyasCard.lean, 'card_holds'). Laid BY PROGRAM, IN A SANDBOX (cutbox-door.mjs). By AI agents, Wed Nov 11 2026. No macro, syntax, notation, axiom, sorry.
-/
import Derived.Test.YtjlodnecdngdfaaDoorRows
import GoSem.ClaimSeven
namespace Go.Proofs.YtjlodnecdngdfaaDoor
namespace Rows

/-- THE TIED CARD OF 'basculelaw05.SmtPlays'. -/
def smtPlaysCard : Claim7 := { stood := { row := smtPlaysRow, standIns := [], harness := (true, "63817a8dbe94fde1830a39f2f9b568c5932b93c3cbc8618cdc90a321c84a445e"), looks := false }, kinds := [], alts := [], laidByText := true, laidKinds := [.data], laidTests := true, laidLooks := .later }
def SmtPlaysCardSaid : Prop := Claim7.holds Tryd.pinned (.plain (OpenSpec.ofChange smtPlaysSpec)) smtPlaysCard

/-- THE TIED CARD OF 'basculelaw05.SmtNil'. -/
def smtNilCard : Claim7 := { stood := { row := smtNilRow, standIns := [], harness := (true, "63817a8dbe94fde1830a39f2f9b568c5932b93c3cbc8618cdc90a321c84a445e"), looks := false }, kinds := [], alts := [], laidByText := true, laidKinds := [.data], laidTests := true, laidLooks := .later }
def SmtNilCardSaid : Prop := Claim7.holds Tryd.pinned (.plain (OpenSpec.ofChange smtNilSpec)) smtNilCard

/-- THE TIED CARD OF 'basculelaw06.ProofMaps'. -/
def proofMapsCard : Claim7 := { stood := { row := proofMapsRow, standIns := [], harness := (true, "63817a8dbe94fde1830a39f2f9b568c5932b93c3cbc8618cdc90a321c84a445e"), looks := false }, kinds := [], alts := [], laidByText := true, laidKinds := [.data], laidTests := true, laidLooks := .later }
def ProofMapsCardSaid : Prop := Claim7.holds Tryd.pinned (.plain (OpenSpec.ofChange proofMapsSpec)) proofMapsCard

/-- THE TIED CARD OF 'basculelaw06.ProofTrail'. -/
def proofTrailCard : Claim7 := { stood := { row := proofTrailRow, standIns := [], harness := (true, "63817a8dbe94fde1830a39f2f9b568c5932b93c3cbc8618cdc90a321c84a445e"), looks := false }, kinds := [], alts := [], laidByText := true, laidKinds := [.data], laidTests := true, laidLooks := .later }
def ProofTrailCardSaid : Prop := Claim7.holds Tryd.pinned (.plain (OpenSpec.ofChange proofTrailSpec)) proofTrailCard

/-- THE TIED CARD OF 'basculelaw06.ProofOthers'. -/
def proofOthersCard : Claim7 := { stood := { row := proofOthersRow, standIns := [], harness := (true, "63817a8dbe94fde1830a39f2f9b568c5932b93c3cbc8618cdc90a321c84a445e"), looks := false }, kinds := [], alts := [], laidByText := true, laidKinds := [.data], laidTests := true, laidLooks := .later }
def ProofOthersCardSaid : Prop := Claim7.holds Tryd.pinned (.plain (OpenSpec.ofChange proofOthersSpec)) proofOthersCard

/-- THE SECOND FORM's CARD OF 'basculelaw05.SmtPlays'. -/
def smtPlaysUptoCard : Claim7 := { stood := { row := smtPlaysUptoRow, standIns := [], harness := (true, "63817a8dbe94fde1830a39f2f9b568c5932b93c3cbc8618cdc90a321c84a445e"), looks := false }, kinds := [], alts := [], laidByText := true, laidKinds := [.data], laidTests := true, laidLooks := .later }
def SmtPlaysUptoCardSaid : Prop := Claim7.holds Tryd.pinned (.plain (OpenSpec.upto smtPlaysSpec)) smtPlaysUptoCard

/-- THE SECOND FORM's CARD OF 'basculelaw05.SmtNil'. -/
def smtNilUptoCard : Claim7 := { stood := { row := smtNilUptoRow, standIns := [], harness := (true, "63817a8dbe94fde1830a39f2f9b568c5932b93c3cbc8618cdc90a321c84a445e"), looks := false }, kinds := [], alts := [], laidByText := true, laidKinds := [.data], laidTests := true, laidLooks := .later }
def SmtNilUptoCardSaid : Prop := Claim7.holds Tryd.pinned (.plain (OpenSpec.upto smtNilSpec)) smtNilUptoCard

/-- THE SECOND FORM's CARD OF 'basculelaw06.ProofMaps'. -/
def proofMapsUptoCard : Claim7 := { stood := { row := proofMapsUptoRow, standIns := [], harness := (true, "63817a8dbe94fde1830a39f2f9b568c5932b93c3cbc8618cdc90a321c84a445e"), looks := false }, kinds := [], alts := [], laidByText := true, laidKinds := [.data], laidTests := true, laidLooks := .later }
def ProofMapsUptoCardSaid : Prop := Claim7.holds Tryd.pinned (.plain (OpenSpec.upto proofMapsSpec)) proofMapsUptoCard

/-- THE SECOND FORM's CARD OF 'basculelaw06.ProofTrail'. -/
def proofTrailUptoCard : Claim7 := { stood := { row := proofTrailUptoRow, standIns := [], harness := (true, "63817a8dbe94fde1830a39f2f9b568c5932b93c3cbc8618cdc90a321c84a445e"), looks := false }, kinds := [], alts := [], laidByText := true, laidKinds := [.data], laidTests := true, laidLooks := .later }
def ProofTrailUptoCardSaid : Prop := Claim7.holds Tryd.pinned (.plain (OpenSpec.upto proofTrailSpec)) proofTrailUptoCard

/-- THE SECOND FORM's CARD OF 'basculelaw06.ProofOthers'. -/
def proofOthersUptoCard : Claim7 := { stood := { row := proofOthersUptoRow, standIns := [], harness := (true, "63817a8dbe94fde1830a39f2f9b568c5932b93c3cbc8618cdc90a321c84a445e"), looks := false }, kinds := [], alts := [], laidByText := true, laidKinds := [.data], laidTests := true, laidLooks := .later }
def ProofOthersUptoCardSaid : Prop := Claim7.holds Tryd.pinned (.plain (OpenSpec.upto proofOthersSpec)) proofOthersUptoCard
end Rows
end Go.Proofs.YtjlodnecdngdfaaDoor
