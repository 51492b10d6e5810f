/-
  DERIVED. GIVEN WITH THE SEED: THE CARDS: each row of YtlncolpcehjdeaaDoorRows.lean that lists a variable, with what it lists TIED to the program's text (the seventh form; the later family's looks); each row that meets fmt, with fmt's text TOLD by the authors' own Lean function (tested against real Go, not proved from fmt's source: count such statements apart). THE CARD IS WHAT COUNTS. Prove the row's statement (the work); the ties are given (YtlncolpcehjdeaaDoorTie.lean); close each card by the builder's one call (the guide's Derived/Test/ToyasCard.lean, 'card_holds'). Laid BY PROGRAM, IN A SANDBOX (cutbox-door.mjs). By AI agents, Wed Nov 11 2026. No macro, syntax, notation, axiom, sorry.
-/
import Derived.Test.YtlncolpcehjdeaaDoorRows
import GoSem.ClaimSeven
namespace Go.Proofs.YtlncolpcehjdeaaDoor
namespace Rows

/-- THE TIED CARD OF 'basculelaw05.SmtPlays'. -/
def smtPlaysCard : Claim7 := { stood := { row := smtPlaysRow, standIns := [], harness := (true, "d5fcda00602b3d73e41cf0e7eb25b8560e29135271962c1ebce32b59fa73e59d"), looks := false }, kinds := [], alts := [], laidByText := true, laidKinds := [.data], laidTests := true, laidLooks := .later }
def SmtPlaysCardSaid : Prop := Claim7.holds Tryd.pinned (.plain (OpenSpec.ofChange smtPlaysSpec)) smtPlaysCard

/-- THE TIED CARD OF 'basculelaw05.SmtSame'. -/
def smtSameCard : Claim7 := { stood := { row := smtSameRow, standIns := [], harness := (true, "d5fcda00602b3d73e41cf0e7eb25b8560e29135271962c1ebce32b59fa73e59d"), looks := false }, kinds := [], alts := [], laidByText := true, laidKinds := [.data], laidTests := true, laidLooks := .later }
def SmtSameCardSaid : Prop := Claim7.holds Tryd.pinned (.plain (OpenSpec.ofChange smtSameSpec)) smtSameCard

/-- THE TIED CARD OF 'basculelaw05.SmtOthers'. -/
def smtOthersCard : Claim7 := { stood := { row := smtOthersRow, standIns := [], harness := (true, "d5fcda00602b3d73e41cf0e7eb25b8560e29135271962c1ebce32b59fa73e59d"), looks := false }, kinds := [], alts := [], laidByText := true, laidKinds := [.data], laidTests := true, laidLooks := .later }
def SmtOthersCardSaid : Prop := Claim7.holds Tryd.pinned (.plain (OpenSpec.ofChange smtOthersSpec)) smtOthersCard

/-- THE TIED CARD OF 'basculelaw06.ProofMaps'. -/
def proofMapsCard : Claim7 := { stood := { row := proofMapsRow, standIns := [], harness := (true, "d5fcda00602b3d73e41cf0e7eb25b8560e29135271962c1ebce32b59fa73e59d"), looks := false }, kinds := [], alts := [], laidByText := true, laidKinds := [.data], laidTests := true, laidLooks := .later }
def ProofMapsCardSaid : Prop := Claim7.holds Tryd.pinned (.plain (OpenSpec.ofChange proofMapsSpec)) proofMapsCard

/-- THE TIED CARD OF 'basculelaw06.ProofTrail'. -/
def proofTrailCard : Claim7 := { stood := { row := proofTrailRow, standIns := [], harness := (true, "d5fcda00602b3d73e41cf0e7eb25b8560e29135271962c1ebce32b59fa73e59d"), looks := false }, kinds := [], alts := [], laidByText := true, laidKinds := [.data], laidTests := true, laidLooks := .later }
def ProofTrailCardSaid : Prop := Claim7.holds Tryd.pinned (.plain (OpenSpec.ofChange proofTrailSpec)) proofTrailCard

/-- THE TIED CARD OF 'basculelaw06.ProofOthers'. -/
def proofOthersCard : Claim7 := { stood := { row := proofOthersRow, standIns := [], harness := (true, "d5fcda00602b3d73e41cf0e7eb25b8560e29135271962c1ebce32b59fa73e59d"), looks := false }, kinds := [], alts := [], laidByText := true, laidKinds := [.data], laidTests := true, laidLooks := .later }
def ProofOthersCardSaid : Prop := Claim7.holds Tryd.pinned (.plain (OpenSpec.ofChange proofOthersSpec)) proofOthersCard

/-- THE SECOND FORM's CARD OF 'basculelaw05.SmtPlays'. -/
def smtPlaysUptoCard : Claim7 := { stood := { row := smtPlaysUptoRow, standIns := [], harness := (true, "d5fcda00602b3d73e41cf0e7eb25b8560e29135271962c1ebce32b59fa73e59d"), looks := false }, kinds := [], alts := [], laidByText := true, laidKinds := [.data], laidTests := true, laidLooks := .later }
def SmtPlaysUptoCardSaid : Prop := Claim7.holds Tryd.pinned (.plain (OpenSpec.upto smtPlaysSpec)) smtPlaysUptoCard

/-- THE SECOND FORM's CARD OF 'basculelaw05.SmtSame'. -/
def smtSameUptoCard : Claim7 := { stood := { row := smtSameUptoRow, standIns := [], harness := (true, "d5fcda00602b3d73e41cf0e7eb25b8560e29135271962c1ebce32b59fa73e59d"), looks := false }, kinds := [], alts := [], laidByText := true, laidKinds := [.data], laidTests := true, laidLooks := .later }
def SmtSameUptoCardSaid : Prop := Claim7.holds Tryd.pinned (.plain (OpenSpec.upto smtSameSpec)) smtSameUptoCard

/-- THE SECOND FORM's CARD OF 'basculelaw05.SmtOthers'. -/
def smtOthersUptoCard : Claim7 := { stood := { row := smtOthersUptoRow, standIns := [], harness := (true, "d5fcda00602b3d73e41cf0e7eb25b8560e29135271962c1ebce32b59fa73e59d"), looks := false }, kinds := [], alts := [], laidByText := true, laidKinds := [.data], laidTests := true, laidLooks := .later }
def SmtOthersUptoCardSaid : Prop := Claim7.holds Tryd.pinned (.plain (OpenSpec.upto smtOthersSpec)) smtOthersUptoCard

/-- THE SECOND FORM's CARD OF 'basculelaw06.ProofMaps'. -/
def proofMapsUptoCard : Claim7 := { stood := { row := proofMapsUptoRow, standIns := [], harness := (true, "d5fcda00602b3d73e41cf0e7eb25b8560e29135271962c1ebce32b59fa73e59d"), looks := false }, kinds := [], alts := [], laidByText := true, laidKinds := [.data], laidTests := true, laidLooks := .later }
def ProofMapsUptoCardSaid : Prop := Claim7.holds Tryd.pinned (.plain (OpenSpec.upto proofMapsSpec)) proofMapsUptoCard

/-- THE SECOND FORM's CARD OF 'basculelaw06.ProofTrail'. -/
def proofTrailUptoCard : Claim7 := { stood := { row := proofTrailUptoRow, standIns := [], harness := (true, "d5fcda00602b3d73e41cf0e7eb25b8560e29135271962c1ebce32b59fa73e59d"), looks := false }, kinds := [], alts := [], laidByText := true, laidKinds := [.data], laidTests := true, laidLooks := .later }
def ProofTrailUptoCardSaid : Prop := Claim7.holds Tryd.pinned (.plain (OpenSpec.upto proofTrailSpec)) proofTrailUptoCard

/-- THE SECOND FORM's CARD OF 'basculelaw06.ProofOthers'. -/
def proofOthersUptoCard : Claim7 := { stood := { row := proofOthersUptoRow, standIns := [], harness := (true, "d5fcda00602b3d73e41cf0e7eb25b8560e29135271962c1ebce32b59fa73e59d"), looks := false }, kinds := [], alts := [], laidByText := true, laidKinds := [.data], laidTests := true, laidLooks := .later }
def ProofOthersUptoCardSaid : Prop := Claim7.holds Tryd.pinned (.plain (OpenSpec.upto proofOthersSpec)) proofOthersUptoCard
end Rows
end Go.Proofs.YtlncolpcehjdeaaDoor
