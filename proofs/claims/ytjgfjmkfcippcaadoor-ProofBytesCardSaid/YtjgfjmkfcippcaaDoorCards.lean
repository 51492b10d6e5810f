/-
  DERIVED. GIVEN WITH THE SEED: THE CARDS: each row of YtjgfjmkfcippcaaDoorRows.lean that lists a variable, with what it lists TIED to the program's text (the seventh form; the later family's looks); each row that meets fmt, with fmt's text TOLD by the authors' own Lean function (tested against real Go, not proved from fmt's source: count such statements apart). THE CARD IS WHAT COUNTS. Prove the row's statement (the work); the ties are given (YtjgfjmkfcippcaaDoorTie.lean); close each card by the builder's one call (the guide's Derived/Test/ToyasCard.lean, 'card_holds'). Laid BY PROGRAM, IN A SANDBOX (cutbox-door.mjs). By AI agents, Wed Nov 11 2026. No macro, syntax, notation, axiom, sorry.
-/
import Derived.Test.YtjgfjmkfcippcaaDoorRows
import GoSem.ClaimSeven
namespace Go.Proofs.YtjgfjmkfcippcaaDoor
namespace Rows

/-- THE TIED CARD OF 'basculelaw05.SmtNodes'. -/
def smtNodesCard : Claim7 := { stood := { row := smtNodesRow, standIns := [], harness := (true, "8902c5a165f4e071ea00dc428c8631b66b745e3a4151fe3fd02b2c8ef5ea5693"), looks := false }, kinds := [], alts := [], laidByText := true, laidKinds := [.data], laidTests := true, laidLooks := .later }
def SmtNodesCardSaid : Prop := Claim7.holds Tryd.pinned (.plain (OpenSpec.ofChange smtNodesSpec)) smtNodesCard

/-- THE TIED CARD OF 'basculelaw05.SmtNil'. -/
def smtNilCard : Claim7 := { stood := { row := smtNilRow, standIns := [], harness := (true, "8902c5a165f4e071ea00dc428c8631b66b745e3a4151fe3fd02b2c8ef5ea5693"), looks := false }, kinds := [], alts := [], laidByText := true, laidKinds := [.data], laidTests := true, laidLooks := .later }
def SmtNilCardSaid : Prop := Claim7.holds Tryd.pinned (.plain (OpenSpec.ofChange smtNilSpec)) smtNilCard

/-- THE TIED CARD OF 'basculelaw06.ProofRoots'. -/
def proofRootsCard : Claim7 := { stood := { row := proofRootsRow, standIns := [], harness := (true, "8902c5a165f4e071ea00dc428c8631b66b745e3a4151fe3fd02b2c8ef5ea5693"), looks := false }, kinds := [], alts := [], laidByText := true, laidKinds := [.data], laidTests := true, laidLooks := .later }
def ProofRootsCardSaid : Prop := Claim7.holds Tryd.pinned (.plain (OpenSpec.ofChange proofRootsSpec)) proofRootsCard

/-- THE TIED CARD OF 'basculelaw06.ProofWalks'. -/
def proofWalksCard : Claim7 := { stood := { row := proofWalksRow, standIns := [], harness := (true, "8902c5a165f4e071ea00dc428c8631b66b745e3a4151fe3fd02b2c8ef5ea5693"), looks := false }, kinds := [], alts := [], laidByText := true, laidKinds := [.data], laidTests := true, laidLooks := .later }
def ProofWalksCardSaid : Prop := Claim7.holds Tryd.pinned (.plain (OpenSpec.ofChange proofWalksSpec)) proofWalksCard

/-- THE TIED CARD OF 'basculelaw06.ProofBytes'. -/
def proofBytesCard : Claim7 := { stood := { row := proofBytesRow, standIns := [], harness := (true, "8902c5a165f4e071ea00dc428c8631b66b745e3a4151fe3fd02b2c8ef5ea5693"), looks := false }, kinds := [], alts := [], laidByText := true, laidKinds := [.data], laidTests := true, laidLooks := .later }
def ProofBytesCardSaid : Prop := Claim7.holds Tryd.pinned (.plain (OpenSpec.ofChange proofBytesSpec)) proofBytesCard

/-- THE TIED CARD OF 'basculelaw06.ProofBack'. -/
def proofBackCard : Claim7 := { stood := { row := proofBackRow, standIns := [], harness := (true, "8902c5a165f4e071ea00dc428c8631b66b745e3a4151fe3fd02b2c8ef5ea5693"), looks := false }, kinds := [], alts := [], laidByText := true, laidKinds := [.data], laidTests := true, laidLooks := .later }
def ProofBackCardSaid : Prop := Claim7.holds Tryd.pinned (.plain (OpenSpec.ofChange proofBackSpec)) proofBackCard

/-- THE SECOND FORM's CARD OF 'basculelaw05.SmtNodes'. -/
def smtNodesUptoCard : Claim7 := { stood := { row := smtNodesUptoRow, standIns := [], harness := (true, "8902c5a165f4e071ea00dc428c8631b66b745e3a4151fe3fd02b2c8ef5ea5693"), looks := false }, kinds := [], alts := [], laidByText := true, laidKinds := [.data], laidTests := true, laidLooks := .later }
def SmtNodesUptoCardSaid : Prop := Claim7.holds Tryd.pinned (.plain (OpenSpec.upto smtNodesSpec)) smtNodesUptoCard

/-- THE SECOND FORM's CARD OF 'basculelaw05.SmtNil'. -/
def smtNilUptoCard : Claim7 := { stood := { row := smtNilUptoRow, standIns := [], harness := (true, "8902c5a165f4e071ea00dc428c8631b66b745e3a4151fe3fd02b2c8ef5ea5693"), looks := false }, kinds := [], alts := [], laidByText := true, laidKinds := [.data], laidTests := true, laidLooks := .later }
def SmtNilUptoCardSaid : Prop := Claim7.holds Tryd.pinned (.plain (OpenSpec.upto smtNilSpec)) smtNilUptoCard

/-- THE SECOND FORM's CARD OF 'basculelaw06.ProofRoots'. -/
def proofRootsUptoCard : Claim7 := { stood := { row := proofRootsUptoRow, standIns := [], harness := (true, "8902c5a165f4e071ea00dc428c8631b66b745e3a4151fe3fd02b2c8ef5ea5693"), looks := false }, kinds := [], alts := [], laidByText := true, laidKinds := [.data], laidTests := true, laidLooks := .later }
def ProofRootsUptoCardSaid : Prop := Claim7.holds Tryd.pinned (.plain (OpenSpec.upto proofRootsSpec)) proofRootsUptoCard

/-- THE SECOND FORM's CARD OF 'basculelaw06.ProofWalks'. -/
def proofWalksUptoCard : Claim7 := { stood := { row := proofWalksUptoRow, standIns := [], harness := (true, "8902c5a165f4e071ea00dc428c8631b66b745e3a4151fe3fd02b2c8ef5ea5693"), looks := false }, kinds := [], alts := [], laidByText := true, laidKinds := [.data], laidTests := true, laidLooks := .later }
def ProofWalksUptoCardSaid : Prop := Claim7.holds Tryd.pinned (.plain (OpenSpec.upto proofWalksSpec)) proofWalksUptoCard

/-- THE SECOND FORM's CARD OF 'basculelaw06.ProofBytes'. -/
def proofBytesUptoCard : Claim7 := { stood := { row := proofBytesUptoRow, standIns := [], harness := (true, "8902c5a165f4e071ea00dc428c8631b66b745e3a4151fe3fd02b2c8ef5ea5693"), looks := false }, kinds := [], alts := [], laidByText := true, laidKinds := [.data], laidTests := true, laidLooks := .later }
def ProofBytesUptoCardSaid : Prop := Claim7.holds Tryd.pinned (.plain (OpenSpec.upto proofBytesSpec)) proofBytesUptoCard

/-- THE SECOND FORM's CARD OF 'basculelaw06.ProofBack'. -/
def proofBackUptoCard : Claim7 := { stood := { row := proofBackUptoRow, standIns := [], harness := (true, "8902c5a165f4e071ea00dc428c8631b66b745e3a4151fe3fd02b2c8ef5ea5693"), looks := false }, kinds := [], alts := [], laidByText := true, laidKinds := [.data], laidTests := true, laidLooks := .later }
def ProofBackUptoCardSaid : Prop := Claim7.holds Tryd.pinned (.plain (OpenSpec.upto proofBackSpec)) proofBackUptoCard
end Rows
end Go.Proofs.YtjgfjmkfcippcaaDoor
