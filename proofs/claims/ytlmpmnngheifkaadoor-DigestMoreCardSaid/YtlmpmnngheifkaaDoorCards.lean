/-
  DERIVED. GIVEN WITH THE SEED: THE CARDS: each row of YtlmpmnngheifkaaDoorRows.lean that lists a variable, with what it lists TIED to the program's text (the seventh form; the later family's looks); each row that meets fmt, with fmt's text TOLD by the authors' own Lean function (tested against real Go, not proved from fmt's source: count such statements apart). THE CARD IS WHAT COUNTS. Prove the row's statement (the work); the ties are given (YtlmpmnngheifkaaDoorTie.lean); close each card by the builder's one call (the guide's Derived/Test/ToyasCard.lean, 'card_holds'). Laid BY PROGRAM, IN A SANDBOX (cutbox-door.mjs). By AI agents, Wed Nov 11 2026. No macro, syntax, notation, axiom, sorry.
-/
import Derived.Test.YtlmpmnngheifkaaDoorRows
import GoSem.ClaimSeven
namespace Go.Proofs.YtlmpmnngheifkaaDoor
namespace Rows

/-- THE TIED CARD OF 'basculelaw02.DigestSums'. -/
def digestSumsCard : Claim7 := { stood := { row := digestSumsRow, standIns := [], harness := (true, "ded86c8409abb2165d255a64487d2e2bf8ec7518e167413e314cded66aa1e296"), looks := false }, kinds := [], alts := [], laidByText := true, laidKinds := [.data], laidTests := true, laidLooks := .later }
def DigestSumsCardSaid : Prop := Claim7.holds Tryd.pinned (.plain (OpenSpec.ofChange digestSumsSpec)) digestSumsCard

/-- THE TIED CARD OF 'basculelaw02.DigestRoots'. -/
def digestRootsCard : Claim7 := { stood := { row := digestRootsRow, standIns := [], harness := (true, "ded86c8409abb2165d255a64487d2e2bf8ec7518e167413e314cded66aa1e296"), looks := false }, kinds := [], alts := [], laidByText := true, laidKinds := [.data], laidTests := true, laidLooks := .later }
def DigestRootsCardSaid : Prop := Claim7.holds Tryd.pinned (.plain (OpenSpec.ofChange digestRootsSpec)) digestRootsCard

/-- THE TIED CARD OF 'basculelaw02.DigestFrames'. -/
def digestFramesCard : Claim7 := { stood := { row := digestFramesRow, standIns := [], harness := (true, "ded86c8409abb2165d255a64487d2e2bf8ec7518e167413e314cded66aa1e296"), looks := false }, kinds := [], alts := [], laidByText := true, laidKinds := [.data], laidTests := true, laidLooks := .later }
def DigestFramesCardSaid : Prop := Claim7.holds Tryd.pinned (.plain (OpenSpec.ofChange digestFramesSpec)) digestFramesCard

/-- THE TIED CARD OF 'basculelaw02.DigestTexts'. -/
def digestTextsCard : Claim7 := { stood := { row := digestTextsRow, standIns := [], harness := (true, "ded86c8409abb2165d255a64487d2e2bf8ec7518e167413e314cded66aa1e296"), looks := false }, kinds := [], alts := [], laidByText := true, laidKinds := [.data], laidTests := true, laidLooks := .later }
def DigestTextsCardSaid : Prop := Claim7.holds Tryd.pinned (.plain (OpenSpec.ofChange digestTextsSpec)) digestTextsCard

/-- THE TIED CARD OF 'basculelaw02.DigestApart'. -/
def digestApartCard : Claim7 := { stood := { row := digestApartRow, standIns := [], harness := (true, "ded86c8409abb2165d255a64487d2e2bf8ec7518e167413e314cded66aa1e296"), looks := false }, kinds := [], alts := [], laidByText := true, laidKinds := [.data], laidTests := true, laidLooks := .later }
def DigestApartCardSaid : Prop := Claim7.holds Tryd.pinned (.plain (OpenSpec.ofChange digestApartSpec)) digestApartCard

/-- THE TIED CARD OF 'basculelaw02.DigestMore'. -/
def digestMoreCard : Claim7 := { stood := { row := digestMoreRow, standIns := [], harness := (true, "ded86c8409abb2165d255a64487d2e2bf8ec7518e167413e314cded66aa1e296"), looks := false }, kinds := [], alts := [], laidByText := true, laidKinds := [.data], laidTests := true, laidLooks := .later }
def DigestMoreCardSaid : Prop := Claim7.holds Tryd.pinned (.plain (OpenSpec.ofChange digestMoreSpec)) digestMoreCard

/-- THE SECOND FORM's CARD OF 'basculelaw02.DigestSums'. -/
def digestSumsUptoCard : Claim7 := { stood := { row := digestSumsUptoRow, standIns := [], harness := (true, "ded86c8409abb2165d255a64487d2e2bf8ec7518e167413e314cded66aa1e296"), looks := false }, kinds := [], alts := [], laidByText := true, laidKinds := [.data], laidTests := true, laidLooks := .later }
def DigestSumsUptoCardSaid : Prop := Claim7.holds Tryd.pinned (.plain (OpenSpec.upto digestSumsSpec)) digestSumsUptoCard

/-- THE SECOND FORM's CARD OF 'basculelaw02.DigestRoots'. -/
def digestRootsUptoCard : Claim7 := { stood := { row := digestRootsUptoRow, standIns := [], harness := (true, "ded86c8409abb2165d255a64487d2e2bf8ec7518e167413e314cded66aa1e296"), looks := false }, kinds := [], alts := [], laidByText := true, laidKinds := [.data], laidTests := true, laidLooks := .later }
def DigestRootsUptoCardSaid : Prop := Claim7.holds Tryd.pinned (.plain (OpenSpec.upto digestRootsSpec)) digestRootsUptoCard

/-- THE SECOND FORM's CARD OF 'basculelaw02.DigestFrames'. -/
def digestFramesUptoCard : Claim7 := { stood := { row := digestFramesUptoRow, standIns := [], harness := (true, "ded86c8409abb2165d255a64487d2e2bf8ec7518e167413e314cded66aa1e296"), looks := false }, kinds := [], alts := [], laidByText := true, laidKinds := [.data], laidTests := true, laidLooks := .later }
def DigestFramesUptoCardSaid : Prop := Claim7.holds Tryd.pinned (.plain (OpenSpec.upto digestFramesSpec)) digestFramesUptoCard

/-- THE SECOND FORM's CARD OF 'basculelaw02.DigestTexts'. -/
def digestTextsUptoCard : Claim7 := { stood := { row := digestTextsUptoRow, standIns := [], harness := (true, "ded86c8409abb2165d255a64487d2e2bf8ec7518e167413e314cded66aa1e296"), looks := false }, kinds := [], alts := [], laidByText := true, laidKinds := [.data], laidTests := true, laidLooks := .later }
def DigestTextsUptoCardSaid : Prop := Claim7.holds Tryd.pinned (.plain (OpenSpec.upto digestTextsSpec)) digestTextsUptoCard

/-- THE SECOND FORM's CARD OF 'basculelaw02.DigestApart'. -/
def digestApartUptoCard : Claim7 := { stood := { row := digestApartUptoRow, standIns := [], harness := (true, "ded86c8409abb2165d255a64487d2e2bf8ec7518e167413e314cded66aa1e296"), looks := false }, kinds := [], alts := [], laidByText := true, laidKinds := [.data], laidTests := true, laidLooks := .later }
def DigestApartUptoCardSaid : Prop := Claim7.holds Tryd.pinned (.plain (OpenSpec.upto digestApartSpec)) digestApartUptoCard

/-- THE SECOND FORM's CARD OF 'basculelaw02.DigestMore'. -/
def digestMoreUptoCard : Claim7 := { stood := { row := digestMoreUptoRow, standIns := [], harness := (true, "ded86c8409abb2165d255a64487d2e2bf8ec7518e167413e314cded66aa1e296"), looks := false }, kinds := [], alts := [], laidByText := true, laidKinds := [.data], laidTests := true, laidLooks := .later }
def DigestMoreUptoCardSaid : Prop := Claim7.holds Tryd.pinned (.plain (OpenSpec.upto digestMoreSpec)) digestMoreUptoCard
end Rows
end Go.Proofs.YtlmpmnngheifkaaDoor
