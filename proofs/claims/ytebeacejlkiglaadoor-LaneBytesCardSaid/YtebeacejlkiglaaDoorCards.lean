/-
  DERIVED. GIVEN WITH THE SEED: THE CARDS: each row of YtebeacejlkiglaaDoorRows.lean that lists a variable, with what it lists TIED to the program's text (the seventh form; the later family's looks); each row that meets fmt, with fmt's text TOLD by the authors' own Lean function (tested against real Go, not proved from fmt's source: count such statements apart). THE CARD IS WHAT COUNTS. Prove the row's statement (the work); the ties are given (YtebeacejlkiglaaDoorTie.lean); close each card by the builder's one call (the guide's Derived/Test/ToyasCard.lean, 'card_holds'). Laid BY PROGRAM, IN A SANDBOX (cutbox-door.mjs). By AI agents, Wed Nov 11 2026. No macro, syntax, notation, axiom, sorry.
-/
import Derived.Test.YtebeacejlkiglaaDoorRows
import GoSem.ClaimSeven
namespace Go.Proofs.YtebeacejlkiglaaDoor
namespace Rows

/-- THE TIED CARD OF 'basculelaw07.LaneRoots'. -/
def laneRootsCard : Claim7 := { stood := { row := laneRootsRow, standIns := [], harness := (true, "fafccfce5f4155f9912f095a5e4b8df8e2bf0912befc957e36d8c1d6bbc987f7"), looks := false }, kinds := [], alts := [], laidByText := true, laidKinds := [.data], laidTests := true, laidLooks := .later }
def LaneRootsCardSaid : Prop := Claim7.holds Tryd.pinned (.plain (OpenSpec.ofChange laneRootsSpec)) laneRootsCard

/-- THE TIED CARD OF 'basculelaw07.LaneChecks'. -/
def laneChecksCard : Claim7 := { stood := { row := laneChecksRow, standIns := [], harness := (true, "fafccfce5f4155f9912f095a5e4b8df8e2bf0912befc957e36d8c1d6bbc987f7"), looks := false }, kinds := [], alts := [], laidByText := true, laidKinds := [.data], laidTests := true, laidLooks := .later }
def LaneChecksCardSaid : Prop := Claim7.holds Tryd.pinned (.plain (OpenSpec.ofChange laneChecksSpec)) laneChecksCard

/-- THE TIED CARD OF 'basculelaw07.LaneBytes'. -/
def laneBytesCard : Claim7 := { stood := { row := laneBytesRow, standIns := [], harness := (true, "fafccfce5f4155f9912f095a5e4b8df8e2bf0912befc957e36d8c1d6bbc987f7"), looks := false }, kinds := [], alts := [], laidByText := true, laidKinds := [.data], laidTests := true, laidLooks := .later }
def LaneBytesCardSaid : Prop := Claim7.holds Tryd.pinned (.plain (OpenSpec.ofChange laneBytesSpec)) laneBytesCard

/-- THE TIED CARD OF 'basculelaw07.LaneMore'. -/
def laneMoreCard : Claim7 := { stood := { row := laneMoreRow, standIns := [], harness := (true, "fafccfce5f4155f9912f095a5e4b8df8e2bf0912befc957e36d8c1d6bbc987f7"), looks := false }, kinds := [], alts := [], laidByText := true, laidKinds := [.data], laidTests := true, laidLooks := .later }
def LaneMoreCardSaid : Prop := Claim7.holds Tryd.pinned (.plain (OpenSpec.ofChange laneMoreSpec)) laneMoreCard

/-- THE SECOND FORM's CARD OF 'basculelaw07.LaneRoots'. -/
def laneRootsUptoCard : Claim7 := { stood := { row := laneRootsUptoRow, standIns := [], harness := (true, "fafccfce5f4155f9912f095a5e4b8df8e2bf0912befc957e36d8c1d6bbc987f7"), looks := false }, kinds := [], alts := [], laidByText := true, laidKinds := [.data], laidTests := true, laidLooks := .later }
def LaneRootsUptoCardSaid : Prop := Claim7.holds Tryd.pinned (.plain (OpenSpec.upto laneRootsSpec)) laneRootsUptoCard

/-- THE SECOND FORM's CARD OF 'basculelaw07.LaneChecks'. -/
def laneChecksUptoCard : Claim7 := { stood := { row := laneChecksUptoRow, standIns := [], harness := (true, "fafccfce5f4155f9912f095a5e4b8df8e2bf0912befc957e36d8c1d6bbc987f7"), looks := false }, kinds := [], alts := [], laidByText := true, laidKinds := [.data], laidTests := true, laidLooks := .later }
def LaneChecksUptoCardSaid : Prop := Claim7.holds Tryd.pinned (.plain (OpenSpec.upto laneChecksSpec)) laneChecksUptoCard

/-- THE SECOND FORM's CARD OF 'basculelaw07.LaneBytes'. -/
def laneBytesUptoCard : Claim7 := { stood := { row := laneBytesUptoRow, standIns := [], harness := (true, "fafccfce5f4155f9912f095a5e4b8df8e2bf0912befc957e36d8c1d6bbc987f7"), looks := false }, kinds := [], alts := [], laidByText := true, laidKinds := [.data], laidTests := true, laidLooks := .later }
def LaneBytesUptoCardSaid : Prop := Claim7.holds Tryd.pinned (.plain (OpenSpec.upto laneBytesSpec)) laneBytesUptoCard

/-- THE SECOND FORM's CARD OF 'basculelaw07.LaneMore'. -/
def laneMoreUptoCard : Claim7 := { stood := { row := laneMoreUptoRow, standIns := [], harness := (true, "fafccfce5f4155f9912f095a5e4b8df8e2bf0912befc957e36d8c1d6bbc987f7"), looks := false }, kinds := [], alts := [], laidByText := true, laidKinds := [.data], laidTests := true, laidLooks := .later }
def LaneMoreUptoCardSaid : Prop := Claim7.holds Tryd.pinned (.plain (OpenSpec.upto laneMoreSpec)) laneMoreUptoCard
end Rows
end Go.Proofs.YtebeacejlkiglaaDoor
