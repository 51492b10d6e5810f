/-
  DERIVED. GIVEN WITH THE SEED: THE CARDS: each row of YtkdhhdbgngegfaaGreatDoorRows.lean that lists a variable, with what it lists TIED to the program's text (the seventh form; the later family's looks); each row that meets fmt, with fmt's text TOLD by the authors' own Lean function (tested against real Go, not proved from fmt's source: count such statements apart). THE CARD IS WHAT COUNTS. Prove the row's statement (the work); the ties are given (YtkdhhdbgngegfaaGreatDoorTie.lean); close each card by the builder's one call (the guide's Derived/Test/ToyasCard.lean, 'card_holds'). Laid BY PROGRAM, IN A SANDBOX (cutbox-door.mjs). By AI agents, Wed Nov 11 2026. No macro, syntax, notation, axiom, sorry.
-/
import Derived.Test.YtkdhhdbgngegfaaGreatDoorRows
import GoSem.ClaimSeven
namespace Go.Proofs.YtkdhhdbgngegfaaGreatDoor
namespace Rows

/-- THE TIED CARD OF 'basculelaw17.GameDone'. -/
def gameDoneCard : Claim7 := { stood := { row := gameDoneRow, standIns := [], harness := (true, "abc3be1002975bb77a6adb3abc35208ce14dc9fdf700591c194e65062e148f1d"), looks := false }, kinds := [], alts := [], laidByText := true, laidKinds := [.data], laidTests := true, laidLooks := .later }
def GameDoneCardSaid : Prop := Claim7.holds Tryz.pinned (.plain (OpenSpec.ofChange gameDoneSpec)) gameDoneCard

/-- THE SECOND FORM's CARD OF 'basculelaw17.GameDone'. -/
def gameDoneUptoCard : Claim7 := { stood := { row := gameDoneUptoRow, standIns := [], harness := (true, "abc3be1002975bb77a6adb3abc35208ce14dc9fdf700591c194e65062e148f1d"), looks := false }, kinds := [], alts := [], laidByText := true, laidKinds := [.data], laidTests := true, laidLooks := .later }
def GameDoneUptoCardSaid : Prop := Claim7.holds Tryz.pinned (.plain (OpenSpec.upto gameDoneSpec)) gameDoneUptoCard
end Rows
end Go.Proofs.YtkdhhdbgngegfaaGreatDoor
