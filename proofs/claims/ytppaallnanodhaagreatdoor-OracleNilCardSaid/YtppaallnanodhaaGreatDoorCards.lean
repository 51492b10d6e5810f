/-
  DERIVED. GIVEN WITH THE SEED: THE CARDS: each row of YtppaallnanodhaaGreatDoorRows.lean that lists a variable, with what it lists TIED to the program's text (the seventh form; the later family's looks); each row that meets fmt, with fmt's text TOLD by the authors' own Lean function (tested against real Go, not proved from fmt's source: count such statements apart). THE CARD IS WHAT COUNTS. Prove the row's statement (the work); the ties are given (YtppaallnanodhaaGreatDoorTie.lean); close each card by the builder's one call (the guide's Derived/Test/ToyasCard.lean, 'card_holds'). Laid BY PROGRAM, IN A SANDBOX (cutbox-door.mjs). By AI agents, Wed Nov 11 2026. No macro, syntax, notation, axiom, sorry.
-/
import Derived.Test.YtppaallnanodhaaGreatDoorRows
import GoSem.ClaimSeven
namespace Go.Proofs.YtppaallnanodhaaGreatDoor
namespace Rows

/-- THE TIED CARD OF 'basculelaw18.OracleNil'. -/
def oracleNilCard : Claim7 := { stood := { row := oracleNilRow, standIns := [], harness := (true, "91c7d11f562f7f6624dddecb0715857708e5d5b0fda0028fedbce7c6423c1e3a"), looks := false }, kinds := [], alts := [], laidByText := true, laidKinds := [.data], laidTests := true, laidLooks := .later }
def OracleNilCardSaid : Prop := Claim7.holds Tryz.pinned (.plain (OpenSpec.ofChange oracleNilSpec)) oracleNilCard

/-- THE SECOND FORM's CARD OF 'basculelaw18.OracleNil'. -/
def oracleNilUptoCard : Claim7 := { stood := { row := oracleNilUptoRow, standIns := [], harness := (true, "91c7d11f562f7f6624dddecb0715857708e5d5b0fda0028fedbce7c6423c1e3a"), looks := false }, kinds := [], alts := [], laidByText := true, laidKinds := [.data], laidTests := true, laidLooks := .later }
def OracleNilUptoCardSaid : Prop := Claim7.holds Tryz.pinned (.plain (OpenSpec.upto oracleNilSpec)) oracleNilUptoCard
end Rows
end Go.Proofs.YtppaallnanodhaaGreatDoor
