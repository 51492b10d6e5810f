/-
  NARROWER THAN 'FOR EVERY INPUT', by the rows' own cells (each row's printed sentence says how): LaneRoots: laid · LaneChecks: laid · LaneBytes: laid · LaneMore: laid.
  DERIVED. THE GIVEN ROWS OF THIS SEAT. 4 by the template 'for every input the law returns true; each argument reads behind the call as it read before'; 0 by the template 'total and deterministic' (their statements: YtebeacejlkiglaaDoorTotals.lean).
  GIVEN WITH THE SEED: the statements are not yours to turn. If you find one false, say at which input.
  Laid BY PROGRAM, IN A SANDBOX (cutbox-rows.mjs): the forced cells as the released guide's own fill.sh prints them over the translation 954cded6ce945a15… (all of the seat's roots in one cut). By AI agents, Wed Nov 11 2026. No macro, syntax, notation, axiom, sorry.
-/
import Derived.Test.YtebeacejlkiglaaDoorChecked
import GoSem.Claim
import GoSem.ClaimJoined
import GoSem.ClaimMapViews
import Derived.JoinedTies
import Derived.KernelRfl
namespace Go.Proofs.YtebeacejlkiglaaDoor
/- THE CELL 'sum', in the pinned program and in every row, IS THE sha256 OF THE DUMP (.gsa) THAT YtebeacejlkiglaaDoorProg.lean LOADS. Nothing in Lean hashes anything: it is a label: what it is worth is what the hold of that sum in a sandbox is worth. -/
noncomputable def Tryd.pinned : Pinned := { name := "ytebeacejlkiglaadoor", sum := "954cded6ce945a15b18f2e3d6523158484e792b63c7e1cd5f24bc07b1b7afd20", checked := Tryd.checked }
namespace Rows
def none {H : Type} : Left H := { results := [], args := [] }

/- WHAT THE LISTED PACKAGE-LEVEL VARIABLES READ AS WHEN THE CALL BEGINS. Each datum BY PROGRAM (the guide's laid-datum.mjs) off the statement by which the dump's own 'gosem.cut.vars' lays the variable. In a bare row this is a premise. The card (YtebeacejlkiglaaDoorCards.lean) ties it to the program's text. -/
def laid_bascule_digest_roots {H : Type} : DataW H := .agg [.lit (.int .u32 1116352408), .lit (.int .u32 1899447441), .lit (.int .u32 3049323471), .lit (.int .u32 3921009573), .lit (.int .u32 961987163), .lit (.int .u32 1508970993), .lit (.int .u32 2453635748), .lit (.int .u32 2870763221), .lit (.int .u32 3624381080), .lit (.int .u32 310598401), .lit (.int .u32 607225278), .lit (.int .u32 1426881987), .lit (.int .u32 1925078388), .lit (.int .u32 2162078206), .lit (.int .u32 2614888103), .lit (.int .u32 3248222580), .lit (.int .u32 3835390401), .lit (.int .u32 4022224774), .lit (.int .u32 264347078), .lit (.int .u32 604807628), .lit (.int .u32 770255983), .lit (.int .u32 1249150122), .lit (.int .u32 1555081692), .lit (.int .u32 1996064986), .lit (.int .u32 2554220882), .lit (.int .u32 2821834349), .lit (.int .u32 2952996808), .lit (.int .u32 3210313671), .lit (.int .u32 3336571891), .lit (.int .u32 3584528711), .lit (.int .u32 113926993), .lit (.int .u32 338241895), .lit (.int .u32 666307205), .lit (.int .u32 773529912), .lit (.int .u32 1294757372), .lit (.int .u32 1396182291), .lit (.int .u32 1695183700), .lit (.int .u32 1986661051), .lit (.int .u32 2177026350), .lit (.int .u32 2456956037), .lit (.int .u32 2730485921), .lit (.int .u32 2820302411), .lit (.int .u32 3259730800), .lit (.int .u32 3345764771), .lit (.int .u32 3516065817), .lit (.int .u32 3600352804), .lit (.int .u32 4094571909), .lit (.int .u32 275423344), .lit (.int .u32 430227734), .lit (.int .u32 506948616), .lit (.int .u32 659060556), .lit (.int .u32 883997877), .lit (.int .u32 958139571), .lit (.int .u32 1322822218), .lit (.int .u32 1537002063), .lit (.int .u32 1747873779), .lit (.int .u32 1955562222), .lit (.int .u32 2024104815), .lit (.int .u32 2227730452), .lit (.int .u32 2361852424), .lit (.int .u32 2428436474), .lit (.int .u32 2756734187), .lit (.int .u32 3204031479), .lit (.int .u32 3329325298)]

/-- 'basculelaw07.LaneRoots': WHATEVER THE INPUT: true; the input reads as it did. -/
def laneRootsSpec : ChangeSpec := { name := "laneRoots", fn := fun _ => fun
  | [d1, d2] => { results := [.lit (.bool true)], args := [d1, d2] }
  | _ => none }
def laneRootsRow : OpenClaim := { program := "ytebeacejlkiglaadoor", sum := "954cded6ce945a15b18f2e3d6523158484e792b63c7e1cd5f24bc07b1b7afd20", func := "bascule/basculelaw07.LaneRoots", spec := "laneRoots", named := ["bascule/digest.roots"], plainKeys := false, apart := false, laid := [("bascule/digest.roots", laid_bascule_digest_roots)] }
def LaneRootsSaid : Prop := laneRootsRow.holds Tryd.pinned (OpenSpec.ofChange laneRootsSpec)

/-- ITS FALSE NEIGHBOUR: 'it returns false'. Refute it at one input. -/
def laneRootsWrong : ChangeSpec := { name := "laneRoots", fn := fun _ => fun
  | [d1, d2] => { results := [.lit (.bool false)], args := [d1, d2] }
  | _ => none }
def LaneRootsWrongFalsely : Prop := laneRootsRow.holds Tryd.pinned (OpenSpec.ofChange laneRootsWrong)

/-- 'basculelaw07.LaneChecks': WHATEVER THE INPUT: true; the input reads as it did. -/
def laneChecksSpec : ChangeSpec := { name := "laneChecks", fn := fun _ => fun
  | [d1, d2, d3] => { results := [.lit (.bool true)], args := [d1, d2, d3] }
  | _ => none }
def laneChecksRow : OpenClaim := { program := "ytebeacejlkiglaadoor", sum := "954cded6ce945a15b18f2e3d6523158484e792b63c7e1cd5f24bc07b1b7afd20", func := "bascule/basculelaw07.LaneChecks", spec := "laneChecks", named := ["bascule/digest.roots"], plainKeys := false, apart := false, laid := [("bascule/digest.roots", laid_bascule_digest_roots)] }
def LaneChecksSaid : Prop := laneChecksRow.holds Tryd.pinned (OpenSpec.ofChange laneChecksSpec)

/-- ITS FALSE NEIGHBOUR: 'it returns false'. Refute it at one input. -/
def laneChecksWrong : ChangeSpec := { name := "laneChecks", fn := fun _ => fun
  | [d1, d2, d3] => { results := [.lit (.bool false)], args := [d1, d2, d3] }
  | _ => none }
def LaneChecksWrongFalsely : Prop := laneChecksRow.holds Tryd.pinned (OpenSpec.ofChange laneChecksWrong)

/-- 'basculelaw07.LaneBytes': WHATEVER THE INPUT: true; the input reads as it did. -/
def laneBytesSpec : ChangeSpec := { name := "laneBytes", fn := fun _ => fun
  | [d1, d2] => { results := [.lit (.bool true)], args := [d1, d2] }
  | _ => none }
def laneBytesRow : OpenClaim := { program := "ytebeacejlkiglaadoor", sum := "954cded6ce945a15b18f2e3d6523158484e792b63c7e1cd5f24bc07b1b7afd20", func := "bascule/basculelaw07.LaneBytes", spec := "laneBytes", named := ["bascule/digest.roots"], plainKeys := false, apart := false, laid := [("bascule/digest.roots", laid_bascule_digest_roots)] }
def LaneBytesSaid : Prop := laneBytesRow.holds Tryd.pinned (OpenSpec.ofChange laneBytesSpec)

/-- ITS FALSE NEIGHBOUR: 'it returns false'. Refute it at one input. -/
def laneBytesWrong : ChangeSpec := { name := "laneBytes", fn := fun _ => fun
  | [d1, d2] => { results := [.lit (.bool false)], args := [d1, d2] }
  | _ => none }
def LaneBytesWrongFalsely : Prop := laneBytesRow.holds Tryd.pinned (OpenSpec.ofChange laneBytesWrong)

/-- 'basculelaw07.LaneMore': WHATEVER THE INPUT: true; the input reads as it did. -/
def laneMoreSpec : ChangeSpec := { name := "laneMore", fn := fun _ => fun
  | [d1, d2] => { results := [.lit (.bool true)], args := [d1, d2] }
  | _ => none }
def laneMoreRow : OpenClaim := { program := "ytebeacejlkiglaadoor", sum := "954cded6ce945a15b18f2e3d6523158484e792b63c7e1cd5f24bc07b1b7afd20", func := "bascule/basculelaw07.LaneMore", spec := "laneMore", named := ["bascule/digest.roots"], plainKeys := false, apart := false, laid := [("bascule/digest.roots", laid_bascule_digest_roots)] }
def LaneMoreSaid : Prop := laneMoreRow.holds Tryd.pinned (OpenSpec.ofChange laneMoreSpec)

/-- ITS FALSE NEIGHBOUR: 'it returns false'. Refute it at one input. -/
def laneMoreWrong : ChangeSpec := { name := "laneMore", fn := fun _ => fun
  | [d1, d2] => { results := [.lit (.bool false)], args := [d1, d2] }
  | _ => none }
def LaneMoreWrongFalsely : Prop := laneMoreRow.holds Tryd.pinned (OpenSpec.ofChange laneMoreWrong)

/- THE SECOND FORM. 'bulk': how many values and letters a reading holds, each counted each time it is reached (what is shared counts as often as it is met; a slice's spare places count too). A statement '..UptoSaid' is the law's where the arguments, and the package variables that the reading takes, are together of bulk at most 1048576: NARROWER than '..Said'. Prove '..Said' where nothing that the law and all that it calls make is longer than what came in: it says more and counts as full. Else prove '..UptoSaid'. A law counts once. -/
mutual
def uptoBulk {H : Type} : DataW H → Nat
  | .lit (.string bytes) => bytes.length + 1
  | .lit _ => 1
  | .nil => 1
  | .ptr d => uptoBulk d + 1
  | .slice elems spare => uptoBulkAll elems + uptoBulkAll spare + 1
  | .agg parts => uptoBulkAll parts + 1
  | .iface _ d => uptoBulk d + 1
  | .map entries => uptoBulkEntries entries + 1
  | .held _ => 1
def uptoBulkAll {H : Type} : List (DataW H) → Nat
  | [] => 0
  | d :: r => uptoBulk d + uptoBulkAll r
def uptoBulkEntries {H : Type} : List (Lit × DataW H) → Nat
  | [] => 0
  | x :: r => uptoBulkEntry x + uptoBulkEntries r
def uptoBulkEntry {H : Type} : Lit × DataW H → Nat
  | (.string bytes, d) => bytes.length + uptoBulk d + 1
  | (_, d) => uptoBulk d + 1
 end
def uptoSmall : (H : Type) → List (DataW H) → Bool := fun _ ds => decide (uptoBulkAll ds ≤ 1048576)
def OpenSpec.upto (s : _root_.Go.ChangeSpec) : _root_.Go.OpenSpec := { _root_.Go.OpenSpec.ofChange s with cond := some uptoSmall }

/-- 'basculelaw07.LaneRoots', WHERE WHAT IT READS IS OF BULK AT MOST 1048576: true; the input reads as it did. -/
def laneRootsUptoRow : OpenClaim := { program := "ytebeacejlkiglaadoor", sum := "954cded6ce945a15b18f2e3d6523158484e792b63c7e1cd5f24bc07b1b7afd20", func := "bascule/basculelaw07.LaneRoots", spec := "laneRoots", named := ["bascule/digest.roots"], plainKeys := false, apart := false, laid := [("bascule/digest.roots", laid_bascule_digest_roots)], narrowed := true }
def LaneRootsUptoSaid : Prop := laneRootsUptoRow.holds Tryd.pinned (OpenSpec.upto laneRootsSpec)

/-- 'basculelaw07.LaneChecks', WHERE WHAT IT READS IS OF BULK AT MOST 1048576: true; the input reads as it did. -/
def laneChecksUptoRow : OpenClaim := { program := "ytebeacejlkiglaadoor", sum := "954cded6ce945a15b18f2e3d6523158484e792b63c7e1cd5f24bc07b1b7afd20", func := "bascule/basculelaw07.LaneChecks", spec := "laneChecks", named := ["bascule/digest.roots"], plainKeys := false, apart := false, laid := [("bascule/digest.roots", laid_bascule_digest_roots)], narrowed := true }
def LaneChecksUptoSaid : Prop := laneChecksUptoRow.holds Tryd.pinned (OpenSpec.upto laneChecksSpec)

/-- 'basculelaw07.LaneBytes', WHERE WHAT IT READS IS OF BULK AT MOST 1048576: true; the input reads as it did. -/
def laneBytesUptoRow : OpenClaim := { program := "ytebeacejlkiglaadoor", sum := "954cded6ce945a15b18f2e3d6523158484e792b63c7e1cd5f24bc07b1b7afd20", func := "bascule/basculelaw07.LaneBytes", spec := "laneBytes", named := ["bascule/digest.roots"], plainKeys := false, apart := false, laid := [("bascule/digest.roots", laid_bascule_digest_roots)], narrowed := true }
def LaneBytesUptoSaid : Prop := laneBytesUptoRow.holds Tryd.pinned (OpenSpec.upto laneBytesSpec)

/-- 'basculelaw07.LaneMore', WHERE WHAT IT READS IS OF BULK AT MOST 1048576: true; the input reads as it did. -/
def laneMoreUptoRow : OpenClaim := { program := "ytebeacejlkiglaadoor", sum := "954cded6ce945a15b18f2e3d6523158484e792b63c7e1cd5f24bc07b1b7afd20", func := "bascule/basculelaw07.LaneMore", spec := "laneMore", named := ["bascule/digest.roots"], plainKeys := false, apart := false, laid := [("bascule/digest.roots", laid_bascule_digest_roots)], narrowed := true }
def LaneMoreUptoSaid : Prop := laneMoreUptoRow.holds Tryd.pinned (OpenSpec.upto laneMoreSpec)

end Rows
end Go.Proofs.YtebeacejlkiglaaDoor
