/-
  The walk of package claim: Right.
-/
import Derived.Test.YtkdhhdbgngegfaaGreatDoorSeg
namespace Go.Proofs.YtkdhhdbgngegfaaGreatDoor
open Go.RowKit

theorem Right_any {s : Seg} (hs : s.ok) (w : World) : Calls Tryz.prog 26 #[.agg s.row.toArray] w fun e w' => e = .returned (.bool s.right) ∧ Below w.heap.size w w' := by
  have S := SegAt.new w 29 s
  obtain ⟨c0, c1, c98, -, -, -, cm⟩ := S.facts hs
  have hm := hs.m
  have hlo := hs.lo1
  have hhi := hs.hi2
  go_enter Tryz.func26, Tryz.ntmps26
  go_wp2_with fail
  all_goals go_ret
  all_goals refine ⟨congrArg (fun x => Ending.returned (.bool x)) (?_ : _ = s.right), (Below.refl _ _).alloc (by simp) _⟩
  all_goals (clear c0 c1 c98 cm S; unfold Seg.right; cases hp : s.p <;> simp_all <;> omega)
end Go.Proofs.YtkdhhdbgngegfaaGreatDoor
