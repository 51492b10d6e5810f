/-
  The walk of package claim: Middle, Last.
-/
import Derived.Test.YtkdhhdbgngegfaaGreatDoorRight
namespace Go.Proofs.YtkdhhdbgngegfaaGreatDoor
open Go.RowKit

def Seg.middle (s : Seg) : Int := bif s.right then (s.lo + s.hi) / 2 else 0
def Seg.last (s : Seg) : Bool := s.right && (s.hi - s.lo == 1)

theorem Seg.right_lo {s : Seg} (h : s.right = true) : 0 ≤ s.lo ∧ s.lo < s.hi ∧ s.hi ≤ 4096 := by
  simp only [Seg.right, Bool.and_eq_true, decide_eq_true_eq] at h
  omega

theorem Middle_any {s : Seg} (hs : s.ok) (w : World) : Calls Tryz.prog 27 #[.agg s.row.toArray] w fun e w' => e = .returned (.int .i64 s.middle) ∧ Below w.heap.size w w' := by
  have S := SegAt.new w 29 s
  obtain ⟨-, -, -, cw, -, -, -⟩ := S.facts hs
  have hf := hs.f
  have ht := hs.t
  have hm := hs.m
  go_enter Tryz.func27, Tryz.ntmps27
  go_wp2_with fail
  refine (Right_any hs _).mono ?_
  rintro e w1 ⟨rfl, hb⟩
  obtain ⟨c0, c1, -, -, -, -, -⟩ := (S.on hb).facts hs
  have hb' : Below w.heap.size w w1 := ((Below.refl _ _).alloc (by simp) _).trans (hb.mono (by simp))
  clear S cw hb
  cases hr : s.right
  · go_wp2_with fail
    go_ret
    exact ⟨congrArg (fun x => Ending.returned (.int .i64 x)) (by simp [Seg.middle, hr]), hb'⟩
  · have hl := Seg.right_lo hr
    go_wp2_with fail
    go_ret
    exact ⟨congrArg (fun x => Ending.returned (.int .i64 x)) (by simp [Seg.middle, hr]), hb'⟩

theorem Last_any {s : Seg} (hs : s.ok) (w : World) : Calls Tryz.prog 19 #[.agg s.row.toArray] w fun e w' => e = .returned (.bool s.last) ∧ Below w.heap.size w w' := by
  have S := SegAt.new w 29 s
  obtain ⟨-, -, -, cw, -, -, -⟩ := S.facts hs
  have hf := hs.f
  have ht := hs.t
  have hm := hs.m
  go_enter Tryz.func19, Tryz.ntmps19
  go_wp2_with fail
  refine (Right_any hs _).mono ?_
  rintro e w1 ⟨rfl, hb⟩
  obtain ⟨c0, c1, -, -, -, -, -⟩ := (S.on hb).facts hs
  have hb' : Below w.heap.size w w1 := ((Below.refl _ _).alloc (by simp) _).trans (hb.mono (by simp))
  clear S cw hb
  cases hr : s.right
  · go_wp2_with fail
    go_ret
    exact ⟨congrArg (fun x => Ending.returned (.bool x)) (by simp [Seg.last, hr]), hb'⟩
  · have hl := Seg.right_lo hr
    go_wp2_with fail
    go_ret
    exact ⟨congrArg (fun x => Ending.returned (.bool x)) (by simp [Seg.last, hr]), hb'⟩
end Go.Proofs.YtkdhhdbgngegfaaGreatDoor
