/-
  The walks of package game: rightTime, Right, Turn, ready.
-/
import Derived.Test.YtkdhhdbgngegfaaGreatDoorGm
namespace Go.Proofs.YtkdhhdbgngegfaaGreatDoor
open Go.RowKit

@[go_sem] theorem Tryz.index_clk0 (w : World) (a b : Int) : (Instr.index 26 (.agg #[.int .i64 a, .int .i64 b]) (.int .i64 0)).run Tryz.prog w = .ok (.int .i64 a) w := by kernel_rfl
@[go_sem] theorem Tryz.index_clk1 (w : World) (a b : Int) : (Instr.index 26 (.agg #[.int .i64 a, .int .i64 b]) (.int .i64 1)).run Tryz.prog w = .ok (.int .i64 b) w := by kernel_rfl

theorem rightTime_any (n : Int) (w : World) : Calls Tryz.prog 36 #[.int .i64 n] w fun e w' => e = .returned (.bool (timeOk n)) ∧ w' = w := by
  go_enter Tryz.func36, Tryz.ntmps36
  go_wp2_with fail
  all_goals go_ret
  all_goals exact ⟨congrArg (fun x => Ending.returned (.bool x)) (by simp [timeOk]; try omega), rfl⟩

theorem GmRight_any {g : Gm} (hg : g.ok) (w : World) : Calls Tryz.prog 24 #[.agg g.row.toArray] w fun e w' => e = .returned (.bool g.right) ∧ Below w.heap.size w w' := by
  have G := GmAt.new w 31 g
  have B : Below w.heap.size w (w.alloc (.cells g.row.toArray 31)) := (Below.refl _ _).alloc (by simp) _
  obtain ⟨-, c99, c100, c101, c102, -, cs⟩ := G.facts hg.s
  have hl := hg.s.len
  go_enter Tryz.func24, Tryz.ntmps24
  by_cases hw : g.wn = -1
  · rw [hw] at c102
    go_wp2_with fail
    refine wp_loop_rounds 3 ?_
    rw [rounds_succ]
    by_cases k0 : g.c0 < 0
    · go_wp2_with fail
      go_ret
      exact ⟨congrArg (fun x => Ending.returned (.bool x)) (by simp [Gm.right, hw]; omega), B⟩
    by_cases m0 : 1048576 < g.c0
    · go_wp2_with fail
      go_ret
      exact ⟨congrArg (fun x => Ending.returned (.bool x)) (by simp [Gm.right, hw]; omega), B⟩
    go_wp2_with fail
    rw [rounds_succ]
    by_cases k1 : g.c1 < 0
    · go_wp2_with fail
      go_ret
      exact ⟨congrArg (fun x => Ending.returned (.bool x)) (by simp [Gm.right, hw]; omega), B⟩
    by_cases m1 : 1048576 < g.c1
    · go_wp2_with fail
      go_ret
      exact ⟨congrArg (fun x => Ending.returned (.bool x)) (by simp [Gm.right, hw]; omega), B⟩
    go_wp2_with fail
    rw [rounds_succ]
    go_wp2_with fail
    refine (Right_any hg.s _).mono ?_
    rintro e w1 ⟨rfl, hb⟩
    have G1 := G.on hb
    have B1 := B.trans (hb.mono (by simp))
    obtain ⟨-, -, -, c101, -, -, -⟩ := G1.facts hg.s
    clear G G1 B hb c99 c100 c102 cs
    cases hr : g.s.right
    · go_wp2_with fail
      go_ret
      exact ⟨congrArg (fun x => Ending.returned (.bool x)) (by simp [Gm.right, hw, hr]), B1⟩
    · go_wp2_with fail
      refine (rightTime_any _ _).mono ?_
      rintro e w2 ⟨rfl, rfl⟩
      go_wp2_with fail
      go_ret
      exact ⟨congrArg (fun x => Ending.returned (.bool x)) (by rw [Bool.eq_iff_iff]; simp [Gm.right, hw, hr, timeOk]; omega), B1⟩
  · have hd : decide (g.wn = -1) = false := by simpa using hw
    have hb : (g.wn != -1) = true := by simpa using hw
    go_wp2_with fail
    all_goals go_ret
    all_goals exact ⟨congrArg (fun x => Ending.returned (.bool x)) (by unfold Gm.right; rw [hb]; simp_all), B⟩

theorem Turn_any {g : Gm} (hg : g.ok) (w : World) : Calls Tryz.prog 11 #[.agg g.row.toArray] w fun e w' => e = .returned (.int .i64 g.turn) ∧ Below w.heap.size w w' := by
  have G := GmAt.new w 31 g
  have B : Below w.heap.size w (w.alloc (.cells g.row.toArray 31)) := (Below.refl _ _).alloc (by simp) _
  obtain ⟨-, -, -, -, -, cg, -⟩ := G.facts hg.s
  have hl := hg.s.len
  go_enter Tryz.func11, Tryz.ntmps11
  go_wp2_with fail
  refine (GmRight_any hg _).mono ?_
  rintro e w1 ⟨rfl, hb⟩
  have G1 := G.on hb
  have B1 := B.trans (hb.mono (by simp))
  obtain ⟨c98, -, -, -, c102, -, cs⟩ := G1.facts hg.s
  clear G B hb cg
  cases hr : g.right
  · go_wp2_with fail
    go_ret
    exact ⟨congrArg (fun x => Ending.returned (.int .i64 x)) (by simp [Gm.turn, hr]), B1⟩
  by_cases hw : g.wn = -1
  · rw [hw] at c102
    cases hp : g.s.p
    · rw [hp] at c98
      go_wp2_with fail
      refine (Last_any hg.s _).mono ?_
      rintro e w2 ⟨rfl, hb⟩
      have B2 := B1.trans (hb.mono (by have := B1.size; omega))
      clear G1 c98 c102 cs hb B1
      cases hq : g.s.last
      · go_wp2_with fail
        go_ret
        exact ⟨congrArg (fun x => Ending.returned (.int .i64 x)) (by simp [Gm.turn, hr, hw, hp, hq]), B2⟩
      · go_wp2_with fail
        go_ret
        exact ⟨congrArg (fun x => Ending.returned (.int .i64 x)) (by simp [Gm.turn, hr, hw, hq]), B2⟩
    · rw [hp] at c98
      go_wp2_with fail
      go_ret
      exact ⟨congrArg (fun x => Ending.returned (.int .i64 x)) (by simp [Gm.turn, hr, hw, hp]), B1⟩
  · have hd : decide (g.wn = -1) = false := by simpa using hw
    have hb : (g.wn != -1) = true := by simpa using hw
    go_wp2_with fail
    all_goals go_ret
    all_goals exact ⟨congrArg (fun x => Ending.returned (.int .i64 x)) (by simp [Gm.turn, hr, hb]), B1⟩

theorem ready_any {g : Gm} (hg : g.ok) (now : Int) (w : World) : Calls Tryz.prog 23 #[.agg g.row.toArray, .int .i64 now] w fun e w' => e = .returned (.int .i64 (g.ready now)) ∧ Below w.heap.size w w' := by
  have G := GmAt.new w 31 g
  have B : Below w.heap.size w (w.alloc (.cells g.row.toArray 31)) := (Below.refl _ _).alloc (by simp) _
  obtain ⟨-, -, -, -, -, cg, -⟩ := G.facts hg.s
  have hl := hg.s.len
  go_enter Tryz.func23, Tryz.ntmps23
  go_wp2_with fail
  refine (GmRight_any hg _).mono ?_
  rintro e w1 ⟨rfl, hb⟩
  have G1 := G.on hb
  have B1 := B.trans (hb.mono (by simp))
  obtain ⟨-, -, -, c101, c102, -, -⟩ := G1.facts hg.s
  clear G B hb cg G1
  cases hr : g.right
  · go_wp2_with fail
    go_ret
    exact ⟨congrArg (fun x => Ending.returned (.int .i64 x)) (by simp [Gm.ready, hr]), B1⟩
  go_wp2_with fail
  refine (rightTime_any _ _).mono ?_
  rintro e w2 ⟨rfl, rfl⟩
  cases ht : timeOk now
  · go_wp2_with fail
    go_ret
    exact ⟨congrArg (fun x => Ending.returned (.int .i64 x)) (by simp [Gm.ready, hr, ht]), B1⟩
  by_cases hw : g.wn = -1
  · rw [hw] at c102
    by_cases hn : now < g.at_
    · go_wp2_with fail
      go_ret
      exact ⟨congrArg (fun x => Ending.returned (.int .i64 x)) (by have hD : decide (now < g.at_) = _ := decide_eq_true hn; simp only [Gm.ready, hr, ht, hw, hD]; rfl), B1⟩
    · go_wp2_with fail
      go_ret
      exact ⟨congrArg (fun x => Ending.returned (.int .i64 x)) (by have hD : decide (now < g.at_) = _ := decide_eq_false (by omega); simp only [Gm.ready, hr, ht, hw, hD]; rfl), B1⟩
  · have hd : decide (g.wn = -1) = false := by simpa using hw
    have hb : (g.wn != -1) = true := by simpa using hw
    go_wp2_with fail
    all_goals go_ret
    all_goals exact ⟨congrArg (fun x => Ending.returned (.int .i64 x)) (by simp [Gm.ready, hr, ht, hb]), B1⟩
end Go.Proofs.YtkdhhdbgngegfaaGreatDoor
