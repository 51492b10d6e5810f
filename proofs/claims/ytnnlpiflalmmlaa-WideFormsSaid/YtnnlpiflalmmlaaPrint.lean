/-
  The walks of package wide: group; Print at 120.
-/
import Derived.Test.YtnnlpiflalmmlaaDiv64
namespace Go.Proofs.Ytnnlpiflalmmlaa
open Go.RowKit

theorem group4 {a0 a1 a2 a3 q0 q1 q2 q3 r0 r1 r2 r3 : Int} (e3 : 0 * 18446744073709551616 + a3 = q3 * 10000000000000000000 + r3) (e2 : r3 * 18446744073709551616 + a2 = q2 * 10000000000000000000 + r2) (e1 : r2 * 18446744073709551616 + a1 = q1 * 10000000000000000000 + r1) (e0 : r1 * 18446744073709551616 + a0 = q0 * 10000000000000000000 + r0) :
    V a0 a1 a2 a3 = V q0 q1 q2 q3 * 10000000000000000000 + r0 := by
  unfold V B; omega

set_option maxHeartbeats 2000000 in
theorem group_any {a0 a1 a2 a3 : Int} (ha : D4 a0 a1 a2 a3) (w : World) :
    Calls Try.prog 38 #[.agg #[.int .u64 a0, .int .u64 a1, .int .u64 a2, .int .u64 a3]] w
      (PairP w fun q0 q1 q2 q3 r => D4 q0 q1 q2 q3 ∧ 0 ≤ r ∧ r < 10000000000000000000 ∧ V a0 a1 a2 a3 = V q0 q1 q2 q3 * 10000000000000000000 + r) := by
  obtain ⟨⟨x0, y0⟩, ⟨x1, y1⟩, ⟨x2, y2⟩, ⟨x3, y3⟩⟩ := ha
  unfold B at y0 y1 y2 y3
  go_enter Try.func38, Try.ntmps38
  go_wp2_with fail
  refine wp_loop_rounds 5 ?_
  rw [rounds_succ]
  go_wp2_with fail
  refine (div64_any (Int.le_refl 0) (by omega) x3 y3 _).mono ?_
  rintro e w1 ⟨⟨q3, r3, rfl, f3, g3, s3, t3, e3⟩, n3, rfl⟩
  have E3 := Lib.hid e3
  clear e3
  go_wp2_with fail
  rw [rounds_succ]
  go_wp2_with fail
  refine (div64_any s3 t3 x2 y2 _).mono ?_
  rintro e w1 ⟨⟨q2, r2, rfl, f2, g2, s2, t2, e2⟩, n2, rfl⟩
  have E2 := Lib.hid e2
  clear e2
  go_wp2_with fail
  rw [rounds_succ]
  go_wp2_with fail
  refine (div64_any s2 t2 x1 y1 _).mono ?_
  rintro e w1 ⟨⟨q1, r1, rfl, f1, g1, s1, t1, e1⟩, n1, rfl⟩
  have E1 := Lib.hid e1
  clear e1
  go_wp2_with fail
  rw [rounds_succ]
  go_wp2_with fail
  refine (div64_any s1 t1 x0 y0 _).mono ?_
  rintro e w1 ⟨⟨q0, r0, rfl, f0, g0, s0, t0, e0⟩, n0, rfl⟩
  have E0 := Lib.hid e0
  clear e0
  go_wp2_with fail
  rw [rounds_succ]
  go_wp2_with fail
  refine bodyPost_ret (v := .tuple #[.agg #[.int .u64 q0, .int .u64 q1, .int .u64 q2, .int .u64 q3], .int .u64 r0]) (by simp [results, Try.results38, go_sem]) rfl
    ⟨q0, q1, q2, q3, r0, rfl, ⟨⟨⟨f0, by unfold B; exact g0⟩, ⟨f1, by unfold B; exact g1⟩, ⟨f2, by unfold B; exact g2⟩, ⟨f3, by unfold B; exact g3⟩⟩, s0, t0, group4 E3.out E2.out E1.out E0.out⟩, ?_⟩
  repeat (first | with_reducible exact Below.refl _ _ | with_reducible refine below_drewN ?_ _ | with_reducible refine Below.drew ?_ | with_reducible refine Below.setCell ?_ (by simp; try omega) _ | with_reducible refine Below.alloc ?_ (by simp; try omega) _)

theorem zero80 (w : World) : (zeroValue 63).run Try.prog w = .ok (.agg (Array.replicate 80 (.int .u8 0))) w := by kernel_rfl

theorem V_zero {a0 a1 a2 a3 : Int} (h : D4 a0 a1 a2 a3) (e : V a0 a1 a2 a3 = 0) : a0 = 0 ∧ a1 = 0 ∧ a2 = 0 ∧ a3 = 0 :=
  V_inj h D4_zero (by rw [e]; unfold V; simp)

end Go.Proofs.Ytnnlpiflalmmlaa
