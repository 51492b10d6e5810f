/-
  The walk of package basculeref01: less.
-/
import Derived.Test.YtnnlpiflalmmlaaRefC
namespace Go.Proofs.Ytnnlpiflalmmlaa
open Go.RowKit

set_option maxHeartbeats 8000000 in
theorem less_any {a0 a1 a2 a3 b0 b1 b2 b3 : Int} (ha : D4 a0 a1 a2 a3) (hb : D4 b0 b1 b2 b3) (w : World) :
    Calls Try.prog 36 #[.agg #[.int .u64 a0, .int .u64 a1, .int .u64 a2, .int .u64 a3], .agg #[.int .u64 b0, .int .u64 b1, .int .u64 b2, .int .u64 b3]] w
      (OneP w fun r0 r1 r2 r3 => D4 r0 r1 r2 r3 ∧ ∃ c, (c = 0 ∨ c = 1) ∧ V r0 r1 r2 r3 = V a0 a1 a2 a3 - V b0 b1 b2 b3 + M * c) := by
  have kx := halves_any ha
  have ky := halves_any hb
  clear ha hb
  go_enter Try.func36, Try.ntmps36
  go_wp2_with fail
  refine (kx _).mono ?_
  rintro e w1 ⟨x0, x1, x2, x3, x4, x5, x6, x7, rfl, dx, vx, hb1⟩
  have W1 := Lib.hid (bthen (show Below w.heap.size w (((w.alloc (.cells #[.int .u64 a0, .int .u64 a1, .int .u64 a2, .int .u64 a3] 24)).alloc (.cells #[.int .u64 b0, .int .u64 b1, .int .u64 b2, .int .u64 b3] 24)).alloc (.cells #[.int .u64 0, .int .u64 0, .int .u64 0, .int .u64 0] 24)) by repeat (first | with_reducible exact Below.refl _ _ | with_reducible refine Below.alloc ?_ (by simp; try omega) _)) hb1 (by simp; try omega))
  have HBx : Hid (At4 w1 (w.heap.size + 1) b0 b1 b2 b3) := (show At4 (((w.alloc (.cells #[.int .u64 a0, .int .u64 a1, .int .u64 a2, .int .u64 a3] 24)).alloc (.cells #[.int .u64 b0, .int .u64 b1, .int .u64 b2, .int .u64 b3] 24)).alloc (.cells #[.int .u64 0, .int .u64 0, .int .u64 0, .int .u64 0] 24)) (w.heap.size + 1) b0 b1 b2 b3 by simpa using (At4.new (w.alloc (.cells #[.int .u64 a0, .int .u64 a1, .int .u64 a2, .int .u64 a3] 24)) b0 b1 b2 b3).alloc (.cells #[.int .u64 0, .int .u64 0, .int .u64 0, .int .u64 0] 24)).on hb1
  have HO1 : Hid (At4 w1 (w.heap.size + 1 + 1) 0 0 0 0) := (show At4 (((w.alloc (.cells #[.int .u64 a0, .int .u64 a1, .int .u64 a2, .int .u64 a3] 24)).alloc (.cells #[.int .u64 b0, .int .u64 b1, .int .u64 b2, .int .u64 b3] 24)).alloc (.cells #[.int .u64 0, .int .u64 0, .int .u64 0, .int .u64 0] 24)) (w.heap.size + 1 + 1) 0 0 0 0 by simpa using At4.new ((w.alloc (.cells #[.int .u64 a0, .int .u64 a1, .int .u64 a2, .int .u64 a3] 24)).alloc (.cells #[.int .u64 b0, .int .u64 b1, .int .u64 b2, .int .u64 b3] 24)) 0 0 0 0).on hb1
  have Dx := Lib.hid dx
  have Vx := Lib.hid vx
  clear dx vx hb1 kx
  obtain ⟨cb0, cb1, cb2, cb3⟩ := HBx.out.cell
  have zb := HBx.out.lt
  go_wp2_with fail
  refine (ky _).mono ?_
  rintro e w2 ⟨y0, y1, y2, y3, y4, y5, y6, y7, rfl, dy, vy, hb2⟩
  have W2 := Lib.hid (bthen (Below.alloc W1.out (by have := W1.out.size; omega) _) hb2 (by have := W1.out.size; simp; omega))
  have HO2 := Lib.hid ((HO1.out.alloc _).on hb2)
  have HX2 := Lib.hid ((At8.new w1 x0 x1 x2 x3 x4 x5 x6 x7).on hb2)
  have Dy := Lib.hid dy
  have Vy := Lib.hid vy
  have hne : ¬ w.heap.size + 1 + 1 = w1.heap.size := by have := HO1.out.lt; omega
  clear dy vy hb2 ky cb0 cb1 cb2 cb3 zb HBx HO1
  obtain ⟨cx0, cx1, cx2, cx3, cx4, cx5, cx6, cx7⟩ := HX2.out.cell
  obtain ⟨fx0, fx1, fx2, fx3, fx4, fx5, fx6, fx7⟩ := HX2.out.free
  have zx := HX2.out.lt
  go_wp2_with fail
  refine wp_loop_rounds 9 ?_
  rw [rounds_succ]
  obtain ⟨nx0, mx0⟩ := Dx.out.1
  obtain ⟨ny0, my0⟩ := Dy.out.1
  go_wp2_with fail
  go_region
  go_wp2_with fail
  have l0 : 0 ≤ (x0 + 4294967296 - y0) % 4294967296 := by omega
  have u0 : (x0 + 4294967296 - y0) % 4294967296 < 4294967296 := by omega
  have l0' : 0 ≤ 1 - (x0 + 4294967296 - y0) / 4294967296 := by omega
  have u0' : 1 - (x0 + 4294967296 - y0) / 4294967296 ≤ 1 := by omega
  have E0 := Lib.hid (show x0 + 4294967296 - y0 - 0 = (x0 + 4294967296 - y0) % 4294967296 + 4294967296 * (1 - (1 - (x0 + 4294967296 - y0) / 4294967296)) by omega)
  clear nx0 mx0 ny0 my0
  generalize (x0 + 4294967296 - y0) % 4294967296 = z0 at l0 u0 E0 ⊢
  generalize 1 - (x0 + 4294967296 - y0) / 4294967296 = c1 at l0' u0' E0 ⊢
  have L0 := Lib.hid (And.intro l0 u0)
  clear l0 u0 cx0 fx0 
  rw [rounds_succ]
  obtain ⟨nx1, mx1⟩ := Dx.out.2.1
  obtain ⟨ny1, my1⟩ := Dy.out.2.1
  go_wp2_with fail
  go_region
  go_wp2_with fail
  have l1 : 0 ≤ (x1 + 4294967296 - y1 - c1) % 4294967296 := by omega
  have u1 : (x1 + 4294967296 - y1 - c1) % 4294967296 < 4294967296 := by omega
  have l1' : 0 ≤ 1 - (x1 + 4294967296 - y1 - c1) / 4294967296 := by omega
  have u1' : 1 - (x1 + 4294967296 - y1 - c1) / 4294967296 ≤ 1 := by omega
  have E1 := Lib.hid (show x1 + 4294967296 - y1 - c1 = (x1 + 4294967296 - y1 - c1) % 4294967296 + 4294967296 * (1 - (1 - (x1 + 4294967296 - y1 - c1) / 4294967296)) by omega)
  clear nx1 mx1 ny1 my1
  generalize (x1 + 4294967296 - y1 - c1) % 4294967296 = z1 at l1 u1 E1 ⊢
  generalize 1 - (x1 + 4294967296 - y1 - c1) / 4294967296 = c2 at l1' u1' E1 ⊢
  have L1 := Lib.hid (And.intro l1 u1)
  clear l1 u1 cx1 fx1 l0' u0'
  rw [rounds_succ]
  obtain ⟨nx2, mx2⟩ := Dx.out.2.2.1
  obtain ⟨ny2, my2⟩ := Dy.out.2.2.1
  go_wp2_with fail
  go_region
  go_wp2_with fail
  have l2 : 0 ≤ (x2 + 4294967296 - y2 - c2) % 4294967296 := by omega
  have u2 : (x2 + 4294967296 - y2 - c2) % 4294967296 < 4294967296 := by omega
  have l2' : 0 ≤ 1 - (x2 + 4294967296 - y2 - c2) / 4294967296 := by omega
  have u2' : 1 - (x2 + 4294967296 - y2 - c2) / 4294967296 ≤ 1 := by omega
  have E2 := Lib.hid (show x2 + 4294967296 - y2 - c2 = (x2 + 4294967296 - y2 - c2) % 4294967296 + 4294967296 * (1 - (1 - (x2 + 4294967296 - y2 - c2) / 4294967296)) by omega)
  clear nx2 mx2 ny2 my2
  generalize (x2 + 4294967296 - y2 - c2) % 4294967296 = z2 at l2 u2 E2 ⊢
  generalize 1 - (x2 + 4294967296 - y2 - c2) / 4294967296 = c3 at l2' u2' E2 ⊢
  have L2 := Lib.hid (And.intro l2 u2)
  clear l2 u2 cx2 fx2 l1' u1'
  rw [rounds_succ]
  obtain ⟨nx3, mx3⟩ := Dx.out.2.2.2.1
  obtain ⟨ny3, my3⟩ := Dy.out.2.2.2.1
  go_wp2_with fail
  go_region
  go_wp2_with fail
  have l3 : 0 ≤ (x3 + 4294967296 - y3 - c3) % 4294967296 := by omega
  have u3 : (x3 + 4294967296 - y3 - c3) % 4294967296 < 4294967296 := by omega
  have l3' : 0 ≤ 1 - (x3 + 4294967296 - y3 - c3) / 4294967296 := by omega
  have u3' : 1 - (x3 + 4294967296 - y3 - c3) / 4294967296 ≤ 1 := by omega
  have E3 := Lib.hid (show x3 + 4294967296 - y3 - c3 = (x3 + 4294967296 - y3 - c3) % 4294967296 + 4294967296 * (1 - (1 - (x3 + 4294967296 - y3 - c3) / 4294967296)) by omega)
  clear nx3 mx3 ny3 my3
  generalize (x3 + 4294967296 - y3 - c3) % 4294967296 = z3 at l3 u3 E3 ⊢
  generalize 1 - (x3 + 4294967296 - y3 - c3) / 4294967296 = c4 at l3' u3' E3 ⊢
  have L3 := Lib.hid (And.intro l3 u3)
  clear l3 u3 cx3 fx3 l2' u2'
  rw [rounds_succ]
  obtain ⟨nx4, mx4⟩ := Dx.out.2.2.2.2.1
  obtain ⟨ny4, my4⟩ := Dy.out.2.2.2.2.1
  go_wp2_with fail
  go_region
  go_wp2_with fail
  have l4 : 0 ≤ (x4 + 4294967296 - y4 - c4) % 4294967296 := by omega
  have u4 : (x4 + 4294967296 - y4 - c4) % 4294967296 < 4294967296 := by omega
  have l4' : 0 ≤ 1 - (x4 + 4294967296 - y4 - c4) / 4294967296 := by omega
  have u4' : 1 - (x4 + 4294967296 - y4 - c4) / 4294967296 ≤ 1 := by omega
  have E4 := Lib.hid (show x4 + 4294967296 - y4 - c4 = (x4 + 4294967296 - y4 - c4) % 4294967296 + 4294967296 * (1 - (1 - (x4 + 4294967296 - y4 - c4) / 4294967296)) by omega)
  clear nx4 mx4 ny4 my4
  generalize (x4 + 4294967296 - y4 - c4) % 4294967296 = z4 at l4 u4 E4 ⊢
  generalize 1 - (x4 + 4294967296 - y4 - c4) / 4294967296 = c5 at l4' u4' E4 ⊢
  have L4 := Lib.hid (And.intro l4 u4)
  clear l4 u4 cx4 fx4 l3' u3'
  rw [rounds_succ]
  obtain ⟨nx5, mx5⟩ := Dx.out.2.2.2.2.2.1
  obtain ⟨ny5, my5⟩ := Dy.out.2.2.2.2.2.1
  go_wp2_with fail
  go_region
  go_wp2_with fail
  have l5 : 0 ≤ (x5 + 4294967296 - y5 - c5) % 4294967296 := by omega
  have u5 : (x5 + 4294967296 - y5 - c5) % 4294967296 < 4294967296 := by omega
  have l5' : 0 ≤ 1 - (x5 + 4294967296 - y5 - c5) / 4294967296 := by omega
  have u5' : 1 - (x5 + 4294967296 - y5 - c5) / 4294967296 ≤ 1 := by omega
  have E5 := Lib.hid (show x5 + 4294967296 - y5 - c5 = (x5 + 4294967296 - y5 - c5) % 4294967296 + 4294967296 * (1 - (1 - (x5 + 4294967296 - y5 - c5) / 4294967296)) by omega)
  clear nx5 mx5 ny5 my5
  generalize (x5 + 4294967296 - y5 - c5) % 4294967296 = z5 at l5 u5 E5 ⊢
  generalize 1 - (x5 + 4294967296 - y5 - c5) / 4294967296 = c6 at l5' u5' E5 ⊢
  have L5 := Lib.hid (And.intro l5 u5)
  clear l5 u5 cx5 fx5 l4' u4'
  rw [rounds_succ]
  obtain ⟨nx6, mx6⟩ := Dx.out.2.2.2.2.2.2.1
  obtain ⟨ny6, my6⟩ := Dy.out.2.2.2.2.2.2.1
  go_wp2_with fail
  go_region
  go_wp2_with fail
  have l6 : 0 ≤ (x6 + 4294967296 - y6 - c6) % 4294967296 := by omega
  have u6 : (x6 + 4294967296 - y6 - c6) % 4294967296 < 4294967296 := by omega
  have l6' : 0 ≤ 1 - (x6 + 4294967296 - y6 - c6) / 4294967296 := by omega
  have u6' : 1 - (x6 + 4294967296 - y6 - c6) / 4294967296 ≤ 1 := by omega
  have E6 := Lib.hid (show x6 + 4294967296 - y6 - c6 = (x6 + 4294967296 - y6 - c6) % 4294967296 + 4294967296 * (1 - (1 - (x6 + 4294967296 - y6 - c6) / 4294967296)) by omega)
  clear nx6 mx6 ny6 my6
  generalize (x6 + 4294967296 - y6 - c6) % 4294967296 = z6 at l6 u6 E6 ⊢
  generalize 1 - (x6 + 4294967296 - y6 - c6) / 4294967296 = c7 at l6' u6' E6 ⊢
  have L6 := Lib.hid (And.intro l6 u6)
  clear l6 u6 cx6 fx6 l5' u5'
  rw [rounds_succ]
  obtain ⟨nx7, mx7⟩ := Dx.out.2.2.2.2.2.2.2
  obtain ⟨ny7, my7⟩ := Dy.out.2.2.2.2.2.2.2
  go_wp2_with fail
  go_region
  go_wp2_with fail
  have l7 : 0 ≤ (x7 + 4294967296 - y7 - c7) % 4294967296 := by omega
  have u7 : (x7 + 4294967296 - y7 - c7) % 4294967296 < 4294967296 := by omega
  have l7' : 0 ≤ 1 - (x7 + 4294967296 - y7 - c7) / 4294967296 := by omega
  have u7' : 1 - (x7 + 4294967296 - y7 - c7) / 4294967296 ≤ 1 := by omega
  have E7 := Lib.hid (show x7 + 4294967296 - y7 - c7 = (x7 + 4294967296 - y7 - c7) % 4294967296 + 4294967296 * (1 - (1 - (x7 + 4294967296 - y7 - c7) / 4294967296)) by omega)
  clear nx7 mx7 ny7 my7
  generalize (x7 + 4294967296 - y7 - c7) % 4294967296 = z7 at l7 u7 E7 ⊢
  generalize 1 - (x7 + 4294967296 - y7 - c7) / 4294967296 = c8 at l7' u7' E7 ⊢
  have L7 := Lib.hid (And.intro l7 u7)
  clear l7 u7 cx7 fx7 l6' u6'
  have HO3 : Hid (At4 (((((((((w2.setCell ⟨w1.heap.size, 0, none⟩ (.int .u64 z0)).setCell ⟨w1.heap.size, 1, none⟩ (.int .u64 z1)).setCell ⟨w1.heap.size, 2, none⟩ (.int .u64 z2)).setCell ⟨w1.heap.size, 3, none⟩ (.int .u64 z3)).setCell ⟨w1.heap.size, 4, none⟩ (.int .u64 z4)).setCell ⟨w1.heap.size, 5, none⟩ (.int .u64 z5)).setCell ⟨w1.heap.size, 6, none⟩ (.int .u64 z6)).setCell ⟨w1.heap.size, 7, none⟩ (.int .u64 z7)).alloc (.cells #[.int .u64 y0, .int .u64 y1, .int .u64 y2, .int .u64 y3, .int .u64 y4, .int .u64 y5, .int .u64 y6, .int .u64 y7] 52)) (w.heap.size + 1 + 1) 0 0 0 0) := (((((((((HO2.out.other hne _).other hne _).other hne _).other hne _).other hne _).other hne _).other hne _).other hne _).alloc _)
  have HX3 : Hid (At8 (((((((((w2.setCell ⟨w1.heap.size, 0, none⟩ (.int .u64 z0)).setCell ⟨w1.heap.size, 1, none⟩ (.int .u64 z1)).setCell ⟨w1.heap.size, 2, none⟩ (.int .u64 z2)).setCell ⟨w1.heap.size, 3, none⟩ (.int .u64 z3)).setCell ⟨w1.heap.size, 4, none⟩ (.int .u64 z4)).setCell ⟨w1.heap.size, 5, none⟩ (.int .u64 z5)).setCell ⟨w1.heap.size, 6, none⟩ (.int .u64 z6)).setCell ⟨w1.heap.size, 7, none⟩ (.int .u64 z7)).alloc (.cells #[.int .u64 y0, .int .u64 y1, .int .u64 y2, .int .u64 y3, .int .u64 y4, .int .u64 y5, .int .u64 y6, .int .u64 y7] 52)) w1.heap.size z0 z1 z2 z3 z4 z5 z6 z7) := (((((((((HX2.out.set0 z0).set1 z1).set2 z2).set3 z3).set4 z4).set5 z5).set6 z6).set7 z7).alloc _)
  have W3 : Hid (Below w.heap.size w (((((((((w2.setCell ⟨w1.heap.size, 0, none⟩ (.int .u64 z0)).setCell ⟨w1.heap.size, 1, none⟩ (.int .u64 z1)).setCell ⟨w1.heap.size, 2, none⟩ (.int .u64 z2)).setCell ⟨w1.heap.size, 3, none⟩ (.int .u64 z3)).setCell ⟨w1.heap.size, 4, none⟩ (.int .u64 z4)).setCell ⟨w1.heap.size, 5, none⟩ (.int .u64 z5)).setCell ⟨w1.heap.size, 6, none⟩ (.int .u64 z6)).setCell ⟨w1.heap.size, 7, none⟩ (.int .u64 z7)).alloc (.cells #[.int .u64 y0, .int .u64 y1, .int .u64 y2, .int .u64 y3, .int .u64 y4, .int .u64 y5, .int .u64 y6, .int .u64 y7] 52))) := by
    have h1 := W1.out.size
    have h2 := W2.out.size
    refine Below.alloc ?_ (by simp only [size_setCell]; omega) _
    repeat (first | with_reducible exact W2.out | with_reducible refine Below.setCell ?_ (by simp; try omega) _)
  have HO4 : Hid (At4 (((((((((w2.setCell ⟨w1.heap.size, 0, none⟩ (.int .u64 z0)).setCell ⟨w1.heap.size, 1, none⟩ (.int .u64 z1)).setCell ⟨w1.heap.size, 2, none⟩ (.int .u64 z2)).setCell ⟨w1.heap.size, 3, none⟩ (.int .u64 z3)).setCell ⟨w1.heap.size, 4, none⟩ (.int .u64 z4)).setCell ⟨w1.heap.size, 5, none⟩ (.int .u64 z5)).setCell ⟨w1.heap.size, 6, none⟩ (.int .u64 z6)).setCell ⟨w1.heap.size, 7, none⟩ (.int .u64 z7)).alloc (.cells #[.int .u64 y0, .int .u64 y1, .int .u64 y2, .int .u64 y3, .int .u64 y4, .int .u64 y5, .int .u64 y6, .int .u64 y7] 52)).drew.drew.drew.drew.drew.drew.drew.drew (w.heap.size + 1 + 1) 0 0 0 0) := HO3.out
  have HX4 : Hid (At8 (((((((((w2.setCell ⟨w1.heap.size, 0, none⟩ (.int .u64 z0)).setCell ⟨w1.heap.size, 1, none⟩ (.int .u64 z1)).setCell ⟨w1.heap.size, 2, none⟩ (.int .u64 z2)).setCell ⟨w1.heap.size, 3, none⟩ (.int .u64 z3)).setCell ⟨w1.heap.size, 4, none⟩ (.int .u64 z4)).setCell ⟨w1.heap.size, 5, none⟩ (.int .u64 z5)).setCell ⟨w1.heap.size, 6, none⟩ (.int .u64 z6)).setCell ⟨w1.heap.size, 7, none⟩ (.int .u64 z7)).alloc (.cells #[.int .u64 y0, .int .u64 y1, .int .u64 y2, .int .u64 y3, .int .u64 y4, .int .u64 y5, .int .u64 y6, .int .u64 y7] 52)).drew.drew.drew.drew.drew.drew.drew.drew w1.heap.size z0 z1 z2 z3 z4 z5 z6 z7) := HX3.out
  have W4 : Hid (Below w.heap.size w (((((((((w2.setCell ⟨w1.heap.size, 0, none⟩ (.int .u64 z0)).setCell ⟨w1.heap.size, 1, none⟩ (.int .u64 z1)).setCell ⟨w1.heap.size, 2, none⟩ (.int .u64 z2)).setCell ⟨w1.heap.size, 3, none⟩ (.int .u64 z3)).setCell ⟨w1.heap.size, 4, none⟩ (.int .u64 z4)).setCell ⟨w1.heap.size, 5, none⟩ (.int .u64 z5)).setCell ⟨w1.heap.size, 6, none⟩ (.int .u64 z6)).setCell ⟨w1.heap.size, 7, none⟩ (.int .u64 z7)).alloc (.cells #[.int .u64 y0, .int .u64 y1, .int .u64 y2, .int .u64 y3, .int .u64 y4, .int .u64 y5, .int .u64 y6, .int .u64 y7] 52)).drew.drew.drew.drew.drew.drew.drew.drew) := W3.out.drew.drew.drew.drew.drew.drew.drew.drew
  generalize hW : (((((((((w2.setCell ⟨w1.heap.size, 0, none⟩ (.int .u64 z0)).setCell ⟨w1.heap.size, 1, none⟩ (.int .u64 z1)).setCell ⟨w1.heap.size, 2, none⟩ (.int .u64 z2)).setCell ⟨w1.heap.size, 3, none⟩ (.int .u64 z3)).setCell ⟨w1.heap.size, 4, none⟩ (.int .u64 z4)).setCell ⟨w1.heap.size, 5, none⟩ (.int .u64 z5)).setCell ⟨w1.heap.size, 6, none⟩ (.int .u64 z6)).setCell ⟨w1.heap.size, 7, none⟩ (.int .u64 z7)).alloc (.cells #[.int .u64 y0, .int .u64 y1, .int .u64 y2, .int .u64 y3, .int .u64 y4, .int .u64 y5, .int .u64 y6, .int .u64 y7] 52)).drew.drew.drew.drew.drew.drew.drew.drew = W at HO4 HX4 W4 ⊢
  clear hW HO3 HX3 W3 HO2 HX2 W2 hne zx
  have dz : D8 z0 z1 z2 z3 z4 z5 z6 z7 := ⟨L0.out, L1.out, L2.out, L3.out, L4.out, L5.out, L6.out, L7.out⟩
  obtain ⟨cx0, cx1, cx2, cx3, cx4, cx5, cx6, cx7⟩ := HX4.out.cell
  obtain ⟨co0, co1, co2, co3⟩ := HO4.out.cell
  obtain ⟨fo0, fo1, fo2, fo3⟩ := HO4.out.free
  rw [rounds_succ]
  have hc8 : c8 = 0 ∨ c8 = 1 := by omega
  have sum := Lib.hid (sub8 E0.out E1.out E2.out E3.out E4.out E5.out E6.out E7.out)
  clear l7' u7'
  have Hc8 := Lib.hid hc8
  clear hc8
  go_wp2_with fail
  refine (whole_any dz _).mono ?_
  rintro e w5 ⟨r0, r1, r2, r3, rfl, ⟨dr, vr⟩, hb5⟩
  have HO5 := Lib.hid (HO4.out.on hb5)
  have W5 := Lib.hid (bthen W4.out hb5 (by have := W4.out.size; omega))
  clear co0 co1 co2 co3 fo0 fo1 fo2 fo3 cx0 cx1 cx2 cx3 cx4 cx5 cx6 cx7 hb5
  obtain ⟨co0, co1, co2, co3⟩ := HO5.out.cell
  obtain ⟨fo0, fo1, fo2, fo3⟩ := HO5.out.free
  go_wp2_with fail
  have hs := sum.out
  refine bodyPost_ret (v := .agg #[.int .u64 r0, .int .u64 r1, .int .u64 r2, .int .u64 r3]) (by simp [results, Try.results36, go_sem, co0, co1, co2, co3]) rfl
    ⟨r0, r1, r2, r3, rfl, ⟨dr, c8, Hc8.out, ?_⟩, ?_⟩
  · have := Vx.out; have := Vy.out; omega
  · repeat (first | with_reducible exact W5.out | with_reducible refine Below.setCell ?_ (by simp; try omega) _)

end Go.Proofs.Ytnnlpiflalmmlaa
