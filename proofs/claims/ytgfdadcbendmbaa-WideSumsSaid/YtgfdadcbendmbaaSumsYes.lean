/-
  A part of WideSums' walk.
-/
import Derived.Test.YtgfdadcbendmbaaSumsK
namespace Go.Proofs.Ytgfdadcbendmbaa
open Go.RowKit

set_option maxHeartbeats 8000000 in
theorem WideSums_yes {a0 b0 b1 b2 b3 n : Int} (ha : D4 a0 0 0 0) (hb : D4 b0 b1 b2 b3) (w : World) :
    Calls Try.prog 3 #[.agg #[.int .u64 a0, .int .u64 0, .int .u64 0, .int .u64 0], .agg #[.int .u64 b0, .int .u64 b1, .int .u64 b2, .int .u64 b3], .int .u64 n] w fun e w' => e = .returned (.bool true) ∧ Below w.heap.size w w' := by
  have HA := Lib.hid ha
  have HB := Lib.hid hb
  clear ha hb
  go_enter Try.func3, Try.ntmps3
  go_wp2_with fail
  refine ((Add_any HA.out HB.out) _).mono ?_
  rintro e w1 ⟨x0, x1, x2, x3, ex, rfl, ⟨dx, hx⟩, hbw1⟩
  have w1B := Lib.hid (bthen (show Below w.heap.size w ((w.alloc (.cells #[.int .u64 a0, .int .u64 0, .int .u64 0, .int .u64 0] 24)).alloc (.cells #[.int .u64 b0, .int .u64 b1, .int .u64 b2, .int .u64 b3] 24)) by repeat (first | with_reducible exact Below.refl _ _ | with_reducible refine Below.alloc ?_ (by simp; try omega) _)) hbw1 (by simp; try omega))
  have Haw1 : Hid (At4 w1 (w.heap.size) a0 0 0 0) := (show At4 ((w.alloc (.cells #[.int .u64 a0, .int .u64 0, .int .u64 0, .int .u64 0] 24)).alloc (.cells #[.int .u64 b0, .int .u64 b1, .int .u64 b2, .int .u64 b3] 24)) (w.heap.size) a0 0 0 0 by simpa using ((At4.new w a0 0 0 0).alloc _)).on hbw1
  have Hbw1 : Hid (At4 w1 (w.heap.size + 1) b0 b1 b2 b3) := (show At4 ((w.alloc (.cells #[.int .u64 a0, .int .u64 0, .int .u64 0, .int .u64 0] 24)).alloc (.cells #[.int .u64 b0, .int .u64 b1, .int .u64 b2, .int .u64 b3] 24)) (w.heap.size + 1) b0 b1 b2 b3 by simpa using (At4.new (w.alloc (.cells #[.int .u64 a0, .int .u64 0, .int .u64 0, .int .u64 0] 24)) b0 b1 b2 b3)).on hbw1
  clear hbw1
  obtain ⟨ca0, ca1, ca2, ca3⟩ := Haw1.out.cell
  have za := Haw1.out.lt
  obtain ⟨cb0, cb1, cb2, cb3⟩ := Hbw1.out.cell
  have zb := Hbw1.out.lt
  have Hx := Lib.hid hx
  have Dx := Lib.hid dx
  clear hx dx
  go_wp2_with fail
  refine ((refAdd_any HA.out HB.out) _).mono ?_
  rintro e w2 ⟨y0, y1, y2, y3, ey, rfl, ⟨dy, hy⟩, hbw2⟩
  have w2B := Lib.hid (bthen (Below.alloc w1B.out (by have := w1B.out.size; omega) _) hbw2 (by have := w1B.out.size; simp; omega))
  have Haw2 := Lib.hid ((Haw1.out.alloc _).on hbw2)
  have Hbw2 := Lib.hid ((Hbw1.out.alloc _).on hbw2)
  have Hxw2 := Lib.hid ((At4.new w1 x0 x1 x2 x3).on hbw2)
  clear ca0 ca1 ca2 ca3 za cb0 cb1 cb2 cb3 zb
  clear hbw2
  obtain ⟨ca0, ca1, ca2, ca3⟩ := Haw2.out.cell
  have za := Haw2.out.lt
  obtain ⟨cb0, cb1, cb2, cb3⟩ := Hbw2.out.cell
  have zb := Hbw2.out.lt
  obtain ⟨cx0, cx1, cx2, cx3⟩ := Hxw2.out.cell
  have zx := Hxw2.out.lt
  have sxy : V x0 x1 x2 x3 = V y0 y1 y2 y3 ∧ ex = ey := by have := Hx.out; omega
  obtain ⟨sxy, rfl⟩ := sxy
  obtain ⟨rfl, rfl, rfl, rfl⟩ := V_inj Dx.out dy sxy
  clear hy dy sxy
  go_wp2_with fail
  refine ((Sub_any HA.out HB.out) _).mono ?_
  rintro e w3 ⟨p0, p1, p2, p3, ep, rfl, ⟨dp, hp⟩, hbw3⟩
  have w3B := Lib.hid (bthen (Below.alloc w2B.out (by have := w2B.out.size; omega) _) hbw3 (by have := w2B.out.size; simp; omega))
  have Haw3 := Lib.hid ((Haw2.out.alloc _).on hbw3)
  have Hbw3 := Lib.hid ((Hbw2.out.alloc _).on hbw3)
  have Hxw3 := Lib.hid ((Hxw2.out.alloc _).on hbw3)
  have Hyw3 := Lib.hid ((At4.new w2 x0 x1 x2 x3).on hbw3)
  clear ca0 ca1 ca2 ca3 za cb0 cb1 cb2 cb3 zb cx0 cx1 cx2 cx3 zx
  clear hbw3
  obtain ⟨ca0, ca1, ca2, ca3⟩ := Haw3.out.cell
  have za := Haw3.out.lt
  obtain ⟨cb0, cb1, cb2, cb3⟩ := Hbw3.out.cell
  have zb := Hbw3.out.lt
  obtain ⟨cx0, cx1, cx2, cx3⟩ := Hxw3.out.cell
  have zx := Hxw3.out.lt
  obtain ⟨cy0, cy1, cy2, cy3⟩ := Hyw3.out.cell
  have zy := Hyw3.out.lt
  have Hp := Lib.hid hp
  have Dp := Lib.hid dp
  clear hp dp
  go_wp2_with fail
  refine ((refSub_any HA.out HB.out) _).mono ?_
  rintro e w4 ⟨q0, q1, q2, q3, eq, rfl, ⟨dq, hq⟩, hbw4⟩
  have w4B := Lib.hid (bthen (Below.alloc w3B.out (by have := w3B.out.size; omega) _) hbw4 (by have := w3B.out.size; simp; omega))
  have Haw4 := Lib.hid ((Haw3.out.alloc _).on hbw4)
  have Hbw4 := Lib.hid ((Hbw3.out.alloc _).on hbw4)
  have Hxw4 := Lib.hid ((Hxw3.out.alloc _).on hbw4)
  have Hyw4 := Lib.hid ((Hyw3.out.alloc _).on hbw4)
  have Hpw4 := Lib.hid ((At4.new w3 p0 p1 p2 p3).on hbw4)
  clear ca0 ca1 ca2 ca3 za cb0 cb1 cb2 cb3 zb cx0 cx1 cx2 cx3 zx cy0 cy1 cy2 cy3 zy
  clear hbw4
  obtain ⟨ca0, ca1, ca2, ca3⟩ := Haw4.out.cell
  have za := Haw4.out.lt
  obtain ⟨cb0, cb1, cb2, cb3⟩ := Hbw4.out.cell
  have zb := Hbw4.out.lt
  obtain ⟨cx0, cx1, cx2, cx3⟩ := Hxw4.out.cell
  have zx := Hxw4.out.lt
  obtain ⟨cy0, cy1, cy2, cy3⟩ := Hyw4.out.cell
  have zy := Hyw4.out.lt
  obtain ⟨cp0, cp1, cp2, cp3⟩ := Hpw4.out.cell
  have zp := Hpw4.out.lt
  have spq : V p0 p1 p2 p3 = V q0 q1 q2 q3 ∧ ep = eq := by have := Hp.out; omega
  obtain ⟨spq, rfl⟩ := spq
  obtain ⟨rfl, rfl, rfl, rfl⟩ := V_inj Dp.out dq spq
  clear hq dq spq
  have eqx := @eq4_true x0 x1 x2 x3
  have eqp := @eq4_true p0 p1 p2 p3
  have eqn := @eq4_true n 0 0 0
  go_wp2_with fail
  refine (Low_yes a0 _).mono ?_
  rintro e w5 ⟨rfl, hb5⟩
  have w5B := Lib.hid (bthen (Below.alloc w4B.out (by have := w4B.out.size; omega) _) hb5 (by have := w4B.out.size; simp; omega))
  have Haw5 := Lib.hid ((Haw4.out.alloc _).on hb5)
  have Hbw5 := Lib.hid ((Hbw4.out.alloc _).on hb5)
  have Hxw5 := Lib.hid ((Hxw4.out.alloc _).on hb5)
  have Hyw5 := Lib.hid ((Hyw4.out.alloc _).on hb5)
  have Hpw5 := Lib.hid ((Hpw4.out.alloc _).on hb5)
  have Hqw5 := Lib.hid ((At4.new w4 p0 p1 p2 p3).on hb5)
  clear ca0 ca1 ca2 ca3 za cb0 cb1 cb2 cb3 zb cx0 cx1 cx2 cx3 zx cy0 cy1 cy2 cy3 zy cp0 cp1 cp2 cp3 zp
  clear hb5
  obtain ⟨ca0, ca1, ca2, ca3⟩ := Haw5.out.cell
  have za := Haw5.out.lt
  obtain ⟨cb0, cb1, cb2, cb3⟩ := Hbw5.out.cell
  have zb := Hbw5.out.lt
  obtain ⟨cx0, cx1, cx2, cx3⟩ := Hxw5.out.cell
  have zx := Hxw5.out.lt
  obtain ⟨cy0, cy1, cy2, cy3⟩ := Hyw5.out.cell
  have zy := Hyw5.out.lt
  obtain ⟨cp0, cp1, cp2, cp3⟩ := Hpw5.out.cell
  have zp := Hpw5.out.lt
  obtain ⟨cq0, cq1, cq2, cq3⟩ := Hqw5.out.cell
  have zq := Hqw5.out.lt
  go_wp2_with fail
  refine (refLow_yes a0 _).mono ?_
  rintro e w6 ⟨rfl, hb6⟩
  have w6B := Lib.hid (bthen w5B.out hb6 (by have := w5B.out.size; omega))
  have Haw6 := Lib.hid (Haw5.out.on hb6)
  have Hbw6 := Lib.hid (Hbw5.out.on hb6)
  have Hxw6 := Lib.hid (Hxw5.out.on hb6)
  have Hyw6 := Lib.hid (Hyw5.out.on hb6)
  have Hpw6 := Lib.hid (Hpw5.out.on hb6)
  have Hqw6 := Lib.hid (Hqw5.out.on hb6)
  clear ca0 ca1 ca2 ca3 za cb0 cb1 cb2 cb3 zb cx0 cx1 cx2 cx3 zx cy0 cy1 cy2 cy3 zy cp0 cp1 cp2 cp3 zp cq0 cq1 cq2 cq3 zq
  clear hb6
  obtain ⟨ca0, ca1, ca2, ca3⟩ := Haw6.out.cell
  have za := Haw6.out.lt
  obtain ⟨cb0, cb1, cb2, cb3⟩ := Hbw6.out.cell
  have zb := Hbw6.out.lt
  obtain ⟨cx0, cx1, cx2, cx3⟩ := Hxw6.out.cell
  have zx := Hxw6.out.lt
  obtain ⟨cy0, cy1, cy2, cy3⟩ := Hyw6.out.cell
  have zy := Hyw6.out.lt
  obtain ⟨cp0, cp1, cp2, cp3⟩ := Hpw6.out.cell
  have zp := Hpw6.out.lt
  obtain ⟨cq0, cq1, cq2, cq3⟩ := Hqw6.out.cell
  have zq := Hqw6.out.lt
  go_wp2_with fail
  have BB := w6B.out
  have N6 := Nat.le_refl w6.heap.size
  have hw6 := w6B.out.size
  go_region_held3 (fun W => W.cell? ⟨w.heap.size, 0, none⟩ = some (.int .u64 a0) ∧ W.cell? ⟨w.heap.size, 1, none⟩ = some (.int .u64 0) ∧ W.cell? ⟨w.heap.size, 2, none⟩ = some (.int .u64 0) ∧ W.cell? ⟨w.heap.size, 3, none⟩ = some (.int .u64 0) ∧ W.cell? ⟨w.heap.size + 1, 0, none⟩ = some (.int .u64 b0) ∧ W.cell? ⟨w.heap.size + 1, 1, none⟩ = some (.int .u64 b1) ∧ W.cell? ⟨w.heap.size + 1, 2, none⟩ = some (.int .u64 b2) ∧ W.cell? ⟨w.heap.size + 1, 3, none⟩ = some (.int .u64 b3) ∧ W.cell? ⟨w1.heap.size, 0, none⟩ = some (.int .u64 x0) ∧ W.cell? ⟨w1.heap.size, 1, none⟩ = some (.int .u64 x1) ∧ W.cell? ⟨w1.heap.size, 2, none⟩ = some (.int .u64 x2) ∧ W.cell? ⟨w1.heap.size, 3, none⟩ = some (.int .u64 x3) ∧ W.cell? ⟨w2.heap.size, 0, none⟩ = some (.int .u64 x0) ∧ W.cell? ⟨w2.heap.size, 1, none⟩ = some (.int .u64 x1) ∧ W.cell? ⟨w2.heap.size, 2, none⟩ = some (.int .u64 x2) ∧ W.cell? ⟨w2.heap.size, 3, none⟩ = some (.int .u64 x3) ∧ W.cell? ⟨w3.heap.size, 0, none⟩ = some (.int .u64 p0) ∧ W.cell? ⟨w3.heap.size, 1, none⟩ = some (.int .u64 p1) ∧ W.cell? ⟨w3.heap.size, 2, none⟩ = some (.int .u64 p2) ∧ W.cell? ⟨w3.heap.size, 3, none⟩ = some (.int .u64 p3) ∧ W.cell? ⟨w4.heap.size, 0, none⟩ = some (.int .u64 p0) ∧ W.cell? ⟨w4.heap.size, 1, none⟩ = some (.int .u64 p1) ∧ W.cell? ⟨w4.heap.size, 2, none⟩ = some (.int .u64 p2) ∧ W.cell? ⟨w4.heap.size, 3, none⟩ = some (.int .u64 p3) ∧ Below w.heap.size w W ∧ w6.heap.size ≤ W.heap.size) (first | (refine ⟨?_, ?_, ?_, ?_, ?_, ?_, ?_, ?_, ?_, ?_, ?_, ?_, ?_, ?_, ?_, ?_, ?_, ?_, ?_, ?_, ?_, ?_, ?_, ?_, ?_, ?_⟩ <;> assumption) | (refine sums_drew ⟨?_, ?_, ?_, ?_, ?_, ?_, ?_, ?_, ?_, ?_, ?_, ?_, ?_, ?_, ?_, ?_, ?_, ?_, ?_, ?_, ?_, ?_, ?_, ?_, ?_, ?_⟩ <;> assumption) | (refine sums_keep za zb zx zy zp zq hw6 ?_ hbC <;> assumption) | (refine sums_keep za zb zx zy zp zq hw6 ?_ hbR <;> assumption) | (refine sums_keep za zb zx zy zp zq hw6 ?_ hbO <;> assumption) | (refine sums_keep za zb zx zy zp zq hw6 ?_ hbP <;> assumption) | (refine sums_keep za zb zx zy zp zq hw6 ?_ hbK <;> assumption) )
    (first | (go_at_call 16; refine (num_any _ _).mono ?_; rintro e w' ⟨rfl, rfl⟩) | (go_at_call 17; refine (Compare_any HA.out HB.out _).mono ?_; rintro e w' ⟨rfl, hbC⟩) | (go_at_call 18; refine (refCompare_any HA.out HB.out _).mono ?_; rintro e w' ⟨rfl, hbR⟩) | (go_at_call 19; refine (Of_any _ _).mono ?_; rintro e w' ⟨rfl, hbO⟩) | (go_at_call 20; refine (refOf_any _ _).mono ?_; rintro e w' ⟨rfl, hbP⟩) | (go_at_call 21; refine (knows_any _).mono ?_; rintro e w' ⟨rfl, hbK⟩))
  go_wp2_with fail
  go_ret
  refine ⟨rfl, ?_⟩
  go_split_ands
  assumption
end Go.Proofs.Ytgfdadcbendmbaa
