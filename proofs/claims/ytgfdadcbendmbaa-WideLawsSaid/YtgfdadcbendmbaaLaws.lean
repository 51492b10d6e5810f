/-
  WideLaws returns true for every two numbers, and leaves its arguments: sums and products can be turned round, what is added is taken away again, a number is the quotient times the divisor and the rest. No condition.
-/
import Derived.Test.YtgfdadcbendmbaaDiv
import Derived.Test.YtgfdadcbendmbaaParts
namespace Go.Proofs.Ytgfdadcbendmbaa
open Go.ChangeShapes Go.WideShapes Go.ChangeAt Go.RowKit

set_option maxHeartbeats 4000000 in
theorem WideLaws_walk {a0 a1 a2 a3 b0 b1 b2 b3 : Int} (ha : D4 a0 a1 a2 a3) (hb : D4 b0 b1 b2 b3) (w : World) :
    Calls Try.prog 6 #[.agg #[.int .u64 a0, .int .u64 a1, .int .u64 a2, .int .u64 a3], .agg #[.int .u64 b0, .int .u64 b1, .int .u64 b2, .int .u64 b3]] w fun e w' => e = .returned (.bool true) ∧ Below w.heap.size w w' := by
  have k1 := Add_any ha hb
  have k2 := Add_any hb ha
  have k3 := Mul_any ha hb
  have k4 := Mul_any hb ha
  have k5 := Div_any ha hb
  have HA := Lib.hid ha
  have HB := Lib.hid hb
  clear ha hb
  go_enter Try.func6, Try.ntmps6
  go_wp2_with fail
  refine (k1 _).mono ?_
  rintro e w1 ⟨x0, x1, x2, x3, ex, rfl, ⟨dx, hx⟩, hbw1⟩
  have w1B := Lib.hid (bthen (show Below w.heap.size w ((w.alloc (.cells #[.int .u64 a0, .int .u64 a1, .int .u64 a2, .int .u64 a3] 24)).alloc (.cells #[.int .u64 b0, .int .u64 b1, .int .u64 b2, .int .u64 b3] 24)) by repeat (first | with_reducible exact Below.refl _ _ | with_reducible refine Below.alloc ?_ (by simp; try omega) _)) hbw1 (by simp; try omega))
  have Haw1 : Hid (At4 w1 (w.heap.size) a0 a1 a2 a3) := (show At4 ((w.alloc (.cells #[.int .u64 a0, .int .u64 a1, .int .u64 a2, .int .u64 a3] 24)).alloc (.cells #[.int .u64 b0, .int .u64 b1, .int .u64 b2, .int .u64 b3] 24)) (w.heap.size) a0 a1 a2 a3 by simpa using ((At4.new w a0 a1 a2 a3).alloc _)).on hbw1
  have Hbw1 : Hid (At4 w1 (w.heap.size + 1) b0 b1 b2 b3) := (show At4 ((w.alloc (.cells #[.int .u64 a0, .int .u64 a1, .int .u64 a2, .int .u64 a3] 24)).alloc (.cells #[.int .u64 b0, .int .u64 b1, .int .u64 b2, .int .u64 b3] 24)) (w.heap.size + 1) b0 b1 b2 b3 by simpa using (At4.new (w.alloc (.cells #[.int .u64 a0, .int .u64 a1, .int .u64 a2, .int .u64 a3] 24)) b0 b1 b2 b3)).on hbw1
  clear hbw1
  obtain ⟨ca0, ca1, ca2, ca3⟩ := Haw1.out.cell
  have za := Haw1.out.lt
  obtain ⟨cb0, cb1, cb2, cb3⟩ := Hbw1.out.cell
  have zb := Hbw1.out.lt
  have Hx := Lib.hid hx
  have Dx := Lib.hid dx
  clear hx dx k1
  go_wp2_with fail
  refine (k2 _).mono ?_
  rintro e w2 ⟨y0, y1, y2, y3, ey, rfl, ⟨dy, hy⟩, hbw2⟩
  have w2B := Lib.hid (bthen (Below.alloc w1B.out (by have := w1B.out.size; omega) _) hbw2 (by have := w1B.out.size; simp; omega))
  have Haw2 := Lib.hid ((Haw1.out.alloc _).on hbw2)
  have Hbw2 := Lib.hid ((Hbw1.out.alloc _).on hbw2)
  have Hxw2 := Lib.hid ((At4.new w1 x0 x1 x2 x3).on hbw2)
  clear ca0 ca1 ca2 ca3 za cb0 cb1 cb2 cb3 zb
  clear hbw2
  obtain ⟨ca0, ca1, ca2, ca3⟩ := Haw2.out.cell
  have za := Haw2.out.lt
  obtain ⟨cb0, cb1, cb2, cb3⟩ := Hbw2.out.cell
  have zb := Hbw2.out.lt
  obtain ⟨cx0, cx1, cx2, cx3⟩ := Hxw2.out.cell
  have zx := Hxw2.out.lt
  have sxy : V x0 x1 x2 x3 = V y0 y1 y2 y3 ∧ ex = ey := by have := Hx.out; omega
  obtain ⟨sxy, rfl⟩ := sxy
  obtain ⟨rfl, rfl, rfl, rfl⟩ := V_inj Dx.out dy sxy
  clear hy dy sxy k2
  go_wp2_with fail
  refine (k3 _).mono ?_
  rintro e w3 ⟨p0, p1, p2, p3, ep, rfl, ⟨dp, hp⟩, hbw3⟩
  have w3B := Lib.hid (bthen (Below.alloc w2B.out (by have := w2B.out.size; omega) _) hbw3 (by have := w2B.out.size; simp; omega))
  have Haw3 := Lib.hid ((Haw2.out.alloc _).on hbw3)
  have Hbw3 := Lib.hid ((Hbw2.out.alloc _).on hbw3)
  have Hxw3 := Lib.hid ((Hxw2.out.alloc _).on hbw3)
  have Hyw3 := Lib.hid ((At4.new w2 x0 x1 x2 x3).on hbw3)
  clear ca0 ca1 ca2 ca3 za cb0 cb1 cb2 cb3 zb cx0 cx1 cx2 cx3 zx
  clear hbw3
  obtain ⟨ca0, ca1, ca2, ca3⟩ := Haw3.out.cell
  have za := Haw3.out.lt
  obtain ⟨cb0, cb1, cb2, cb3⟩ := Hbw3.out.cell
  have zb := Hbw3.out.lt
  obtain ⟨cx0, cx1, cx2, cx3⟩ := Hxw3.out.cell
  have zx := Hxw3.out.lt
  obtain ⟨cy0, cy1, cy2, cy3⟩ := Hyw3.out.cell
  have zy := Hyw3.out.lt
  have Hp := Lib.hid hp
  have Dp := Lib.hid dp
  clear hp dp k3
  go_wp2_with fail
  refine (k4 _).mono ?_
  rintro e w4 ⟨q0, q1, q2, q3, eq, rfl, ⟨dq, hq⟩, hbw4⟩
  have w4B := Lib.hid (bthen (Below.alloc w3B.out (by have := w3B.out.size; omega) _) hbw4 (by have := w3B.out.size; simp; omega))
  have Haw4 := Lib.hid ((Haw3.out.alloc _).on hbw4)
  have Hbw4 := Lib.hid ((Hbw3.out.alloc _).on hbw4)
  have Hxw4 := Lib.hid ((Hxw3.out.alloc _).on hbw4)
  have Hyw4 := Lib.hid ((Hyw3.out.alloc _).on hbw4)
  have Hpw4 := Lib.hid ((At4.new w3 p0 p1 p2 p3).on hbw4)
  clear ca0 ca1 ca2 ca3 za cb0 cb1 cb2 cb3 zb cx0 cx1 cx2 cx3 zx cy0 cy1 cy2 cy3 zy
  clear hbw4
  obtain ⟨ca0, ca1, ca2, ca3⟩ := Haw4.out.cell
  have za := Haw4.out.lt
  obtain ⟨cb0, cb1, cb2, cb3⟩ := Hbw4.out.cell
  have zb := Hbw4.out.lt
  obtain ⟨cx0, cx1, cx2, cx3⟩ := Hxw4.out.cell
  have zx := Hxw4.out.lt
  obtain ⟨cy0, cy1, cy2, cy3⟩ := Hyw4.out.cell
  have zy := Hyw4.out.lt
  obtain ⟨cp0, cp1, cp2, cp3⟩ := Hpw4.out.cell
  have zp := Hpw4.out.lt
  rw [Int.mul_comm] at hq
  have spq : V p0 p1 p2 p3 = V q0 q1 q2 q3 ∧ ep = eq := by have := Hp.out; omega
  obtain ⟨spq, rfl⟩ := spq
  obtain ⟨rfl, rfl, rfl, rfl⟩ := V_inj Dp.out dq spq
  clear hq dq spq k4
  have eqx := @eq4_true x0 x1 x2 x3
  have eqp := @eq4_true p0 p1 p2 p3
  go_wp2_with fail
  refine (num_any _ _).mono ?_
  rintro e wn ⟨rfl, rfl⟩
  go_wp2_with fail
  refine (num_any _ _).mono ?_
  rintro e wn ⟨rfl, rfl⟩
  go_wp2_with fail
  refine (num_any _ _).mono ?_
  rintro e wn ⟨rfl, rfl⟩
  go_wp2_with fail
  refine (num_any _ _).mono ?_
  rintro e wn ⟨rfl, rfl⟩
  go_wp2_with fail
  refine (knows_any _).mono ?_
  rintro e wk1 ⟨rfl, hbk⟩
  have wk1B := Lib.hid (bthen (Below.alloc w4B.out (by have := w4B.out.size; omega) _) hbk (by have := w4B.out.size; simp; omega))
  have Hawk1 := Lib.hid ((Haw4.out.alloc _).on hbk)
  have Hbwk1 := Lib.hid ((Hbw4.out.alloc _).on hbk)
  have Hxwk1 := Lib.hid ((Hxw4.out.alloc _).on hbk)
  have Hywk1 := Lib.hid ((Hyw4.out.alloc _).on hbk)
  have Hpwk1 := Lib.hid ((Hpw4.out.alloc _).on hbk)
  have Hqwk1 := Lib.hid ((At4.new w4 p0 p1 p2 p3).on hbk)
  clear ca0 ca1 ca2 ca3 za cb0 cb1 cb2 cb3 zb cx0 cx1 cx2 cx3 zx cy0 cy1 cy2 cy3 zy cp0 cp1 cp2 cp3 zp
  clear hbk
  obtain ⟨ca0, ca1, ca2, ca3⟩ := Hawk1.out.cell
  have za := Hawk1.out.lt
  obtain ⟨cb0, cb1, cb2, cb3⟩ := Hbwk1.out.cell
  have zb := Hbwk1.out.lt
  obtain ⟨cx0, cx1, cx2, cx3⟩ := Hxwk1.out.cell
  have zx := Hxwk1.out.lt
  obtain ⟨cy0, cy1, cy2, cy3⟩ := Hywk1.out.cell
  have zy := Hywk1.out.lt
  obtain ⟨cp0, cp1, cp2, cp3⟩ := Hpwk1.out.cell
  have zp := Hpwk1.out.lt
  obtain ⟨cq0, cq1, cq2, cq3⟩ := Hqwk1.out.cell
  have zq := Hqwk1.out.lt
  go_wp2_with fail
  clear eqx eqp
  refine (num_any _ _).mono ?_
  rintro e wn ⟨rfl, rfl⟩
  by_cases ge : ex = 0
  · subst ge
    go_wp2_with fail
    refine ((Sub_any Dx.out HB.out) _).mono ?_
    rintro e wz ⟨z0, z1, z2, z3, ez, rfl, ⟨dz, hz⟩, hbwz⟩
    have wzB := Lib.hid (bthen wk1B.out hbwz (by have := wk1B.out.size; omega))
    have Hawz := Lib.hid (Hawk1.out.on hbwz)
    have Hbwz := Lib.hid (Hbwk1.out.on hbwz)
    have Hxwz := Lib.hid (Hxwk1.out.on hbwz)
    clear ca0 ca1 ca2 ca3 za cb0 cb1 cb2 cb3 zb cx0 cx1 cx2 cx3 zx cy0 cy1 cy2 cy3 zy cp0 cp1 cp2 cp3 zp cq0 cq1 cq2 cq3 zq
    clear hbwz
    obtain ⟨ca0, ca1, ca2, ca3⟩ := Hawz.out.cell
    have za := Hawz.out.lt
    obtain ⟨cb0, cb1, cb2, cb3⟩ := Hbwz.out.cell
    have zb := Hbwz.out.lt
    obtain ⟨cx0, cx1, cx2, cx3⟩ := Hxwz.out.cell
    have zx := Hxwz.out.lt
    have hz2 : ez = 0 ∧ V z0 z1 z2 z3 = V a0 a1 a2 a3 := by
      have x := Hx.out
      have l := V_lo HA.out
      simp only [true_and] at x
      omega
    obtain ⟨rfl, hz2⟩ := hz2
    obtain ⟨rfl, rfl, rfl, rfl⟩ := V_inj HA.out dz hz2.symm
    have eqa := @eq4_true a0 a1 a2 a3
    clear hz hz2 dz
    go_wp2_with fail
    refine (num_any _ _).mono ?_
    rintro e wn ⟨rfl, rfl⟩
    go_wp2_with fail
    clear eqa
    refine (k5 _).mono ?_
    rintro e wd ⟨n0, n1, n2, n3, r0, r1, r2, r3, ed, rfl, dn, dr, hdiv, hbwd⟩
    have wdB := Lib.hid (bthen (Below.alloc wzB.out (by have := wzB.out.size; omega) _) hbwd (by have := wzB.out.size; simp; omega))
    have Hawd := Lib.hid ((Hawz.out.alloc _).on hbwd)
    have Hbwd := Lib.hid ((Hbwz.out.alloc _).on hbwd)
    have Hxwd := Lib.hid ((Hxwz.out.alloc _).on hbwd)
    have Hzwd := Lib.hid ((At4.new wz a0 a1 a2 a3).on hbwd)
    clear ca0 ca1 ca2 ca3 za cb0 cb1 cb2 cb3 zb cx0 cx1 cx2 cx3 zx
    clear hbwd
    obtain ⟨ca0, ca1, ca2, ca3⟩ := Hawd.out.cell
    have za := Hawd.out.lt
    obtain ⟨cb0, cb1, cb2, cb3⟩ := Hbwd.out.cell
    have zb := Hbwd.out.lt
    obtain ⟨cx0, cx1, cx2, cx3⟩ := Hxwd.out.cell
    have zx := Hxwd.out.lt
    obtain ⟨cz0, cz1, cz2, cz3⟩ := Hzwd.out.cell
    have zz := Hzwd.out.lt
    have Hdiv := Lib.hid hdiv
    have Dn := Lib.hid dn
    have Dr := Lib.hid dr
    clear dn dr k5
    rcases hdiv with ⟨hb0, rfl, hn0, hr0⟩ | ⟨hb0, rfl, hval, hlt⟩
    · obtain ⟨rfl, rfl, rfl, rfl⟩ := V_zero HB.out hb0
      have eqb := @eq4_true 0 0 0 0
      clear hb0 hn0 hr0
      go_wp2_with fail
      refine (num_any _ _).mono ?_
      rintro e wn ⟨rfl, rfl⟩
      go_wp2_with fail
      go_ret
      exact ⟨rfl, Below.alloc (Below.alloc wdB.out (by have := wdB.out.size; omega) _) (by have := wdB.out.size; simp; omega) _⟩
    · have Hval := Lib.hid hval
      have Hlt := Lib.hid hlt
      clear hb0 hval hlt
      go_wp2_with fail
      refine (num_any _ _).mono ?_
      rintro e wn ⟨rfl, rfl⟩
      go_wp2_with fail
      refine ((Mul_any Dn.out HB.out) _).mono ?_
      rintro e wm ⟨m0, m1, m2, m3, em, rfl, ⟨dm, hm⟩, hbwm⟩
      have wmB := Lib.hid (bthen (Below.alloc (Below.alloc wdB.out (by have := wdB.out.size; omega) _) (by have := wdB.out.size; simp; omega) _) hbwm (by have := wdB.out.size; simp; omega))
      have Hawm := Lib.hid (((Hawd.out.alloc _).alloc _).on hbwm)
      have Hbwm := Lib.hid (((Hbwd.out.alloc _).alloc _).on hbwm)
      have Hnwm := Lib.hid (((At4.new wd n0 n1 n2 n3).alloc _).on hbwm)
      have Hrwm : Hid (At4 wm (wd.heap.size + 1) r0 r1 r2 r3) := (show At4 ((wd.alloc (.cells #[.int .u64 n0, .int .u64 n1, .int .u64 n2, .int .u64 n3] 24)).alloc (.cells #[.int .u64 r0, .int .u64 r1, .int .u64 r2, .int .u64 r3] 24)) (wd.heap.size + 1) r0 r1 r2 r3 by simpa using (At4.new (wd.alloc (.cells #[.int .u64 n0, .int .u64 n1, .int .u64 n2, .int .u64 n3] 24)) r0 r1 r2 r3)).on hbwm
      clear ca0 ca1 ca2 ca3 za cb0 cb1 cb2 cb3 zb cx0 cx1 cx2 cx3 zx cz0 cz1 cz2 cz3 zz
      clear hbwm
      obtain ⟨ca0, ca1, ca2, ca3⟩ := Hawm.out.cell
      have za := Hawm.out.lt
      obtain ⟨cb0, cb1, cb2, cb3⟩ := Hbwm.out.cell
      have zb := Hbwm.out.lt
      obtain ⟨cn0, cn1, cn2, cn3⟩ := Hnwm.out.cell
      have zn := Hnwm.out.lt
      obtain ⟨cr0, cr1, cr2, cr3⟩ := Hrwm.out.cell
      have zr := Hrwm.out.lt
      have hm2 : em = 0 ∧ V m0 m1 m2 m3 = V n0 n1 n2 n3 * V b0 b1 b2 b3 := by
        have u := V_hi HA.out
        have l := V_lo Dr.out
        have v := Hval.out
        omega
      obtain ⟨rfl, hm2⟩ := hm2
      have Hm := Lib.hid hm2
      clear hm hm2
      go_wp2_with fail
      refine ((Add_any dm Dr.out) _).mono ?_
      rintro e ws ⟨s0, s1, s2, s3, es2, rfl, ⟨ds, hs⟩, hbws⟩
      have wsB := Lib.hid (bthen (Below.alloc wmB.out (by have := wmB.out.size; omega) _) hbws (by have := wmB.out.size; simp; omega))
      have Haws := Lib.hid ((Hawm.out.alloc _).on hbws)
      have Hbws := Lib.hid ((Hbwm.out.alloc _).on hbws)
      have Hnws := Lib.hid ((Hnwm.out.alloc _).on hbws)
      have Hrws := Lib.hid ((Hrwm.out.alloc _).on hbws)
      have Hmws := Lib.hid ((At4.new wm m0 m1 m2 m3).on hbws)
      clear ca0 ca1 ca2 ca3 za cb0 cb1 cb2 cb3 zb cn0 cn1 cn2 cn3 zn cr0 cr1 cr2 cr3 zr
      clear hbws
      obtain ⟨ca0, ca1, ca2, ca3⟩ := Haws.out.cell
      have za := Haws.out.lt
      obtain ⟨cb0, cb1, cb2, cb3⟩ := Hbws.out.cell
      have zb := Hbws.out.lt
      obtain ⟨cn0, cn1, cn2, cn3⟩ := Hnws.out.cell
      have zn := Hnws.out.lt
      obtain ⟨cr0, cr1, cr2, cr3⟩ := Hrws.out.cell
      have zr := Hrws.out.lt
      obtain ⟨cm0, cm1, cm2, cm3⟩ := Hmws.out.cell
      have zm := Hmws.out.lt
      have hs2 : es2 = 0 ∧ V s0 s1 s2 s3 = V a0 a1 a2 a3 := by
        have u := V_hi HA.out
        have v := Hval.out
        have m := Hm.out
        omega
      obtain ⟨rfl, hs2⟩ := hs2
      obtain ⟨rfl, rfl, rfl, rfl⟩ := V_inj HA.out ds hs2.symm
      have eqa := @eq4_true a0 a1 a2 a3
      have hcm : Hid (cmp (V r0 r1 r2 r3) (V b0 b1 b2 b3) = -1) := by have := Hlt.out; unfold cmp Hid; rw [if_pos this]
      clear hs hs2 ds dm
      go_wp2_with fail
      refine (num_any _ _).mono ?_
      rintro e wn ⟨rfl, rfl⟩
      go_wp2_with fail
      refine (num_any _ _).mono ?_
      rintro e wn ⟨rfl, rfl⟩
      go_wp2_with fail
      refine (Compare_any Dr.out HB.out _).mono ?_
      rintro e wc ⟨rfl, hbwc⟩
      rw [hcm.out]
      have wcB := Lib.hid (bthen (Below.alloc wsB.out (by have := wsB.out.size; omega) _) hbwc (by have := wsB.out.size; simp; omega))
      have Hawc := Lib.hid ((Haws.out.alloc _).on hbwc)
      have Hbwc := Lib.hid ((Hbws.out.alloc _).on hbwc)
      have Hnwc := Lib.hid ((Hnws.out.alloc _).on hbwc)
      have Hrwc := Lib.hid ((Hrws.out.alloc _).on hbwc)
      have Hmwc := Lib.hid ((Hmws.out.alloc _).on hbwc)
      have Hswc := Lib.hid ((At4.new ws a0 a1 a2 a3).on hbwc)
      clear ca0 ca1 ca2 ca3 za cb0 cb1 cb2 cb3 zb cn0 cn1 cn2 cn3 zn cr0 cr1 cr2 cr3 zr cm0 cm1 cm2 cm3 zm
      clear hbwc
      obtain ⟨ca0, ca1, ca2, ca3⟩ := Hawc.out.cell
      have za := Hawc.out.lt
      obtain ⟨cb0, cb1, cb2, cb3⟩ := Hbwc.out.cell
      have zb := Hbwc.out.lt
      obtain ⟨cn0, cn1, cn2, cn3⟩ := Hnwc.out.cell
      have zn := Hnwc.out.lt
      obtain ⟨cr0, cr1, cr2, cr3⟩ := Hrwc.out.cell
      have zr := Hrwc.out.lt
      obtain ⟨cm0, cm1, cm2, cm3⟩ := Hmwc.out.cell
      have zm := Hmwc.out.lt
      obtain ⟨cs0, cs1, cs2, cs3⟩ := Hswc.out.cell
      have zs := Hswc.out.lt
      go_wp2_with fail
      go_ret
      exact ⟨rfl, wcB.out⟩
  · have ge2 : (ex == 0) = false := by simpa using ge
    go_wp2_with fail
    clear ge2
    refine (k5 _).mono ?_
    rintro e wd ⟨n0, n1, n2, n3, r0, r1, r2, r3, ed, rfl, dn, dr, hdiv, hbwd⟩
    have wdB := Lib.hid (bthen wk1B.out hbwd (by have := wk1B.out.size; omega))
    have Hawd := Lib.hid (Hawk1.out.on hbwd)
    have Hbwd := Lib.hid (Hbwk1.out.on hbwd)
    have Hxwd := Lib.hid (Hxwk1.out.on hbwd)
    clear ca0 ca1 ca2 ca3 za cb0 cb1 cb2 cb3 zb cx0 cx1 cx2 cx3 zx cy0 cy1 cy2 cy3 zy cp0 cp1 cp2 cp3 zp cq0 cq1 cq2 cq3 zq
    clear hbwd
    obtain ⟨ca0, ca1, ca2, ca3⟩ := Hawd.out.cell
    have za := Hawd.out.lt
    obtain ⟨cb0, cb1, cb2, cb3⟩ := Hbwd.out.cell
    have zb := Hbwd.out.lt
    obtain ⟨cx0, cx1, cx2, cx3⟩ := Hxwd.out.cell
    have zx := Hxwd.out.lt
    have Hdiv := Lib.hid hdiv
    have Dn := Lib.hid dn
    have Dr := Lib.hid dr
    clear dn dr k5
    rcases hdiv with ⟨hb0, rfl, hn0, hr0⟩ | ⟨hb0, rfl, hval, hlt⟩
    · obtain ⟨rfl, rfl, rfl, rfl⟩ := V_zero HB.out hb0
      have eqb := @eq4_true 0 0 0 0
      clear hb0 hn0 hr0
      go_wp2_with fail
      refine (num_any _ _).mono ?_
      rintro e wn ⟨rfl, rfl⟩
      go_wp2_with fail
      go_ret
      exact ⟨rfl, Below.alloc (Below.alloc wdB.out (by have := wdB.out.size; omega) _) (by have := wdB.out.size; simp; omega) _⟩
    · have Hval := Lib.hid hval
      have Hlt := Lib.hid hlt
      clear hb0 hval hlt
      go_wp2_with fail
      refine (num_any _ _).mono ?_
      rintro e wn ⟨rfl, rfl⟩
      go_wp2_with fail
      refine ((Mul_any Dn.out HB.out) _).mono ?_
      rintro e wm ⟨m0, m1, m2, m3, em, rfl, ⟨dm, hm⟩, hbwm⟩
      have wmB := Lib.hid (bthen (Below.alloc (Below.alloc wdB.out (by have := wdB.out.size; omega) _) (by have := wdB.out.size; simp; omega) _) hbwm (by have := wdB.out.size; simp; omega))
      have Hawm := Lib.hid (((Hawd.out.alloc _).alloc _).on hbwm)
      have Hbwm := Lib.hid (((Hbwd.out.alloc _).alloc _).on hbwm)
      have Hnwm := Lib.hid (((At4.new wd n0 n1 n2 n3).alloc _).on hbwm)
      have Hrwm : Hid (At4 wm (wd.heap.size + 1) r0 r1 r2 r3) := (show At4 ((wd.alloc (.cells #[.int .u64 n0, .int .u64 n1, .int .u64 n2, .int .u64 n3] 24)).alloc (.cells #[.int .u64 r0, .int .u64 r1, .int .u64 r2, .int .u64 r3] 24)) (wd.heap.size + 1) r0 r1 r2 r3 by simpa using (At4.new (wd.alloc (.cells #[.int .u64 n0, .int .u64 n1, .int .u64 n2, .int .u64 n3] 24)) r0 r1 r2 r3)).on hbwm
      clear ca0 ca1 ca2 ca3 za cb0 cb1 cb2 cb3 zb cx0 cx1 cx2 cx3 zx
      clear hbwm
      obtain ⟨ca0, ca1, ca2, ca3⟩ := Hawm.out.cell
      have za := Hawm.out.lt
      obtain ⟨cb0, cb1, cb2, cb3⟩ := Hbwm.out.cell
      have zb := Hbwm.out.lt
      obtain ⟨cn0, cn1, cn2, cn3⟩ := Hnwm.out.cell
      have zn := Hnwm.out.lt
      obtain ⟨cr0, cr1, cr2, cr3⟩ := Hrwm.out.cell
      have zr := Hrwm.out.lt
      have hm2 : em = 0 ∧ V m0 m1 m2 m3 = V n0 n1 n2 n3 * V b0 b1 b2 b3 := by
        have u := V_hi HA.out
        have l := V_lo Dr.out
        have v := Hval.out
        omega
      obtain ⟨rfl, hm2⟩ := hm2
      have Hm := Lib.hid hm2
      clear hm hm2
      go_wp2_with fail
      refine ((Add_any dm Dr.out) _).mono ?_
      rintro e ws ⟨s0, s1, s2, s3, es2, rfl, ⟨ds, hs⟩, hbws⟩
      have wsB := Lib.hid (bthen (Below.alloc wmB.out (by have := wmB.out.size; omega) _) hbws (by have := wmB.out.size; simp; omega))
      have Haws := Lib.hid ((Hawm.out.alloc _).on hbws)
      have Hbws := Lib.hid ((Hbwm.out.alloc _).on hbws)
      have Hnws := Lib.hid ((Hnwm.out.alloc _).on hbws)
      have Hrws := Lib.hid ((Hrwm.out.alloc _).on hbws)
      have Hmws := Lib.hid ((At4.new wm m0 m1 m2 m3).on hbws)
      clear ca0 ca1 ca2 ca3 za cb0 cb1 cb2 cb3 zb cn0 cn1 cn2 cn3 zn cr0 cr1 cr2 cr3 zr
      clear hbws
      obtain ⟨ca0, ca1, ca2, ca3⟩ := Haws.out.cell
      have za := Haws.out.lt
      obtain ⟨cb0, cb1, cb2, cb3⟩ := Hbws.out.cell
      have zb := Hbws.out.lt
      obtain ⟨cn0, cn1, cn2, cn3⟩ := Hnws.out.cell
      have zn := Hnws.out.lt
      obtain ⟨cr0, cr1, cr2, cr3⟩ := Hrws.out.cell
      have zr := Hrws.out.lt
      obtain ⟨cm0, cm1, cm2, cm3⟩ := Hmws.out.cell
      have zm := Hmws.out.lt
      have hs2 : es2 = 0 ∧ V s0 s1 s2 s3 = V a0 a1 a2 a3 := by
        have u := V_hi HA.out
        have v := Hval.out
        have m := Hm.out
        omega
      obtain ⟨rfl, hs2⟩ := hs2
      obtain ⟨rfl, rfl, rfl, rfl⟩ := V_inj HA.out ds hs2.symm
      have eqa := @eq4_true a0 a1 a2 a3
      have hcm : Hid (cmp (V r0 r1 r2 r3) (V b0 b1 b2 b3) = -1) := by have := Hlt.out; unfold cmp Hid; rw [if_pos this]
      clear hs hs2 ds dm
      go_wp2_with fail
      refine (num_any _ _).mono ?_
      rintro e wn ⟨rfl, rfl⟩
      go_wp2_with fail
      refine (num_any _ _).mono ?_
      rintro e wn ⟨rfl, rfl⟩
      go_wp2_with fail
      refine (Compare_any Dr.out HB.out _).mono ?_
      rintro e wc ⟨rfl, hbwc⟩
      rw [hcm.out]
      have wcB := Lib.hid (bthen (Below.alloc wsB.out (by have := wsB.out.size; omega) _) hbwc (by have := wsB.out.size; simp; omega))
      have Hawc := Lib.hid ((Haws.out.alloc _).on hbwc)
      have Hbwc := Lib.hid ((Hbws.out.alloc _).on hbwc)
      have Hnwc := Lib.hid ((Hnws.out.alloc _).on hbwc)
      have Hrwc := Lib.hid ((Hrws.out.alloc _).on hbwc)
      have Hmwc := Lib.hid ((Hmws.out.alloc _).on hbwc)
      have Hswc := Lib.hid ((At4.new ws a0 a1 a2 a3).on hbwc)
      clear ca0 ca1 ca2 ca3 za cb0 cb1 cb2 cb3 zb cn0 cn1 cn2 cn3 zn cr0 cr1 cr2 cr3 zr cm0 cm1 cm2 cm3 zm
      clear hbwc
      obtain ⟨ca0, ca1, ca2, ca3⟩ := Hawc.out.cell
      have za := Hawc.out.lt
      obtain ⟨cb0, cb1, cb2, cb3⟩ := Hbwc.out.cell
      have zb := Hbwc.out.lt
      obtain ⟨cn0, cn1, cn2, cn3⟩ := Hnwc.out.cell
      have zn := Hnwc.out.lt
      obtain ⟨cr0, cr1, cr2, cr3⟩ := Hrwc.out.cell
      have zr := Hrwc.out.lt
      obtain ⟨cm0, cm1, cm2, cm3⟩ := Hmwc.out.cell
      have zm := Hmwc.out.lt
      obtain ⟨cs0, cs1, cs2, cs3⟩ := Hswc.out.cell
      have zs := Hswc.out.lt
      go_wp2_with fail
      go_ret
      exact ⟨rfl, wcB.out⟩

set_option maxRecDepth 100000 in
theorem WideLaws_lifted (os : Os) (started : os.Started) (H : Type) (enc : TypeId × Value → H) :
    ReturnsInHanded {} Try.checked os 6 .any (Rows.wideLawsSpec.pre6 enc Try.prog Try.f6 Rows.wideLawsRow.domain false) (Rows.wideLawsSpec.post enc Try.prog Try.f6 false true false false) := by
  refine returnsInHanded_of_change (C := Try.checked) Try.ownNone started (by kernel_rfl) Try.func6
    (ChangeSpec.witness6 (enc := enc) (C := Try.checked) false ⟨#[], #[.agg #[.int .u64 0, .int .u64 0, .int .u64 0, .int .u64 0], .agg #[.int .u64 0, .int .u64 0, .int .u64 0, .int .u64 0]], []⟩ 8 (by kernel_rfl) (by kernel_rfl) (by kernel_rfl) (by kernel_rfl)) ?_
  intro W base args ds gs before hval0 hW hcnd _
  have hval : ∀ (j : Nat) t v, Try.f6.params[j]? = some t → args[j]? = some v → Value.okWide Try.prog W .any base t v := hval0
  have hW' := hW
  obtain ⟨p, q, hA0, hV, rfl, hfz, hnd⟩ := hW
  have hA : DataW.TrodAll enc Try.prog W 0 (fun _ => true) true Try.f6.params.toList args.toList ds p := hA0
  rw [Try.params6] at hA hval
  obtain ⟨v0, v1, d0, d1, p0, p1, rfl, rfl, rfl, h0, h1⟩ := trodAll_two hA
  obtain ⟨a0, a1, a2, a3, rfl, ha⟩ := open_wide Try.underlying24 Try.underlying22 Try.wide4Cells Try.wideCells (hval 0 24 v0 rfl rfl) h0
  obtain ⟨b0, b1, b2, b3, rfl, hb⟩ := open_wide Try.underlying24 Try.underlying22 Try.wide4Cells Try.wideCells (hval 1 24 v1 rfl rfl) h1
  refine (WideLaws_walk ha hb W).mono fun e W' ⟨he, hw⟩ => ?_
  subst he
  exact ⟨_, rfl, law_post (tb := 4) Try.laidOutTrue hW' rfl (by kernel_rfl) (by kernel_rfl) Try.underlying4 rfl rfl rfl hw⟩

theorem WideLaws_holds : Rows.WideLawsSaid :=
  OpenClaim.holds_of_wide 6 Try.f6 rfl rfl rfl rfl rfl rfl rfl ⟨rfl, rfl, rfl, rfl, rfl⟩ rfl rfl rfl rfl rfl (by kernel_rfl) Try.func6 (by kernel_rfl)
    (of_decide_eq_true (by kernel_rfl)) (by unfold Func.isWrapper; rw [if_neg (of_decide_eq_false (by kernel_rfl))]; exact ⟨rfl, rfl⟩)
    (fun os started H enc _ => WideLaws_lifted os started H enc)
end Go.Proofs.Ytgfdadcbendmbaa
