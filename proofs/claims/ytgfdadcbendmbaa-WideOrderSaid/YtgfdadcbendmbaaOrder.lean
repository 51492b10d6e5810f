/-
  WideOrder returns true for every two numbers, and leaves its arguments: numbers stand as their bytes do, and as one can be taken from the other. No condition.
-/
import Derived.Test.YtgfdadcbendmbaaBytes
import Derived.Test.YtgfdadcbendmbaaParts
namespace Go.Proofs.Ytgfdadcbendmbaa
open Go.ChangeShapes Go.WideShapes Go.ChangeAt Go.RowKit

set_option maxHeartbeats 4000000 in
theorem WideOrder_walk {a0 a1 a2 a3 b0 b1 b2 b3 : Int} (ha : D4 a0 a1 a2 a3) (hb : D4 b0 b1 b2 b3) (w : World) :
    Calls Try.prog 8 #[.agg #[.int .u64 a0, .int .u64 a1, .int .u64 a2, .int .u64 a3], .agg #[.int .u64 b0, .int .u64 b1, .int .u64 b2, .int .u64 b3]] w fun e w' => e = .returned (.bool true) ∧ Below w.heap.size w w' := by
  have HA := Lib.hid ha
  have HB := Lib.hid hb
  have las := V_lo ha
  have lbs := V_lo hb
  have uas := V_hi ha
  have ubs := V_hi hb
  rcases Int.lt_trichotomy (V a0 a1 a2 a3) (V b0 b1 b2 b3) with hc | hc | hc
  · have c1 : Hid (cmp (V a0 a1 a2 a3) (V b0 b1 b2 b3) = -1) := by unfold cmp Hid; rw [if_pos hc]
    have c2 : Hid (cmp (V b0 b1 b2 b3) (V a0 a1 a2 a3) = 1) := by unfold cmp Hid; rw [if_neg (by omega), if_neg (by omega)]
    have less : Op.bytesLess (strOfNums (bys (V a0 a1 a2 a3) 32)).toList (strOfNums (bys (V b0 b1 b2 b3) 32)).toList = true := by rw [text_less las uas lbs ubs]; exact decide_eq_true hc
    have heq := eq4_false (V_ne (Int.ne_of_lt hc))
    have Hc := Lib.hid hc
    clear hc ha hb las lbs uas ubs
    go_enter Try.func8, Try.ntmps8
    go_wp2_with fail
    refine (Compare_any HA.out HB.out _).mono ?_
    rintro e w1 ⟨rfl, hb1⟩
    rw [c1.out]
    have w1B := Lib.hid (bthen (show Below w.heap.size w ((w.alloc (.cells #[.int .u64 a0, .int .u64 a1, .int .u64 a2, .int .u64 a3] 24)).alloc (.cells #[.int .u64 b0, .int .u64 b1, .int .u64 b2, .int .u64 b3] 24)) by repeat (first | with_reducible exact Below.refl _ _ | with_reducible refine Below.alloc ?_ (by simp; try omega) _)) hb1 (by simp; try omega))
    have Haw1 : Hid (At4 w1 (w.heap.size) a0 a1 a2 a3) := (show At4 ((w.alloc (.cells #[.int .u64 a0, .int .u64 a1, .int .u64 a2, .int .u64 a3] 24)).alloc (.cells #[.int .u64 b0, .int .u64 b1, .int .u64 b2, .int .u64 b3] 24)) (w.heap.size) a0 a1 a2 a3 by simpa using ((At4.new w a0 a1 a2 a3).alloc _)).on hb1
    have Hbw1 : Hid (At4 w1 (w.heap.size + 1) b0 b1 b2 b3) := (show At4 ((w.alloc (.cells #[.int .u64 a0, .int .u64 a1, .int .u64 a2, .int .u64 a3] 24)).alloc (.cells #[.int .u64 b0, .int .u64 b1, .int .u64 b2, .int .u64 b3] 24)) (w.heap.size + 1) b0 b1 b2 b3 by simpa using (At4.new (w.alloc (.cells #[.int .u64 a0, .int .u64 a1, .int .u64 a2, .int .u64 a3] 24)) b0 b1 b2 b3)).on hb1
    clear hb1
    obtain ⟨ca0, ca1, ca2, ca3⟩ := Haw1.out.cell
    have za := Haw1.out.lt
    obtain ⟨cb0, cb1, cb2, cb3⟩ := Hbw1.out.cell
    have zb := Hbw1.out.lt
    go_wp2_with fail
    refine (Bytes_any HA.out _).mono ?_
    rintro e w2 ⟨bx, rfl, hbx, hx, hb2⟩
    have cvx := run_convert_bytes_arg (P := Try.prog) w2 42 5 Try.underlying42 Try.underlying5 bx 0 32 32 (bys (V a0 a1 a2 a3) 32) (by simp [bys]) (fun i hi => by rw [Nat.zero_add]; exact hx.cell i hi) 9 Try.underlying9
    clear hbx hx
    have w2B := Lib.hid (bthen w1B.out hb2 (by have := w1B.out.size; omega))
    have Haw2 := Lib.hid (Haw1.out.on hb2)
    have Hbw2 := Lib.hid (Hbw1.out.on hb2)
    clear ca0 ca1 ca2 ca3 za cb0 cb1 cb2 cb3 zb
    clear hb2
    obtain ⟨ca0, ca1, ca2, ca3⟩ := Haw2.out.cell
    have za := Haw2.out.lt
    obtain ⟨cb0, cb1, cb2, cb3⟩ := Hbw2.out.cell
    have zb := Hbw2.out.lt
    go_wp2_with fail
    clear cvx
    refine (Bytes_any HB.out _).mono ?_
    rintro e w3 ⟨bz, rfl, hbz, hz, hb3⟩
    have cvz := run_convert_bytes_arg (P := Try.prog) w3 42 5 Try.underlying42 Try.underlying5 bz 0 32 32 (bys (V b0 b1 b2 b3) 32) (by simp [bys]) (fun i hi => by rw [Nat.zero_add]; exact hz.cell i hi) 9 Try.underlying9
    clear hbz hz
    have w3B := Lib.hid (bthen w2B.out hb3 (by have := w2B.out.size; omega))
    have Haw3 := Lib.hid (Haw2.out.on hb3)
    have Hbw3 := Lib.hid (Hbw2.out.on hb3)
    clear ca0 ca1 ca2 ca3 za cb0 cb1 cb2 cb3 zb
    clear hb3
    obtain ⟨ca0, ca1, ca2, ca3⟩ := Haw3.out.cell
    have za := Haw3.out.lt
    obtain ⟨cb0, cb1, cb2, cb3⟩ := Hbw3.out.cell
    have zb := Hbw3.out.lt
    go_wp2_with fail
    clear cvz
    refine ((Sub_any HA.out HB.out) _).mono ?_
    rintro e w4 ⟨s0, s1, s2, s3, es, rfl, ⟨ds, hs⟩, hbw4⟩
    have w4B := Lib.hid (bthen w3B.out hbw4 (by have := w3B.out.size; omega))
    have Haw4 := Lib.hid (Haw3.out.on hbw4)
    have Hbw4 := Lib.hid (Hbw3.out.on hbw4)
    clear ca0 ca1 ca2 ca3 za cb0 cb1 cb2 cb3 zb
    clear hbw4
    obtain ⟨ca0, ca1, ca2, ca3⟩ := Haw4.out.cell
    have za := Haw4.out.lt
    obtain ⟨cb0, cb1, cb2, cb3⟩ := Hbw4.out.cell
    have zb := Hbw4.out.lt
    obtain rfl : es = 31 := by have := Hc.out; omega
    clear hs ds
    go_wp2_with fail
    refine (num_any _ _).mono ?_
    rintro e wn ⟨rfl, rfl⟩
    go_wp2_with fail
    refine (Compare_any HB.out HA.out _).mono ?_
    rintro e w5 ⟨rfl, hb5⟩
    rw [c2.out]
    have w5B := Lib.hid (bthen (Below.alloc w4B.out (by have := w4B.out.size; omega) _) hb5 (by have := w4B.out.size; simp; omega))
    have Haw5 := Lib.hid ((Haw4.out.alloc _).on hb5)
    have Hbw5 := Lib.hid ((Hbw4.out.alloc _).on hb5)
    have Hsw5 := Lib.hid ((At4.new w4 s0 s1 s2 s3).on hb5)
    clear ca0 ca1 ca2 ca3 za cb0 cb1 cb2 cb3 zb
    clear hb5
    obtain ⟨ca0, ca1, ca2, ca3⟩ := Haw5.out.cell
    have za := Haw5.out.lt
    obtain ⟨cb0, cb1, cb2, cb3⟩ := Hbw5.out.cell
    have zb := Hbw5.out.lt
    obtain ⟨cs0, cs1, cs2, cs3⟩ := Hsw5.out.cell
    have zs := Hsw5.out.lt
    go_wp2_with fail
    refine (knows_any _).mono ?_
    rintro e wk1 ⟨rfl, hbk⟩
    have wk1B := Lib.hid (bthen w5B.out hbk (by have := w5B.out.size; omega))
    have Hawk1 := Lib.hid (Haw5.out.on hbk)
    have Hbwk1 := Lib.hid (Hbw5.out.on hbk)
    have Hswk1 := Lib.hid (Hsw5.out.on hbk)
    clear ca0 ca1 ca2 ca3 za cb0 cb1 cb2 cb3 zb cs0 cs1 cs2 cs3 zs
    clear hbk
    obtain ⟨ca0, ca1, ca2, ca3⟩ := Hawk1.out.cell
    have za := Hawk1.out.lt
    obtain ⟨cb0, cb1, cb2, cb3⟩ := Hbwk1.out.cell
    have zb := Hbwk1.out.lt
    obtain ⟨cs0, cs1, cs2, cs3⟩ := Hswk1.out.cell
    have zs := Hswk1.out.lt
    go_wp2_with fail
    go_ret
    exact ⟨rfl, wk1B.out⟩
  · obtain ⟨rfl, rfl, rfl, rfl⟩ := V_inj ha hb hc
    have c1 : Hid (cmp (V a0 a1 a2 a3) (V a0 a1 a2 a3) = 0) := by unfold cmp Hid; rw [if_neg (by omega), if_pos rfl]
    have c2 := c1
    have less : Op.bytesLess (strOfNums (bys (V a0 a1 a2 a3) 32)).toList (strOfNums (bys (V a0 a1 a2 a3) 32)).toList = false := by rw [text_less las uas lbs ubs]; exact decide_eq_false (by omega)
    have heq := @eq4_true a0 a1 a2 a3
    have Hc := Lib.hid hc
    clear hc ha hb las lbs uas ubs
    go_enter Try.func8, Try.ntmps8
    go_wp2_with fail
    refine (Compare_any HA.out HB.out _).mono ?_
    rintro e w1 ⟨rfl, hb1⟩
    rw [c1.out]
    have w1B := Lib.hid (bthen (show Below w.heap.size w ((w.alloc (.cells #[.int .u64 a0, .int .u64 a1, .int .u64 a2, .int .u64 a3] 24)).alloc (.cells #[.int .u64 a0, .int .u64 a1, .int .u64 a2, .int .u64 a3] 24)) by repeat (first | with_reducible exact Below.refl _ _ | with_reducible refine Below.alloc ?_ (by simp; try omega) _)) hb1 (by simp; try omega))
    have Haw1 : Hid (At4 w1 (w.heap.size) a0 a1 a2 a3) := (show At4 ((w.alloc (.cells #[.int .u64 a0, .int .u64 a1, .int .u64 a2, .int .u64 a3] 24)).alloc (.cells #[.int .u64 a0, .int .u64 a1, .int .u64 a2, .int .u64 a3] 24)) (w.heap.size) a0 a1 a2 a3 by simpa using ((At4.new w a0 a1 a2 a3).alloc _)).on hb1
    have Hbw1 : Hid (At4 w1 (w.heap.size + 1) a0 a1 a2 a3) := (show At4 ((w.alloc (.cells #[.int .u64 a0, .int .u64 a1, .int .u64 a2, .int .u64 a3] 24)).alloc (.cells #[.int .u64 a0, .int .u64 a1, .int .u64 a2, .int .u64 a3] 24)) (w.heap.size + 1) a0 a1 a2 a3 by simpa using (At4.new (w.alloc (.cells #[.int .u64 a0, .int .u64 a1, .int .u64 a2, .int .u64 a3] 24)) a0 a1 a2 a3)).on hb1
    clear hb1
    obtain ⟨ca0, ca1, ca2, ca3⟩ := Haw1.out.cell
    have za := Haw1.out.lt
    obtain ⟨cb0, cb1, cb2, cb3⟩ := Hbw1.out.cell
    have zb := Hbw1.out.lt
    go_wp2_with fail
    refine (Bytes_any HA.out _).mono ?_
    rintro e w2 ⟨bx, rfl, hbx, hx, hb2⟩
    have cvx := run_convert_bytes_arg (P := Try.prog) w2 42 5 Try.underlying42 Try.underlying5 bx 0 32 32 (bys (V a0 a1 a2 a3) 32) (by simp [bys]) (fun i hi => by rw [Nat.zero_add]; exact hx.cell i hi) 9 Try.underlying9
    clear hbx hx
    have w2B := Lib.hid (bthen w1B.out hb2 (by have := w1B.out.size; omega))
    have Haw2 := Lib.hid (Haw1.out.on hb2)
    have Hbw2 := Lib.hid (Hbw1.out.on hb2)
    clear ca0 ca1 ca2 ca3 za cb0 cb1 cb2 cb3 zb
    clear hb2
    obtain ⟨ca0, ca1, ca2, ca3⟩ := Haw2.out.cell
    have za := Haw2.out.lt
    obtain ⟨cb0, cb1, cb2, cb3⟩ := Hbw2.out.cell
    have zb := Hbw2.out.lt
    go_wp2_with fail
    clear cvx
    refine (Bytes_any HB.out _).mono ?_
    rintro e w3 ⟨bz, rfl, hbz, hz, hb3⟩
    have cvz := run_convert_bytes_arg (P := Try.prog) w3 42 5 Try.underlying42 Try.underlying5 bz 0 32 32 (bys (V a0 a1 a2 a3) 32) (by simp [bys]) (fun i hi => by rw [Nat.zero_add]; exact hz.cell i hi) 9 Try.underlying9
    clear hbz hz
    have w3B := Lib.hid (bthen w2B.out hb3 (by have := w2B.out.size; omega))
    have Haw3 := Lib.hid (Haw2.out.on hb3)
    have Hbw3 := Lib.hid (Hbw2.out.on hb3)
    clear ca0 ca1 ca2 ca3 za cb0 cb1 cb2 cb3 zb
    clear hb3
    obtain ⟨ca0, ca1, ca2, ca3⟩ := Haw3.out.cell
    have za := Haw3.out.lt
    obtain ⟨cb0, cb1, cb2, cb3⟩ := Hbw3.out.cell
    have zb := Hbw3.out.lt
    go_wp2_with fail
    clear cvz
    refine ((Sub_any HA.out HB.out) _).mono ?_
    rintro e w4 ⟨s0, s1, s2, s3, es, rfl, ⟨ds, hs⟩, hbw4⟩
    have w4B := Lib.hid (bthen w3B.out hbw4 (by have := w3B.out.size; omega))
    have Haw4 := Lib.hid (Haw3.out.on hbw4)
    have Hbw4 := Lib.hid (Hbw3.out.on hbw4)
    clear ca0 ca1 ca2 ca3 za cb0 cb1 cb2 cb3 zb
    clear hbw4
    obtain ⟨ca0, ca1, ca2, ca3⟩ := Haw4.out.cell
    have za := Haw4.out.lt
    obtain ⟨cb0, cb1, cb2, cb3⟩ := Hbw4.out.cell
    have zb := Hbw4.out.lt
    obtain rfl : es = 0 := by have := Hc.out; omega
    clear hs ds
    go_wp2_with fail
    refine (num_any _ _).mono ?_
    rintro e wn ⟨rfl, rfl⟩
    go_wp2_with fail
    refine (Compare_any HB.out HA.out _).mono ?_
    rintro e w5 ⟨rfl, hb5⟩
    rw [c2.out]
    have w5B := Lib.hid (bthen (Below.alloc w4B.out (by have := w4B.out.size; omega) _) hb5 (by have := w4B.out.size; simp; omega))
    have Haw5 := Lib.hid ((Haw4.out.alloc _).on hb5)
    have Hbw5 := Lib.hid ((Hbw4.out.alloc _).on hb5)
    have Hsw5 := Lib.hid ((At4.new w4 s0 s1 s2 s3).on hb5)
    clear ca0 ca1 ca2 ca3 za cb0 cb1 cb2 cb3 zb
    clear hb5
    obtain ⟨ca0, ca1, ca2, ca3⟩ := Haw5.out.cell
    have za := Haw5.out.lt
    obtain ⟨cb0, cb1, cb2, cb3⟩ := Hbw5.out.cell
    have zb := Hbw5.out.lt
    obtain ⟨cs0, cs1, cs2, cs3⟩ := Hsw5.out.cell
    have zs := Hsw5.out.lt
    go_wp2_with fail
    refine (knows_any _).mono ?_
    rintro e wk1 ⟨rfl, hbk⟩
    have wk1B := Lib.hid (bthen w5B.out hbk (by have := w5B.out.size; omega))
    have Hawk1 := Lib.hid (Haw5.out.on hbk)
    have Hbwk1 := Lib.hid (Hbw5.out.on hbk)
    have Hswk1 := Lib.hid (Hsw5.out.on hbk)
    clear ca0 ca1 ca2 ca3 za cb0 cb1 cb2 cb3 zb cs0 cs1 cs2 cs3 zs
    clear hbk
    obtain ⟨ca0, ca1, ca2, ca3⟩ := Hawk1.out.cell
    have za := Hawk1.out.lt
    obtain ⟨cb0, cb1, cb2, cb3⟩ := Hbwk1.out.cell
    have zb := Hbwk1.out.lt
    obtain ⟨cs0, cs1, cs2, cs3⟩ := Hswk1.out.cell
    have zs := Hswk1.out.lt
    go_wp2_with fail
    go_ret
    exact ⟨rfl, wk1B.out⟩
  · have c1 : Hid (cmp (V a0 a1 a2 a3) (V b0 b1 b2 b3) = 1) := by unfold cmp Hid; rw [if_neg (by omega), if_neg (by omega)]
    have c2 : Hid (cmp (V b0 b1 b2 b3) (V a0 a1 a2 a3) = -1) := by unfold cmp Hid; rw [if_pos hc]
    have less : Op.bytesLess (strOfNums (bys (V a0 a1 a2 a3) 32)).toList (strOfNums (bys (V b0 b1 b2 b3) 32)).toList = false := by rw [text_less las uas lbs ubs]; exact decide_eq_false (by omega)
    have heq := eq4_false (V_ne (Int.ne_of_gt hc))
    have Hc := Lib.hid hc
    clear hc ha hb las lbs uas ubs
    go_enter Try.func8, Try.ntmps8
    go_wp2_with fail
    refine (Compare_any HA.out HB.out _).mono ?_
    rintro e w1 ⟨rfl, hb1⟩
    rw [c1.out]
    have w1B := Lib.hid (bthen (show Below w.heap.size w ((w.alloc (.cells #[.int .u64 a0, .int .u64 a1, .int .u64 a2, .int .u64 a3] 24)).alloc (.cells #[.int .u64 b0, .int .u64 b1, .int .u64 b2, .int .u64 b3] 24)) by repeat (first | with_reducible exact Below.refl _ _ | with_reducible refine Below.alloc ?_ (by simp; try omega) _)) hb1 (by simp; try omega))
    have Haw1 : Hid (At4 w1 (w.heap.size) a0 a1 a2 a3) := (show At4 ((w.alloc (.cells #[.int .u64 a0, .int .u64 a1, .int .u64 a2, .int .u64 a3] 24)).alloc (.cells #[.int .u64 b0, .int .u64 b1, .int .u64 b2, .int .u64 b3] 24)) (w.heap.size) a0 a1 a2 a3 by simpa using ((At4.new w a0 a1 a2 a3).alloc _)).on hb1
    have Hbw1 : Hid (At4 w1 (w.heap.size + 1) b0 b1 b2 b3) := (show At4 ((w.alloc (.cells #[.int .u64 a0, .int .u64 a1, .int .u64 a2, .int .u64 a3] 24)).alloc (.cells #[.int .u64 b0, .int .u64 b1, .int .u64 b2, .int .u64 b3] 24)) (w.heap.size + 1) b0 b1 b2 b3 by simpa using (At4.new (w.alloc (.cells #[.int .u64 a0, .int .u64 a1, .int .u64 a2, .int .u64 a3] 24)) b0 b1 b2 b3)).on hb1
    clear hb1
    obtain ⟨ca0, ca1, ca2, ca3⟩ := Haw1.out.cell
    have za := Haw1.out.lt
    obtain ⟨cb0, cb1, cb2, cb3⟩ := Hbw1.out.cell
    have zb := Hbw1.out.lt
    go_wp2_with fail
    refine (Bytes_any HA.out _).mono ?_
    rintro e w2 ⟨bx, rfl, hbx, hx, hb2⟩
    have cvx := run_convert_bytes_arg (P := Try.prog) w2 42 5 Try.underlying42 Try.underlying5 bx 0 32 32 (bys (V a0 a1 a2 a3) 32) (by simp [bys]) (fun i hi => by rw [Nat.zero_add]; exact hx.cell i hi) 9 Try.underlying9
    clear hbx hx
    have w2B := Lib.hid (bthen w1B.out hb2 (by have := w1B.out.size; omega))
    have Haw2 := Lib.hid (Haw1.out.on hb2)
    have Hbw2 := Lib.hid (Hbw1.out.on hb2)
    clear ca0 ca1 ca2 ca3 za cb0 cb1 cb2 cb3 zb
    clear hb2
    obtain ⟨ca0, ca1, ca2, ca3⟩ := Haw2.out.cell
    have za := Haw2.out.lt
    obtain ⟨cb0, cb1, cb2, cb3⟩ := Hbw2.out.cell
    have zb := Hbw2.out.lt
    go_wp2_with fail
    clear cvx
    refine (Bytes_any HB.out _).mono ?_
    rintro e w3 ⟨bz, rfl, hbz, hz, hb3⟩
    have cvz := run_convert_bytes_arg (P := Try.prog) w3 42 5 Try.underlying42 Try.underlying5 bz 0 32 32 (bys (V b0 b1 b2 b3) 32) (by simp [bys]) (fun i hi => by rw [Nat.zero_add]; exact hz.cell i hi) 9 Try.underlying9
    clear hbz hz
    have w3B := Lib.hid (bthen w2B.out hb3 (by have := w2B.out.size; omega))
    have Haw3 := Lib.hid (Haw2.out.on hb3)
    have Hbw3 := Lib.hid (Hbw2.out.on hb3)
    clear ca0 ca1 ca2 ca3 za cb0 cb1 cb2 cb3 zb
    clear hb3
    obtain ⟨ca0, ca1, ca2, ca3⟩ := Haw3.out.cell
    have za := Haw3.out.lt
    obtain ⟨cb0, cb1, cb2, cb3⟩ := Hbw3.out.cell
    have zb := Hbw3.out.lt
    go_wp2_with fail
    clear cvz
    refine ((Sub_any HA.out HB.out) _).mono ?_
    rintro e w4 ⟨s0, s1, s2, s3, es, rfl, ⟨ds, hs⟩, hbw4⟩
    have w4B := Lib.hid (bthen w3B.out hbw4 (by have := w3B.out.size; omega))
    have Haw4 := Lib.hid (Haw3.out.on hbw4)
    have Hbw4 := Lib.hid (Hbw3.out.on hbw4)
    clear ca0 ca1 ca2 ca3 za cb0 cb1 cb2 cb3 zb
    clear hbw4
    obtain ⟨ca0, ca1, ca2, ca3⟩ := Haw4.out.cell
    have za := Haw4.out.lt
    obtain ⟨cb0, cb1, cb2, cb3⟩ := Hbw4.out.cell
    have zb := Hbw4.out.lt
    obtain rfl : es = 0 := by have := Hc.out; omega
    clear hs ds
    go_wp2_with fail
    refine (num_any _ _).mono ?_
    rintro e wn ⟨rfl, rfl⟩
    go_wp2_with fail
    refine (Compare_any HB.out HA.out _).mono ?_
    rintro e w5 ⟨rfl, hb5⟩
    rw [c2.out]
    have w5B := Lib.hid (bthen (Below.alloc w4B.out (by have := w4B.out.size; omega) _) hb5 (by have := w4B.out.size; simp; omega))
    have Haw5 := Lib.hid ((Haw4.out.alloc _).on hb5)
    have Hbw5 := Lib.hid ((Hbw4.out.alloc _).on hb5)
    have Hsw5 := Lib.hid ((At4.new w4 s0 s1 s2 s3).on hb5)
    clear ca0 ca1 ca2 ca3 za cb0 cb1 cb2 cb3 zb
    clear hb5
    obtain ⟨ca0, ca1, ca2, ca3⟩ := Haw5.out.cell
    have za := Haw5.out.lt
    obtain ⟨cb0, cb1, cb2, cb3⟩ := Hbw5.out.cell
    have zb := Hbw5.out.lt
    obtain ⟨cs0, cs1, cs2, cs3⟩ := Hsw5.out.cell
    have zs := Hsw5.out.lt
    go_wp2_with fail
    refine (knows_any _).mono ?_
    rintro e wk1 ⟨rfl, hbk⟩
    have wk1B := Lib.hid (bthen w5B.out hbk (by have := w5B.out.size; omega))
    have Hawk1 := Lib.hid (Haw5.out.on hbk)
    have Hbwk1 := Lib.hid (Hbw5.out.on hbk)
    have Hswk1 := Lib.hid (Hsw5.out.on hbk)
    clear ca0 ca1 ca2 ca3 za cb0 cb1 cb2 cb3 zb cs0 cs1 cs2 cs3 zs
    clear hbk
    obtain ⟨ca0, ca1, ca2, ca3⟩ := Hawk1.out.cell
    have za := Hawk1.out.lt
    obtain ⟨cb0, cb1, cb2, cb3⟩ := Hbwk1.out.cell
    have zb := Hbwk1.out.lt
    obtain ⟨cs0, cs1, cs2, cs3⟩ := Hswk1.out.cell
    have zs := Hswk1.out.lt
    go_wp2_with fail
    go_ret
    exact ⟨rfl, wk1B.out⟩

set_option maxRecDepth 100000 in
theorem WideOrder_lifted (os : Os) (started : os.Started) (H : Type) (enc : TypeId × Value → H) :
    ReturnsInHanded {} Try.checked os 8 .any (Rows.wideOrderSpec.pre6 enc Try.prog Try.f8 Rows.wideOrderRow.domain false) (Rows.wideOrderSpec.post enc Try.prog Try.f8 false true false false) := by
  refine returnsInHanded_of_change (C := Try.checked) Try.ownNone started (by kernel_rfl) Try.func8
    (ChangeSpec.witness6 (enc := enc) (C := Try.checked) false ⟨#[], #[.agg #[.int .u64 0, .int .u64 0, .int .u64 0, .int .u64 0], .agg #[.int .u64 0, .int .u64 0, .int .u64 0, .int .u64 0]], []⟩ 8 (by kernel_rfl) (by kernel_rfl) (by kernel_rfl) (by kernel_rfl)) ?_
  intro W base args ds gs before hval0 hW hcnd _
  have hval : ∀ (j : Nat) t v, Try.f8.params[j]? = some t → args[j]? = some v → Value.okWide Try.prog W .any base t v := hval0
  have hW' := hW
  obtain ⟨p, q, hA0, hV, rfl, hfz, hnd⟩ := hW
  have hA : DataW.TrodAll enc Try.prog W 0 (fun _ => true) true Try.f8.params.toList args.toList ds p := hA0
  rw [Try.params8] at hA hval
  obtain ⟨v0, v1, d0, d1, p0, p1, rfl, rfl, rfl, h0, h1⟩ := trodAll_two hA
  obtain ⟨a0, a1, a2, a3, rfl, ha⟩ := open_wide Try.underlying24 Try.underlying22 Try.wide4Cells Try.wideCells (hval 0 24 v0 rfl rfl) h0
  obtain ⟨b0, b1, b2, b3, rfl, hb⟩ := open_wide Try.underlying24 Try.underlying22 Try.wide4Cells Try.wideCells (hval 1 24 v1 rfl rfl) h1
  refine (WideOrder_walk ha hb W).mono fun e W' ⟨he, hw⟩ => ?_
  subst he
  exact ⟨_, rfl, law_post (tb := 4) Try.laidOutTrue hW' rfl (by kernel_rfl) (by kernel_rfl) Try.underlying4 rfl rfl rfl hw⟩

theorem WideOrder_holds : Rows.WideOrderSaid :=
  OpenClaim.holds_of_wide 8 Try.f8 rfl rfl rfl rfl rfl rfl rfl ⟨rfl, rfl, rfl, rfl, rfl⟩ rfl rfl rfl rfl rfl (by kernel_rfl) Try.func8 (by kernel_rfl)
    (of_decide_eq_true (by kernel_rfl)) (by unfold Func.isWrapper; rw [if_neg (of_decide_eq_false (by kernel_rfl))]; exact ⟨rfl, rfl⟩)
    (fun os started H enc _ => WideOrder_lifted os started H enc)
end Go.Proofs.Ytgfdadcbendmbaa
