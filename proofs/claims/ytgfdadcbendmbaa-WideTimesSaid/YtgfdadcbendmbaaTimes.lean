/-
  WideTimes returns true for every two numbers, and leaves its arguments: every product, quotient and rest is the document's. No condition.
-/
import Derived.Test.YtgfdadcbendmbaaRefMul
import Derived.Test.YtgfdadcbendmbaaRefDiv
import Derived.Test.YtgfdadcbendmbaaMul
import Derived.Test.YtgfdadcbendmbaaParts
namespace Go.Proofs.Ytgfdadcbendmbaa
open Go.ChangeShapes Go.WideShapes Go.ChangeAt Go.RowKit

theorem mul_same {P X Y c d : Int} (hx : (P < M ∧ c = 0 ∧ X = P) ∨ (M ≤ P ∧ c = 30 ∧ X = 0)) (hy : (P < M ∧ d = 0 ∧ Y = P) ∨ (M ≤ P ∧ d = 30 ∧ Y = 0)) : c = d ∧ X = Y := by
  generalize M = m at *
  omega
theorem div_same {a b q r c p s d : Int} (h : (b = 0 ∧ c = 32 ∧ q = 0 ∧ r = 0) ∨ (b ≠ 0 ∧ c = 0 ∧ a = q * b + r ∧ r < b)) (k : (b = 0 ∧ d = 32 ∧ p = 0 ∧ s = 0) ∨ (b ≠ 0 ∧ d = 0 ∧ a = p * b + s ∧ s < b)) (r0 : 0 ≤ r) (s0 : 0 ≤ s) : q = p ∧ r = s ∧ c = d := by
  rcases h with ⟨hb, hc, hq, hr⟩ | ⟨hb, hc, hq, hr⟩
  · rcases k with ⟨_, kc, kq, kr⟩ | ⟨kb, _⟩
    · omega
    · exact absurd hb kb
  · rcases k with ⟨kb, _⟩ | ⟨_, kc, kq, kr⟩
    · exact absurd kb hb
    · have e1 : a / b = q := by
        rw [hq, Int.add_comm, Int.add_mul_ediv_right _ _ hb, Int.ediv_eq_zero_of_lt r0 hr, Int.zero_add]
      have e2 : a / b = p := by
        rw [kq, Int.add_comm, Int.add_mul_ediv_right _ _ hb, Int.ediv_eq_zero_of_lt s0 kr, Int.zero_add]
      have e : q = p := e1.symm.trans e2
      subst e
      omega

set_option maxHeartbeats 4000000 in
theorem WideTimes_walk {a0 a1 a2 a3 b0 b1 b2 b3 : Int} (ha : D4 a0 a1 a2 a3) (hb : D4 b0 b1 b2 b3) (w : World) :
    Calls Try.prog 4 #[.agg #[.int .u64 a0, .int .u64 a1, .int .u64 a2, .int .u64 a3], .agg #[.int .u64 b0, .int .u64 b1, .int .u64 b2, .int .u64 b3]] w fun e w' => e = .returned (.bool true) ∧ Below w.heap.size w w' := by
  have HA := Lib.hid ha
  have HB := Lib.hid hb
  clear ha hb
  go_enter Try.func4, Try.ntmps4
  go_wp2_with fail
  refine ((Mul_any HA.out HB.out) _).mono ?_
  rintro e w1 ⟨x0, x1, x2, x3, ex, rfl, ⟨dx, hx⟩, hbw1⟩
  have w1B := Lib.hid (bthen (show Below w.heap.size w ((w.alloc (.cells #[.int .u64 a0, .int .u64 a1, .int .u64 a2, .int .u64 a3] 24)).alloc (.cells #[.int .u64 b0, .int .u64 b1, .int .u64 b2, .int .u64 b3] 24)) by repeat (first | with_reducible exact Below.refl _ _ | with_reducible refine Below.alloc ?_ (by simp; try omega) _)) hbw1 (by simp; try omega))
  have Haw1 : Hid (At4 w1 (w.heap.size) a0 a1 a2 a3) := (show At4 ((w.alloc (.cells #[.int .u64 a0, .int .u64 a1, .int .u64 a2, .int .u64 a3] 24)).alloc (.cells #[.int .u64 b0, .int .u64 b1, .int .u64 b2, .int .u64 b3] 24)) (w.heap.size) a0 a1 a2 a3 by simpa using ((At4.new w a0 a1 a2 a3).alloc _)).on hbw1
  have Hbw1 : Hid (At4 w1 (w.heap.size + 1) b0 b1 b2 b3) := (show At4 ((w.alloc (.cells #[.int .u64 a0, .int .u64 a1, .int .u64 a2, .int .u64 a3] 24)).alloc (.cells #[.int .u64 b0, .int .u64 b1, .int .u64 b2, .int .u64 b3] 24)) (w.heap.size + 1) b0 b1 b2 b3 by simpa using (At4.new (w.alloc (.cells #[.int .u64 a0, .int .u64 a1, .int .u64 a2, .int .u64 a3] 24)) b0 b1 b2 b3)).on hbw1
  clear hbw1
  obtain ⟨ca0, ca1, ca2, ca3⟩ := Haw1.out.cell
  have za := Haw1.out.lt
  obtain ⟨cb0, cb1, cb2, cb3⟩ := Hbw1.out.cell
  have zb := Hbw1.out.lt
  have HX := Lib.hid hx
  have DX := Lib.hid dx
  clear hx dx
  go_wp2_with fail
  refine ((refMul_any HA.out HB.out) _).mono ?_
  rintro e w2 ⟨y0, y1, y2, y3, ey, rfl, ⟨dy, hy⟩, hbw2⟩
  have w2B := Lib.hid (bthen (Below.alloc w1B.out (by have := w1B.out.size; omega) _) hbw2 (by have := w1B.out.size; simp; omega))
  have Haw2 := Lib.hid ((Haw1.out.alloc _).on hbw2)
  have Hbw2 := Lib.hid ((Hbw1.out.alloc _).on hbw2)
  have Hxw2 := Lib.hid ((At4.new w1 x0 x1 x2 x3).on hbw2)
  clear ca0 ca1 ca2 ca3 za cb0 cb1 cb2 cb3 zb
  clear hbw2
  obtain ⟨ca0, ca1, ca2, ca3⟩ := Haw2.out.cell
  have za := Haw2.out.lt
  obtain ⟨cb0, cb1, cb2, cb3⟩ := Hbw2.out.cell
  have zb := Hbw2.out.lt
  obtain ⟨cx0, cx1, cx2, cx3⟩ := Hxw2.out.cell
  have zx := Hxw2.out.lt
  obtain ⟨rfl, hv⟩ := mul_same HX.out hy
  obtain ⟨rfl, rfl, rfl, rfl⟩ := V_inj DX.out dy hv
  clear hv hy dy HX DX
  go_wp2_with fail
  refine (Div_any HA.out HB.out _).mono ?_
  rintro e w3 ⟨p0, p1, p2, p3, u0, u1, u2, u3, eg, rfl, dp, du, hG, hb3⟩
  have HG := Lib.hid hG
  have DP := Lib.hid dp
  have DU := Lib.hid du
  clear hG dp du
  have w3B := Lib.hid (bthen (Below.alloc w2B.out (by have := w2B.out.size; omega) _) hb3 (by have := w2B.out.size; simp; omega))
  have Haw3 := Lib.hid ((Haw2.out.alloc _).on hb3)
  have Hbw3 := Lib.hid ((Hbw2.out.alloc _).on hb3)
  have Hxw3 := Lib.hid ((Hxw2.out.alloc _).on hb3)
  have Hyw3 := Lib.hid ((At4.new w2 x0 x1 x2 x3).on hb3)
  clear ca0 ca1 ca2 ca3 za cb0 cb1 cb2 cb3 zb cx0 cx1 cx2 cx3 zx
  clear hb3
  obtain ⟨ca0, ca1, ca2, ca3⟩ := Haw3.out.cell
  have za := Haw3.out.lt
  obtain ⟨cb0, cb1, cb2, cb3⟩ := Hbw3.out.cell
  have zb := Hbw3.out.lt
  obtain ⟨cx0, cx1, cx2, cx3⟩ := Hxw3.out.cell
  have zx := Hxw3.out.lt
  obtain ⟨cy0, cy1, cy2, cy3⟩ := Hyw3.out.cell
  have zy := Hyw3.out.lt
  go_wp2_with fail
  refine (refDiv_any HA.out HB.out _).mono ?_
  rintro e w4 ⟨r0, r1, r2, r3, s0, s1, s2, s3, eh, rfl, dr, ds, hH, hb4⟩
  obtain ⟨hq, hs, rfl⟩ := div_same HG.out hH (V_lo DU.out) (V_lo ds)
  obtain ⟨rfl, rfl, rfl, rfl⟩ := V_inj DP.out dr hq
  obtain ⟨rfl, rfl, rfl, rfl⟩ := V_inj DU.out ds hs
  clear hq hs hH dr ds HG DP DU
  have w4B := Lib.hid (bthen (Below.alloc (Below.alloc w3B.out (by have := w3B.out.size; omega) _) (by have := w3B.out.size; simp; omega) _) hb4 (by have := w3B.out.size; simp; omega))
  have Haw4 := Lib.hid (((Haw3.out.alloc _).alloc _).on hb4)
  have Hbw4 := Lib.hid (((Hbw3.out.alloc _).alloc _).on hb4)
  have Hxw4 := Lib.hid (((Hxw3.out.alloc _).alloc _).on hb4)
  have Hyw4 := Lib.hid (((Hyw3.out.alloc _).alloc _).on hb4)
  have Hpw4 := Lib.hid (((At4.new w3 p0 p1 p2 p3).alloc _).on hb4)
  have Huw4 : Hid (At4 w4 (w3.heap.size + 1) u0 u1 u2 u3) := (show At4 ((w3.alloc (.cells #[.int .u64 p0, .int .u64 p1, .int .u64 p2, .int .u64 p3] 24)).alloc (.cells #[.int .u64 u0, .int .u64 u1, .int .u64 u2, .int .u64 u3] 24)) (w3.heap.size + 1) u0 u1 u2 u3 by simpa using (At4.new (w3.alloc (.cells #[.int .u64 p0, .int .u64 p1, .int .u64 p2, .int .u64 p3] 24)) u0 u1 u2 u3)).on hb4
  clear ca0 ca1 ca2 ca3 za cb0 cb1 cb2 cb3 zb cx0 cx1 cx2 cx3 zx cy0 cy1 cy2 cy3 zy
  clear hb4
  obtain ⟨ca0, ca1, ca2, ca3⟩ := Haw4.out.cell
  have za := Haw4.out.lt
  obtain ⟨cb0, cb1, cb2, cb3⟩ := Hbw4.out.cell
  have zb := Hbw4.out.lt
  obtain ⟨cx0, cx1, cx2, cx3⟩ := Hxw4.out.cell
  have zx := Hxw4.out.lt
  obtain ⟨cy0, cy1, cy2, cy3⟩ := Hyw4.out.cell
  have zy := Hyw4.out.lt
  obtain ⟨cp0, cp1, cp2, cp3⟩ := Hpw4.out.cell
  have zp := Hpw4.out.lt
  obtain ⟨cu0, cu1, cu2, cu3⟩ := Huw4.out.cell
  have zu := Huw4.out.lt
  have h1 := @eq4_true x0 x1 x2 x3
  have h2 := @eq4_true p0 p1 p2 p3
  have h3 := @eq4_true u0 u1 u2 u3
  go_wp2_with fail
  refine (num_any _ _).mono ?_
  rintro e wn ⟨rfl, rfl⟩
  go_wp2_with fail
  refine (num_any _ _).mono ?_
  rintro e wn ⟨rfl, rfl⟩
  go_wp2_with fail
  refine (knows_any _).mono ?_
  rintro e wk1 ⟨rfl, hbk⟩
  have wk1B := Lib.hid (bthen (Below.alloc (Below.alloc w4B.out (by have := w4B.out.size; omega) _) (by have := w4B.out.size; simp; omega) _) hbk (by have := w4B.out.size; simp; omega))
  have Hawk1 := Lib.hid (((Haw4.out.alloc _).alloc _).on hbk)
  have Hbwk1 := Lib.hid (((Hbw4.out.alloc _).alloc _).on hbk)
  have Hxwk1 := Lib.hid (((Hxw4.out.alloc _).alloc _).on hbk)
  have Hywk1 := Lib.hid (((Hyw4.out.alloc _).alloc _).on hbk)
  have Hpwk1 := Lib.hid (((Hpw4.out.alloc _).alloc _).on hbk)
  have Huwk1 := Lib.hid (((Huw4.out.alloc _).alloc _).on hbk)
  have Hrwk1 := Lib.hid (((At4.new w4 p0 p1 p2 p3).alloc _).on hbk)
  have Hswk1 : Hid (At4 wk1 (w4.heap.size + 1) u0 u1 u2 u3) := (show At4 ((w4.alloc (.cells #[.int .u64 p0, .int .u64 p1, .int .u64 p2, .int .u64 p3] 24)).alloc (.cells #[.int .u64 u0, .int .u64 u1, .int .u64 u2, .int .u64 u3] 24)) (w4.heap.size + 1) u0 u1 u2 u3 by simpa using (At4.new (w4.alloc (.cells #[.int .u64 p0, .int .u64 p1, .int .u64 p2, .int .u64 p3] 24)) u0 u1 u2 u3)).on hbk
  clear ca0 ca1 ca2 ca3 za cb0 cb1 cb2 cb3 zb cx0 cx1 cx2 cx3 zx cy0 cy1 cy2 cy3 zy cp0 cp1 cp2 cp3 zp cu0 cu1 cu2 cu3 zu
  clear hbk
  obtain ⟨ca0, ca1, ca2, ca3⟩ := Hawk1.out.cell
  have za := Hawk1.out.lt
  obtain ⟨cb0, cb1, cb2, cb3⟩ := Hbwk1.out.cell
  have zb := Hbwk1.out.lt
  obtain ⟨cx0, cx1, cx2, cx3⟩ := Hxwk1.out.cell
  have zx := Hxwk1.out.lt
  obtain ⟨cy0, cy1, cy2, cy3⟩ := Hywk1.out.cell
  have zy := Hywk1.out.lt
  obtain ⟨cp0, cp1, cp2, cp3⟩ := Hpwk1.out.cell
  have zp := Hpwk1.out.lt
  obtain ⟨cu0, cu1, cu2, cu3⟩ := Huwk1.out.cell
  have zu := Huwk1.out.lt
  obtain ⟨cr0, cr1, cr2, cr3⟩ := Hrwk1.out.cell
  have zr := Hrwk1.out.lt
  obtain ⟨cs0, cs1, cs2, cs3⟩ := Hswk1.out.cell
  have zs := Hswk1.out.lt
  go_wp2_with fail
  go_ret
  exact ⟨rfl, wk1B.out⟩

set_option maxRecDepth 100000 in
theorem WideTimes_lifted (os : Os) (started : os.Started) (H : Type) (enc : TypeId × Value → H) :
    ReturnsInHanded {} Try.checked os 4 .any (Rows.wideTimesSpec.pre6 enc Try.prog Try.f4 Rows.wideTimesRow.domain false) (Rows.wideTimesSpec.post enc Try.prog Try.f4 false true false false) := by
  refine returnsInHanded_of_change (C := Try.checked) Try.ownNone started (by kernel_rfl) Try.func4
    (ChangeSpec.witness6 (enc := enc) (C := Try.checked) false ⟨#[], #[.agg #[.int .u64 0, .int .u64 0, .int .u64 0, .int .u64 0], .agg #[.int .u64 0, .int .u64 0, .int .u64 0, .int .u64 0]], []⟩ 8 (by kernel_rfl) (by kernel_rfl) (by kernel_rfl) (by kernel_rfl)) ?_
  intro W base args ds gs before hval0 hW hcnd _
  have hval : ∀ (j : Nat) t v, Try.f4.params[j]? = some t → args[j]? = some v → Value.okWide Try.prog W .any base t v := hval0
  have hW' := hW
  obtain ⟨p, q, hA0, hV, rfl, hfz, hnd⟩ := hW
  have hA : DataW.TrodAll enc Try.prog W 0 (fun _ => true) true Try.f4.params.toList args.toList ds p := hA0
  rw [Try.params4] at hA hval
  obtain ⟨v0, v1, d0, d1, p0, p1, rfl, rfl, rfl, h0, h1⟩ := trodAll_two hA
  obtain ⟨a0, a1, a2, a3, rfl, ha⟩ := open_wide Try.underlying24 Try.underlying22 Try.wide4Cells Try.wideCells (hval 0 24 v0 rfl rfl) h0
  obtain ⟨b0, b1, b2, b3, rfl, hb⟩ := open_wide Try.underlying24 Try.underlying22 Try.wide4Cells Try.wideCells (hval 1 24 v1 rfl rfl) h1
  refine (WideTimes_walk ha hb W).mono fun e W' ⟨he, hw⟩ => ?_
  subst he
  exact ⟨_, rfl, law_post (tb := 4) Try.laidOutTrue hW' rfl (by kernel_rfl) (by kernel_rfl) Try.underlying4 rfl rfl rfl hw⟩

theorem WideTimes_holds : Rows.WideTimesSaid :=
  OpenClaim.holds_of_wide 4 Try.f4 rfl rfl rfl rfl rfl rfl rfl ⟨rfl, rfl, rfl, rfl, rfl⟩ rfl rfl rfl rfl rfl (by kernel_rfl) Try.func4 (by kernel_rfl)
    (of_decide_eq_true (by kernel_rfl)) (by unfold Func.isWrapper; rw [if_neg (of_decide_eq_false (by kernel_rfl))]; exact ⟨rfl, rfl⟩)
    (fun os started H enc _ => WideTimes_lifted os started H enc)
end Go.Proofs.Ytgfdadcbendmbaa
