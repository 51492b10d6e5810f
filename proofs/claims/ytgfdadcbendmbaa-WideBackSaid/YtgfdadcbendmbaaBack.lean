/-
  WideBack returns true for every number and every string, and leaves its arguments: a number is read as it was written, both ways. No condition.
-/
import Derived.Test.YtgfdadcbendmbaaBackDv
import Derived.Test.YtgfdadcbendmbaaParts
namespace Go.Proofs.Ytgfdadcbendmbaa
open Go.ChangeShapes Go.WideShapes Go.ChangeAt Go.RowKit
open Go.WideMaps Go.WideElems
open Go.ChangeMaps (open_string)

theorem bys_at (N : Int) (i : Nat) (hi : i < 32) : (bys N 32).getD i 0 = by_ N (31 - i) := by simp [bys, List.getD, hi]
theorem str_small {N : Int} {L : Nat} (h0 : 0 ≤ N) (hN : N < M) (h : Len10 N L) : (strOfNums (dgs N L)).size ≤ maxLen := by
  have := len_le h0 hN h
  rw [size_str, dgs_len]; unfold maxLen; omega
theorem parse_print {N : Int} {L : Nat} (h0 : 0 ≤ N) (hN : N < M) (h : Len10 N L) {y0 y1 y2 y3 c : Int} (hP : ParseP (strOfNums (dgs N L)) y0 y1 y2 y3 c) : c = 0 ∧ V y0 y1 y2 y3 = N := by
  have hd := dec_dgs h0 hN h
  have hv := dv_dgs h.2.1 L (Nat.le_refl _)
  have e : N / 10 ^ (L - L) = N := by simp
  have hs : (strOfNums (dgs N L)).size = L := by rw [size_str, dgs_len]
  obtain ⟨_, ⟨_, _, hc, hV⟩ | ⟨_, ⟨hn, _⟩ | ⟨_, ho, _⟩⟩⟩ := hP
  · rw [hs, hv, e] at hV; exact ⟨hc, hV⟩
  · exact absurd hd hn
  · rw [hs, hv, e] at ho; omega
theorem parse_cases {s : ByteArray} {z0 z1 z2 z3 c : Int} (h : ParseP s z0 z1 z2 z3 c) : (c = 0 ∧ Dec s ∧ V z0 z1 z2 z3 = dv s s.size) ∨ c = 21 ∨ c = 30 := by
  obtain ⟨_, ⟨hd, _, hc, hV⟩ | ⟨_, ⟨_, hc⟩ | ⟨_, _, hc⟩⟩⟩ := h
  · exact Or.inl ⟨hc, hd, hV⟩
  · exact Or.inr (Or.inl hc)
  · exact Or.inr (Or.inr hc)

set_option maxHeartbeats 4000000 in
theorem WideBack_walk {a0 a1 a2 a3 : Int} {s : ByteArray} (ha : D4 a0 a1 a2 a3) (hs : s.size ≤ maxLen) (w : World) :
    Calls Try.prog 7 #[.agg #[.int .u64 a0, .int .u64 a1, .int .u64 a2, .int .u64 a3], .string s] w fun e w' => e = .returned (.bool true) ∧ Below w.heap.size w w' := by
  have HA := Lib.hid ha
  have N0 := Lib.hid (V_lo ha)
  have N1 := Lib.hid (V_hi ha)
  have heq := @eq4_true a0 a1 a2 a3
  have HS := Lib.hid hs
  clear ha hs
  go_enter Try.func7, Try.ntmps7
  go_wp2_with fail
  refine (Bytes_any HA.out _).mono ?_
  rintro e w1 ⟨bx, rfl, hbx, hx, hb1⟩
  have Hx := Lib.hid hx
  clear hbx hx
  have w1B := Lib.hid (bthen (show Below w.heap.size w (w.alloc (.cells #[.int .u64 a0, .int .u64 a1, .int .u64 a2, .int .u64 a3] 24)) by repeat (first | with_reducible exact Below.refl _ _ | with_reducible refine Below.alloc ?_ (by simp; try omega) _)) hb1 (by simp; try omega))
  have Haw1 : Hid (At4 w1 (w.heap.size) a0 a1 a2 a3) := (show At4 (w.alloc (.cells #[.int .u64 a0, .int .u64 a1, .int .u64 a2, .int .u64 a3] 24)) (w.heap.size) a0 a1 a2 a3 by simpa using (At4.new w a0 a1 a2 a3)).on hb1
  clear hb1
  obtain ⟨ca0, ca1, ca2, ca3⟩ := Haw1.out.cell
  have za := Haw1.out.lt
  go_wp2_with fail
  refine (From_any (By_by (V a0 a1 a2 a3)) _ bx 32 Hx.out.lt (fun i hi => by rw [Hx.out.cell i hi, bys_at _ i hi])).mono ?_
  rintro e w2 ⟨x0, x1, x2, x3, ex, rfl, ⟨rfl, hx0, hx1, hx2, hx3⟩, hb2⟩
  obtain ⟨p0, p1, p2, p3⟩ := pd_V HA.out
  obtain rfl : a0 = x0 := by rw [hx0, p0]
  obtain rfl : a1 = x1 := by rw [hx1, p1]
  obtain rfl : a2 = x2 := by rw [hx2, p2]
  obtain rfl : a3 = x3 := by rw [hx3, p3]
  clear hx0 hx1 hx2 hx3 p0 p1 p2 p3 Hx
  have w2B := Lib.hid (bthen w1B.out hb2 (by have := w1B.out.size; omega))
  have Haw2 := Lib.hid (Haw1.out.on hb2)
  clear ca0 ca1 ca2 ca3 za
  clear hb2
  obtain ⟨ca0, ca1, ca2, ca3⟩ := Haw2.out.cell
  have za := Haw2.out.lt
  go_wp2_with fail
  refine (Print_any HA.out _).mono ?_
  rintro e w3 ⟨⟨L, hL, rfl⟩, hb3⟩
  have HL := Lib.hid hL
  clear hL
  have w3B := Lib.hid (bthen (Below.alloc w2B.out (by have := w2B.out.size; omega) _) hb3 (by have := w2B.out.size; simp; omega))
  have Haw3 := Lib.hid ((Haw2.out.alloc _).on hb3)
  have Hxw3 := Lib.hid ((At4.new w2 a0 a1 a2 a3).on hb3)
  clear ca0 ca1 ca2 ca3 za
  clear hb3
  obtain ⟨ca0, ca1, ca2, ca3⟩ := Haw3.out.cell
  have za := Haw3.out.lt
  obtain ⟨cx0, cx1, cx2, cx3⟩ := Hxw3.out.cell
  have zx := Hxw3.out.lt
  go_wp2_with fail
  refine (Parse_any (strOfNums (dgs (V a0 a1 a2 a3) L)) (str_small N0.out N1.out HL.out) _).mono ?_
  rintro e w4 ⟨y0, y1, y2, y3, ey, rfl, hP, hb4⟩
  obtain ⟨rfl, hv⟩ := parse_print N0.out N1.out HL.out hP
  obtain ⟨rfl, rfl, rfl, rfl⟩ := V_inj HA.out hP.1 hv.symm
  clear hP hv HL
  have w4B := Lib.hid (bthen w3B.out hb4 (by have := w3B.out.size; omega))
  have Haw4 := Lib.hid (Haw3.out.on hb4)
  have Hxw4 := Lib.hid (Hxw3.out.on hb4)
  clear ca0 ca1 ca2 ca3 za cx0 cx1 cx2 cx3 zx
  clear hb4
  obtain ⟨ca0, ca1, ca2, ca3⟩ := Haw4.out.cell
  have za := Haw4.out.lt
  obtain ⟨cx0, cx1, cx2, cx3⟩ := Hxw4.out.cell
  have zx := Hxw4.out.lt
  go_wp2_with fail
  refine (Parse_any s HS.out _).mono ?_
  rintro e w5 ⟨z0, z1, z2, z3, ez, rfl, hZ, hb5⟩
  have HZ := Lib.hid hZ
  clear hZ
  have w5B := Lib.hid (bthen (Below.alloc w4B.out (by have := w4B.out.size; omega) _) hb5 (by have := w4B.out.size; simp; omega))
  have Haw5 := Lib.hid ((Haw4.out.alloc _).on hb5)
  have Hxw5 := Lib.hid ((Hxw4.out.alloc _).on hb5)
  have Hyw5 := Lib.hid ((At4.new w4 a0 a1 a2 a3).on hb5)
  clear ca0 ca1 ca2 ca3 za cx0 cx1 cx2 cx3 zx
  clear hb5
  obtain ⟨ca0, ca1, ca2, ca3⟩ := Haw5.out.cell
  have za := Haw5.out.lt
  obtain ⟨cx0, cx1, cx2, cx3⟩ := Hxw5.out.cell
  have zx := Hxw5.out.lt
  obtain ⟨cy0, cy1, cy2, cy3⟩ := Hyw5.out.cell
  have zy := Hyw5.out.lt
  rcases parse_cases HZ.out with ⟨rfl, hD, hv⟩ | rfl | rfl
  · have HD := Lib.hid hD
    have Hv := Lib.hid hv
    clear hD hv
    go_wp2_with fail
    refine (num_any _ _).mono ?_
    rintro e wn ⟨rfl, rfl⟩
    go_wp2_with fail
    refine (num_any _ _).mono ?_
    rintro e wn ⟨rfl, rfl⟩
    go_wp2_with fail
    refine (num_any _ _).mono ?_
    rintro e wn ⟨rfl, rfl⟩
    go_wp2_with fail
    refine (Print_any HZ.out.1 _).mono ?_
    rintro e w6 ⟨⟨K, hK, rfl⟩, hb6⟩
    rw [Hv.out] at hK ⊢
    rw [str_dv HD.out hK]
    clear hK
    have w6B := Lib.hid (bthen (Below.alloc w5B.out (by have := w5B.out.size; omega) _) hb6 (by have := w5B.out.size; simp; omega))
    have Haw6 := Lib.hid ((Haw5.out.alloc _).on hb6)
    have Hxw6 := Lib.hid ((Hxw5.out.alloc _).on hb6)
    have Hyw6 := Lib.hid ((Hyw5.out.alloc _).on hb6)
    have Hzw6 := Lib.hid ((At4.new w5 z0 z1 z2 z3).on hb6)
    clear ca0 ca1 ca2 ca3 za cx0 cx1 cx2 cx3 zx cy0 cy1 cy2 cy3 zy
    clear hb6
    obtain ⟨ca0, ca1, ca2, ca3⟩ := Haw6.out.cell
    have za := Haw6.out.lt
    obtain ⟨cx0, cx1, cx2, cx3⟩ := Hxw6.out.cell
    have zx := Hxw6.out.lt
    obtain ⟨cy0, cy1, cy2, cy3⟩ := Hyw6.out.cell
    have zy := Hyw6.out.lt
    obtain ⟨cz0, cz1, cz2, cz3⟩ := Hzw6.out.cell
    have zz := Hzw6.out.lt
    go_wp2_with fail
    refine (knows_any _).mono ?_
    rintro e wk1 ⟨rfl, hbk⟩
    have wk1B := Lib.hid (bthen w6B.out hbk (by have := w6B.out.size; omega))
    have Hawk1 := Lib.hid (Haw6.out.on hbk)
    have Hxwk1 := Lib.hid (Hxw6.out.on hbk)
    have Hywk1 := Lib.hid (Hyw6.out.on hbk)
    have Hzwk1 := Lib.hid (Hzw6.out.on hbk)
    clear ca0 ca1 ca2 ca3 za cx0 cx1 cx2 cx3 zx cy0 cy1 cy2 cy3 zy cz0 cz1 cz2 cz3 zz
    clear hbk
    obtain ⟨ca0, ca1, ca2, ca3⟩ := Hawk1.out.cell
    have za := Hawk1.out.lt
    obtain ⟨cx0, cx1, cx2, cx3⟩ := Hxwk1.out.cell
    have zx := Hxwk1.out.lt
    obtain ⟨cy0, cy1, cy2, cy3⟩ := Hywk1.out.cell
    have zy := Hywk1.out.lt
    obtain ⟨cz0, cz1, cz2, cz3⟩ := Hzwk1.out.cell
    have zz := Hzwk1.out.lt
    go_wp2_with fail
    go_ret
    exact ⟨rfl, wk1B.out⟩
  · go_wp2_with fail
    refine (num_any _ _).mono ?_
    rintro e wn ⟨rfl, rfl⟩
    go_wp2_with fail
    refine (num_any _ _).mono ?_
    rintro e wn ⟨rfl, rfl⟩
    go_wp2_with fail
    refine (num_any _ _).mono ?_
    rintro e wn ⟨rfl, rfl⟩
    go_wp2_with fail
    refine (knows_any _).mono ?_
    rintro e wk1 ⟨rfl, hbk⟩
    have wk1B := Lib.hid (bthen (Below.alloc w5B.out (by have := w5B.out.size; omega) _) hbk (by have := w5B.out.size; simp; omega))
    have Hawk1 := Lib.hid ((Haw5.out.alloc _).on hbk)
    have Hxwk1 := Lib.hid ((Hxw5.out.alloc _).on hbk)
    have Hywk1 := Lib.hid ((Hyw5.out.alloc _).on hbk)
    have Hzwk1 := Lib.hid ((At4.new w5 z0 z1 z2 z3).on hbk)
    clear ca0 ca1 ca2 ca3 za cx0 cx1 cx2 cx3 zx cy0 cy1 cy2 cy3 zy
    clear hbk
    obtain ⟨ca0, ca1, ca2, ca3⟩ := Hawk1.out.cell
    have za := Hawk1.out.lt
    obtain ⟨cx0, cx1, cx2, cx3⟩ := Hxwk1.out.cell
    have zx := Hxwk1.out.lt
    obtain ⟨cy0, cy1, cy2, cy3⟩ := Hywk1.out.cell
    have zy := Hywk1.out.lt
    obtain ⟨cz0, cz1, cz2, cz3⟩ := Hzwk1.out.cell
    have zz := Hzwk1.out.lt
    go_wp2_with fail
    go_ret
    exact ⟨rfl, wk1B.out⟩
  · go_wp2_with fail
    refine (num_any _ _).mono ?_
    rintro e wn ⟨rfl, rfl⟩
    go_wp2_with fail
    refine (num_any _ _).mono ?_
    rintro e wn ⟨rfl, rfl⟩
    go_wp2_with fail
    refine (num_any _ _).mono ?_
    rintro e wn ⟨rfl, rfl⟩
    go_wp2_with fail
    refine (knows_any _).mono ?_
    rintro e wk1 ⟨rfl, hbk⟩
    have wk1B := Lib.hid (bthen (Below.alloc w5B.out (by have := w5B.out.size; omega) _) hbk (by have := w5B.out.size; simp; omega))
    have Hawk1 := Lib.hid ((Haw5.out.alloc _).on hbk)
    have Hxwk1 := Lib.hid ((Hxw5.out.alloc _).on hbk)
    have Hywk1 := Lib.hid ((Hyw5.out.alloc _).on hbk)
    have Hzwk1 := Lib.hid ((At4.new w5 z0 z1 z2 z3).on hbk)
    clear ca0 ca1 ca2 ca3 za cx0 cx1 cx2 cx3 zx cy0 cy1 cy2 cy3 zy
    clear hbk
    obtain ⟨ca0, ca1, ca2, ca3⟩ := Hawk1.out.cell
    have za := Hawk1.out.lt
    obtain ⟨cx0, cx1, cx2, cx3⟩ := Hxwk1.out.cell
    have zx := Hxwk1.out.lt
    obtain ⟨cy0, cy1, cy2, cy3⟩ := Hywk1.out.cell
    have zy := Hywk1.out.lt
    obtain ⟨cz0, cz1, cz2, cz3⟩ := Hzwk1.out.cell
    have zz := Hzwk1.out.lt
    go_wp2_with fail
    go_ret
    exact ⟨rfl, wk1B.out⟩

set_option maxRecDepth 100000 in
theorem WideBack_lifted (os : Os) (started : os.Started) (H : Type) (enc : TypeId × Value → H) :
    ReturnsInHanded {} Try.checked os 7 .any (Rows.wideBackSpec.pre6 enc Try.prog Try.f7 Rows.wideBackRow.domain false) (Rows.wideBackSpec.post enc Try.prog Try.f7 false true false false) := by
  refine returnsInHanded_of_change (C := Try.checked) Try.ownNone started (by kernel_rfl) Try.func7
    (ChangeSpec.witness6 (enc := enc) (C := Try.checked) false ⟨#[], #[.agg #[.int .u64 0, .int .u64 0, .int .u64 0, .int .u64 0], .string ByteArray.empty], []⟩ 8 (by kernel_rfl) (by kernel_rfl) (by kernel_rfl) (by kernel_rfl)) ?_
  intro W base args ds gs before hval0 hW hcnd _
  have hval : ∀ (j : Nat) t v, Try.f7.params[j]? = some t → args[j]? = some v → Value.okWide Try.prog W .any base t v := hval0
  have hW' := hW
  obtain ⟨p, q, hA0, hV, rfl, hfz, hnd⟩ := hW
  have hA : DataW.TrodAll enc Try.prog W 0 (fun _ => true) true Try.f7.params.toList args.toList ds p := hA0
  rw [Try.params7] at hA hval
  obtain ⟨v0, v1, d0, d1, p0, p1, rfl, rfl, rfl, h0, h1⟩ := trodAll_two hA
  obtain ⟨a0, a1, a2, a3, rfl, ha⟩ := open_wide Try.underlying24 Try.underlying22 Try.wide4Cells Try.wideCells (hval 0 24 v0 rfl rfl) h0
  obtain ⟨s, rfl, rfl, rfl, hs⟩ := open_string Try.underlying9 (hval 1 9 v1 rfl rfl) h1
  refine (WideBack_walk ha hs W).mono fun e W' ⟨he, hw⟩ => ?_
  subst he
  exact ⟨_, rfl, law_post (tb := 4) Try.laidOutTrue hW' rfl (by kernel_rfl) (by kernel_rfl) Try.underlying4 rfl rfl rfl hw⟩

theorem WideBack_holds : Rows.WideBackSaid :=
  OpenClaim.holds_of_wide 7 Try.f7 rfl rfl rfl rfl rfl rfl rfl ⟨rfl, rfl, rfl, rfl, rfl⟩ rfl rfl rfl rfl rfl (by kernel_rfl) Try.func7 (by kernel_rfl)
    (of_decide_eq_true (by kernel_rfl)) (by unfold Func.isWrapper; rw [if_neg (of_decide_eq_false (by kernel_rfl))]; exact ⟨rfl, rfl⟩)
    (fun os started H enc _ => WideBack_lifted os started H enc)
end Go.Proofs.Ytgfdadcbendmbaa
