/-
  basculelaw03.Bytes: an item's bytes, as far as they count.
-/
import Derived.Test.YtigpiejjblfenaaCodecRf
namespace Go.Proofs.Ytigpiejjblfenaa
set_option maxRecDepth 100000
open Go.RowKit

/-- What came out: the item's bytes, or more than 65536 of them where there are more. -/
def Cut (x ys : List Int) : Prop := ys.length ≤ 140737488500000 ∧ (ys = x ∨ (65536 < ys.length ∧ 65536 < x.length))
theorem flat_le {α : Type} (f : α → List Int) (L : List α) (m : Nat) : ((L.take m).flatMap f).length ≤ (L.flatMap f).length := by
  have e : L.flatMap f = (L.take m).flatMap f ++ (L.drop m).flatMap f := by
    rw [← List.flatMap_append, List.take_append_drop]
  rw [e, List.length_append]; omega

def hsP (L : List (List Int)) (m : Nat) : List Int := (L.take m).flatten

set_option maxHeartbeats 16000000 in
theorem lawBytes_any {w : World} {cs : List Value} {x : It} (hx : ItR w cs x) :
    Calls Try.prog 9 #[.agg cs.toArray] w fun e w' => ∃ v ys, e = .returned v ∧ BuS w w' v ys ∧ Cut x.bytes ys := by
  obtain ⟨i0, hi, hz0, hz1, hz2⟩ := info_parts Try.infoU8
  replace hi := Lib.hid hi
  replace hz0 := Lib.hid hz0
  replace hz1 := Lib.hid hz1
  replace hz2 := Lib.hid hz2
  obtain ⟨vu, vw, vh, vb, rfl, r1, r2, r3, r4⟩ := hx.form
  have Z2 := Lib.hid hx.z2
  have s1 := hx.s1
  have s2 := hx.s2
  have s3 := hx.s3
  have s4 := hx.s4
  have S5 := Lib.hid hx.s5
  clear hx
  obtain ⟨kx, us, nw, zw, nh, zh, bs⟩ := x
  dsimp only at *
  obtain ⟨q1, k1, rfl⟩ := r1.len
  obtain ⟨q2, k2, rfl⟩ := r2.len
  obtain ⟨q3, k3, rfl⟩ := r3.len
  obtain ⟨q4, k4, rfl⟩ : ∃ q c, vb = .slice q bs.length c := by obtain ⟨q, c, e, _⟩ := r4; exact ⟨q, c, e⟩
  have BA : Below w.heap.size w (w.alloc (.cells #[.int .i64 kx, .slice q1 us.length k1, .slice q2 nw k2, .slice q3 nh k3, .slice q4 bs.length k4] 33)) := (Below.refl _ _).alloc (Nat.le_refl _) _
  have R1 := Lib.hid r1
  have R2 := Lib.hid r2
  have R3 := Lib.hid r3
  have R4 := Lib.hid r4
  have HBA := Lib.hid BA
  have HA7 := Lib.hid (heap_alloc_new w (.cells #[.int .i64 kx, .slice q1 us.length k1, .slice q2 nw k2, .slice q3 nh k3, .slice q4 bs.length k4] 33))
  have FIN : Hid (∀ {wr : World} {v : Value} {ys : List Int}, BuS (w.alloc (.cells #[.int .i64 kx, .slice q1 us.length k1, .slice q2 nw k2, .slice q3 nh k3, .slice q4 bs.length k4] 33)) wr v ys → BuS w wr v ys) := by
    show ∀ {_ _ _}, _
    intro wr v ys h
    exact ⟨h.own, fun g hg => Nat.le_trans BA.size (h.fresh g hg), BA.trans (h.below.mono BA.size)⟩
  clear r1 r2 r3 r4 BA
  go_enter Try.func9, Try.ntmps9
  by_cases kc1 : kx = 0
  · subst kc1
    go_wp2_with fail
    generalize w.alloc (.cells #[.int .i64 0, .slice q1 us.length k1, .slice q2 nw k2, .slice q3 nh k3, .slice q4 bs.length k4] 33) = WA at *
    have H0 := Lib.hid (BuS.start WA)
    go_loopw [3, 4] (fun ov iv wr => ∃ m : Nat, iv = .int .i64 m ∧ m ≤ us.length ∧ (∃ q c, ov = .slice q (nums (us.take m)).length c) ∧ Hid (BuS WA wr ov (nums (us.take m))) ∧ (nums (us.take m)).length ≤ 140737488500000) (fun _ iv _ => us.length - (intOf iv).toNat)
    case atStart => exact ⟨0, rfl, by omega, ⟨_, _, rfl⟩, H0, by simp [nums]⟩
    case round =>
      clear H0
      obtain ⟨m, rfl, hm, ⟨qo, co, rfl⟩, hS, hle⟩ := hrel
      have hbw := HBA.out.trans (hS.out.below.mono HBA.out.size)
      have HBr := Lib.hid hbw
      have d0 : wr.cell? ⟨w.heap.size, 1, none⟩ = _ := (hS.out.below.cell (lt_of_block HA7.out)).trans ((Joins.cell_of_block HA7.out 1).trans rfl)
      clear hbw
      have HCUT : Hid (65536 < (nums (us.take m)).length → Cut (nums us) (nums (us.take m))) := by
        show _ → _
        intro h
        have := flat_le be8 us m
        exact ⟨hle, .inr ⟨h, Nat.lt_of_lt_of_le h this⟩⟩
      by_cases hmt : m < us.length
      · by_cases hsm : (nums (us.take m)).length ≤ 65536
        · have dsm : decide ((((nums (us.take m)).length : Nat) : Int) ≤ 65536) = true := decide_eq_true (by omega)
          obtain ⟨bu, offu, -, rfl, -, hcu0⟩ := (RdZ.nums R1.out).at hmt
          have hcu : wr.cell? ⟨bu, offu + m, none⟩ = some (.int .u64 (us.getD m 0)) := (HBr.out.cell (lt_of_cell hcu0)).trans hcu0
          have HNX := Lib.hid (nums_take hmt)
          clear hcu0
          obtain ⟨z, hz⟩ : ∃ z, us.getD m 0 = z := ⟨_, rfl⟩
          rw [hz] at hcu HNX
          clear hz
          have HE0 := Lib.hid (be8_len z)
          obtain ⟨E, hEE⟩ : ∃ E, be8 z = E := ⟨_, rfl⟩
          rw [hEE] at HNX HE0
          clear HCUT hle
          obtain ⟨P, hP⟩ : ∃ P, nums (us.take m) = P := ⟨_, rfl⟩
          rw [hP] at hS HNX hsm dsm
          rw [hP]
          clear hP
          have hE : E.length ≤ 140737488355336 := by have := HE0.out; omega
          go_wp2_with fail
          refine (refUint_any z wr).mono ?_
          rintro e w3 ⟨v3, rfl, h3⟩
          rw [hEE] at h3
          clear hEE
          have HS3 := Lib.hid (hS.out.on h3.below)
          have H3 := Lib.hid h3.rd
          obtain ⟨qv, cv, rfl⟩ := own_slice h3.own
          clear h3 hS
          go_wp2_with (at_builtin; refine wpList_append_row_w rfl _ _ rfl Try.underlying26 hi.out hz0.out hz1.out hz2.out rfl HS3.out.own (Rd.src (P := Try.prog) Try.underlying26 H3.out) ?b1 ?b2 ?_)
          case b1 => unfold maxLen; omega
          case b2 => omega
          intro q9 k9 w9 own9 grow9 fr9
          have HN := Lib.hid (HS3.out.grow rfl own9 grow9 fr9)
          clear own9 grow9 fr9 HS3
          have hlen : (nums (us.take (m + 1))).length = P.length + E.length := by rw [HNX.out, List.length_append]
          have HN2 : Hid (BuS WA w9 (.slice q9 (P.length + E.length) k9) (nums (us.take (m + 1)))) := by
            show BuS _ _ _ _
            rw [HNX.out]; exact HN.out
          have hle2 : (nums (us.take (m + 1))).length ≤ 140737488500000 := by rw [hlen]; omega
          clear HN
          go_wp2_with fail
          go_roundw
          case rel => exact ⟨m + 1, by go_num, by omega, ⟨_, _, by rw [hlen]⟩, HN2, hle2⟩
          case measure => simp [intOf]; omega
        · have dsm : decide ((((nums (us.take m)).length : Nat) : Int) ≤ 65536) = false := decide_eq_false (by omega)
          have HC := Lib.hid (HCUT.out (by omega))
          go_wp2_with fail
          go_ret
          exact ⟨_, _, rfl, FIN.out hS.out, by show Cut (It.bytes _) _; unfold It.bytes; rw [if_pos rfl]; exact HC.out⟩
      · have HEQ : nums (us.take m) = nums us := by rw [show m = us.length by omega, List.take_length]
        have HC : Hid (Cut (nums us) (nums (us.take m))) := ⟨hle, .inl HEQ⟩
        clear HEQ
        go_wp2_with fail
        go_ret
        exact ⟨_, _, rfl, FIN.out hS.out, by show Cut (It.bytes _) _; unfold It.bytes; rw [if_pos rfl]; exact HC.out⟩
  by_cases kc2 : kx = 1
  · subst kc2
    go_wp2_with fail
    generalize w.alloc (.cells #[.int .i64 1, .slice q1 us.length k1, .slice q2 nw k2, .slice q3 nh k3, .slice q4 bs.length k4] 33) = WA at *
    have H0 := Lib.hid (BuS.start WA)
    go_loopw [3, 5] (fun ov iv wr => ∃ m : Nat, iv = .int .i64 m ∧ m ≤ nw ∧ (∃ q c, ov = .slice q (wides ((wsOf nw zw).take m)).length c) ∧ Hid (BuS WA wr ov (wides ((wsOf nw zw).take m))) ∧ (wides ((wsOf nw zw).take m)).length ≤ 140737488500000) (fun _ iv _ => nw - (intOf iv).toNat)
    case atStart => exact ⟨0, rfl, by omega, ⟨_, _, rfl⟩, H0, by simp [wides]⟩
    case round =>
      clear H0
      obtain ⟨m, rfl, hm, ⟨qo, co, rfl⟩, hS, hle⟩ := hrel
      have hbw := HBA.out.trans (hS.out.below.mono HBA.out.size)
      have HBr := Lib.hid hbw
      have d0 : wr.cell? ⟨w.heap.size, 2, none⟩ = _ := (hS.out.below.cell (lt_of_block HA7.out)).trans ((Joins.cell_of_block HA7.out 2).trans rfl)
      clear hbw
      have HCUT : Hid (65536 < (wides ((wsOf nw zw).take m)).length → Cut (wides (wsOf nw zw)) (wides ((wsOf nw zw).take m))) := by
        show _ → _
        intro h
        have := flat_le W4.bytes (wsOf nw zw) m
        exact ⟨hle, .inr ⟨h, Nat.lt_of_lt_of_le h this⟩⟩
      by_cases hmt : m < nw
      · by_cases hsm : (wides ((wsOf nw zw).take m)).length ≤ 65536
        · have dsm : decide ((((wides ((wsOf nw zw).take m)).length : Nat) : Int) ≤ 65536) = true := decide_eq_true (by omega)
          obtain ⟨bu, offu, -, rfl, -, hd4, g0, g1, g2, g3⟩ := (RdZ.wides R2.out Z2.out).at (show m < (wsOf nw zw).length by rw [wsOf_len]; exact hmt)
          have e0 := (HBr.out.cell (lt_of_cell g0)).trans g0
          have e1 := (HBr.out.cell (lt_of_cell g1)).trans g1
          have e2 := (HBr.out.cell (lt_of_cell g2)).trans g2
          have e3 := (HBr.out.cell (lt_of_cell g3)).trans g3
          have HNX := Lib.hid (wides_take (show m < (wsOf nw zw).length by rw [wsOf_len]; exact hmt))
          clear g0 g1 g2 g3
          obtain ⟨y, hy⟩ : ∃ y, (wsOf nw zw).getD m w0 = y := ⟨_, rfl⟩
          rw [hy] at e0 e1 e2 e3 HNX hd4
          clear hy
          have HD4 := Lib.hid hd4
          clear hd4
          have HE0 := Lib.hid y.len
          obtain ⟨E, hEE⟩ : ∃ E, y.bytes = E := ⟨_, rfl⟩
          rw [hEE] at HNX HE0
          clear HCUT hle
          obtain ⟨P, hP⟩ : ∃ P, wides ((wsOf nw zw).take m) = P := ⟨_, rfl⟩
          rw [hP] at hS HNX hsm dsm
          rw [hP]
          clear hP
          have hE : E.length ≤ 140737488355336 := by have := HE0.out; omega
          go_wp2_with fail
          refine (refBytes_any HD4.out wr).mono ?_
          rintro e w3 ⟨v3, rfl, h3⟩
          rw [hEE] at h3
          clear hEE
          have HS3 := Lib.hid (hS.out.on h3.below)
          have H3 := Lib.hid h3.rd
          obtain ⟨qv, cv, rfl⟩ := own_slice h3.own
          clear h3 hS
          go_wp2_with (at_builtin; refine wpList_append_row_w rfl _ _ rfl Try.underlying26 hi.out hz0.out hz1.out hz2.out rfl HS3.out.own (Rd.src (P := Try.prog) Try.underlying26 H3.out) ?b1 ?b2 ?_)
          case b1 => unfold maxLen; omega
          case b2 => omega
          intro q9 k9 w9 own9 grow9 fr9
          have HN := Lib.hid (HS3.out.grow rfl own9 grow9 fr9)
          clear own9 grow9 fr9 HS3
          have hlen : (wides ((wsOf nw zw).take (m + 1))).length = P.length + E.length := by rw [HNX.out, List.length_append]
          have HN2 : Hid (BuS WA w9 (.slice q9 (P.length + E.length) k9) (wides ((wsOf nw zw).take (m + 1)))) := by
            show BuS _ _ _ _
            rw [HNX.out]; exact HN.out
          have hle2 : (wides ((wsOf nw zw).take (m + 1))).length ≤ 140737488500000 := by rw [hlen]; omega
          clear HN
          go_wp2_with fail
          go_roundw
          case rel => exact ⟨m + 1, by go_num, by omega, ⟨_, _, by rw [hlen]⟩, HN2, hle2⟩
          case measure => simp [intOf]; omega
        · have dsm : decide ((((wides ((wsOf nw zw).take m)).length : Nat) : Int) ≤ 65536) = false := decide_eq_false (by omega)
          have HC := Lib.hid (HCUT.out (by omega))
          go_wp2_with fail
          go_ret
          exact ⟨_, _, rfl, FIN.out hS.out, by show Cut (It.bytes _) _; unfold It.bytes; rw [if_neg (show ¬ ((1 : Int) = 0) by decide), if_pos rfl]; exact HC.out⟩
      · have HEQ : wides ((wsOf nw zw).take m) = wides (wsOf nw zw) := by rw [List.take_of_length_le (by rw [wsOf_len]; omega)]
        have HC : Hid (Cut (wides (wsOf nw zw)) (wides ((wsOf nw zw).take m))) := ⟨hle, .inl HEQ⟩
        clear HEQ
        go_wp2_with fail
        go_ret
        exact ⟨_, _, rfl, FIN.out hS.out, by show Cut (It.bytes _) _; unfold It.bytes; rw [if_neg (show ¬ ((1 : Int) = 0) by decide), if_pos rfl]; exact HC.out⟩
  by_cases kc3 : kx = 2
  · subst kc3
    go_wp2_with fail
    generalize w.alloc (.cells #[.int .i64 2, .slice q1 us.length k1, .slice q2 nw k2, .slice q3 nh k3, .slice q4 bs.length k4] 33) = WA at *
    have H0 := Lib.hid (BuS.start WA)
    go_loopw [3, 6] (fun ov iv wr => ∃ m : Nat, iv = .int .i64 m ∧ m ≤ nh ∧ (∃ q c, ov = .slice q (hsP (hsOf nh zh) m).length c) ∧ Hid (BuS WA wr ov (hsP (hsOf nh zh) m)) ∧ (hsP (hsOf nh zh) m).length ≤ 140737488500000) (fun _ iv _ => nh - (intOf iv).toNat)
    case atStart => exact ⟨0, rfl, by omega, ⟨_, _, rfl⟩, H0, by simp [hsP]⟩
    case round =>
      clear H0
      obtain ⟨m, rfl, hm, ⟨qo, co, rfl⟩, hS, hle⟩ := hrel
      have hbw := HBA.out.trans (hS.out.below.mono HBA.out.size)
      have HBr := Lib.hid hbw
      have d0 : wr.cell? ⟨w.heap.size, 3, none⟩ = _ := (hS.out.below.cell (lt_of_block HA7.out)).trans ((Joins.cell_of_block HA7.out 3).trans rfl)
      clear hbw
      have HCUT : Hid (65536 < (hsP (hsOf nh zh) m).length → Cut ((hsOf nh zh).flatten) (hsP (hsOf nh zh) m)) := by
        show _ → _
        intro h
        have := hashes_le (hsOf nh zh) m
        exact ⟨hle, .inr ⟨h, Nat.lt_of_lt_of_le h this⟩⟩
      by_cases hmt : m < nh
      · by_cases hsm : (hsP (hsOf nh zh) m).length ≤ 65536
        · have dsm : decide ((((hsP (hsOf nh zh) m).length : Nat) : Int) ≤ 65536) = true := decide_eq_true (by omega)
          obtain ⟨_, _, ef, hzl, hzz⟩ := R3.out
          obtain ⟨bu, offu, hq3, hbu, hcz⟩ : ∃ bu offu, q3 = some ⟨bu, offu, none⟩ ∧ bu < w.heap.size ∧ ∀ j, j < zh.length → w.cell? ⟨bu, offu + j, none⟩ = some (.int .u8 (zh.getD j 0)) := by
            simp only [Value.slice.injEq] at ef
            rcases hzz with h0 | ⟨bu, offu, e1, _, e2, e3⟩
            · omega
            · exact ⟨bu, offu, by rw [ef.1, e1], e2, e3⟩
          subst hq3
          have hl32 := hsOf_get_len hzl hmt
          have HRD : Hid (Rd wr (.slice (some ⟨bu, offu + m * 32, none⟩) 32 32) ((hsOf nh zh).getD m [])) := by
            refine ⟨some ⟨bu, offu + m * 32, none⟩, 32, by rw [hl32], .inr ⟨bu, offu + m * 32, rfl, fun j hj => ?_⟩⟩
            rw [hl32] at hj
            rw [HBr.out.cell (by exact hbu), Nat.add_assoc, hcz _ (by omega), hsOf_get hmt]
            simp [List.getD, hj]
          have HNX : Hid (hsP (hsOf nh zh) (m + 1) = hsP (hsOf nh zh) m ++ (hsOf nh zh).getD m []) := hashes_take (show m < (hsOf nh zh).length by rw [hsOf_len]; exact hmt)
          clear hcz hzz ef hzl
          obtain ⟨E, hEE⟩ : ∃ E, (hsOf nh zh).getD m [] = E := ⟨_, rfl⟩
          rw [hEE] at HNX HRD hl32
          have HE0 := Lib.hid hl32
          clear hEE
          clear HCUT hle
          obtain ⟨P, hP⟩ : ∃ P, hsP (hsOf nh zh) m = P := ⟨_, rfl⟩
          rw [hP] at hS HNX hsm dsm
          rw [hP]
          clear hP
          have hE : E.length ≤ 140737488355336 := by have := HE0.out; omega
          have HS3 := hS
          go_wp2_with (at_builtin; refine wpList_append_row_w rfl _ _ rfl Try.underlying26 hi.out hz0.out hz1.out hz2.out rfl hS.out.own (Rd.src (P := Try.prog) Try.underlying26 HRD.out) ?b1 ?b2 ?_)
          case b1 => unfold maxLen; omega
          case b2 => omega
          intro q9 k9 w9 own9 grow9 fr9
          have HN := Lib.hid (HS3.out.grow HE0.out own9 grow9 fr9)
          clear own9 grow9 fr9 HS3
          have hlen : (hsP (hsOf nh zh) (m + 1)).length = P.length + 32 := by rw [HNX.out, List.length_append, HE0.out]
          have HN2 : Hid (BuS WA w9 (.slice q9 (P.length + 32) k9) (hsP (hsOf nh zh) (m + 1))) := by
            show BuS _ _ _ _
            rw [HNX.out]; exact HN.out
          have hle2 : (hsP (hsOf nh zh) (m + 1)).length ≤ 140737488500000 := by rw [hlen]; omega
          clear HN
          go_wp2_with fail
          go_roundw
          case rel => exact ⟨m + 1, by go_num, by omega, ⟨_, _, by rw [hlen]⟩, HN2, hle2⟩
          case measure => simp [intOf]; omega
        · have dsm : decide ((((hsP (hsOf nh zh) m).length : Nat) : Int) ≤ 65536) = false := decide_eq_false (by omega)
          have HC := Lib.hid (HCUT.out (by omega))
          go_wp2_with fail
          go_ret
          exact ⟨_, _, rfl, FIN.out hS.out, by show Cut (It.bytes _) _; unfold It.bytes; rw [if_neg (show ¬ ((2 : Int) = 0) by decide), if_neg (show ¬ ((2 : Int) = 1) by decide), if_pos rfl]; exact HC.out⟩
      · have HEQ : hsP (hsOf nh zh) m = (hsOf nh zh).flatten := by unfold hsP; rw [List.take_of_length_le (by rw [hsOf_len]; omega)]
        have HC : Hid (Cut ((hsOf nh zh).flatten) (hsP (hsOf nh zh) m)) := ⟨hle, .inl HEQ⟩
        clear HEQ
        go_wp2_with fail
        go_ret
        exact ⟨_, _, rfl, FIN.out hS.out, by show Cut (It.bytes _) _; unfold It.bytes; rw [if_neg (show ¬ ((2 : Int) = 0) by decide), if_neg (show ¬ ((2 : Int) = 1) by decide), if_pos rfl]; exact HC.out⟩
  have e1 : (kx == 0) = false := by simpa using kc1
  have e2 : (kx == 1) = false := by simpa using kc2
  have e3 : (kx == 2) = false := by simpa using kc3
  have KC := Lib.hid (And.intro kc1 (And.intro kc2 kc3))
  clear kc1 kc2 kc3
  go_wp2_with fail
  generalize w.alloc (.cells #[.int .i64 kx, .slice q1 us.length k1, .slice q2 nw k2, .slice q3 nh k3, .slice q4 bs.length k4] 33) = WA at *
  have H0 := Lib.hid (BuS.start WA)
  go_loopw [3, 7] (fun ov iv wr => ∃ m : Nat, iv = .int .i64 m ∧ m ≤ bs.length ∧ (∃ q c, ov = .slice q (blobs (bs.take m)).length c) ∧ Hid (BuS WA wr ov (blobs (bs.take m))) ∧ (blobs (bs.take m)).length ≤ 140737488500000) (fun _ iv _ => bs.length - (intOf iv).toNat)
  case atStart => exact ⟨0, rfl, by omega, ⟨_, _, rfl⟩, H0, by simp [blobs]⟩
  case round =>
    clear H0
    obtain ⟨m, rfl, hm, ⟨qo, co, rfl⟩, hS, hle⟩ := hrel
    have hbw := HBA.out.trans (hS.out.below.mono HBA.out.size)
    have HBr := Lib.hid hbw
    have d0 : wr.cell? ⟨w.heap.size, 4, none⟩ = _ := (hS.out.below.cell (lt_of_block HA7.out)).trans ((Joins.cell_of_block HA7.out 4).trans rfl)
    clear hbw
    have HCUT : Hid (65536 < (blobs (bs.take m)).length → Cut (blobs bs) (blobs (bs.take m))) := by
      show _ → _
      intro h
      have := blobs_le bs m
      exact ⟨hle, .inr ⟨h, Nat.lt_of_lt_of_le h this⟩⟩
    by_cases hmt : m < bs.length
    · by_cases hsm : (blobs (bs.take m)).length ≤ 65536
      · have dsm : decide ((((blobs (bs.take m)).length : Nat) : Int) ≤ 65536) = true := decide_eq_true (by omega)
        obtain ⟨bu, offu, r, mm, kk, -, rfl, -, hcu0, rfl, hrd0, -⟩ := R4.out.at hmt
        have hcu := (HBr.out.cell (lt_of_cell hcu0)).trans hcu0
        have HRD := Lib.hid (hrd0.on HBr.out)
        have HNX := Lib.hid (blobs_take hmt)
        rw [List.append_assoc] at HNX
        have hs5 := S5.out m
        clear hcu0 hrd0
        obtain ⟨y, hy⟩ : ∃ y, bs.getD m [] = y := ⟨_, rfl⟩
        rw [hy] at hcu HNX HRD hs5
        clear hy
        have HE0 : Hid ((be8 y.length ++ y).length = 8 + y.length) := by show _ = _; rw [List.length_append, be8_len]
        obtain ⟨E, hEE⟩ : ∃ E, be8 y.length ++ y = E := ⟨_, rfl⟩
        rw [hEE] at HNX HE0
        clear HCUT hle
        obtain ⟨P, hP⟩ : ∃ P, blobs (bs.take m) = P := ⟨_, rfl⟩
        rw [hP] at hS HNX hsm dsm
        rw [hP]
        clear hP
        have hE : E.length ≤ 140737488355336 := by have := HE0.out; omega
        go_wp2_with fail
        refine (refBlob_any HRD.out hs5).mono ?_
        rintro e w3 ⟨v3, rfl, h3⟩
        rw [hEE] at h3
        clear hEE
        have HS3 := Lib.hid (hS.out.on h3.below)
        have H3 := Lib.hid h3.rd
        obtain ⟨qv, cv, rfl⟩ := own_slice h3.own
        clear h3 hS
        go_wp2_with (at_builtin; refine wpList_append_row_w rfl _ _ rfl Try.underlying26 hi.out hz0.out hz1.out hz2.out rfl HS3.out.own (Rd.src (P := Try.prog) Try.underlying26 H3.out) ?b1 ?b2 ?_)
        case b1 => unfold maxLen; omega
        case b2 => omega
        intro q9 k9 w9 own9 grow9 fr9
        have HN := Lib.hid (HS3.out.grow rfl own9 grow9 fr9)
        clear own9 grow9 fr9 HS3
        have hlen : (blobs (bs.take (m + 1))).length = P.length + E.length := by rw [HNX.out, List.length_append]
        have HN2 : Hid (BuS WA w9 (.slice q9 (P.length + E.length) k9) (blobs (bs.take (m + 1)))) := by
          show BuS _ _ _ _
          rw [HNX.out]; exact HN.out
        have hle2 : (blobs (bs.take (m + 1))).length ≤ 140737488500000 := by rw [hlen]; omega
        clear HN
        go_wp2_with fail
        go_roundw
        case rel => exact ⟨m + 1, by go_num, by omega, ⟨_, _, by rw [hlen]⟩, HN2, hle2⟩
        case measure => simp [intOf]; omega
      · have dsm : decide ((((blobs (bs.take m)).length : Nat) : Int) ≤ 65536) = false := decide_eq_false (by omega)
        have HC := Lib.hid (HCUT.out (by omega))
        go_wp2_with fail
        go_ret
        exact ⟨_, _, rfl, FIN.out hS.out, by show Cut (It.bytes _) _; unfold It.bytes; rw [if_neg KC.out.1, if_neg KC.out.2.1, if_neg KC.out.2.2]; exact HC.out⟩
    · have HEQ : blobs (bs.take m) = blobs bs := by rw [show m = bs.length by omega, List.take_length]
      have HC : Hid (Cut (blobs bs) (blobs (bs.take m))) := ⟨hle, .inl HEQ⟩
      clear HEQ
      go_wp2_with fail
      go_ret
      exact ⟨_, _, rfl, FIN.out hS.out, by show Cut (It.bytes _) _; unfold It.bytes; rw [if_neg KC.out.1, if_neg KC.out.2.1, if_neg KC.out.2.2]; exact HC.out⟩
end Go.Proofs.Ytigpiejjblfenaa
