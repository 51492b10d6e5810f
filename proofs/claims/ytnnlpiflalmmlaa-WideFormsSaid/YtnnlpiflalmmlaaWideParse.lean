/-
  The document's Parse.
-/
import Derived.Test.YtnnlpiflalmmlaaParse
import Derived.Test.YtnnlpiflalmmlaaRefMul
import Derived.Test.YtnnlpiflalmmlaaRefAdd
namespace Go.Proofs.Ytnnlpiflalmmlaa
open Go.RowKit

/-- What stands in memory behind the sum. -/
structure RaSum (w wx : World) (a0 a1 a2 a3 : Int) (nb : Nat) (p0 p1 p2 p3 d q0 q1 q2 q3 c : Int) : Prop where
  below : Below w.heap.size w wx
  R : At4 wx w.heap.size 0 0 0 0
  A : At4 wx (w.heap.size + 1) a0 a1 a2 a3
  N : At4 wx nb q0 q1 q2 q3
  lt : w.heap.size + 1 < nb
  m : D4 q0 q1 q2 q3 ∧ ((V p0 p1 p2 p3 + V d 0 0 0 < M ∧ c = 0 ∧ V q0 q1 q2 q3 = V p0 p1 p2 p3 + V d 0 0 0) ∨ (M ≤ V p0 p1 p2 p3 + V d 0 0 0 ∧ c = 30 ∧ V q0 q1 q2 q3 = 0))

set_option maxHeartbeats 8000000 in
theorem refParse_any (s : ByteArray) (hs : s.size ≤ maxLen) (w : World) :
    Calls Try.prog 25 #[.string s] w (NumP w (ParseP s)) := by
  unfold maxLen at hs
  by_cases h0 : s.size = 0
  · have HN : Hid (¬ Dec s) := Lib.hid fun h => by have := h.1; omega
    have Hno : Hid (ParseP s 0 0 0 0 21) := Lib.hid ⟨D4_zero, Or.inr ⟨by simp [V], Or.inl ⟨HN.out, rfl⟩⟩⟩
    go_enter Try.func25, Try.ntmps25
    go_wp2_with fail
    try rw [Exit.noGoto_ret]
    refine bodyPost_ret (v := .tuple #[.agg #[.int .u64 0, .int .u64 0, .int .u64 0, .int .u64 0], .int .i64 21]) (by simp [results, Try.results25, go_sem]) rfl ⟨_, _, _, _, _, rfl, Hno.out, ?_⟩
    repeat (first | with_reducible exact Below.refl _ _ | with_reducible refine Below.setCell ?_ (by simp; try omega) _ | with_reducible refine Below.alloc ?_ (by simp; try omega) _)
  by_cases h80 : 80 < s.size
  · have HN : Hid (¬ Dec s) := Lib.hid fun h => by have := h.2.1; omega
    have Hno : Hid (ParseP s 0 0 0 0 21) := Lib.hid ⟨D4_zero, Or.inr ⟨by simp [V], Or.inl ⟨HN.out, rfl⟩⟩⟩
    go_enter Try.func25, Try.ntmps25
    go_wp2_with fail
    try rw [Exit.noGoto_ret]
    refine bodyPost_ret (v := .tuple #[.agg #[.int .u64 0, .int .u64 0, .int .u64 0, .int .u64 0], .int .i64 21]) (by simp [results, Try.results25, go_sem]) rfl ⟨_, _, _, _, _, rfl, Hno.out, ?_⟩
    repeat (first | with_reducible exact Below.refl _ _ | with_reducible refine Below.setCell ?_ (by simp; try omega) _ | with_reducible refine Below.alloc ?_ (by simp; try omega) _)
  have hi0 : 0 < s.size := by omega
  have e0 := chr_at s 0 hi0
  by_cases hz : 1 < s.size ∧ chr s 0 = 48
  · obtain ⟨h1, hz⟩ := hz
    have HN : Hid (¬ Dec s) := Lib.hid fun h => h.2.2.1 h1 hz
    have Hno : Hid (ParseP s 0 0 0 0 21) := Lib.hid ⟨D4_zero, Or.inr ⟨by simp [V], Or.inl ⟨HN.out, rfl⟩⟩⟩
    have e0' : ((s[0].toNat : Int) == 48) = true := by rw [e0, hz]; rfl
    clear hz e0
    go_enter Try.func25, Try.ntmps25
    go_wp2_with fail
    try rw [Exit.noGoto_ret]
    refine bodyPost_ret (v := .tuple #[.agg #[.int .u64 0, .int .u64 0, .int .u64 0, .int .u64 0], .int .i64 21]) (by simp [results, Try.results25, go_sem]) rfl ⟨_, _, _, _, _, rfl, Hno.out, ?_⟩
    repeat (first | with_reducible exact Below.refl _ _ | with_reducible refine Below.setCell ?_ (by simp; try omega) _ | with_reducible refine Below.alloc ?_ (by simp; try omega) _)
  have hg : Hid (1 < s.size → chr s 0 ≠ 48) := Lib.hid fun h1 h2 => hz ⟨h1, h2⟩
  have hcase : s.size = 1 ∨ (1 < s.size ∧ ((s[0].toNat : Int) == 48) = false) := by
    rcases Nat.lt_or_ge 1 s.size with h | h
    · refine Or.inr ⟨h, ?_⟩
      rw [e0]
      have := hg.out h
      simpa using this
    · left; omega
  clear hz e0
  have h1' : ¬ (s.size : Int) < 1 := by omega
  have h80' : ¬ 80 < (s.size : Int) := by omega
  have hst := Lib.hid (PaSt.mk (s := s) (k := 0) (a0 := 0) (a1 := 0) (a2 := 0) (a3 := 0) (w := w) (wr := (w.alloc (.cells #[.int .u64 0, .int .u64 0, .int .u64 0, .int .u64 0] 24)).alloc (.cells #[.int .u64 0, .int .u64 0, .int .u64 0, .int .u64 0] 24)) (by repeat (first | with_reducible exact Below.refl _ _ | with_reducible refine Below.alloc ?_ (by simp; try omega) _)) ((At4.new w 0 0 0 0).alloc _) (by simpa using At4.new (w.alloc (.cells #[.int .u64 0, .int .u64 0, .int .u64 0, .int .u64 0] 24)) 0 0 0 0) D4_zero (by simp [V, dv]))
  have Hs0 := Lib.hid (show 1 ≤ s.size ∧ s.size ≤ 80 by omega)
  rcases hcase with hc1 | ⟨hc1, hc2⟩
  · have hc2 : ¬ 1 < (s.size : Int) := by omega
    go_enter Try.func25, Try.ntmps25
    go_wp2_with fail
    go_loop [4] (fun iv => ∃ k : Nat, iv = .int .i64 k ∧ k ≤ s.size ∧ Hid (∀ i, i < k → 48 ≤ chr s i ∧ chr s i ≤ 57)) (fun iv => s.size - (intOf iv).toNat)
    case atStart => exact ⟨0, rfl, by omega, Lib.hid fun i hi => by omega⟩
    case round =>
      obtain ⟨k, rfl, hk, hD⟩ := hrel
      by_cases hlt : k < s.size
      · have e := chr_at s k hlt
        by_cases h1 : 48 ≤ chr s k
        · by_cases h2 : chr s k ≤ 57
          · have HN : Hid (∀ i, i < k + 1 → 48 ≤ chr s i ∧ chr s i ≤ 57) := Lib.hid fun i hi => by
              rcases Nat.lt_or_ge i k with h | h
              · exact hD.out i h
              · obtain rfl : i = k := by omega
                exact ⟨h1, h2⟩
            rw [← e] at h1 h2
            clear e
            go_wp2_with fail
            go_round
            case rel => exact ⟨k + 1, by go_num, by omega, HN⟩
            case measure => simp [intOf]; omega
          · have HN : Hid (¬ Dec s) := Lib.hid fun h => h2 (h.2.2.2 k hlt).2
            rw [← e] at h1 h2
            clear e
            have Hno : Hid (ParseP s 0 0 0 0 21) := Lib.hid ⟨D4_zero, Or.inr ⟨by simp [V], Or.inl ⟨HN.out, rfl⟩⟩⟩
            go_wp2_with fail
            try rw [Exit.noGoto_ret]
            refine bodyPost_ret (v := .tuple #[.agg #[.int .u64 0, .int .u64 0, .int .u64 0, .int .u64 0], .int .i64 21]) (by simp [results, Try.results25, go_sem]) rfl ⟨_, _, _, _, _, rfl, Hno.out, ?_⟩
            repeat (first | with_reducible exact Below.refl _ _ | with_reducible refine Below.setCell ?_ (by simp; try omega) _ | with_reducible refine Below.alloc ?_ (by simp; try omega) _)
        · have HN : Hid (¬ Dec s) := Lib.hid fun h => h1 (h.2.2.2 k hlt).1
          rw [← e] at h1
          clear e
          have Hno : Hid (ParseP s 0 0 0 0 21) := Lib.hid ⟨D4_zero, Or.inr ⟨by simp [V], Or.inl ⟨HN.out, rfl⟩⟩⟩
          go_wp2_with fail
          try rw [Exit.noGoto_ret]
          refine bodyPost_ret (v := .tuple #[.agg #[.int .u64 0, .int .u64 0, .int .u64 0, .int .u64 0], .int .i64 21]) (by simp [results, Try.results25, go_sem]) rfl ⟨_, _, _, _, _, rfl, Hno.out, ?_⟩
          repeat (first | with_reducible exact Below.refl _ _ | with_reducible refine Below.setCell ?_ (by simp; try omega) _ | with_reducible refine Below.alloc ?_ (by simp; try omega) _)
      · have HD : Hid (Dec s) := Lib.hid ⟨by omega, by omega, hg.out, fun i hi => hD.out i (by omega)⟩
        clear hD
        go_wp2_with fail
        clear hlt hk
        go_loopw [6] (fun iv wr => ∃ (k : Nat) (a0 a1 a2 a3 : Int), iv = .int .i64 k ∧ k ≤ s.size ∧ Hid (PaSt w wr s k a0 a1 a2 a3)) (fun iv _ => s.size - (intOf iv).toNat)
        case atStart => exact ⟨0, 0, 0, 0, 0, rfl, by omega, hst⟩
        case round =>
          clear hst
          obtain ⟨k, a0, a1, a2, a3, rfl, hk, hB⟩ := hrel
          by_cases hlt : k < s.size
          · obtain ⟨ca0, ca1, ca2, ca3⟩ := hB.out.A.cell
            have z1 := hB.out.A.lt
            go_wp2_with fail
            refine (refMul_any hB.out.d D4_ten _).mono ?_
            rintro e w2 ⟨p0, p1, p2, p3, c, rfl, hM, hb2⟩
            have hP : Hid (PaMid w (w2.alloc (.cells #[.int .u64 p0, .int .u64 p1, .int .u64 p2, .int .u64 p3] 24)) a0 a1 a2 a3 w2.heap.size p0 p1 p2 p3 c) := Lib.hid ⟨(hB.out.below.trans (hb2.mono (by omega))).alloc (by have := hb2.size; omega) _, (hB.out.R.on hb2).alloc _, (hB.out.A.on hb2).alloc _, At4.new w2 _ _ _ _, by have := hb2.size; omega, hM⟩
            clear hM hb2 ca0 ca1 ca2 ca3 z1
            go_upto_region 13 with fail
            generalize w2.alloc (.cells #[.int .u64 p0, .int .u64 p1, .int .u64 p2, .int .u64 p3] 24) = wy at hP ⊢
            generalize w2.heap.size = nb at hP ⊢
            go_cut [9, 10] from 48 to 76 (fun s9 s10 wx => ∃ (nq : Nat) (q0 q1 q2 q3 f : Int), s9 = .pointer (some ⟨nq, 0, none⟩) ∧ s10 = .int .i64 f ∧ Hid (RaSum w wx a0 a1 a2 a3 nq p0 p1 p2 p3 (chr s k - 48) q0 q1 q2 q3 f))
            case first =>
              have e := chr_at s k hlt
              have hch := HD.out.2.2.2 k hlt
              rw [← e] at hch
              have He := Lib.hid e
              clear e
              obtain ⟨h48, h57⟩ := hch
              have dd := Lib.hid (D4_one (c := (s[k].toNat : Int) - 48) (by omega) (by omega))
              have hu : IntKind.u8.wrap ((s[k].toNat : Int) - 48) = (s[k].toNat : Int) - 48 := by rw [IntKind.wrap_u8]; omega
              have hv : IntKind.u64.wrap ((s[k].toNat : Int) - 48) = (s[k].toNat : Int) - 48 := by rw [IntKind.wrap_u64]; omega
              obtain ⟨cp0, cp1, cp2, cp3⟩ := hP.out.N.cell
              have zw := hP.out.A.lt
              have zn := hP.out.N.lt
              have zl := hP.out.lt
              clear h48 h57
              go_region_with (first
                | (go_at_call 7; refine (refAdd_any hP.out.m.1 dd.out _).mono ?_; rintro e w3 ⟨q0, q1, q2, q3, f, rfl, hM, hb3⟩; have HM := Lib.hid hM; clear hM; (have HA3 : Hid (At4 w3 (w.heap.size + 1) a0 a1 a2 a3) := (by (first | exact Lib.hid (hP.out.A.drew.on hb3) | exact Lib.hid ((hP.out.A.drew.alloc _).on hb3)))); (have HR3 : Hid (At4 w3 w.heap.size 0 0 0 0) := (by (first | exact Lib.hid (hP.out.R.drew.on hb3) | exact Lib.hid ((hP.out.R.drew.alloc _).on hb3)))); (have HB3 : Hid (Below w.heap.size w w3) := (by (first | exact Lib.hid (hP.out.below.drew.trans (hb3.mono (by simp; omega))) | exact Lib.hid ((hP.out.below.drew.alloc (by simp; omega) _).trans (hb3.mono (by simp; omega)))))); have hz3 := HA3.out.lt; (try (have hq3 : wy.heap.size < w3.heap.size := (by (have := hb3.size; (try simp at this); omega)))); (try ((have HN3 : Hid (At4 w3 wy.heap.size 0 0 0 0) := (by (exact Lib.hid ((At4.new wy.drew 0 0 0 0).on hb3)))); obtain ⟨na0, na1, na2, na3⟩ := HN3.out.cell; obtain ⟨nf0, nf1, nf2, nf3⟩ := HN3.out.free)); clear hb3))
              all_goals
                go_wp2_with fail
                go_meet
                refine ⟨_, q0, q1, q2, q3, f, rfl, rfl, Lib.hid ⟨?_, ?_, ?_, ?_, ?_, ?_⟩⟩
                · first | with_reducible exact Below.alloc HB3.out (by omega) _ | with_reducible exact below_all HB3.out (by omega) _ _ _ _
                · first | with_reducible exact At4.alloc HR3.out _ | with_reducible exact At4.otherAll HR3.out (by omega) _ _ _ _
                · first | with_reducible exact At4.alloc HA3.out _ | with_reducible exact At4.otherAll HA3.out (by omega) _ _ _ _
                · first | with_reducible exact At4.new w3 _ _ _ _ | with_reducible exact At4.setAll HN3.out _ _ _ _
                · omega
                · have h := HM.out
                  rw [He.out] at h
                  exact h
            case rest =>
              obtain ⟨nq, q0, q1, q2, q3, f, rfl, rfl, hQ⟩ := hcut
              have hc : c = 0 ∨ c = 30 := by rcases hP.out.m.2 with h | h <;> omega
              have hf : f = 0 ∨ f = 30 := by rcases hQ.out.m.2 with h | h <;> omega
              obtain ⟨cq0, cq1, cq2, cq3⟩ := hQ.out.N.cell
              obtain ⟨ca0, ca1, ca2, ca3⟩ := hQ.out.A.cell
              obtain ⟨fa0, fa1, fa2, fa3⟩ := hQ.out.A.free
              obtain ⟨cr0, cr1, cr2, cr3⟩ := hQ.out.R.cell
              obtain ⟨fr0, fr1, fr2, fr3⟩ := hQ.out.R.free
              have zl := hQ.out.lt
              by_cases hok : c = 0 ∧ f = 0
              · obtain ⟨rfl, rfl⟩ := hok
                have hN : Hid (PaSt w ((((wc.setCell ⟨w.heap.size + 1, 0, none⟩ (.int .u64 q0)).setCell ⟨w.heap.size + 1, 1, none⟩ (.int .u64 q1)).setCell ⟨w.heap.size + 1, 2, none⟩ (.int .u64 q2)).setCell ⟨w.heap.size + 1, 3, none⟩ (.int .u64 q3)) s (k + 1) q0 q1 q2 q3) := Lib.hid ⟨below_all hQ.out.below (by omega) _ _ _ _, At4.otherAll hQ.out.R (by omega) _ _ _ _, At4.setAll hQ.out.A _ _ _ _, hQ.out.m.1, by
                  have h := hP.out.m.2
                  have v := hB.out.v
                  have g := hQ.out.m.2
                  rw [V_one, v] at h
                  rw [V_one] at g
                  rw [dv]
                  omega⟩
                clear hc hf
                go_wp2_with fail
                go_roundw
                case rel => exact ⟨k + 1, q0, q1, q2, q3, by go_num, by omega, hN⟩
                case measure => simp [intOf]; omega
              · have Hov : Hid (ParseP s 0 0 0 0 30) := Lib.hid ⟨D4_zero, Or.inr ⟨by simp [V], Or.inr ⟨HD.out, by
                  have h := hP.out.m.2
                  have v := hB.out.v
                  have g := hQ.out.m.2
                  have up := dv_up HD.out k hlt
                  have mo := dv_mono HD.out (k + 1) (s.size - (k + 1)) (by omega)
                  rw [show k + 1 + (s.size - (k + 1)) = s.size by omega] at mo
                  rw [V_one, v] at h
                  rw [V_one] at g
                  rw [dv] at mo up
                  omega, rfl⟩⟩⟩
                have HBc := hQ.out.below
                rcases hc with rfl | rfl <;> rcases hf with rfl | rfl
                · exact absurd ⟨rfl, rfl⟩ hok
                all_goals
                  clear hok
                  go_wp2_with fail
                  try rw [Exit.noGoto_ret]
                  refine bodyPost_ret (v := .tuple #[.agg #[.int .u64 0, .int .u64 0, .int .u64 0, .int .u64 0], .int .i64 30]) (by simp [results, Try.results25, go_sem, cr0, cr1, cr2, cr3]) rfl ⟨_, _, _, _, _, rfl, Hov.out, ?_⟩
                  exact below_all HBc (by omega) _ _ _ _
          · obtain rfl : k = s.size := by omega
            have Hok : Hid (ParseP s a0 a1 a2 a3 0) := Lib.hid ⟨hB.out.d, Or.inl ⟨HD.out, by have := V_hi hB.out.d; rw [hB.out.v] at this; exact this, rfl, hB.out.v⟩⟩
            obtain ⟨ca0, ca1, ca2, ca3⟩ := hB.out.A.cell
            obtain ⟨cr0, cr1, cr2, cr3⟩ := hB.out.R.cell
            obtain ⟨fr0, fr1, fr2, fr3⟩ := hB.out.R.free
            go_wp2_with fail
            refine bodyPost_ret (v := .tuple #[.agg #[.int .u64 a0, .int .u64 a1, .int .u64 a2, .int .u64 a3], .int .i64 0]) (by simp [results, Try.results25, go_sem, cr0, cr1, cr2, cr3]) rfl ⟨_, _, _, _, _, rfl, Hok.out, ?_⟩
            exact below_all hB.out.below (by omega) _ _ _ _
  · have hc3 : 1 < (s.size : Int) := by omega
    go_enter Try.func25, Try.ntmps25
    go_wp2_with fail
    go_loop [4] (fun iv => ∃ k : Nat, iv = .int .i64 k ∧ k ≤ s.size ∧ Hid (∀ i, i < k → 48 ≤ chr s i ∧ chr s i ≤ 57)) (fun iv => s.size - (intOf iv).toNat)
    case atStart => exact ⟨0, rfl, by omega, Lib.hid fun i hi => by omega⟩
    case round =>
      obtain ⟨k, rfl, hk, hD⟩ := hrel
      by_cases hlt : k < s.size
      · have e := chr_at s k hlt
        by_cases h1 : 48 ≤ chr s k
        · by_cases h2 : chr s k ≤ 57
          · have HN : Hid (∀ i, i < k + 1 → 48 ≤ chr s i ∧ chr s i ≤ 57) := Lib.hid fun i hi => by
              rcases Nat.lt_or_ge i k with h | h
              · exact hD.out i h
              · obtain rfl : i = k := by omega
                exact ⟨h1, h2⟩
            rw [← e] at h1 h2
            clear e
            go_wp2_with fail
            go_round
            case rel => exact ⟨k + 1, by go_num, by omega, HN⟩
            case measure => simp [intOf]; omega
          · have HN : Hid (¬ Dec s) := Lib.hid fun h => h2 (h.2.2.2 k hlt).2
            rw [← e] at h1 h2
            clear e
            have Hno : Hid (ParseP s 0 0 0 0 21) := Lib.hid ⟨D4_zero, Or.inr ⟨by simp [V], Or.inl ⟨HN.out, rfl⟩⟩⟩
            go_wp2_with fail
            try rw [Exit.noGoto_ret]
            refine bodyPost_ret (v := .tuple #[.agg #[.int .u64 0, .int .u64 0, .int .u64 0, .int .u64 0], .int .i64 21]) (by simp [results, Try.results25, go_sem]) rfl ⟨_, _, _, _, _, rfl, Hno.out, ?_⟩
            repeat (first | with_reducible exact Below.refl _ _ | with_reducible refine Below.setCell ?_ (by simp; try omega) _ | with_reducible refine Below.alloc ?_ (by simp; try omega) _)
        · have HN : Hid (¬ Dec s) := Lib.hid fun h => h1 (h.2.2.2 k hlt).1
          rw [← e] at h1
          clear e
          have Hno : Hid (ParseP s 0 0 0 0 21) := Lib.hid ⟨D4_zero, Or.inr ⟨by simp [V], Or.inl ⟨HN.out, rfl⟩⟩⟩
          go_wp2_with fail
          try rw [Exit.noGoto_ret]
          refine bodyPost_ret (v := .tuple #[.agg #[.int .u64 0, .int .u64 0, .int .u64 0, .int .u64 0], .int .i64 21]) (by simp [results, Try.results25, go_sem]) rfl ⟨_, _, _, _, _, rfl, Hno.out, ?_⟩
          repeat (first | with_reducible exact Below.refl _ _ | with_reducible refine Below.setCell ?_ (by simp; try omega) _ | with_reducible refine Below.alloc ?_ (by simp; try omega) _)
      · have HD : Hid (Dec s) := Lib.hid ⟨by omega, by omega, hg.out, fun i hi => hD.out i (by omega)⟩
        clear hD
        go_wp2_with fail
        clear hlt hk
        go_loopw [6] (fun iv wr => ∃ (k : Nat) (a0 a1 a2 a3 : Int), iv = .int .i64 k ∧ k ≤ s.size ∧ Hid (PaSt w wr s k a0 a1 a2 a3)) (fun iv _ => s.size - (intOf iv).toNat)
        case atStart => exact ⟨0, 0, 0, 0, 0, rfl, by omega, hst⟩
        case round =>
          clear hst
          obtain ⟨k, a0, a1, a2, a3, rfl, hk, hB⟩ := hrel
          by_cases hlt : k < s.size
          · obtain ⟨ca0, ca1, ca2, ca3⟩ := hB.out.A.cell
            have z1 := hB.out.A.lt
            go_wp2_with fail
            refine (refMul_any hB.out.d D4_ten _).mono ?_
            rintro e w2 ⟨p0, p1, p2, p3, c, rfl, hM, hb2⟩
            have hP : Hid (PaMid w (w2.alloc (.cells #[.int .u64 p0, .int .u64 p1, .int .u64 p2, .int .u64 p3] 24)) a0 a1 a2 a3 w2.heap.size p0 p1 p2 p3 c) := Lib.hid ⟨(hB.out.below.trans (hb2.mono (by omega))).alloc (by have := hb2.size; omega) _, (hB.out.R.on hb2).alloc _, (hB.out.A.on hb2).alloc _, At4.new w2 _ _ _ _, by have := hb2.size; omega, hM⟩
            clear hM hb2 ca0 ca1 ca2 ca3 z1
            go_upto_region 13 with fail
            generalize w2.alloc (.cells #[.int .u64 p0, .int .u64 p1, .int .u64 p2, .int .u64 p3] 24) = wy at hP ⊢
            generalize w2.heap.size = nb at hP ⊢
            go_cut [9, 10] from 48 to 76 (fun s9 s10 wx => ∃ (nq : Nat) (q0 q1 q2 q3 f : Int), s9 = .pointer (some ⟨nq, 0, none⟩) ∧ s10 = .int .i64 f ∧ Hid (RaSum w wx a0 a1 a2 a3 nq p0 p1 p2 p3 (chr s k - 48) q0 q1 q2 q3 f))
            case first =>
              have e := chr_at s k hlt
              have hch := HD.out.2.2.2 k hlt
              rw [← e] at hch
              have He := Lib.hid e
              clear e
              obtain ⟨h48, h57⟩ := hch
              have dd := Lib.hid (D4_one (c := (s[k].toNat : Int) - 48) (by omega) (by omega))
              have hu : IntKind.u8.wrap ((s[k].toNat : Int) - 48) = (s[k].toNat : Int) - 48 := by rw [IntKind.wrap_u8]; omega
              have hv : IntKind.u64.wrap ((s[k].toNat : Int) - 48) = (s[k].toNat : Int) - 48 := by rw [IntKind.wrap_u64]; omega
              obtain ⟨cp0, cp1, cp2, cp3⟩ := hP.out.N.cell
              have zw := hP.out.A.lt
              have zn := hP.out.N.lt
              have zl := hP.out.lt
              clear h48 h57
              go_region_with (first
                | (go_at_call 7; refine (refAdd_any hP.out.m.1 dd.out _).mono ?_; rintro e w3 ⟨q0, q1, q2, q3, f, rfl, hM, hb3⟩; have HM := Lib.hid hM; clear hM; (have HA3 : Hid (At4 w3 (w.heap.size + 1) a0 a1 a2 a3) := (by (first | exact Lib.hid (hP.out.A.drew.on hb3) | exact Lib.hid ((hP.out.A.drew.alloc _).on hb3)))); (have HR3 : Hid (At4 w3 w.heap.size 0 0 0 0) := (by (first | exact Lib.hid (hP.out.R.drew.on hb3) | exact Lib.hid ((hP.out.R.drew.alloc _).on hb3)))); (have HB3 : Hid (Below w.heap.size w w3) := (by (first | exact Lib.hid (hP.out.below.drew.trans (hb3.mono (by simp; omega))) | exact Lib.hid ((hP.out.below.drew.alloc (by simp; omega) _).trans (hb3.mono (by simp; omega)))))); have hz3 := HA3.out.lt; (try (have hq3 : wy.heap.size < w3.heap.size := (by (have := hb3.size; (try simp at this); omega)))); (try ((have HN3 : Hid (At4 w3 wy.heap.size 0 0 0 0) := (by (exact Lib.hid ((At4.new wy.drew 0 0 0 0).on hb3)))); obtain ⟨na0, na1, na2, na3⟩ := HN3.out.cell; obtain ⟨nf0, nf1, nf2, nf3⟩ := HN3.out.free)); clear hb3))
              all_goals
                go_wp2_with fail
                go_meet
                refine ⟨_, q0, q1, q2, q3, f, rfl, rfl, Lib.hid ⟨?_, ?_, ?_, ?_, ?_, ?_⟩⟩
                · first | with_reducible exact Below.alloc HB3.out (by omega) _ | with_reducible exact below_all HB3.out (by omega) _ _ _ _
                · first | with_reducible exact At4.alloc HR3.out _ | with_reducible exact At4.otherAll HR3.out (by omega) _ _ _ _
                · first | with_reducible exact At4.alloc HA3.out _ | with_reducible exact At4.otherAll HA3.out (by omega) _ _ _ _
                · first | with_reducible exact At4.new w3 _ _ _ _ | with_reducible exact At4.setAll HN3.out _ _ _ _
                · omega
                · have h := HM.out
                  rw [He.out] at h
                  exact h
            case rest =>
              obtain ⟨nq, q0, q1, q2, q3, f, rfl, rfl, hQ⟩ := hcut
              have hc : c = 0 ∨ c = 30 := by rcases hP.out.m.2 with h | h <;> omega
              have hf : f = 0 ∨ f = 30 := by rcases hQ.out.m.2 with h | h <;> omega
              obtain ⟨cq0, cq1, cq2, cq3⟩ := hQ.out.N.cell
              obtain ⟨ca0, ca1, ca2, ca3⟩ := hQ.out.A.cell
              obtain ⟨fa0, fa1, fa2, fa3⟩ := hQ.out.A.free
              obtain ⟨cr0, cr1, cr2, cr3⟩ := hQ.out.R.cell
              obtain ⟨fr0, fr1, fr2, fr3⟩ := hQ.out.R.free
              have zl := hQ.out.lt
              by_cases hok : c = 0 ∧ f = 0
              · obtain ⟨rfl, rfl⟩ := hok
                have hN : Hid (PaSt w ((((wc.setCell ⟨w.heap.size + 1, 0, none⟩ (.int .u64 q0)).setCell ⟨w.heap.size + 1, 1, none⟩ (.int .u64 q1)).setCell ⟨w.heap.size + 1, 2, none⟩ (.int .u64 q2)).setCell ⟨w.heap.size + 1, 3, none⟩ (.int .u64 q3)) s (k + 1) q0 q1 q2 q3) := Lib.hid ⟨below_all hQ.out.below (by omega) _ _ _ _, At4.otherAll hQ.out.R (by omega) _ _ _ _, At4.setAll hQ.out.A _ _ _ _, hQ.out.m.1, by
                  have h := hP.out.m.2
                  have v := hB.out.v
                  have g := hQ.out.m.2
                  rw [V_one, v] at h
                  rw [V_one] at g
                  rw [dv]
                  omega⟩
                clear hc hf
                go_wp2_with fail
                go_roundw
                case rel => exact ⟨k + 1, q0, q1, q2, q3, by go_num, by omega, hN⟩
                case measure => simp [intOf]; omega
              · have Hov : Hid (ParseP s 0 0 0 0 30) := Lib.hid ⟨D4_zero, Or.inr ⟨by simp [V], Or.inr ⟨HD.out, by
                  have h := hP.out.m.2
                  have v := hB.out.v
                  have g := hQ.out.m.2
                  have up := dv_up HD.out k hlt
                  have mo := dv_mono HD.out (k + 1) (s.size - (k + 1)) (by omega)
                  rw [show k + 1 + (s.size - (k + 1)) = s.size by omega] at mo
                  rw [V_one, v] at h
                  rw [V_one] at g
                  rw [dv] at mo up
                  omega, rfl⟩⟩⟩
                have HBc := hQ.out.below
                rcases hc with rfl | rfl <;> rcases hf with rfl | rfl
                · exact absurd ⟨rfl, rfl⟩ hok
                all_goals
                  clear hok
                  go_wp2_with fail
                  try rw [Exit.noGoto_ret]
                  refine bodyPost_ret (v := .tuple #[.agg #[.int .u64 0, .int .u64 0, .int .u64 0, .int .u64 0], .int .i64 30]) (by simp [results, Try.results25, go_sem, cr0, cr1, cr2, cr3]) rfl ⟨_, _, _, _, _, rfl, Hov.out, ?_⟩
                  exact below_all HBc (by omega) _ _ _ _
          · obtain rfl : k = s.size := by omega
            have Hok : Hid (ParseP s a0 a1 a2 a3 0) := Lib.hid ⟨hB.out.d, Or.inl ⟨HD.out, by have := V_hi hB.out.d; rw [hB.out.v] at this; exact this, rfl, hB.out.v⟩⟩
            obtain ⟨ca0, ca1, ca2, ca3⟩ := hB.out.A.cell
            obtain ⟨cr0, cr1, cr2, cr3⟩ := hB.out.R.cell
            obtain ⟨fr0, fr1, fr2, fr3⟩ := hB.out.R.free
            go_wp2_with fail
            refine bodyPost_ret (v := .tuple #[.agg #[.int .u64 a0, .int .u64 a1, .int .u64 a2, .int .u64 a3], .int .i64 0]) (by simp [results, Try.results25, go_sem, cr0, cr1, cr2, cr3]) rfl ⟨_, _, _, _, _, rfl, Hok.out, ?_⟩
            exact below_all hB.out.below (by omega) _ _ _ _
end Go.Proofs.Ytnnlpiflalmmlaa
