/-
  The walk of package basculeref01: Div.
-/
import Derived.Test.YtnnlpiflalmmlaaRefDivSt
namespace Go.Proofs.Ytnnlpiflalmmlaa
open Go.RowKit

theorem dbl {r q : Int} (_hr : 0 ≤ r) (hq : 0 ≤ q) (_hr' : r < 18446744073709551616) (hq' : q < 18446744073709551616) : IntKind.u64.wrap (IntKind.u64.wrap (r * 2) + q / 9223372036854775808) = r * 2 % 18446744073709551616 + q / 9223372036854775808 := by
  rw [IntKind.wrap_u64, IntKind.wrap_u64]
  omega
theorem newbit {r x : Int} (hx : 0 ≤ x) : IntKind.u64.wrap (IntKind.u64.wrap (r * 2) + x.tmod 2) = r * 2 % 18446744073709551616 + x % 2 := by
  rw [Int.tmod_eq_emod_of_nonneg hx, IntKind.wrap_u64, IntKind.wrap_u64]
  omega
theorem cmp_range (x y : Int) : (cmp x y = -1 ∧ x < y) ∨ (cmp x y = 0 ∧ y ≤ x) ∨ (cmp x y = 1 ∧ y ≤ x) := by
  unfold cmp
  (repeat' split) <;> omega

set_option maxHeartbeats 4000000 in
theorem refDiv_any {a0 a1 a2 a3 b0 b1 b2 b3 : Int} (ha : D4 a0 a1 a2 a3) (hb : D4 b0 b1 b2 b3) (w : World) :
    Calls Try.prog 21 #[.agg #[.int .u64 a0, .int .u64 a1, .int .u64 a2, .int .u64 a3], .agg #[.int .u64 b0, .int .u64 b1, .int .u64 b2, .int .u64 b3]] w (DivP w (V a0 a1 a2 a3) (V b0 b1 b2 b3)) := by
  have HA := Lib.hid ha
  have HB := Lib.hid hb
  have hcmp := refCompare_any hb D4_zero
  have hz0 : V 0 0 0 0 = 0 := by unfold V; simp
  rw [hz0] at hcmp
  have lb := V_lo hb
  have la := Lib.hid (V_lo ha)
  have ua := Lib.hid (V_hi ha)
  have B0 : Hid (Below w.heap.size w ((((w.alloc (.cells #[.int .u64 a0, .int .u64 a1, .int .u64 a2, .int .u64 a3] 24)).alloc (.cells #[.int .u64 b0, .int .u64 b1, .int .u64 b2, .int .u64 b3] 24)).alloc (.cells #[.int .u64 0, .int .u64 0, .int .u64 0, .int .u64 0] 24)).alloc (.cells #[.int .u64 0, .int .u64 0, .int .u64 0, .int .u64 0] 24))) := Lib.hid (by repeat (first | with_reducible exact Below.refl _ _ | with_reducible refine Below.alloc ?_ (by simp; try omega) _))
  have SA := Lib.hid ((((At4.new w a0 a1 a2 a3).alloc (.cells #[.int .u64 b0, .int .u64 b1, .int .u64 b2, .int .u64 b3] 24)).alloc (.cells #[.int .u64 0, .int .u64 0, .int .u64 0, .int .u64 0] 24)).alloc (.cells #[.int .u64 0, .int .u64 0, .int .u64 0, .int .u64 0] 24))
  have SD : Hid (At4 ((((w.alloc (.cells #[.int .u64 a0, .int .u64 a1, .int .u64 a2, .int .u64 a3] 24)).alloc (.cells #[.int .u64 b0, .int .u64 b1, .int .u64 b2, .int .u64 b3] 24)).alloc (.cells #[.int .u64 0, .int .u64 0, .int .u64 0, .int .u64 0] 24)).alloc (.cells #[.int .u64 0, .int .u64 0, .int .u64 0, .int .u64 0] 24)) (w.heap.size + 1) b0 b1 b2 b3) := Lib.hid (by simpa using ((At4.new (w.alloc (.cells #[.int .u64 a0, .int .u64 a1, .int .u64 a2, .int .u64 a3] 24)) b0 b1 b2 b3).alloc (.cells #[.int .u64 0, .int .u64 0, .int .u64 0, .int .u64 0] 24)).alloc (.cells #[.int .u64 0, .int .u64 0, .int .u64 0, .int .u64 0] 24))
  have SP : Hid (At4 ((((w.alloc (.cells #[.int .u64 a0, .int .u64 a1, .int .u64 a2, .int .u64 a3] 24)).alloc (.cells #[.int .u64 b0, .int .u64 b1, .int .u64 b2, .int .u64 b3] 24)).alloc (.cells #[.int .u64 0, .int .u64 0, .int .u64 0, .int .u64 0] 24)).alloc (.cells #[.int .u64 0, .int .u64 0, .int .u64 0, .int .u64 0] 24)) (w.heap.size + 1 + 1) 0 0 0 0) := Lib.hid (by simpa using (At4.new ((w.alloc (.cells #[.int .u64 a0, .int .u64 a1, .int .u64 a2, .int .u64 a3] 24)).alloc (.cells #[.int .u64 b0, .int .u64 b1, .int .u64 b2, .int .u64 b3] 24)) 0 0 0 0).alloc (.cells #[.int .u64 0, .int .u64 0, .int .u64 0, .int .u64 0] 24))
  have SU : Hid (At4 ((((w.alloc (.cells #[.int .u64 a0, .int .u64 a1, .int .u64 a2, .int .u64 a3] 24)).alloc (.cells #[.int .u64 b0, .int .u64 b1, .int .u64 b2, .int .u64 b3] 24)).alloc (.cells #[.int .u64 0, .int .u64 0, .int .u64 0, .int .u64 0] 24)).alloc (.cells #[.int .u64 0, .int .u64 0, .int .u64 0, .int .u64 0] 24)) (w.heap.size + 1 + 1 + 1) 0 0 0 0) := Lib.hid (by simpa using At4.new (((w.alloc (.cells #[.int .u64 a0, .int .u64 a1, .int .u64 a2, .int .u64 a3] 24)).alloc (.cells #[.int .u64 b0, .int .u64 b1, .int .u64 b2, .int .u64 b3] 24)).alloc (.cells #[.int .u64 0, .int .u64 0, .int .u64 0, .int .u64 0] 24)) 0 0 0 0)
  clear ha hb hz0
  go_enter Try.func21, Try.ntmps21
  go_wp2_with fail
  refine (hcmp _).mono ?_
  rintro e w1 ⟨rfl, hb1⟩
  have B1 := Lib.hid (bthen B0.out hb1 (by simp; omega))
  have TA := Lib.hid (SA.out.on hb1)
  have TD := Lib.hid (SD.out.on hb1)
  have TP := Lib.hid (SP.out.on hb1)
  have TU := Lib.hid (SU.out.on hb1)
  clear B0 SA SD SP SU hb1 hcmp
  rcases cmp_range (V b0 b1 b2 b3) 0 with ⟨hc, hlt⟩ | ⟨hc, hge⟩ | ⟨hc, hge⟩
  · omega
  · have hz : V b0 b1 b2 b3 = 0 := by
      unfold cmp at hc
      revert hc
      (repeat' split) <;> intro hc <;> omega
    have Hz := Lib.hid hz
    rw [hc]
    clear hc hz lb hge
    obtain ⟨p0, p1, p2, p3⟩ := TP.out.cell
    obtain ⟨u0, u1, u2, u3⟩ := TU.out.cell
    obtain ⟨fp0, fp1, fp2, fp3⟩ := TP.out.free
    obtain ⟨fu0, fu1, fu2, fu3⟩ := TU.out.free
    go_wp2_with fail
    refine bodyPost_ret (v := .tuple #[.agg #[.int .u64 0, .int .u64 0, .int .u64 0, .int .u64 0], .agg #[.int .u64 0, .int .u64 0, .int .u64 0, .int .u64 0], .int .i64 32]) (by simp [results, Try.results21, go_sem, p0, p1, p2, p3, u0, u1, u2, u3]) rfl
      ⟨0, 0, 0, 0, 0, 0, 0, 0, 32, rfl, D4_zero, D4_zero, Or.inl ⟨Hz.out, rfl, by unfold V; simp, by unfold V; simp⟩, ?_⟩
    repeat (first | with_reducible exact B1.out | with_reducible refine Below.setCell ?_ (by simp; try omega) _)
  · have hz : ¬ V b0 b1 b2 b3 = 0 := by
      intro h
      rw [h] at hc
      exact absurd hc (by decide)
    have Hz := Lib.hid hz
    rw [hc]
    have hst : Hid (RLong w ((w1.alloc (.cells #[.int .u64 0, .int .u64 0, .int .u64 0, .int .u64 0] 24)).alloc (.cells #[.int .u64 0, .int .u64 0, .int .u64 0, .int .u64 0] 24)) w1.heap.size a0 a1 a2 a3 b0 b1 b2 b3 0 0 0 0 0 0 0 0 256 0) := Lib.hid (by
      have z : V 0 0 0 0 = 0 := by unfold V; simp
      have e : M = 2 ^ 256 := rfl
      have ua' := ua.out
      rw [e] at ua'
      have l1 := TU.out.lt
      refine ⟨⟨(B1.out.alloc (by omega) _).alloc (by simp; omega) _, (TA.out.alloc _).alloc _, (TD.out.alloc _).alloc _, (TP.out.alloc _).alloc _, (TU.out.alloc _).alloc _, (At4.new w1 0 0 0 0).alloc _, by simpa using At4.new (w1.alloc (.cells #[.int .u64 0, .int .u64 0, .int .u64 0, .int .u64 0] 24)) 0 0 0 0, l1⟩, D4_zero, D4_zero, by rw [z]; simp, by rw [z, Int.ediv_eq_zero_of_lt la.out ua']; simp, by rw [z]; omega⟩)
    clear hc hz lb hge TA TD TP TU B1 la ua
    go_wp2_with fail
    go_loopw [9] (fun iv wr => ∃ (k : Nat) (q0 q1 q2 q3 r0 r1 r2 r3 Q : Int), iv = .int .i64 ((k : Int) - 1) ∧ k ≤ 256 ∧ Hid (RLong w wr w1.heap.size a0 a1 a2 a3 b0 b1 b2 b3 q0 q1 q2 q3 r0 r1 r2 r3 k Q)) (fun iv _ => (intOf iv + 1).toNat)
    case atStart => exact ⟨256, 0, 0, 0, 0, 0, 0, 0, 0, 0, rfl, Nat.le_refl _, hst⟩
    case round =>
      clear hst
      obtain ⟨k, q0, q1, q2, q3, r0, r1, r2, r3, Q, rfl, hk, hL⟩ := hrel
      by_cases hk0 : k = 0
      · subst hk0
        obtain ⟨cq0, cq1, cq2, cq3⟩ := hL.out.st.Q.cell
        obtain ⟨cr0, cr1, cr2, cr3⟩ := hL.out.st.R.cell
        obtain ⟨p0, p1, p2, p3⟩ := hL.out.st.P.cell
        obtain ⟨u0, u1, u2, u3⟩ := hL.out.st.U.cell
        obtain ⟨fp0, fp1, fp2, fp3⟩ := hL.out.st.P.free
        obtain ⟨fu0, fu1, fu2, fu3⟩ := hL.out.st.U.free
        have l := hL.out.st.l
        go_wp2_with fail
        go_region
        go_wp2_with fail
        refine bodyPost_ret (v := .tuple #[.agg #[.int .u64 q0, .int .u64 q1, .int .u64 q2, .int .u64 q3], .agg #[.int .u64 r0, .int .u64 r1, .int .u64 r2, .int .u64 r3], .int .i64 0]) (by simp [results, Try.results21, go_sem, p0, p1, p2, p3, u0, u1, u2, u3]) rfl
          ⟨q0, q1, q2, q3, r0, r1, r2, r3, 0, rfl, hL.out.dq, hL.out.dr, Or.inr ⟨Hz.out, rfl, ?_, hL.out.lt⟩, ?_⟩
        · have e1 := hL.out.eq
          have e2 := hL.out.vq
          simp only [Int.pow_zero, Int.mul_one, Int.ediv_one] at e1 e2
          rw [e1, e2, Int.mul_comm]
        · repeat (first | with_reducible exact hL.out.st.below | with_reducible refine Below.drew ?_ | with_reducible refine Below.setCell ?_ (by simp; try omega) _)
      · obtain ⟨n, rfl⟩ : ∃ n, k = n + 1 := ⟨k - 1, by omega⟩
        have hn : n < 256 := by omega
        rw [show (((n + 1 : Nat) : Int) - 1) = (n : Int) by omega]
        have S := Lib.hid hL.out.st
        obtain ⟨cr0, cr1, cr2, cr3⟩ := hL.out.st.R.cell
        obtain ⟨fr0, fr1, fr2, fr3⟩ := hL.out.st.R.free
        have Hdr := Lib.hid hL.out.dr
        obtain ⟨⟨nr0, mr0⟩, ⟨nr1, mr1⟩, ⟨nr2, mr2⟩, ⟨nr3, mr3⟩⟩ := hL.out.dr
        unfold B at mr0 mr1 mr2 mr3
        clear hk0 hk
        go_wp2_with fail
        refine wp_loop_rounds 4 ?_
        rw [rounds_succ]
        go_wp2_with fail
        go_region
        go_wp2_with fail
        rw [rounds_succ]
        go_wp2_with fail
        go_region
        go_wp2_with fail
        rw [rounds_succ]
        go_wp2_with fail
        go_region
        go_wp2_with fail
        rw [rounds_succ]
        go_wp2_with fail
        rw [dbl nr3 nr2 mr3 mr2, dbl nr2 nr1 mr2 mr1, dbl nr1 nr0 mr1 mr0]
        have S2 := Lib.hid ((((S.out.putR3 (r3 * 2 % 18446744073709551616 + r2 / 9223372036854775808)).putR2 (r2 * 2 % 18446744073709551616 + r1 / 9223372036854775808)).putR1 (r1 * 2 % 18446744073709551616 + r0 / 9223372036854775808)).drew.drew.drew)
        generalize hW2 : (((wr.setCell ⟨w1.heap.size + 1, 3, none⟩ (.int .u64 (r3 * 2 % 18446744073709551616 + r2 / 9223372036854775808))).setCell ⟨w1.heap.size + 1, 2, none⟩ (.int .u64 (r2 * 2 % 18446744073709551616 + r1 / 9223372036854775808))).setCell ⟨w1.heap.size + 1, 1, none⟩ (.int .u64 (r1 * 2 % 18446744073709551616 + r0 / 9223372036854775808))).drew.drew.drew = W2 at S2 ⊢
        clear hW2 cr0 cr1 cr2 cr3 fr0 fr1 fr2 fr3 S
        obtain ⟨cr0, cr1, cr2, cr3⟩ := S2.out.R.cell
        obtain ⟨fr0, fr1, fr2, fr3⟩ := S2.out.R.free
        obtain ⟨ca0, ca1, ca2, ca3⟩ := S2.out.A.cell
        have hj : n / 64 = 0 ∨ n / 64 = 1 ∨ n / 64 = 2 ∨ n / 64 = 3 := by omega
        obtain ⟨m, hm, hm64⟩ : ∃ m, n % 64 = m ∧ m < 64 := ⟨n % 64, rfl, by omega⟩
        rcases hj with hj | hj | hj | hj
        · have hd : (n : Int) / 64 = 0 := by omega
          have hr : (n : Int) % 64 = (m : Int) := by omega
          have Hn := Lib.hid (show n = m by omega)
          clear hj hm
          go_wp2_with fail
          go_region
          rw [newbit (Int.ediv_nonneg HA.out.1.1 (Int.le_of_lt (two_pos m)))]
          have hbit : a0 / 2 ^ m % 2 = V a0 a1 a2 a3 / 2 ^ n % 2 := by rw [Hn.out, bit0 hm64]
          have hb01 : V a0 a1 a2 a3 / 2 ^ n % 2 = 0 ∨ V a0 a1 a2 a3 / 2 ^ n % 2 = 1 := by omega
          have Hbit := Lib.hid (show V a0 a1 a2 a3 / 2 ^ n = 2 * (V a0 a1 a2 a3 / 2 ^ (n + 1)) + V a0 a1 a2 a3 / 2 ^ n % 2 from halve _ _)
          rw [hbit]
          clear hbit
          generalize V a0 a1 a2 a3 / 2 ^ n % 2 = bit at hb01 Hbit ⊢
          obtain ⟨d3, v3, ht⟩ := shl_any Hdr.out hb01
          have S3 := Lib.hid ((S2.out.putR0 (r0 * 2 % 18446744073709551616 + bit)).drew)
          generalize hW3 : (W2.setCell ⟨w1.heap.size + 1, 0, none⟩ (.int .u64 (r0 * 2 % 18446744073709551616 + bit))).drew = W3 at S3 ⊢
          clear hW3 cr0 cr1 cr2 cr3 fr0 fr1 fr2 fr3 ca0 ca1 ca2 ca3 S2
          generalize r0 * 2 % 18446744073709551616 + bit = z0 at *
          generalize r1 * 2 % 18446744073709551616 + r0 / 9223372036854775808 = z1 at *
          generalize r2 * 2 % 18446744073709551616 + r1 / 9223372036854775808 = z2 at *
          generalize r3 * 2 % 18446744073709551616 + r2 / 9223372036854775808 = z3 at *
          generalize r3 / 9223372036854775808 = top at *
          have Hd3 := Lib.hid d3
          have Hv3 := Lib.hid v3
          have Hb01 := Lib.hid hb01
          clear d3 v3 hb01
          obtain ⟨cr0, cr1, cr2, cr3⟩ := S3.out.R.cell
          obtain ⟨cd0, cd1, cd2, cd3⟩ := S3.out.D.cell
          rcases ht with rfl | rfl
          · go_wp2_with fail
            refine (refCompare_any Hd3.out HB.out _).mono ?_
            rintro e w3 ⟨rfl, hb3⟩
            have S4 := Lib.hid (S3.out.on hb3)
            clear hb3 cr0 cr1 cr2 cr3 cd0 cd1 cd2 cd3 S3
            obtain ⟨cr0, cr1, cr2, cr3⟩ := S4.out.R.cell
            obtain ⟨cd0, cd1, cd2, cd3⟩ := S4.out.D.cell
            rcases cmp_range (V z0 z1 z2 z3) (V b0 b1 b2 b3) with ⟨hc, hlt⟩ | ⟨hc, hge⟩ | ⟨hc, hge⟩
            · rw [hc]
              have Hlt := Lib.hid hlt
              clear hc hlt
              go_wp2_with fail
              go_roundw
              case rel =>
                have hs := ref_skip hL.out.eq Hbit.out Hv3.out rfl Hlt.out
                exact ⟨n, q0, q1, q2, q3, z0, z1, z2, z3, 2 * Q, rfl, by omega, ⟨S4.out, hL.out.dq, Hd3.out, by rw [hL.out.vq, Int.pow_succ, Int.mul_comm 2 Q, Int.mul_assoc, Int.mul_comm 2], hs.1, hs.2⟩⟩
              case measure => simp [intOf]; try omega
            · rw [hc]
              have Hge := Lib.hid hge
              clear hc hge
              go_wp2_with fail
              refine (less_any Hd3.out HB.out _).mono ?_
              rintro e w4 ⟨l0, l1, l2, l3, rfl, ⟨dl, c, hc01, hvl⟩, hb4⟩
              have S5 := Lib.hid (S4.out.on hb4)
              have Hdl := Lib.hid dl
              have Hvl := Lib.hid hvl
              have Hc01 := Lib.hid hc01
              clear cr0 cr1 cr2 cr3 cd0 cd1 cd2 cd3 dl hvl hc01 hb4 S4
              obtain ⟨cr0, cr1, cr2, cr3⟩ := S5.out.R.cell
              obtain ⟨fr0, fr1, fr2, fr3⟩ := S5.out.R.free
              obtain ⟨cq0, cq1, cq2, cq3⟩ := S5.out.Q.cell
              obtain ⟨fq0, fq1, fq2, fq3⟩ := S5.out.Q.free
              go_wp2_with fail
              obtain ⟨_, p2, p3⟩ := quo0 hL.out.dq hm64 (by have e := hL.out.vq; rw [Hn.out] at e; exact e)
              have pw : IntKind.u64.wrap (q0 + IntKind.u64.wrap (2 ^ m)) = q0 + 2 ^ m := by
                have h := p2.1
                unfold Dg B at h
                rw [wrap_pow hm64, IntKind.wrap_u64]
                omega
              rw [pw]
              have S6 := Lib.hid ((S5.out.putR l0 l1 l2 l3).putQ0 (q0 + 2 ^ m))
              have Hp2 := Lib.hid p2
              have Hp3 := Lib.hid p3
              clear p2 p3 pw
              go_roundw
              case rel =>
                have hs := ref_sub hL.out.eq Hbit.out Hb01.out Hv3.out (Or.inl rfl) Hvl.out Hc01.out (V_lo Hd3.out) (V_hi Hd3.out) (V_lo Hdl.out) (V_hi Hdl.out) (V_lo hL.out.dr) hL.out.lt (V_hi HB.out) (Or.inr Hge.out)
                exact ⟨n, (q0 + 2 ^ m), q1, q2, q3, l0, l1, l2, l3, 2 * Q + 1, rfl, by omega, ⟨S6.out, Hp2.out, Hdl.out, by rw [Hp3.out, Hn.out], hs.1, hs.2⟩⟩
              case measure => simp [intOf]; try omega
            · rw [hc]
              have Hge := Lib.hid hge
              clear hc hge
              go_wp2_with fail
              refine (less_any Hd3.out HB.out _).mono ?_
              rintro e w4 ⟨l0, l1, l2, l3, rfl, ⟨dl, c, hc01, hvl⟩, hb4⟩
              have S5 := Lib.hid (S4.out.on hb4)
              have Hdl := Lib.hid dl
              have Hvl := Lib.hid hvl
              have Hc01 := Lib.hid hc01
              clear cr0 cr1 cr2 cr3 cd0 cd1 cd2 cd3 dl hvl hc01 hb4 S4
              obtain ⟨cr0, cr1, cr2, cr3⟩ := S5.out.R.cell
              obtain ⟨fr0, fr1, fr2, fr3⟩ := S5.out.R.free
              obtain ⟨cq0, cq1, cq2, cq3⟩ := S5.out.Q.cell
              obtain ⟨fq0, fq1, fq2, fq3⟩ := S5.out.Q.free
              go_wp2_with fail
              obtain ⟨_, p2, p3⟩ := quo0 hL.out.dq hm64 (by have e := hL.out.vq; rw [Hn.out] at e; exact e)
              have pw : IntKind.u64.wrap (q0 + IntKind.u64.wrap (2 ^ m)) = q0 + 2 ^ m := by
                have h := p2.1
                unfold Dg B at h
                rw [wrap_pow hm64, IntKind.wrap_u64]
                omega
              rw [pw]
              have S6 := Lib.hid ((S5.out.putR l0 l1 l2 l3).putQ0 (q0 + 2 ^ m))
              have Hp2 := Lib.hid p2
              have Hp3 := Lib.hid p3
              clear p2 p3 pw
              go_roundw
              case rel =>
                have hs := ref_sub hL.out.eq Hbit.out Hb01.out Hv3.out (Or.inl rfl) Hvl.out Hc01.out (V_lo Hd3.out) (V_hi Hd3.out) (V_lo Hdl.out) (V_hi Hdl.out) (V_lo hL.out.dr) hL.out.lt (V_hi HB.out) (Or.inr Hge.out)
                exact ⟨n, (q0 + 2 ^ m), q1, q2, q3, l0, l1, l2, l3, 2 * Q + 1, rfl, by omega, ⟨S6.out, Hp2.out, Hdl.out, by rw [Hp3.out, Hn.out], hs.1, hs.2⟩⟩
              case measure => simp [intOf]; try omega
          · skip
            go_wp2_with fail
            refine (less_any Hd3.out HB.out _).mono ?_
            rintro e w4 ⟨l0, l1, l2, l3, rfl, ⟨dl, c, hc01, hvl⟩, hb4⟩
            have S5 := Lib.hid (S3.out.on hb4)
            have Hdl := Lib.hid dl
            have Hvl := Lib.hid hvl
            have Hc01 := Lib.hid hc01
            clear cr0 cr1 cr2 cr3 cd0 cd1 cd2 cd3 dl hvl hc01 hb4 S3
            obtain ⟨cr0, cr1, cr2, cr3⟩ := S5.out.R.cell
            obtain ⟨fr0, fr1, fr2, fr3⟩ := S5.out.R.free
            obtain ⟨cq0, cq1, cq2, cq3⟩ := S5.out.Q.cell
            obtain ⟨fq0, fq1, fq2, fq3⟩ := S5.out.Q.free
            go_wp2_with fail
            obtain ⟨_, p2, p3⟩ := quo0 hL.out.dq hm64 (by have e := hL.out.vq; rw [Hn.out] at e; exact e)
            have pw : IntKind.u64.wrap (q0 + IntKind.u64.wrap (2 ^ m)) = q0 + 2 ^ m := by
              have h := p2.1
              unfold Dg B at h
              rw [wrap_pow hm64, IntKind.wrap_u64]
              omega
            rw [pw]
            have S6 := Lib.hid ((S5.out.putR l0 l1 l2 l3).putQ0 (q0 + 2 ^ m))
            have Hp2 := Lib.hid p2
            have Hp3 := Lib.hid p3
            clear p2 p3 pw
            go_roundw
            case rel =>
              have hs := ref_sub hL.out.eq Hbit.out Hb01.out Hv3.out (Or.inr rfl) Hvl.out Hc01.out (V_lo Hd3.out) (V_hi Hd3.out) (V_lo Hdl.out) (V_hi Hdl.out) (V_lo hL.out.dr) hL.out.lt (V_hi HB.out) (Or.inl rfl)
              exact ⟨n, (q0 + 2 ^ m), q1, q2, q3, l0, l1, l2, l3, 2 * Q + 1, rfl, by omega, ⟨S6.out, Hp2.out, Hdl.out, by rw [Hp3.out, Hn.out], hs.1, hs.2⟩⟩
            case measure => simp [intOf]; try omega
        · have hd : (n : Int) / 64 = 1 := by omega
          have hr : (n : Int) % 64 = (m : Int) := by omega
          have Hn := Lib.hid (show n = 64 + m by omega)
          clear hj hm
          go_wp2_with fail
          go_region
          rw [newbit (Int.ediv_nonneg HA.out.2.1.1 (Int.le_of_lt (two_pos m)))]
          have hbit : a1 / 2 ^ m % 2 = V a0 a1 a2 a3 / 2 ^ n % 2 := by rw [Hn.out, bit1 HA.out hm64]
          have hb01 : V a0 a1 a2 a3 / 2 ^ n % 2 = 0 ∨ V a0 a1 a2 a3 / 2 ^ n % 2 = 1 := by omega
          have Hbit := Lib.hid (show V a0 a1 a2 a3 / 2 ^ n = 2 * (V a0 a1 a2 a3 / 2 ^ (n + 1)) + V a0 a1 a2 a3 / 2 ^ n % 2 from halve _ _)
          rw [hbit]
          clear hbit
          generalize V a0 a1 a2 a3 / 2 ^ n % 2 = bit at hb01 Hbit ⊢
          obtain ⟨d3, v3, ht⟩ := shl_any Hdr.out hb01
          have S3 := Lib.hid ((S2.out.putR0 (r0 * 2 % 18446744073709551616 + bit)).drew)
          generalize hW3 : (W2.setCell ⟨w1.heap.size + 1, 0, none⟩ (.int .u64 (r0 * 2 % 18446744073709551616 + bit))).drew = W3 at S3 ⊢
          clear hW3 cr0 cr1 cr2 cr3 fr0 fr1 fr2 fr3 ca0 ca1 ca2 ca3 S2
          generalize r0 * 2 % 18446744073709551616 + bit = z0 at *
          generalize r1 * 2 % 18446744073709551616 + r0 / 9223372036854775808 = z1 at *
          generalize r2 * 2 % 18446744073709551616 + r1 / 9223372036854775808 = z2 at *
          generalize r3 * 2 % 18446744073709551616 + r2 / 9223372036854775808 = z3 at *
          generalize r3 / 9223372036854775808 = top at *
          have Hd3 := Lib.hid d3
          have Hv3 := Lib.hid v3
          have Hb01 := Lib.hid hb01
          clear d3 v3 hb01
          obtain ⟨cr0, cr1, cr2, cr3⟩ := S3.out.R.cell
          obtain ⟨cd0, cd1, cd2, cd3⟩ := S3.out.D.cell
          rcases ht with rfl | rfl
          · go_wp2_with fail
            refine (refCompare_any Hd3.out HB.out _).mono ?_
            rintro e w3 ⟨rfl, hb3⟩
            have S4 := Lib.hid (S3.out.on hb3)
            clear hb3 cr0 cr1 cr2 cr3 cd0 cd1 cd2 cd3 S3
            obtain ⟨cr0, cr1, cr2, cr3⟩ := S4.out.R.cell
            obtain ⟨cd0, cd1, cd2, cd3⟩ := S4.out.D.cell
            rcases cmp_range (V z0 z1 z2 z3) (V b0 b1 b2 b3) with ⟨hc, hlt⟩ | ⟨hc, hge⟩ | ⟨hc, hge⟩
            · rw [hc]
              have Hlt := Lib.hid hlt
              clear hc hlt
              go_wp2_with fail
              go_roundw
              case rel =>
                have hs := ref_skip hL.out.eq Hbit.out Hv3.out rfl Hlt.out
                exact ⟨n, q0, q1, q2, q3, z0, z1, z2, z3, 2 * Q, rfl, by omega, ⟨S4.out, hL.out.dq, Hd3.out, by rw [hL.out.vq, Int.pow_succ, Int.mul_comm 2 Q, Int.mul_assoc, Int.mul_comm 2], hs.1, hs.2⟩⟩
              case measure => simp [intOf]; try omega
            · rw [hc]
              have Hge := Lib.hid hge
              clear hc hge
              go_wp2_with fail
              refine (less_any Hd3.out HB.out _).mono ?_
              rintro e w4 ⟨l0, l1, l2, l3, rfl, ⟨dl, c, hc01, hvl⟩, hb4⟩
              have S5 := Lib.hid (S4.out.on hb4)
              have Hdl := Lib.hid dl
              have Hvl := Lib.hid hvl
              have Hc01 := Lib.hid hc01
              clear cr0 cr1 cr2 cr3 cd0 cd1 cd2 cd3 dl hvl hc01 hb4 S4
              obtain ⟨cr0, cr1, cr2, cr3⟩ := S5.out.R.cell
              obtain ⟨fr0, fr1, fr2, fr3⟩ := S5.out.R.free
              obtain ⟨cq0, cq1, cq2, cq3⟩ := S5.out.Q.cell
              obtain ⟨fq0, fq1, fq2, fq3⟩ := S5.out.Q.free
              go_wp2_with fail
              obtain ⟨_, p2, p3⟩ := quo1 hL.out.dq hm64 (by have e := hL.out.vq; rw [Hn.out] at e; exact e)
              have pw : IntKind.u64.wrap (q1 + IntKind.u64.wrap (2 ^ m)) = q1 + 2 ^ m := by
                have h := p2.2.1
                unfold Dg B at h
                rw [wrap_pow hm64, IntKind.wrap_u64]
                omega
              rw [pw]
              have S6 := Lib.hid ((S5.out.putR l0 l1 l2 l3).putQ1 (q1 + 2 ^ m))
              have Hp2 := Lib.hid p2
              have Hp3 := Lib.hid p3
              clear p2 p3 pw
              go_roundw
              case rel =>
                have hs := ref_sub hL.out.eq Hbit.out Hb01.out Hv3.out (Or.inl rfl) Hvl.out Hc01.out (V_lo Hd3.out) (V_hi Hd3.out) (V_lo Hdl.out) (V_hi Hdl.out) (V_lo hL.out.dr) hL.out.lt (V_hi HB.out) (Or.inr Hge.out)
                exact ⟨n, q0, (q1 + 2 ^ m), q2, q3, l0, l1, l2, l3, 2 * Q + 1, rfl, by omega, ⟨S6.out, Hp2.out, Hdl.out, by rw [Hp3.out, Hn.out], hs.1, hs.2⟩⟩
              case measure => simp [intOf]; try omega
            · rw [hc]
              have Hge := Lib.hid hge
              clear hc hge
              go_wp2_with fail
              refine (less_any Hd3.out HB.out _).mono ?_
              rintro e w4 ⟨l0, l1, l2, l3, rfl, ⟨dl, c, hc01, hvl⟩, hb4⟩
              have S5 := Lib.hid (S4.out.on hb4)
              have Hdl := Lib.hid dl
              have Hvl := Lib.hid hvl
              have Hc01 := Lib.hid hc01
              clear cr0 cr1 cr2 cr3 cd0 cd1 cd2 cd3 dl hvl hc01 hb4 S4
              obtain ⟨cr0, cr1, cr2, cr3⟩ := S5.out.R.cell
              obtain ⟨fr0, fr1, fr2, fr3⟩ := S5.out.R.free
              obtain ⟨cq0, cq1, cq2, cq3⟩ := S5.out.Q.cell
              obtain ⟨fq0, fq1, fq2, fq3⟩ := S5.out.Q.free
              go_wp2_with fail
              obtain ⟨_, p2, p3⟩ := quo1 hL.out.dq hm64 (by have e := hL.out.vq; rw [Hn.out] at e; exact e)
              have pw : IntKind.u64.wrap (q1 + IntKind.u64.wrap (2 ^ m)) = q1 + 2 ^ m := by
                have h := p2.2.1
                unfold Dg B at h
                rw [wrap_pow hm64, IntKind.wrap_u64]
                omega
              rw [pw]
              have S6 := Lib.hid ((S5.out.putR l0 l1 l2 l3).putQ1 (q1 + 2 ^ m))
              have Hp2 := Lib.hid p2
              have Hp3 := Lib.hid p3
              clear p2 p3 pw
              go_roundw
              case rel =>
                have hs := ref_sub hL.out.eq Hbit.out Hb01.out Hv3.out (Or.inl rfl) Hvl.out Hc01.out (V_lo Hd3.out) (V_hi Hd3.out) (V_lo Hdl.out) (V_hi Hdl.out) (V_lo hL.out.dr) hL.out.lt (V_hi HB.out) (Or.inr Hge.out)
                exact ⟨n, q0, (q1 + 2 ^ m), q2, q3, l0, l1, l2, l3, 2 * Q + 1, rfl, by omega, ⟨S6.out, Hp2.out, Hdl.out, by rw [Hp3.out, Hn.out], hs.1, hs.2⟩⟩
              case measure => simp [intOf]; try omega
          · skip
            go_wp2_with fail
            refine (less_any Hd3.out HB.out _).mono ?_
            rintro e w4 ⟨l0, l1, l2, l3, rfl, ⟨dl, c, hc01, hvl⟩, hb4⟩
            have S5 := Lib.hid (S3.out.on hb4)
            have Hdl := Lib.hid dl
            have Hvl := Lib.hid hvl
            have Hc01 := Lib.hid hc01
            clear cr0 cr1 cr2 cr3 cd0 cd1 cd2 cd3 dl hvl hc01 hb4 S3
            obtain ⟨cr0, cr1, cr2, cr3⟩ := S5.out.R.cell
            obtain ⟨fr0, fr1, fr2, fr3⟩ := S5.out.R.free
            obtain ⟨cq0, cq1, cq2, cq3⟩ := S5.out.Q.cell
            obtain ⟨fq0, fq1, fq2, fq3⟩ := S5.out.Q.free
            go_wp2_with fail
            obtain ⟨_, p2, p3⟩ := quo1 hL.out.dq hm64 (by have e := hL.out.vq; rw [Hn.out] at e; exact e)
            have pw : IntKind.u64.wrap (q1 + IntKind.u64.wrap (2 ^ m)) = q1 + 2 ^ m := by
              have h := p2.2.1
              unfold Dg B at h
              rw [wrap_pow hm64, IntKind.wrap_u64]
              omega
            rw [pw]
            have S6 := Lib.hid ((S5.out.putR l0 l1 l2 l3).putQ1 (q1 + 2 ^ m))
            have Hp2 := Lib.hid p2
            have Hp3 := Lib.hid p3
            clear p2 p3 pw
            go_roundw
            case rel =>
              have hs := ref_sub hL.out.eq Hbit.out Hb01.out Hv3.out (Or.inr rfl) Hvl.out Hc01.out (V_lo Hd3.out) (V_hi Hd3.out) (V_lo Hdl.out) (V_hi Hdl.out) (V_lo hL.out.dr) hL.out.lt (V_hi HB.out) (Or.inl rfl)
              exact ⟨n, q0, (q1 + 2 ^ m), q2, q3, l0, l1, l2, l3, 2 * Q + 1, rfl, by omega, ⟨S6.out, Hp2.out, Hdl.out, by rw [Hp3.out, Hn.out], hs.1, hs.2⟩⟩
            case measure => simp [intOf]; try omega
        · have hd : (n : Int) / 64 = 2 := by omega
          have hr : (n : Int) % 64 = (m : Int) := by omega
          have Hn := Lib.hid (show n = 128 + m by omega)
          clear hj hm
          go_wp2_with fail
          go_region
          rw [newbit (Int.ediv_nonneg HA.out.2.2.1.1 (Int.le_of_lt (two_pos m)))]
          have hbit : a2 / 2 ^ m % 2 = V a0 a1 a2 a3 / 2 ^ n % 2 := by rw [Hn.out, bit2 HA.out hm64]
          have hb01 : V a0 a1 a2 a3 / 2 ^ n % 2 = 0 ∨ V a0 a1 a2 a3 / 2 ^ n % 2 = 1 := by omega
          have Hbit := Lib.hid (show V a0 a1 a2 a3 / 2 ^ n = 2 * (V a0 a1 a2 a3 / 2 ^ (n + 1)) + V a0 a1 a2 a3 / 2 ^ n % 2 from halve _ _)
          rw [hbit]
          clear hbit
          generalize V a0 a1 a2 a3 / 2 ^ n % 2 = bit at hb01 Hbit ⊢
          obtain ⟨d3, v3, ht⟩ := shl_any Hdr.out hb01
          have S3 := Lib.hid ((S2.out.putR0 (r0 * 2 % 18446744073709551616 + bit)).drew)
          generalize hW3 : (W2.setCell ⟨w1.heap.size + 1, 0, none⟩ (.int .u64 (r0 * 2 % 18446744073709551616 + bit))).drew = W3 at S3 ⊢
          clear hW3 cr0 cr1 cr2 cr3 fr0 fr1 fr2 fr3 ca0 ca1 ca2 ca3 S2
          generalize r0 * 2 % 18446744073709551616 + bit = z0 at *
          generalize r1 * 2 % 18446744073709551616 + r0 / 9223372036854775808 = z1 at *
          generalize r2 * 2 % 18446744073709551616 + r1 / 9223372036854775808 = z2 at *
          generalize r3 * 2 % 18446744073709551616 + r2 / 9223372036854775808 = z3 at *
          generalize r3 / 9223372036854775808 = top at *
          have Hd3 := Lib.hid d3
          have Hv3 := Lib.hid v3
          have Hb01 := Lib.hid hb01
          clear d3 v3 hb01
          obtain ⟨cr0, cr1, cr2, cr3⟩ := S3.out.R.cell
          obtain ⟨cd0, cd1, cd2, cd3⟩ := S3.out.D.cell
          rcases ht with rfl | rfl
          · go_wp2_with fail
            refine (refCompare_any Hd3.out HB.out _).mono ?_
            rintro e w3 ⟨rfl, hb3⟩
            have S4 := Lib.hid (S3.out.on hb3)
            clear hb3 cr0 cr1 cr2 cr3 cd0 cd1 cd2 cd3 S3
            obtain ⟨cr0, cr1, cr2, cr3⟩ := S4.out.R.cell
            obtain ⟨cd0, cd1, cd2, cd3⟩ := S4.out.D.cell
            rcases cmp_range (V z0 z1 z2 z3) (V b0 b1 b2 b3) with ⟨hc, hlt⟩ | ⟨hc, hge⟩ | ⟨hc, hge⟩
            · rw [hc]
              have Hlt := Lib.hid hlt
              clear hc hlt
              go_wp2_with fail
              go_roundw
              case rel =>
                have hs := ref_skip hL.out.eq Hbit.out Hv3.out rfl Hlt.out
                exact ⟨n, q0, q1, q2, q3, z0, z1, z2, z3, 2 * Q, rfl, by omega, ⟨S4.out, hL.out.dq, Hd3.out, by rw [hL.out.vq, Int.pow_succ, Int.mul_comm 2 Q, Int.mul_assoc, Int.mul_comm 2], hs.1, hs.2⟩⟩
              case measure => simp [intOf]; try omega
            · rw [hc]
              have Hge := Lib.hid hge
              clear hc hge
              go_wp2_with fail
              refine (less_any Hd3.out HB.out _).mono ?_
              rintro e w4 ⟨l0, l1, l2, l3, rfl, ⟨dl, c, hc01, hvl⟩, hb4⟩
              have S5 := Lib.hid (S4.out.on hb4)
              have Hdl := Lib.hid dl
              have Hvl := Lib.hid hvl
              have Hc01 := Lib.hid hc01
              clear cr0 cr1 cr2 cr3 cd0 cd1 cd2 cd3 dl hvl hc01 hb4 S4
              obtain ⟨cr0, cr1, cr2, cr3⟩ := S5.out.R.cell
              obtain ⟨fr0, fr1, fr2, fr3⟩ := S5.out.R.free
              obtain ⟨cq0, cq1, cq2, cq3⟩ := S5.out.Q.cell
              obtain ⟨fq0, fq1, fq2, fq3⟩ := S5.out.Q.free
              go_wp2_with fail
              obtain ⟨_, p2, p3⟩ := quo2 hL.out.dq hm64 (by have e := hL.out.vq; rw [Hn.out] at e; exact e)
              have pw : IntKind.u64.wrap (q2 + IntKind.u64.wrap (2 ^ m)) = q2 + 2 ^ m := by
                have h := p2.2.2.1
                unfold Dg B at h
                rw [wrap_pow hm64, IntKind.wrap_u64]
                omega
              rw [pw]
              have S6 := Lib.hid ((S5.out.putR l0 l1 l2 l3).putQ2 (q2 + 2 ^ m))
              have Hp2 := Lib.hid p2
              have Hp3 := Lib.hid p3
              clear p2 p3 pw
              go_roundw
              case rel =>
                have hs := ref_sub hL.out.eq Hbit.out Hb01.out Hv3.out (Or.inl rfl) Hvl.out Hc01.out (V_lo Hd3.out) (V_hi Hd3.out) (V_lo Hdl.out) (V_hi Hdl.out) (V_lo hL.out.dr) hL.out.lt (V_hi HB.out) (Or.inr Hge.out)
                exact ⟨n, q0, q1, (q2 + 2 ^ m), q3, l0, l1, l2, l3, 2 * Q + 1, rfl, by omega, ⟨S6.out, Hp2.out, Hdl.out, by rw [Hp3.out, Hn.out], hs.1, hs.2⟩⟩
              case measure => simp [intOf]; try omega
            · rw [hc]
              have Hge := Lib.hid hge
              clear hc hge
              go_wp2_with fail
              refine (less_any Hd3.out HB.out _).mono ?_
              rintro e w4 ⟨l0, l1, l2, l3, rfl, ⟨dl, c, hc01, hvl⟩, hb4⟩
              have S5 := Lib.hid (S4.out.on hb4)
              have Hdl := Lib.hid dl
              have Hvl := Lib.hid hvl
              have Hc01 := Lib.hid hc01
              clear cr0 cr1 cr2 cr3 cd0 cd1 cd2 cd3 dl hvl hc01 hb4 S4
              obtain ⟨cr0, cr1, cr2, cr3⟩ := S5.out.R.cell
              obtain ⟨fr0, fr1, fr2, fr3⟩ := S5.out.R.free
              obtain ⟨cq0, cq1, cq2, cq3⟩ := S5.out.Q.cell
              obtain ⟨fq0, fq1, fq2, fq3⟩ := S5.out.Q.free
              go_wp2_with fail
              obtain ⟨_, p2, p3⟩ := quo2 hL.out.dq hm64 (by have e := hL.out.vq; rw [Hn.out] at e; exact e)
              have pw : IntKind.u64.wrap (q2 + IntKind.u64.wrap (2 ^ m)) = q2 + 2 ^ m := by
                have h := p2.2.2.1
                unfold Dg B at h
                rw [wrap_pow hm64, IntKind.wrap_u64]
                omega
              rw [pw]
              have S6 := Lib.hid ((S5.out.putR l0 l1 l2 l3).putQ2 (q2 + 2 ^ m))
              have Hp2 := Lib.hid p2
              have Hp3 := Lib.hid p3
              clear p2 p3 pw
              go_roundw
              case rel =>
                have hs := ref_sub hL.out.eq Hbit.out Hb01.out Hv3.out (Or.inl rfl) Hvl.out Hc01.out (V_lo Hd3.out) (V_hi Hd3.out) (V_lo Hdl.out) (V_hi Hdl.out) (V_lo hL.out.dr) hL.out.lt (V_hi HB.out) (Or.inr Hge.out)
                exact ⟨n, q0, q1, (q2 + 2 ^ m), q3, l0, l1, l2, l3, 2 * Q + 1, rfl, by omega, ⟨S6.out, Hp2.out, Hdl.out, by rw [Hp3.out, Hn.out], hs.1, hs.2⟩⟩
              case measure => simp [intOf]; try omega
          · skip
            go_wp2_with fail
            refine (less_any Hd3.out HB.out _).mono ?_
            rintro e w4 ⟨l0, l1, l2, l3, rfl, ⟨dl, c, hc01, hvl⟩, hb4⟩
            have S5 := Lib.hid (S3.out.on hb4)
            have Hdl := Lib.hid dl
            have Hvl := Lib.hid hvl
            have Hc01 := Lib.hid hc01
            clear cr0 cr1 cr2 cr3 cd0 cd1 cd2 cd3 dl hvl hc01 hb4 S3
            obtain ⟨cr0, cr1, cr2, cr3⟩ := S5.out.R.cell
            obtain ⟨fr0, fr1, fr2, fr3⟩ := S5.out.R.free
            obtain ⟨cq0, cq1, cq2, cq3⟩ := S5.out.Q.cell
            obtain ⟨fq0, fq1, fq2, fq3⟩ := S5.out.Q.free
            go_wp2_with fail
            obtain ⟨_, p2, p3⟩ := quo2 hL.out.dq hm64 (by have e := hL.out.vq; rw [Hn.out] at e; exact e)
            have pw : IntKind.u64.wrap (q2 + IntKind.u64.wrap (2 ^ m)) = q2 + 2 ^ m := by
              have h := p2.2.2.1
              unfold Dg B at h
              rw [wrap_pow hm64, IntKind.wrap_u64]
              omega
            rw [pw]
            have S6 := Lib.hid ((S5.out.putR l0 l1 l2 l3).putQ2 (q2 + 2 ^ m))
            have Hp2 := Lib.hid p2
            have Hp3 := Lib.hid p3
            clear p2 p3 pw
            go_roundw
            case rel =>
              have hs := ref_sub hL.out.eq Hbit.out Hb01.out Hv3.out (Or.inr rfl) Hvl.out Hc01.out (V_lo Hd3.out) (V_hi Hd3.out) (V_lo Hdl.out) (V_hi Hdl.out) (V_lo hL.out.dr) hL.out.lt (V_hi HB.out) (Or.inl rfl)
              exact ⟨n, q0, q1, (q2 + 2 ^ m), q3, l0, l1, l2, l3, 2 * Q + 1, rfl, by omega, ⟨S6.out, Hp2.out, Hdl.out, by rw [Hp3.out, Hn.out], hs.1, hs.2⟩⟩
            case measure => simp [intOf]; try omega
        · have hd : (n : Int) / 64 = 3 := by omega
          have hr : (n : Int) % 64 = (m : Int) := by omega
          have Hn := Lib.hid (show n = 192 + m by omega)
          clear hj hm
          go_wp2_with fail
          go_region
          rw [newbit (Int.ediv_nonneg HA.out.2.2.2.1 (Int.le_of_lt (two_pos m)))]
          have hbit : a3 / 2 ^ m % 2 = V a0 a1 a2 a3 / 2 ^ n % 2 := by rw [Hn.out, bit3 HA.out hm64]
          have hb01 : V a0 a1 a2 a3 / 2 ^ n % 2 = 0 ∨ V a0 a1 a2 a3 / 2 ^ n % 2 = 1 := by omega
          have Hbit := Lib.hid (show V a0 a1 a2 a3 / 2 ^ n = 2 * (V a0 a1 a2 a3 / 2 ^ (n + 1)) + V a0 a1 a2 a3 / 2 ^ n % 2 from halve _ _)
          rw [hbit]
          clear hbit
          generalize V a0 a1 a2 a3 / 2 ^ n % 2 = bit at hb01 Hbit ⊢
          obtain ⟨d3, v3, ht⟩ := shl_any Hdr.out hb01
          have S3 := Lib.hid ((S2.out.putR0 (r0 * 2 % 18446744073709551616 + bit)).drew)
          generalize hW3 : (W2.setCell ⟨w1.heap.size + 1, 0, none⟩ (.int .u64 (r0 * 2 % 18446744073709551616 + bit))).drew = W3 at S3 ⊢
          clear hW3 cr0 cr1 cr2 cr3 fr0 fr1 fr2 fr3 ca0 ca1 ca2 ca3 S2
          generalize r0 * 2 % 18446744073709551616 + bit = z0 at *
          generalize r1 * 2 % 18446744073709551616 + r0 / 9223372036854775808 = z1 at *
          generalize r2 * 2 % 18446744073709551616 + r1 / 9223372036854775808 = z2 at *
          generalize r3 * 2 % 18446744073709551616 + r2 / 9223372036854775808 = z3 at *
          generalize r3 / 9223372036854775808 = top at *
          have Hd3 := Lib.hid d3
          have Hv3 := Lib.hid v3
          have Hb01 := Lib.hid hb01
          clear d3 v3 hb01
          obtain ⟨cr0, cr1, cr2, cr3⟩ := S3.out.R.cell
          obtain ⟨cd0, cd1, cd2, cd3⟩ := S3.out.D.cell
          rcases ht with rfl | rfl
          · go_wp2_with fail
            refine (refCompare_any Hd3.out HB.out _).mono ?_
            rintro e w3 ⟨rfl, hb3⟩
            have S4 := Lib.hid (S3.out.on hb3)
            clear hb3 cr0 cr1 cr2 cr3 cd0 cd1 cd2 cd3 S3
            obtain ⟨cr0, cr1, cr2, cr3⟩ := S4.out.R.cell
            obtain ⟨cd0, cd1, cd2, cd3⟩ := S4.out.D.cell
            rcases cmp_range (V z0 z1 z2 z3) (V b0 b1 b2 b3) with ⟨hc, hlt⟩ | ⟨hc, hge⟩ | ⟨hc, hge⟩
            · rw [hc]
              have Hlt := Lib.hid hlt
              clear hc hlt
              go_wp2_with fail
              go_roundw
              case rel =>
                have hs := ref_skip hL.out.eq Hbit.out Hv3.out rfl Hlt.out
                exact ⟨n, q0, q1, q2, q3, z0, z1, z2, z3, 2 * Q, rfl, by omega, ⟨S4.out, hL.out.dq, Hd3.out, by rw [hL.out.vq, Int.pow_succ, Int.mul_comm 2 Q, Int.mul_assoc, Int.mul_comm 2], hs.1, hs.2⟩⟩
              case measure => simp [intOf]; try omega
            · rw [hc]
              have Hge := Lib.hid hge
              clear hc hge
              go_wp2_with fail
              refine (less_any Hd3.out HB.out _).mono ?_
              rintro e w4 ⟨l0, l1, l2, l3, rfl, ⟨dl, c, hc01, hvl⟩, hb4⟩
              have S5 := Lib.hid (S4.out.on hb4)
              have Hdl := Lib.hid dl
              have Hvl := Lib.hid hvl
              have Hc01 := Lib.hid hc01
              clear cr0 cr1 cr2 cr3 cd0 cd1 cd2 cd3 dl hvl hc01 hb4 S4
              obtain ⟨cr0, cr1, cr2, cr3⟩ := S5.out.R.cell
              obtain ⟨fr0, fr1, fr2, fr3⟩ := S5.out.R.free
              obtain ⟨cq0, cq1, cq2, cq3⟩ := S5.out.Q.cell
              obtain ⟨fq0, fq1, fq2, fq3⟩ := S5.out.Q.free
              go_wp2_with fail
              obtain ⟨_, p2, p3⟩ := quo3 hL.out.dq hm64 (by have e := hL.out.vq; rw [Hn.out] at e; exact e)
              have pw : IntKind.u64.wrap (q3 + IntKind.u64.wrap (2 ^ m)) = q3 + 2 ^ m := by
                have h := p2.2.2.2
                unfold Dg B at h
                rw [wrap_pow hm64, IntKind.wrap_u64]
                omega
              rw [pw]
              have S6 := Lib.hid ((S5.out.putR l0 l1 l2 l3).putQ3 (q3 + 2 ^ m))
              have Hp2 := Lib.hid p2
              have Hp3 := Lib.hid p3
              clear p2 p3 pw
              go_roundw
              case rel =>
                have hs := ref_sub hL.out.eq Hbit.out Hb01.out Hv3.out (Or.inl rfl) Hvl.out Hc01.out (V_lo Hd3.out) (V_hi Hd3.out) (V_lo Hdl.out) (V_hi Hdl.out) (V_lo hL.out.dr) hL.out.lt (V_hi HB.out) (Or.inr Hge.out)
                exact ⟨n, q0, q1, q2, (q3 + 2 ^ m), l0, l1, l2, l3, 2 * Q + 1, rfl, by omega, ⟨S6.out, Hp2.out, Hdl.out, by rw [Hp3.out, Hn.out], hs.1, hs.2⟩⟩
              case measure => simp [intOf]; try omega
            · rw [hc]
              have Hge := Lib.hid hge
              clear hc hge
              go_wp2_with fail
              refine (less_any Hd3.out HB.out _).mono ?_
              rintro e w4 ⟨l0, l1, l2, l3, rfl, ⟨dl, c, hc01, hvl⟩, hb4⟩
              have S5 := Lib.hid (S4.out.on hb4)
              have Hdl := Lib.hid dl
              have Hvl := Lib.hid hvl
              have Hc01 := Lib.hid hc01
              clear cr0 cr1 cr2 cr3 cd0 cd1 cd2 cd3 dl hvl hc01 hb4 S4
              obtain ⟨cr0, cr1, cr2, cr3⟩ := S5.out.R.cell
              obtain ⟨fr0, fr1, fr2, fr3⟩ := S5.out.R.free
              obtain ⟨cq0, cq1, cq2, cq3⟩ := S5.out.Q.cell
              obtain ⟨fq0, fq1, fq2, fq3⟩ := S5.out.Q.free
              go_wp2_with fail
              obtain ⟨_, p2, p3⟩ := quo3 hL.out.dq hm64 (by have e := hL.out.vq; rw [Hn.out] at e; exact e)
              have pw : IntKind.u64.wrap (q3 + IntKind.u64.wrap (2 ^ m)) = q3 + 2 ^ m := by
                have h := p2.2.2.2
                unfold Dg B at h
                rw [wrap_pow hm64, IntKind.wrap_u64]
                omega
              rw [pw]
              have S6 := Lib.hid ((S5.out.putR l0 l1 l2 l3).putQ3 (q3 + 2 ^ m))
              have Hp2 := Lib.hid p2
              have Hp3 := Lib.hid p3
              clear p2 p3 pw
              go_roundw
              case rel =>
                have hs := ref_sub hL.out.eq Hbit.out Hb01.out Hv3.out (Or.inl rfl) Hvl.out Hc01.out (V_lo Hd3.out) (V_hi Hd3.out) (V_lo Hdl.out) (V_hi Hdl.out) (V_lo hL.out.dr) hL.out.lt (V_hi HB.out) (Or.inr Hge.out)
                exact ⟨n, q0, q1, q2, (q3 + 2 ^ m), l0, l1, l2, l3, 2 * Q + 1, rfl, by omega, ⟨S6.out, Hp2.out, Hdl.out, by rw [Hp3.out, Hn.out], hs.1, hs.2⟩⟩
              case measure => simp [intOf]; try omega
          · skip
            go_wp2_with fail
            refine (less_any Hd3.out HB.out _).mono ?_
            rintro e w4 ⟨l0, l1, l2, l3, rfl, ⟨dl, c, hc01, hvl⟩, hb4⟩
            have S5 := Lib.hid (S3.out.on hb4)
            have Hdl := Lib.hid dl
            have Hvl := Lib.hid hvl
            have Hc01 := Lib.hid hc01
            clear cr0 cr1 cr2 cr3 cd0 cd1 cd2 cd3 dl hvl hc01 hb4 S3
            obtain ⟨cr0, cr1, cr2, cr3⟩ := S5.out.R.cell
            obtain ⟨fr0, fr1, fr2, fr3⟩ := S5.out.R.free
            obtain ⟨cq0, cq1, cq2, cq3⟩ := S5.out.Q.cell
            obtain ⟨fq0, fq1, fq2, fq3⟩ := S5.out.Q.free
            go_wp2_with fail
            obtain ⟨_, p2, p3⟩ := quo3 hL.out.dq hm64 (by have e := hL.out.vq; rw [Hn.out] at e; exact e)
            have pw : IntKind.u64.wrap (q3 + IntKind.u64.wrap (2 ^ m)) = q3 + 2 ^ m := by
              have h := p2.2.2.2
              unfold Dg B at h
              rw [wrap_pow hm64, IntKind.wrap_u64]
              omega
            rw [pw]
            have S6 := Lib.hid ((S5.out.putR l0 l1 l2 l3).putQ3 (q3 + 2 ^ m))
            have Hp2 := Lib.hid p2
            have Hp3 := Lib.hid p3
            clear p2 p3 pw
            go_roundw
            case rel =>
              have hs := ref_sub hL.out.eq Hbit.out Hb01.out Hv3.out (Or.inr rfl) Hvl.out Hc01.out (V_lo Hd3.out) (V_hi Hd3.out) (V_lo Hdl.out) (V_hi Hdl.out) (V_lo hL.out.dr) hL.out.lt (V_hi HB.out) (Or.inl rfl)
              exact ⟨n, q0, q1, q2, (q3 + 2 ^ m), l0, l1, l2, l3, 2 * Q + 1, rfl, by omega, ⟨S6.out, Hp2.out, Hdl.out, by rw [Hp3.out, Hn.out], hs.1, hs.2⟩⟩
            case measure => simp [intOf]; try omega
end Go.Proofs.Ytnnlpiflalmmlaa
