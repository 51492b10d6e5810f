/-
  The walk of package wide: Div.
-/
import Derived.Test.YtnnlpiflalmmlaaDivNum
namespace Go.Proofs.Ytnnlpiflalmmlaa
open Go.RowKit

/-- What stands in memory: the dividend, the divisor, the quotient, the rest. -/
structure DSt (w wr : World) (a0 a1 a2 a3 b0 b1 b2 b3 q0 q1 q2 q3 r0 r1 r2 r3 : Int) : Prop where
  below : Below w.heap.size w wr
  A : At4 wr w.heap.size a0 a1 a2 a3
  D : At4 wr (w.heap.size + 1) b0 b1 b2 b3
  Q : At4 wr (w.heap.size + 1 + 1) q0 q1 q2 q3
  R : At4 wr (w.heap.size + 1 + 1 + 1) r0 r1 r2 r3

section
variable {w wr w1 : World} {a0 a1 a2 a3 b0 b1 b2 b3 q0 q1 q2 q3 r0 r1 r2 r3 : Int}
theorem DSt.on (h : DSt w wr a0 a1 a2 a3 b0 b1 b2 b3 q0 q1 q2 q3 r0 r1 r2 r3) (hb : Below wr.heap.size wr w1) : DSt w w1 a0 a1 a2 a3 b0 b1 b2 b3 q0 q1 q2 q3 r0 r1 r2 r3 :=
  ⟨h.below.trans (hb.mono (by have := h.R.lt; omega)), h.A.on hb, h.D.on hb, h.Q.on hb, h.R.on hb⟩
theorem DSt.putR (h : DSt w wr a0 a1 a2 a3 b0 b1 b2 b3 q0 q1 q2 q3 r0 r1 r2 r3) (y0 y1 y2 y3 : Int) :
    DSt w ((((wr.setCell ⟨w.heap.size + 1 + 1 + 1, 0, none⟩ (.int .u64 y0)).setCell ⟨w.heap.size + 1 + 1 + 1, 1, none⟩ (.int .u64 y1)).setCell ⟨w.heap.size + 1 + 1 + 1, 2, none⟩ (.int .u64 y2)).setCell ⟨w.heap.size + 1 + 1 + 1, 3, none⟩ (.int .u64 y3)) a0 a1 a2 a3 b0 b1 b2 b3 q0 q1 q2 q3 y0 y1 y2 y3 :=
  ⟨(((h.below.setCell (by simp; omega) _).setCell (by simp; omega) _).setCell (by simp; omega) _).setCell (by simp; omega) _, h.A.otherAll (by omega) _ _ _ _, h.D.otherAll (by omega) _ _ _ _, h.Q.otherAll (by omega) _ _ _ _, h.R.setAll _ _ _ _⟩
theorem DSt.putR0 (h : DSt w wr a0 a1 a2 a3 b0 b1 b2 b3 q0 q1 q2 q3 r0 r1 r2 r3) (y0 : Int) :
    DSt w ((wr.setCell ⟨w.heap.size + 1 + 1 + 1, 0, none⟩ (.int .u64 y0)).drew) a0 a1 a2 a3 b0 b1 b2 b3 q0 q1 q2 q3 y0 r1 r2 r3 :=
  ⟨(h.below.setCell (by simp; try omega) _).drew, h.A.other (by simp; try omega) _, h.D.other (by simp; try omega) _, h.Q.other (by simp; try omega) _, h.R.set0 _⟩
theorem DSt.putQ0 (h : DSt w wr a0 a1 a2 a3 b0 b1 b2 b3 q0 q1 q2 q3 r0 r1 r2 r3) (y : Int) :
    DSt w ((wr.setCell ⟨w.heap.size + 1 + 1, 0, none⟩ (.int .u64 y)).drew) a0 a1 a2 a3 b0 b1 b2 b3 y q1 q2 q3 r0 r1 r2 r3 :=
  ⟨(h.below.setCell (by simp; try omega) _).drew, h.A.other (by simp; try omega) _, h.D.other (by simp; try omega) _, h.Q.set0 _, h.R.other (by simp; try omega) _⟩
theorem DSt.putQ1 (h : DSt w wr a0 a1 a2 a3 b0 b1 b2 b3 q0 q1 q2 q3 r0 r1 r2 r3) (y : Int) :
    DSt w ((wr.setCell ⟨w.heap.size + 1 + 1, 1, none⟩ (.int .u64 y)).drew) a0 a1 a2 a3 b0 b1 b2 b3 q0 y q2 q3 r0 r1 r2 r3 :=
  ⟨(h.below.setCell (by simp; try omega) _).drew, h.A.other (by simp; try omega) _, h.D.other (by simp; try omega) _, h.Q.set1 _, h.R.other (by simp; try omega) _⟩
theorem DSt.putQ2 (h : DSt w wr a0 a1 a2 a3 b0 b1 b2 b3 q0 q1 q2 q3 r0 r1 r2 r3) (y : Int) :
    DSt w ((wr.setCell ⟨w.heap.size + 1 + 1, 2, none⟩ (.int .u64 y)).drew) a0 a1 a2 a3 b0 b1 b2 b3 q0 q1 y q3 r0 r1 r2 r3 :=
  ⟨(h.below.setCell (by simp; try omega) _).drew, h.A.other (by simp; try omega) _, h.D.other (by simp; try omega) _, h.Q.set2 _, h.R.other (by simp; try omega) _⟩
theorem DSt.putQ3 (h : DSt w wr a0 a1 a2 a3 b0 b1 b2 b3 q0 q1 q2 q3 r0 r1 r2 r3) (y : Int) :
    DSt w ((wr.setCell ⟨w.heap.size + 1 + 1, 3, none⟩ (.int .u64 y)).drew) a0 a1 a2 a3 b0 b1 b2 b3 q0 q1 q2 y r0 r1 r2 r3 :=
  ⟨(h.below.setCell (by simp; try omega) _).drew, h.A.other (by simp; try omega) _, h.D.other (by simp; try omega) _, h.Q.set3 _, h.R.other (by simp; try omega) _⟩
theorem DSt.alloc (h : DSt w wr a0 a1 a2 a3 b0 b1 b2 b3 q0 q1 q2 q3 r0 r1 r2 r3) (o : Obj) : DSt w (wr.alloc o) a0 a1 a2 a3 b0 b1 b2 b3 q0 q1 q2 q3 r0 r1 r2 r3 :=
  ⟨h.below.alloc (by have := h.R.lt; omega) o, h.A.alloc o, h.D.alloc o, h.Q.alloc o, h.R.alloc o⟩
theorem DSt.start (w : World) (a0 a1 a2 a3 b0 b1 b2 b3 : Int) :
    DSt w ((((w.alloc (.cells #[.int .u64 a0, .int .u64 a1, .int .u64 a2, .int .u64 a3] 24)).alloc (.cells #[.int .u64 b0, .int .u64 b1, .int .u64 b2, .int .u64 b3] 24)).alloc (.cells #[.int .u64 0, .int .u64 0, .int .u64 0, .int .u64 0] 24)).alloc (.cells #[.int .u64 0, .int .u64 0, .int .u64 0, .int .u64 0] 24)) a0 a1 a2 a3 b0 b1 b2 b3 0 0 0 0 0 0 0 0 := by
  have h1 := At4.new w a0 a1 a2 a3
  have h2 := At4.new (w.alloc (.cells #[.int .u64 a0, .int .u64 a1, .int .u64 a2, .int .u64 a3] 24)) b0 b1 b2 b3
  have h3 := At4.new ((w.alloc (.cells #[.int .u64 a0, .int .u64 a1, .int .u64 a2, .int .u64 a3] 24)).alloc (.cells #[.int .u64 b0, .int .u64 b1, .int .u64 b2, .int .u64 b3] 24)) 0 0 0 0
  have h4 := At4.new (((w.alloc (.cells #[.int .u64 a0, .int .u64 a1, .int .u64 a2, .int .u64 a3] 24)).alloc (.cells #[.int .u64 b0, .int .u64 b1, .int .u64 b2, .int .u64 b3] 24)).alloc (.cells #[.int .u64 0, .int .u64 0, .int .u64 0, .int .u64 0] 24)) 0 0 0 0
  refine ⟨by repeat (first | with_reducible exact Below.refl _ _ | with_reducible refine Below.alloc ?_ (by simp; try omega) _), ((h1.alloc _).alloc _).alloc _, ?_, ?_, ?_⟩
  · simpa using (h2.alloc _).alloc _
  · simpa using h3.alloc _
  · simpa using h4
end

/-- Where the division stands when k bits are still to come. -/
structure Long (w wr : World) (a0 a1 a2 a3 b0 b1 b2 b3 q0 q1 q2 q3 r0 r1 r2 r3 : Int) (k : Nat) (Q : Int) : Prop where
  st : DSt w wr a0 a1 a2 a3 b0 b1 b2 b3 q0 q1 q2 q3 r0 r1 r2 r3
  dq : D4 q0 q1 q2 q3
  dr : D4 r0 r1 r2 r3
  vq : V q0 q1 q2 q3 = Q * 2 ^ k
  eq : V a0 a1 a2 a3 / 2 ^ k = V b0 b1 b2 b3 * Q + V r0 r1 r2 r3
  lt : V r0 r1 r2 r3 < V b0 b1 b2 b3

/-- Three digits and how it ended. -/
def DivP (w : World) (a b : Int) (e : Ending) (w' : World) : Prop :=
  ∃ q0 q1 q2 q3 r0 r1 r2 r3 c : Int, e = .returned (.tuple #[.agg #[.int .u64 q0, .int .u64 q1, .int .u64 q2, .int .u64 q3], .agg #[.int .u64 r0, .int .u64 r1, .int .u64 r2, .int .u64 r3], .int .i64 c]) ∧
    D4 q0 q1 q2 q3 ∧ D4 r0 r1 r2 r3 ∧ ((b = 0 ∧ c = 32 ∧ V q0 q1 q2 q3 = 0 ∧ V r0 r1 r2 r3 = 0) ∨ (b ≠ 0 ∧ c = 0 ∧ a = V q0 q1 q2 q3 * b + V r0 r1 r2 r3 ∧ V r0 r1 r2 r3 < b)) ∧ Below w.heap.size w w'

set_option maxHeartbeats 4000000 in
theorem Div_any {a0 a1 a2 a3 b0 b1 b2 b3 : Int} (ha : D4 a0 a1 a2 a3) (hb : D4 b0 b1 b2 b3) (w : World) :
    Calls Try.prog 20 #[.agg #[.int .u64 a0, .int .u64 a1, .int .u64 a2, .int .u64 a3], .agg #[.int .u64 b0, .int .u64 b1, .int .u64 b2, .int .u64 b3]] w
      (DivP w (V a0 a1 a2 a3) (V b0 b1 b2 b3)) := by
  have HA := Lib.hid ha
  have HB := Lib.hid hb
  by_cases hz : V b0 b1 b2 b3 = 0
  · obtain ⟨rfl, rfl, rfl, rfl⟩ := V_zero hb hz
    have heq := @eq4_true 0 0 0 0
    clear hz ha hb
    go_enter Try.func20, Try.ntmps20
    go_wp2_with fail
    exact bodyPost_ret (v := .tuple #[.agg #[.int .u64 0, .int .u64 0, .int .u64 0, .int .u64 0], .agg #[.int .u64 0, .int .u64 0, .int .u64 0, .int .u64 0], .int .i64 32]) (by simp [results, Try.results20, go_sem]) rfl
      ⟨0, 0, 0, 0, 0, 0, 0, 0, 32, rfl, D4_zero, D4_zero, Or.inl ⟨by unfold V; simp, rfl, by unfold V; simp, by unfold V; simp⟩, by repeat (first | with_reducible exact Below.refl _ _ | with_reducible refine Below.alloc ?_ (by simp; try omega) _)⟩
  · have heq := eq4_false (a0 := b0) (a1 := b1) (a2 := b2) (a3 := b3) (b0 := 0) (b1 := 0) (b2 := 0) (b3 := 0) (V_ne (by rw [show V 0 0 0 0 = 0 by unfold V; simp]; exact hz))
    have hst : Hid (Long w ((((w.alloc (.cells #[.int .u64 a0, .int .u64 a1, .int .u64 a2, .int .u64 a3] 24)).alloc (.cells #[.int .u64 b0, .int .u64 b1, .int .u64 b2, .int .u64 b3] 24)).alloc (.cells #[.int .u64 0, .int .u64 0, .int .u64 0, .int .u64 0] 24)).alloc (.cells #[.int .u64 0, .int .u64 0, .int .u64 0, .int .u64 0] 24)) a0 a1 a2 a3 b0 b1 b2 b3 0 0 0 0 0 0 0 0 256 0) := by
      have z : V 0 0 0 0 = 0 := by unfold V; simp
      have l := V_lo hb
      have la := V_lo ha
      have ua := V_hi ha
      have e : M = 2 ^ 256 := rfl
      rw [e] at ua
      exact ⟨DSt.start _ _ _ _ _ _ _ _ _, D4_zero, D4_zero, by rw [z]; simp, by rw [z, Int.ediv_eq_zero_of_lt la ua]; simp, by rw [z]; omega⟩
    have Hz := Lib.hid hz
    clear hz ha hb
    go_enter Try.func20, Try.ntmps20
    go_wp2_with fail
    go_loopw [7] (fun iv wr => ∃ (k : Nat) (q0 q1 q2 q3 r0 r1 r2 r3 Q : Int), iv = .int .i64 ((k : Int) - 1) ∧ k ≤ 256 ∧ Hid (Long w wr a0 a1 a2 a3 b0 b1 b2 b3 q0 q1 q2 q3 r0 r1 r2 r3 k Q)) (fun iv _ => (intOf iv + 1).toNat)
    case atStart => exact ⟨256, 0, 0, 0, 0, 0, 0, 0, 0, 0, rfl, Nat.le_refl _, hst⟩
    case round =>
      clear hst heq
      obtain ⟨k, q0, q1, q2, q3, r0, r1, r2, r3, Q, rfl, hk, hL⟩ := hrel
      by_cases hk0 : k = 0
      · subst hk0
        obtain ⟨cq0, cq1, cq2, cq3⟩ := hL.out.st.Q.cell
        obtain ⟨cr0, cr1, cr2, cr3⟩ := hL.out.st.R.cell
        obtain ⟨fq0, fq1, fq2, fq3⟩ := hL.out.st.Q.free
        obtain ⟨fr0, fr1, fr2, fr3⟩ := hL.out.st.R.free
        go_wp2_with fail
        go_region
        go_wp2_with fail
        refine bodyPost_ret (v := .tuple #[.agg #[.int .u64 q0, .int .u64 q1, .int .u64 q2, .int .u64 q3], .agg #[.int .u64 r0, .int .u64 r1, .int .u64 r2, .int .u64 r3], .int .i64 0]) (by simp [results, Try.results20, go_sem, cq0, cq1, cq2, cq3, cr0, cr1, cr2, cr3]) rfl
          ⟨q0, q1, q2, q3, r0, r1, r2, r3, 0, rfl, hL.out.dq, hL.out.dr, Or.inr ⟨Hz.out, rfl, ?_, hL.out.lt⟩, ?_⟩
        · have e1 := hL.out.eq
          have e2 := hL.out.vq
          simp only [Int.pow_zero, Int.mul_one, Int.ediv_one] at e1 e2
          rw [e1, e2, Int.mul_comm]
        · repeat (first | with_reducible exact hL.out.st.below | with_reducible refine Below.drew ?_ | with_reducible refine Below.setCell ?_ (by simp; try omega) _)
      · obtain ⟨n, rfl⟩ : ∃ n, k = n + 1 := ⟨k - 1, by omega⟩
        have hn : n < 256 := by omega
        rw [show (((n + 1 : Nat) : Int) - 1) = (n : Int) by omega]
        have S := Lib.hid hL.out.st
        obtain ⟨cr0, cr1, cr2, cr3⟩ := hL.out.st.R.cell
        have hadd := add_any hL.out.dr hL.out.dr
        have ho := over_is hL.out.dr
        have d3 := hL.out.dr.2.2.2.1
        clear hk0 hk
        go_wp2_with fail
        refine (hadd _).mono ?_
        rintro e w1 ⟨x0, x1, x2, x3, c, rfl, ⟨dx, hc01, hvx⟩, hb1⟩
        have S1 := S.out.on hb1
        have S2 := Lib.hid (S1.putR x0 x1 x2 x3)
        clear cr0 cr1 cr2 cr3 hb1 hadd
        obtain ⟨cr0, cr1, cr2, cr3⟩ := S1.R.cell
        obtain ⟨fr0, fr1, fr2, fr3⟩ := S1.R.free
        have Hvx := Lib.hid hvx
        have Hdx := Lib.hid dx
        have Hc01 := Lib.hid hc01
        have Ho := Lib.hid ho
        clear hvx dx hc01 ho S1
        go_wp2_with fail
        generalize hW2 : ((((w1.setCell ⟨w.heap.size + 1 + 1 + 1, 0, none⟩ (.int .u64 x0)).setCell ⟨w.heap.size + 1 + 1 + 1, 1, none⟩ (.int .u64 x1)).setCell ⟨w.heap.size + 1 + 1 + 1, 2, none⟩ (.int .u64 x2)).setCell ⟨w.heap.size + 1 + 1 + 1, 3, none⟩ (.int .u64 x3)) = W2 at S2 ⊢
        clear hW2 cr0 cr1 cr2 cr3 fr0 fr1 fr2 fr3
        obtain ⟨cr0, cr1, cr2, cr3⟩ := S2.out.R.cell
        obtain ⟨ca0, ca1, ca2, ca3⟩ := S2.out.A.cell
        obtain ⟨fr0, fr1, fr2, fr3⟩ := S2.out.R.free
        have hj : n / 64 = 0 ∨ n / 64 = 1 ∨ n / 64 = 2 ∨ n / 64 = 3 := by omega
        obtain ⟨m, hm, hm64⟩ : ∃ m, n % 64 = m ∧ m < 64 := ⟨n % 64, rfl, by omega⟩
        rcases hj with hj | hj | hj | hj
        · have hd : (n : Int) / 64 = 0 := by omega
          have hr : (n : Int) % 64 = (m : Int) := by omega
          have Hn := Lib.hid (show n = m by omega)
          clear hj hm
          go_region
          have hbit : bits BinOp.and IntKind.u64 (a0 / 2 ^ m) 1 = V a0 a1 a2 a3 / 2 ^ n % 2 := by rw [and_shift HA.out.1, Hn.out, bit0 hm64]
          have hb01 : V a0 a1 a2 a3 / 2 ^ n % 2 = 0 ∨ V a0 a1 a2 a3 / 2 ^ n % 2 = 1 := by omega
          have Hbit := Lib.hid (show V a0 a1 a2 a3 / 2 ^ n = 2 * (V a0 a1 a2 a3 / 2 ^ (n + 1)) + V a0 a1 a2 a3 / 2 ^ n % 2 from halve _ _)
          rw [hbit]
          clear hbit
          generalize V a0 a1 a2 a3 / 2 ^ n % 2 = bit at hb01 Hbit ⊢
          obtain ⟨o1, o2, o3⟩ := rest_bit Hdx.out (show V x0 x1 x2 x3 = 2 * V r0 r1 r2 r3 - M * c by rw [Hvx.out]; omega) hb01
          rw [o1]
          clear o1
          have S3 := Lib.hid (S2.out.putR0 (x0 + bit))
          generalize hW3 : (W2.setCell ⟨w.heap.size + 1 + 1 + 1, 0, none⟩ (.int .u64 (x0 + bit))).drew = W3 at S3 ⊢
          clear hW3 cr0 cr1 cr2 cr3 ca0 ca1 ca2 ca3 fr0 fr1 fr2 fr3 S2
          generalize x0 + bit = z0 at *
          obtain ⟨cr0, cr1, cr2, cr3⟩ := S3.out.R.cell
          obtain ⟨cd0, cd1, cd2, cd3⟩ := S3.out.D.cell
          have hsub := sub_any o2 HB.out
          have Ho2 := Lib.hid o2
          have Ho3 := Lib.hid o3
          clear o2 o3
          go_wp2_with fail
          refine (hsub _).mono ?_
          rintro e w3 ⟨l0, l1, l2, l3, bo, rfl, ⟨dl, hbo01, hvl⟩, hb3⟩
          have S4 := S3.out.on hb3
          have z4 := S4.R.lt
          have Hdl := Lib.hid dl
          have Hvl := Lib.hid hvl
          have Hbo := Lib.hid hbo01
          clear cr0 cr1 cr2 cr3 cd0 cd1 cd2 cd3 dl hvl hb3 hsub S3
          obtain ⟨cr0, cr1, cr2, cr3⟩ := S4.R.cell
          obtain ⟨fr0, fr1, fr2, fr3⟩ := S4.R.free
          obtain ⟨cq0, cq1, cq2, cq3⟩ := S4.Q.cell
          obtain ⟨fq0, fq1, fq2, fq3⟩ := S4.Q.free
          have z5 := S4.Q.lt
          have HS4 := Lib.hid S4
          clear S4
          rcases Ho.out with ⟨ov, hov⟩ | ⟨ov, hov⟩
          · rw [ov]
            clear ov hbo01
            go_wp2_with fail
            have S5 := Lib.hid ((HS4.out.putR l0 l1 l2 l3).alloc (.cells #[.int .u64 l0, .int .u64 l1, .int .u64 l2, .int .u64 l3] 24))
            generalize hW5 : (((((w3.setCell ⟨w.heap.size + 1 + 1 + 1, 0, none⟩ (.int .u64 l0)).setCell ⟨w.heap.size + 1 + 1 + 1, 1, none⟩ (.int .u64 l1)).setCell ⟨w.heap.size + 1 + 1 + 1, 2, none⟩ (.int .u64 l2)).setCell ⟨w.heap.size + 1 + 1 + 1, 3, none⟩ (.int .u64 l3)).alloc (.cells #[.int .u64 l0, .int .u64 l1, .int .u64 l2, .int .u64 l3] 24)) = W5 at S5 ⊢
            clear hW5 cr0 cr1 cr2 cr3 fr0 fr1 fr2 fr3 cq0 cq1 cq2 cq3 fq0 fq1 fq2 fq3 z4 z5 HS4
            obtain ⟨cq0, cq1, cq2, cq3⟩ := S5.out.Q.cell
            obtain ⟨fq0, fq1, fq2, fq3⟩ := S5.out.Q.free
            go_region
            obtain ⟨p1, p2, p3⟩ := quo0 hL.out.dq hm64 (by have e := hL.out.vq; rw [Hn.out] at e; exact e)
            rw [wrap_pow hm64, p1]
            have S6 := Lib.hid (S5.out.putQ0 (q0 + 2 ^ m))
            generalize hW6 : (W5.setCell ⟨w.heap.size + 1 + 1, 0, none⟩ (.int .u64 (q0 + 2 ^ m))).drew = W6 at S6 ⊢
            clear hW6 cq0 cq1 cq2 cq3 fq0 fq1 fq2 fq3 p1
            have Hp2 := Lib.hid p2
            have Hp3 := Lib.hid p3
            clear p2 p3
            go_wp2_with fail
            go_roundw
            case rel =>
              have hs := div_sub hL.out.eq Hbit.out hb01 Hvx.out Ho3.out Hvl.out (V_lo Hdx.out) (V_hi Hdx.out) (V_lo Ho2.out) (V_hi Ho2.out) (V_lo Hdl.out) (V_hi Hdl.out) (V_lo hL.out.dr) hL.out.lt (V_hi HB.out) Hc01.out Hbo.out (Or.inl hov)
              exact ⟨n, (q0 + 2 ^ m), q1, q2, q3, l0, l1, l2, l3, 2 * Q + 1, rfl, by omega, ⟨S6.out, Hp2.out, Hdl.out, by rw [Hp3.out, Hn.out], hs.1, hs.2⟩⟩
            case measure => simp [intOf]; try omega
          · rw [ov]
            clear ov
            rcases hbo01 with rfl | rfl
            · go_wp2_with fail
              have S5 := Lib.hid ((HS4.out.putR l0 l1 l2 l3).alloc (.cells #[.int .u64 l0, .int .u64 l1, .int .u64 l2, .int .u64 l3] 24))
              generalize hW5 : (((((w3.setCell ⟨w.heap.size + 1 + 1 + 1, 0, none⟩ (.int .u64 l0)).setCell ⟨w.heap.size + 1 + 1 + 1, 1, none⟩ (.int .u64 l1)).setCell ⟨w.heap.size + 1 + 1 + 1, 2, none⟩ (.int .u64 l2)).setCell ⟨w.heap.size + 1 + 1 + 1, 3, none⟩ (.int .u64 l3)).alloc (.cells #[.int .u64 l0, .int .u64 l1, .int .u64 l2, .int .u64 l3] 24)) = W5 at S5 ⊢
              clear hW5 cr0 cr1 cr2 cr3 fr0 fr1 fr2 fr3 cq0 cq1 cq2 cq3 fq0 fq1 fq2 fq3 z4 z5 HS4
              obtain ⟨cq0, cq1, cq2, cq3⟩ := S5.out.Q.cell
              obtain ⟨fq0, fq1, fq2, fq3⟩ := S5.out.Q.free
              go_region
              obtain ⟨p1, p2, p3⟩ := quo0 hL.out.dq hm64 (by have e := hL.out.vq; rw [Hn.out] at e; exact e)
              rw [wrap_pow hm64, p1]
              have S6 := Lib.hid (S5.out.putQ0 (q0 + 2 ^ m))
              generalize hW6 : (W5.setCell ⟨w.heap.size + 1 + 1, 0, none⟩ (.int .u64 (q0 + 2 ^ m))).drew = W6 at S6 ⊢
              clear hW6 cq0 cq1 cq2 cq3 fq0 fq1 fq2 fq3 p1
              have Hp2 := Lib.hid p2
              have Hp3 := Lib.hid p3
              clear p2 p3
              go_wp2_with fail
              go_roundw
              case rel =>
                have hs := div_sub hL.out.eq Hbit.out hb01 Hvx.out Ho3.out Hvl.out (V_lo Hdx.out) (V_hi Hdx.out) (V_lo Ho2.out) (V_hi Ho2.out) (V_lo Hdl.out) (V_hi Hdl.out) (V_lo hL.out.dr) hL.out.lt (V_hi HB.out) Hc01.out (Or.inl rfl) (Or.inr rfl)
                exact ⟨n, (q0 + 2 ^ m), q1, q2, q3, l0, l1, l2, l3, 2 * Q + 1, rfl, by omega, ⟨S6.out, Hp2.out, Hdl.out, by rw [Hp3.out, Hn.out], hs.1, hs.2⟩⟩
              case measure => simp [intOf]; try omega
            · go_wp2_with fail
              clear cr0 cr1 cr2 cr3 fr0 fr1 fr2 fr3 cq0 cq1 cq2 cq3 fq0 fq1 fq2 fq3 z4 z5
              go_roundw
              case rel =>
                have hs := div_skip hL.out.eq Hbit.out hb01 Hvx.out Ho3.out Hvl.out (V_lo Hdx.out) (V_hi Hdx.out) (V_lo Hdl.out) (V_hi Hdl.out) Hc01.out rfl hov
                exact ⟨n, q0, q1, q2, q3, z0, x1, x2, x3, 2 * Q, rfl, by omega, ⟨HS4.out.alloc _, hL.out.dq, Ho2.out, by rw [hL.out.vq, Int.pow_succ, Int.mul_comm 2 Q, Int.mul_assoc, Int.mul_comm 2], hs.1, hs.2⟩⟩
              case measure => simp [intOf]; try omega
        · have hd : (n : Int) / 64 = 1 := by omega
          have hr : (n : Int) % 64 = (m : Int) := by omega
          have Hn := Lib.hid (show n = 64 + m by omega)
          clear hj hm
          go_region
          have hbit : bits BinOp.and IntKind.u64 (a1 / 2 ^ m) 1 = V a0 a1 a2 a3 / 2 ^ n % 2 := by rw [and_shift HA.out.2.1, Hn.out, bit1 HA.out hm64]
          have hb01 : V a0 a1 a2 a3 / 2 ^ n % 2 = 0 ∨ V a0 a1 a2 a3 / 2 ^ n % 2 = 1 := by omega
          have Hbit := Lib.hid (show V a0 a1 a2 a3 / 2 ^ n = 2 * (V a0 a1 a2 a3 / 2 ^ (n + 1)) + V a0 a1 a2 a3 / 2 ^ n % 2 from halve _ _)
          rw [hbit]
          clear hbit
          generalize V a0 a1 a2 a3 / 2 ^ n % 2 = bit at hb01 Hbit ⊢
          obtain ⟨o1, o2, o3⟩ := rest_bit Hdx.out (show V x0 x1 x2 x3 = 2 * V r0 r1 r2 r3 - M * c by rw [Hvx.out]; omega) hb01
          rw [o1]
          clear o1
          have S3 := Lib.hid (S2.out.putR0 (x0 + bit))
          generalize hW3 : (W2.setCell ⟨w.heap.size + 1 + 1 + 1, 0, none⟩ (.int .u64 (x0 + bit))).drew = W3 at S3 ⊢
          clear hW3 cr0 cr1 cr2 cr3 ca0 ca1 ca2 ca3 fr0 fr1 fr2 fr3 S2
          generalize x0 + bit = z0 at *
          obtain ⟨cr0, cr1, cr2, cr3⟩ := S3.out.R.cell
          obtain ⟨cd0, cd1, cd2, cd3⟩ := S3.out.D.cell
          have hsub := sub_any o2 HB.out
          have Ho2 := Lib.hid o2
          have Ho3 := Lib.hid o3
          clear o2 o3
          go_wp2_with fail
          refine (hsub _).mono ?_
          rintro e w3 ⟨l0, l1, l2, l3, bo, rfl, ⟨dl, hbo01, hvl⟩, hb3⟩
          have S4 := S3.out.on hb3
          have z4 := S4.R.lt
          have Hdl := Lib.hid dl
          have Hvl := Lib.hid hvl
          have Hbo := Lib.hid hbo01
          clear cr0 cr1 cr2 cr3 cd0 cd1 cd2 cd3 dl hvl hb3 hsub S3
          obtain ⟨cr0, cr1, cr2, cr3⟩ := S4.R.cell
          obtain ⟨fr0, fr1, fr2, fr3⟩ := S4.R.free
          obtain ⟨cq0, cq1, cq2, cq3⟩ := S4.Q.cell
          obtain ⟨fq0, fq1, fq2, fq3⟩ := S4.Q.free
          have z5 := S4.Q.lt
          have HS4 := Lib.hid S4
          clear S4
          rcases Ho.out with ⟨ov, hov⟩ | ⟨ov, hov⟩
          · rw [ov]
            clear ov hbo01
            go_wp2_with fail
            have S5 := Lib.hid ((HS4.out.putR l0 l1 l2 l3).alloc (.cells #[.int .u64 l0, .int .u64 l1, .int .u64 l2, .int .u64 l3] 24))
            generalize hW5 : (((((w3.setCell ⟨w.heap.size + 1 + 1 + 1, 0, none⟩ (.int .u64 l0)).setCell ⟨w.heap.size + 1 + 1 + 1, 1, none⟩ (.int .u64 l1)).setCell ⟨w.heap.size + 1 + 1 + 1, 2, none⟩ (.int .u64 l2)).setCell ⟨w.heap.size + 1 + 1 + 1, 3, none⟩ (.int .u64 l3)).alloc (.cells #[.int .u64 l0, .int .u64 l1, .int .u64 l2, .int .u64 l3] 24)) = W5 at S5 ⊢
            clear hW5 cr0 cr1 cr2 cr3 fr0 fr1 fr2 fr3 cq0 cq1 cq2 cq3 fq0 fq1 fq2 fq3 z4 z5 HS4
            obtain ⟨cq0, cq1, cq2, cq3⟩ := S5.out.Q.cell
            obtain ⟨fq0, fq1, fq2, fq3⟩ := S5.out.Q.free
            go_region
            obtain ⟨p1, p2, p3⟩ := quo1 hL.out.dq hm64 (by have e := hL.out.vq; rw [Hn.out] at e; exact e)
            rw [wrap_pow hm64, p1]
            have S6 := Lib.hid (S5.out.putQ1 (q1 + 2 ^ m))
            generalize hW6 : (W5.setCell ⟨w.heap.size + 1 + 1, 1, none⟩ (.int .u64 (q1 + 2 ^ m))).drew = W6 at S6 ⊢
            clear hW6 cq0 cq1 cq2 cq3 fq0 fq1 fq2 fq3 p1
            have Hp2 := Lib.hid p2
            have Hp3 := Lib.hid p3
            clear p2 p3
            go_wp2_with fail
            go_roundw
            case rel =>
              have hs := div_sub hL.out.eq Hbit.out hb01 Hvx.out Ho3.out Hvl.out (V_lo Hdx.out) (V_hi Hdx.out) (V_lo Ho2.out) (V_hi Ho2.out) (V_lo Hdl.out) (V_hi Hdl.out) (V_lo hL.out.dr) hL.out.lt (V_hi HB.out) Hc01.out Hbo.out (Or.inl hov)
              exact ⟨n, q0, (q1 + 2 ^ m), q2, q3, l0, l1, l2, l3, 2 * Q + 1, rfl, by omega, ⟨S6.out, Hp2.out, Hdl.out, by rw [Hp3.out, Hn.out], hs.1, hs.2⟩⟩
            case measure => simp [intOf]; try omega
          · rw [ov]
            clear ov
            rcases hbo01 with rfl | rfl
            · go_wp2_with fail
              have S5 := Lib.hid ((HS4.out.putR l0 l1 l2 l3).alloc (.cells #[.int .u64 l0, .int .u64 l1, .int .u64 l2, .int .u64 l3] 24))
              generalize hW5 : (((((w3.setCell ⟨w.heap.size + 1 + 1 + 1, 0, none⟩ (.int .u64 l0)).setCell ⟨w.heap.size + 1 + 1 + 1, 1, none⟩ (.int .u64 l1)).setCell ⟨w.heap.size + 1 + 1 + 1, 2, none⟩ (.int .u64 l2)).setCell ⟨w.heap.size + 1 + 1 + 1, 3, none⟩ (.int .u64 l3)).alloc (.cells #[.int .u64 l0, .int .u64 l1, .int .u64 l2, .int .u64 l3] 24)) = W5 at S5 ⊢
              clear hW5 cr0 cr1 cr2 cr3 fr0 fr1 fr2 fr3 cq0 cq1 cq2 cq3 fq0 fq1 fq2 fq3 z4 z5 HS4
              obtain ⟨cq0, cq1, cq2, cq3⟩ := S5.out.Q.cell
              obtain ⟨fq0, fq1, fq2, fq3⟩ := S5.out.Q.free
              go_region
              obtain ⟨p1, p2, p3⟩ := quo1 hL.out.dq hm64 (by have e := hL.out.vq; rw [Hn.out] at e; exact e)
              rw [wrap_pow hm64, p1]
              have S6 := Lib.hid (S5.out.putQ1 (q1 + 2 ^ m))
              generalize hW6 : (W5.setCell ⟨w.heap.size + 1 + 1, 1, none⟩ (.int .u64 (q1 + 2 ^ m))).drew = W6 at S6 ⊢
              clear hW6 cq0 cq1 cq2 cq3 fq0 fq1 fq2 fq3 p1
              have Hp2 := Lib.hid p2
              have Hp3 := Lib.hid p3
              clear p2 p3
              go_wp2_with fail
              go_roundw
              case rel =>
                have hs := div_sub hL.out.eq Hbit.out hb01 Hvx.out Ho3.out Hvl.out (V_lo Hdx.out) (V_hi Hdx.out) (V_lo Ho2.out) (V_hi Ho2.out) (V_lo Hdl.out) (V_hi Hdl.out) (V_lo hL.out.dr) hL.out.lt (V_hi HB.out) Hc01.out (Or.inl rfl) (Or.inr rfl)
                exact ⟨n, q0, (q1 + 2 ^ m), q2, q3, l0, l1, l2, l3, 2 * Q + 1, rfl, by omega, ⟨S6.out, Hp2.out, Hdl.out, by rw [Hp3.out, Hn.out], hs.1, hs.2⟩⟩
              case measure => simp [intOf]; try omega
            · go_wp2_with fail
              clear cr0 cr1 cr2 cr3 fr0 fr1 fr2 fr3 cq0 cq1 cq2 cq3 fq0 fq1 fq2 fq3 z4 z5
              go_roundw
              case rel =>
                have hs := div_skip hL.out.eq Hbit.out hb01 Hvx.out Ho3.out Hvl.out (V_lo Hdx.out) (V_hi Hdx.out) (V_lo Hdl.out) (V_hi Hdl.out) Hc01.out rfl hov
                exact ⟨n, q0, q1, q2, q3, z0, x1, x2, x3, 2 * Q, rfl, by omega, ⟨HS4.out.alloc _, hL.out.dq, Ho2.out, by rw [hL.out.vq, Int.pow_succ, Int.mul_comm 2 Q, Int.mul_assoc, Int.mul_comm 2], hs.1, hs.2⟩⟩
              case measure => simp [intOf]; try omega
        · have hd : (n : Int) / 64 = 2 := by omega
          have hr : (n : Int) % 64 = (m : Int) := by omega
          have Hn := Lib.hid (show n = 128 + m by omega)
          clear hj hm
          go_region
          have hbit : bits BinOp.and IntKind.u64 (a2 / 2 ^ m) 1 = V a0 a1 a2 a3 / 2 ^ n % 2 := by rw [and_shift HA.out.2.2.1, Hn.out, bit2 HA.out hm64]
          have hb01 : V a0 a1 a2 a3 / 2 ^ n % 2 = 0 ∨ V a0 a1 a2 a3 / 2 ^ n % 2 = 1 := by omega
          have Hbit := Lib.hid (show V a0 a1 a2 a3 / 2 ^ n = 2 * (V a0 a1 a2 a3 / 2 ^ (n + 1)) + V a0 a1 a2 a3 / 2 ^ n % 2 from halve _ _)
          rw [hbit]
          clear hbit
          generalize V a0 a1 a2 a3 / 2 ^ n % 2 = bit at hb01 Hbit ⊢
          obtain ⟨o1, o2, o3⟩ := rest_bit Hdx.out (show V x0 x1 x2 x3 = 2 * V r0 r1 r2 r3 - M * c by rw [Hvx.out]; omega) hb01
          rw [o1]
          clear o1
          have S3 := Lib.hid (S2.out.putR0 (x0 + bit))
          generalize hW3 : (W2.setCell ⟨w.heap.size + 1 + 1 + 1, 0, none⟩ (.int .u64 (x0 + bit))).drew = W3 at S3 ⊢
          clear hW3 cr0 cr1 cr2 cr3 ca0 ca1 ca2 ca3 fr0 fr1 fr2 fr3 S2
          generalize x0 + bit = z0 at *
          obtain ⟨cr0, cr1, cr2, cr3⟩ := S3.out.R.cell
          obtain ⟨cd0, cd1, cd2, cd3⟩ := S3.out.D.cell
          have hsub := sub_any o2 HB.out
          have Ho2 := Lib.hid o2
          have Ho3 := Lib.hid o3
          clear o2 o3
          go_wp2_with fail
          refine (hsub _).mono ?_
          rintro e w3 ⟨l0, l1, l2, l3, bo, rfl, ⟨dl, hbo01, hvl⟩, hb3⟩
          have S4 := S3.out.on hb3
          have z4 := S4.R.lt
          have Hdl := Lib.hid dl
          have Hvl := Lib.hid hvl
          have Hbo := Lib.hid hbo01
          clear cr0 cr1 cr2 cr3 cd0 cd1 cd2 cd3 dl hvl hb3 hsub S3
          obtain ⟨cr0, cr1, cr2, cr3⟩ := S4.R.cell
          obtain ⟨fr0, fr1, fr2, fr3⟩ := S4.R.free
          obtain ⟨cq0, cq1, cq2, cq3⟩ := S4.Q.cell
          obtain ⟨fq0, fq1, fq2, fq3⟩ := S4.Q.free
          have z5 := S4.Q.lt
          have HS4 := Lib.hid S4
          clear S4
          rcases Ho.out with ⟨ov, hov⟩ | ⟨ov, hov⟩
          · rw [ov]
            clear ov hbo01
            go_wp2_with fail
            have S5 := Lib.hid ((HS4.out.putR l0 l1 l2 l3).alloc (.cells #[.int .u64 l0, .int .u64 l1, .int .u64 l2, .int .u64 l3] 24))
            generalize hW5 : (((((w3.setCell ⟨w.heap.size + 1 + 1 + 1, 0, none⟩ (.int .u64 l0)).setCell ⟨w.heap.size + 1 + 1 + 1, 1, none⟩ (.int .u64 l1)).setCell ⟨w.heap.size + 1 + 1 + 1, 2, none⟩ (.int .u64 l2)).setCell ⟨w.heap.size + 1 + 1 + 1, 3, none⟩ (.int .u64 l3)).alloc (.cells #[.int .u64 l0, .int .u64 l1, .int .u64 l2, .int .u64 l3] 24)) = W5 at S5 ⊢
            clear hW5 cr0 cr1 cr2 cr3 fr0 fr1 fr2 fr3 cq0 cq1 cq2 cq3 fq0 fq1 fq2 fq3 z4 z5 HS4
            obtain ⟨cq0, cq1, cq2, cq3⟩ := S5.out.Q.cell
            obtain ⟨fq0, fq1, fq2, fq3⟩ := S5.out.Q.free
            go_region
            obtain ⟨p1, p2, p3⟩ := quo2 hL.out.dq hm64 (by have e := hL.out.vq; rw [Hn.out] at e; exact e)
            rw [wrap_pow hm64, p1]
            have S6 := Lib.hid (S5.out.putQ2 (q2 + 2 ^ m))
            generalize hW6 : (W5.setCell ⟨w.heap.size + 1 + 1, 2, none⟩ (.int .u64 (q2 + 2 ^ m))).drew = W6 at S6 ⊢
            clear hW6 cq0 cq1 cq2 cq3 fq0 fq1 fq2 fq3 p1
            have Hp2 := Lib.hid p2
            have Hp3 := Lib.hid p3
            clear p2 p3
            go_wp2_with fail
            go_roundw
            case rel =>
              have hs := div_sub hL.out.eq Hbit.out hb01 Hvx.out Ho3.out Hvl.out (V_lo Hdx.out) (V_hi Hdx.out) (V_lo Ho2.out) (V_hi Ho2.out) (V_lo Hdl.out) (V_hi Hdl.out) (V_lo hL.out.dr) hL.out.lt (V_hi HB.out) Hc01.out Hbo.out (Or.inl hov)
              exact ⟨n, q0, q1, (q2 + 2 ^ m), q3, l0, l1, l2, l3, 2 * Q + 1, rfl, by omega, ⟨S6.out, Hp2.out, Hdl.out, by rw [Hp3.out, Hn.out], hs.1, hs.2⟩⟩
            case measure => simp [intOf]; try omega
          · rw [ov]
            clear ov
            rcases hbo01 with rfl | rfl
            · go_wp2_with fail
              have S5 := Lib.hid ((HS4.out.putR l0 l1 l2 l3).alloc (.cells #[.int .u64 l0, .int .u64 l1, .int .u64 l2, .int .u64 l3] 24))
              generalize hW5 : (((((w3.setCell ⟨w.heap.size + 1 + 1 + 1, 0, none⟩ (.int .u64 l0)).setCell ⟨w.heap.size + 1 + 1 + 1, 1, none⟩ (.int .u64 l1)).setCell ⟨w.heap.size + 1 + 1 + 1, 2, none⟩ (.int .u64 l2)).setCell ⟨w.heap.size + 1 + 1 + 1, 3, none⟩ (.int .u64 l3)).alloc (.cells #[.int .u64 l0, .int .u64 l1, .int .u64 l2, .int .u64 l3] 24)) = W5 at S5 ⊢
              clear hW5 cr0 cr1 cr2 cr3 fr0 fr1 fr2 fr3 cq0 cq1 cq2 cq3 fq0 fq1 fq2 fq3 z4 z5 HS4
              obtain ⟨cq0, cq1, cq2, cq3⟩ := S5.out.Q.cell
              obtain ⟨fq0, fq1, fq2, fq3⟩ := S5.out.Q.free
              go_region
              obtain ⟨p1, p2, p3⟩ := quo2 hL.out.dq hm64 (by have e := hL.out.vq; rw [Hn.out] at e; exact e)
              rw [wrap_pow hm64, p1]
              have S6 := Lib.hid (S5.out.putQ2 (q2 + 2 ^ m))
              generalize hW6 : (W5.setCell ⟨w.heap.size + 1 + 1, 2, none⟩ (.int .u64 (q2 + 2 ^ m))).drew = W6 at S6 ⊢
              clear hW6 cq0 cq1 cq2 cq3 fq0 fq1 fq2 fq3 p1
              have Hp2 := Lib.hid p2
              have Hp3 := Lib.hid p3
              clear p2 p3
              go_wp2_with fail
              go_roundw
              case rel =>
                have hs := div_sub hL.out.eq Hbit.out hb01 Hvx.out Ho3.out Hvl.out (V_lo Hdx.out) (V_hi Hdx.out) (V_lo Ho2.out) (V_hi Ho2.out) (V_lo Hdl.out) (V_hi Hdl.out) (V_lo hL.out.dr) hL.out.lt (V_hi HB.out) Hc01.out (Or.inl rfl) (Or.inr rfl)
                exact ⟨n, q0, q1, (q2 + 2 ^ m), q3, l0, l1, l2, l3, 2 * Q + 1, rfl, by omega, ⟨S6.out, Hp2.out, Hdl.out, by rw [Hp3.out, Hn.out], hs.1, hs.2⟩⟩
              case measure => simp [intOf]; try omega
            · go_wp2_with fail
              clear cr0 cr1 cr2 cr3 fr0 fr1 fr2 fr3 cq0 cq1 cq2 cq3 fq0 fq1 fq2 fq3 z4 z5
              go_roundw
              case rel =>
                have hs := div_skip hL.out.eq Hbit.out hb01 Hvx.out Ho3.out Hvl.out (V_lo Hdx.out) (V_hi Hdx.out) (V_lo Hdl.out) (V_hi Hdl.out) Hc01.out rfl hov
                exact ⟨n, q0, q1, q2, q3, z0, x1, x2, x3, 2 * Q, rfl, by omega, ⟨HS4.out.alloc _, hL.out.dq, Ho2.out, by rw [hL.out.vq, Int.pow_succ, Int.mul_comm 2 Q, Int.mul_assoc, Int.mul_comm 2], hs.1, hs.2⟩⟩
              case measure => simp [intOf]; try omega
        · have hd : (n : Int) / 64 = 3 := by omega
          have hr : (n : Int) % 64 = (m : Int) := by omega
          have Hn := Lib.hid (show n = 192 + m by omega)
          clear hj hm
          go_region
          have hbit : bits BinOp.and IntKind.u64 (a3 / 2 ^ m) 1 = V a0 a1 a2 a3 / 2 ^ n % 2 := by rw [and_shift HA.out.2.2.2, Hn.out, bit3 HA.out hm64]
          have hb01 : V a0 a1 a2 a3 / 2 ^ n % 2 = 0 ∨ V a0 a1 a2 a3 / 2 ^ n % 2 = 1 := by omega
          have Hbit := Lib.hid (show V a0 a1 a2 a3 / 2 ^ n = 2 * (V a0 a1 a2 a3 / 2 ^ (n + 1)) + V a0 a1 a2 a3 / 2 ^ n % 2 from halve _ _)
          rw [hbit]
          clear hbit
          generalize V a0 a1 a2 a3 / 2 ^ n % 2 = bit at hb01 Hbit ⊢
          obtain ⟨o1, o2, o3⟩ := rest_bit Hdx.out (show V x0 x1 x2 x3 = 2 * V r0 r1 r2 r3 - M * c by rw [Hvx.out]; omega) hb01
          rw [o1]
          clear o1
          have S3 := Lib.hid (S2.out.putR0 (x0 + bit))
          generalize hW3 : (W2.setCell ⟨w.heap.size + 1 + 1 + 1, 0, none⟩ (.int .u64 (x0 + bit))).drew = W3 at S3 ⊢
          clear hW3 cr0 cr1 cr2 cr3 ca0 ca1 ca2 ca3 fr0 fr1 fr2 fr3 S2
          generalize x0 + bit = z0 at *
          obtain ⟨cr0, cr1, cr2, cr3⟩ := S3.out.R.cell
          obtain ⟨cd0, cd1, cd2, cd3⟩ := S3.out.D.cell
          have hsub := sub_any o2 HB.out
          have Ho2 := Lib.hid o2
          have Ho3 := Lib.hid o3
          clear o2 o3
          go_wp2_with fail
          refine (hsub _).mono ?_
          rintro e w3 ⟨l0, l1, l2, l3, bo, rfl, ⟨dl, hbo01, hvl⟩, hb3⟩
          have S4 := S3.out.on hb3
          have z4 := S4.R.lt
          have Hdl := Lib.hid dl
          have Hvl := Lib.hid hvl
          have Hbo := Lib.hid hbo01
          clear cr0 cr1 cr2 cr3 cd0 cd1 cd2 cd3 dl hvl hb3 hsub S3
          obtain ⟨cr0, cr1, cr2, cr3⟩ := S4.R.cell
          obtain ⟨fr0, fr1, fr2, fr3⟩ := S4.R.free
          obtain ⟨cq0, cq1, cq2, cq3⟩ := S4.Q.cell
          obtain ⟨fq0, fq1, fq2, fq3⟩ := S4.Q.free
          have z5 := S4.Q.lt
          have HS4 := Lib.hid S4
          clear S4
          rcases Ho.out with ⟨ov, hov⟩ | ⟨ov, hov⟩
          · rw [ov]
            clear ov hbo01
            go_wp2_with fail
            have S5 := Lib.hid ((HS4.out.putR l0 l1 l2 l3).alloc (.cells #[.int .u64 l0, .int .u64 l1, .int .u64 l2, .int .u64 l3] 24))
            generalize hW5 : (((((w3.setCell ⟨w.heap.size + 1 + 1 + 1, 0, none⟩ (.int .u64 l0)).setCell ⟨w.heap.size + 1 + 1 + 1, 1, none⟩ (.int .u64 l1)).setCell ⟨w.heap.size + 1 + 1 + 1, 2, none⟩ (.int .u64 l2)).setCell ⟨w.heap.size + 1 + 1 + 1, 3, none⟩ (.int .u64 l3)).alloc (.cells #[.int .u64 l0, .int .u64 l1, .int .u64 l2, .int .u64 l3] 24)) = W5 at S5 ⊢
            clear hW5 cr0 cr1 cr2 cr3 fr0 fr1 fr2 fr3 cq0 cq1 cq2 cq3 fq0 fq1 fq2 fq3 z4 z5 HS4
            obtain ⟨cq0, cq1, cq2, cq3⟩ := S5.out.Q.cell
            obtain ⟨fq0, fq1, fq2, fq3⟩ := S5.out.Q.free
            go_region
            obtain ⟨p1, p2, p3⟩ := quo3 hL.out.dq hm64 (by have e := hL.out.vq; rw [Hn.out] at e; exact e)
            rw [wrap_pow hm64, p1]
            have S6 := Lib.hid (S5.out.putQ3 (q3 + 2 ^ m))
            generalize hW6 : (W5.setCell ⟨w.heap.size + 1 + 1, 3, none⟩ (.int .u64 (q3 + 2 ^ m))).drew = W6 at S6 ⊢
            clear hW6 cq0 cq1 cq2 cq3 fq0 fq1 fq2 fq3 p1
            have Hp2 := Lib.hid p2
            have Hp3 := Lib.hid p3
            clear p2 p3
            go_wp2_with fail
            go_roundw
            case rel =>
              have hs := div_sub hL.out.eq Hbit.out hb01 Hvx.out Ho3.out Hvl.out (V_lo Hdx.out) (V_hi Hdx.out) (V_lo Ho2.out) (V_hi Ho2.out) (V_lo Hdl.out) (V_hi Hdl.out) (V_lo hL.out.dr) hL.out.lt (V_hi HB.out) Hc01.out Hbo.out (Or.inl hov)
              exact ⟨n, q0, q1, q2, (q3 + 2 ^ m), l0, l1, l2, l3, 2 * Q + 1, rfl, by omega, ⟨S6.out, Hp2.out, Hdl.out, by rw [Hp3.out, Hn.out], hs.1, hs.2⟩⟩
            case measure => simp [intOf]; try omega
          · rw [ov]
            clear ov
            rcases hbo01 with rfl | rfl
            · go_wp2_with fail
              have S5 := Lib.hid ((HS4.out.putR l0 l1 l2 l3).alloc (.cells #[.int .u64 l0, .int .u64 l1, .int .u64 l2, .int .u64 l3] 24))
              generalize hW5 : (((((w3.setCell ⟨w.heap.size + 1 + 1 + 1, 0, none⟩ (.int .u64 l0)).setCell ⟨w.heap.size + 1 + 1 + 1, 1, none⟩ (.int .u64 l1)).setCell ⟨w.heap.size + 1 + 1 + 1, 2, none⟩ (.int .u64 l2)).setCell ⟨w.heap.size + 1 + 1 + 1, 3, none⟩ (.int .u64 l3)).alloc (.cells #[.int .u64 l0, .int .u64 l1, .int .u64 l2, .int .u64 l3] 24)) = W5 at S5 ⊢
              clear hW5 cr0 cr1 cr2 cr3 fr0 fr1 fr2 fr3 cq0 cq1 cq2 cq3 fq0 fq1 fq2 fq3 z4 z5 HS4
              obtain ⟨cq0, cq1, cq2, cq3⟩ := S5.out.Q.cell
              obtain ⟨fq0, fq1, fq2, fq3⟩ := S5.out.Q.free
              go_region
              obtain ⟨p1, p2, p3⟩ := quo3 hL.out.dq hm64 (by have e := hL.out.vq; rw [Hn.out] at e; exact e)
              rw [wrap_pow hm64, p1]
              have S6 := Lib.hid (S5.out.putQ3 (q3 + 2 ^ m))
              generalize hW6 : (W5.setCell ⟨w.heap.size + 1 + 1, 3, none⟩ (.int .u64 (q3 + 2 ^ m))).drew = W6 at S6 ⊢
              clear hW6 cq0 cq1 cq2 cq3 fq0 fq1 fq2 fq3 p1
              have Hp2 := Lib.hid p2
              have Hp3 := Lib.hid p3
              clear p2 p3
              go_wp2_with fail
              go_roundw
              case rel =>
                have hs := div_sub hL.out.eq Hbit.out hb01 Hvx.out Ho3.out Hvl.out (V_lo Hdx.out) (V_hi Hdx.out) (V_lo Ho2.out) (V_hi Ho2.out) (V_lo Hdl.out) (V_hi Hdl.out) (V_lo hL.out.dr) hL.out.lt (V_hi HB.out) Hc01.out (Or.inl rfl) (Or.inr rfl)
                exact ⟨n, q0, q1, q2, (q3 + 2 ^ m), l0, l1, l2, l3, 2 * Q + 1, rfl, by omega, ⟨S6.out, Hp2.out, Hdl.out, by rw [Hp3.out, Hn.out], hs.1, hs.2⟩⟩
              case measure => simp [intOf]; try omega
            · go_wp2_with fail
              clear cr0 cr1 cr2 cr3 fr0 fr1 fr2 fr3 cq0 cq1 cq2 cq3 fq0 fq1 fq2 fq3 z4 z5
              go_roundw
              case rel =>
                have hs := div_skip hL.out.eq Hbit.out hb01 Hvx.out Ho3.out Hvl.out (V_lo Hdx.out) (V_hi Hdx.out) (V_lo Hdl.out) (V_hi Hdl.out) Hc01.out rfl hov
                exact ⟨n, q0, q1, q2, q3, z0, x1, x2, x3, 2 * Q, rfl, by omega, ⟨HS4.out.alloc _, hL.out.dq, Ho2.out, by rw [hL.out.vq, Int.pow_succ, Int.mul_comm 2 Q, Int.mul_assoc, Int.mul_comm 2], hs.1, hs.2⟩⟩
              case measure => simp [intOf]; try omega
end Go.Proofs.Ytnnlpiflalmmlaa
