/-
  The document's Print.
-/
import Derived.Test.YtnnlpiflalmmlaaRefBytes
import Derived.Test.YtnnlpiflalmmlaaRefDiv
import Derived.Test.YtnnlpiflalmmlaaBackDv
namespace Go.Proofs.Ytnnlpiflalmmlaa
set_option maxRecDepth 100000
open Go.RowKit

/-- What stands in memory: j digits are written. -/
structure RPr (w wr : World) (N : Int) (j : Nat) (a0 a1 a2 a3 : Int) : Prop where
  below : Below w.heap.size w wr
  A : At4 wr w.heap.size a0 a1 a2 a3
  d : D4 a0 a1 a2 a3
  v : V a0 a1 a2 a3 = N / 10 ^ j
  pos : j = 0 ∨ 1 ≤ V a0 a1 a2 a3

def szOf : Value → Nat
  | .string s => s.size
  | _ => 0
theorem dgs_cons (N : Int) (j : Nat) : dgs N (j + 1) = dj N j :: dgs N j := by
  apply List.ext_getElem
  · simp [dgs]
  · intro i h1 h2
    cases i with
    | zero => simp [dgs]
    | succ i => simp [dgs]; congr 1; omega
theorem str_cons (x : Int) (l : List Int) : strOfNums [x] ++ strOfNums l = strOfNums (x :: l) := by
  apply ByteArray.ext
  simp [strOfNums]
theorem D4_nine : D4 9 0 0 0 := by unfold D4 Dg B; omega
theorem V_small {a0 a1 a2 a3 : Int} (h : D4 a0 a1 a2 a3) (hv : V a0 a1 a2 a3 < 18446744073709551616) : a0 = V a0 a1 a2 a3 ∧ a1 = 0 ∧ a2 = 0 ∧ a3 = 0 := by
  unfold D4 Dg at h; unfold V B at *; omega
theorem few {N : Int} {j : Nat} (h0 : 0 ≤ N) (hN : N < M) (h : 1 ≤ N / 10 ^ j) : j < 78 := by
  rcases Nat.lt_or_ge j 78 with h1 | h1
  · exact h1
  · exfalso
    have hp := pow10_le h1
    have hM : M < 10 ^ 78 := by unfold M B; decide
    have : N / 10 ^ j = 0 := Int.ediv_eq_zero_of_lt h0 (by omega)
    omega

set_option maxHeartbeats 4000000 in
theorem refPrint_any {a0 a1 a2 a3 : Int} (ha : D4 a0 a1 a2 a3) (w : World) :
    Calls Try.prog 29 #[.agg #[.int .u64 a0, .int .u64 a1, .int .u64 a2, .int .u64 a3]] w fun e w' => StrP (V a0 a1 a2 a3) e ∧ Below w.heap.size w w' := by
  have N0 := Lib.hid (V_lo ha)
  have N1 := Lib.hid (V_hi ha)
  have hst : Hid (RPr w (w.alloc (.cells #[.int .u64 a0, .int .u64 a1, .int .u64 a2, .int .u64 a3] 24)) (V a0 a1 a2 a3) 0 a0 a1 a2 a3) := Lib.hid ⟨(Below.refl _ _).alloc (Nat.le_refl _) _, At4.new w a0 a1 a2 a3, ha, by simp, Or.inl rfl⟩
  have hs0 : Hid ((Value.string ⟨#[]⟩) = .string (strOfNums (dgs (V a0 a1 a2 a3) 0))) := Lib.hid rfl
  obtain ⟨N, hNe⟩ : ∃ N, V a0 a1 a2 a3 = N := ⟨_, rfl⟩
  rw [hNe] at N0 N1 hst hs0 ⊢
  have HE0 := Lib.hid hNe
  clear hNe ha
  go_enter Try.func29, Try.ntmps29
  go_wp2_with fail
  go_loopw [3] (fun sv wr => ∃ (j : Nat) (b0 b1 b2 b3 : Int), sv = .string (strOfNums (dgs N j)) ∧ j ≤ 78 ∧ Hid (RPr w wr N j b0 b1 b2 b3)) (fun sv _ => 80 - szOf sv)
  case atStart => exact ⟨0, a0, a1, a2, a3, hs0.out, by omega, hst⟩
  case round =>
    clear hst hs0
    obtain ⟨j, b0, b1, b2, b3, rfl, hj, hB⟩ := hrel
    obtain ⟨cb0, cb1, cb2, cb3⟩ := hB.out.A.cell
    have hlt := hB.out.A.lt
    go_wp2_with fail
    refine (refCompare_any hB.out.d D4_nine _).mono ?_
    rintro e w1 ⟨rfl, hb1⟩
    have B1 := Lib.hid (hB.out.below.trans (hb1.mono hB.out.below.size))
    have A1 := Lib.hid (hB.out.A.on hb1)
    clear hb1 cb0 cb1 cb2 cb3
    obtain ⟨cb0, cb1, cb2, cb3⟩ := A1.out.cell
    obtain ⟨fb0, fb1, fb2, fb3⟩ := A1.out.free
    have hl1 := A1.out.lt
    have hV9 : V 9 0 0 0 = 9 := by unfold V; simp
    have hsz : (strOfNums (dgs N j)).size = j := by rw [size_str, dgs_len]
    by_cases hgt : 9 < V b0 b1 b2 b3
    · have hcm : cmp (V b0 b1 b2 b3) (V 9 0 0 0) = 1 := by rw [hV9]; unfold cmp; (repeat' split) <;> omega
      rw [hcm]
      have HG := Lib.hid hgt
      clear hcm hgt hV9
      go_wp2_with fail
      refine (refDiv_any hB.out.d D4_ten _).mono ?_
      rintro e w2 ⟨q0, q1, q2, q3, r0, r1, r2, r3, c, rfl, hq, hr, hcase, hb2⟩
      have hV10 : V 10 0 0 0 = 10 := by unfold V; simp
      rw [hV10] at hcase
      obtain ⟨-, hc, hv, hl⟩ : (10 : Int) ≠ 0 ∧ c = 0 ∧ V b0 b1 b2 b3 = V q0 q1 q2 q3 * 10 + V r0 r1 r2 r3 ∧ V r0 r1 r2 r3 < 10 := by
        rcases hcase with ⟨h, _⟩ | h
        · exact absurd h (by decide)
        · exact h
      subst hc
      obtain ⟨e0, rfl, rfl, rfl⟩ := V_small hr (by omega)
      have hr0 : 0 ≤ r0 := by have := V_lo hr; omega
      have hr9 : r0 ≤ 9 := by omega
      rw [← e0] at hv
      have hq0 := V_lo hq
      have HD : Hid (dj N j = 48 + r0) := by show _ = _; unfold dj; rw [← hB.out.v]; omega
      have ES : Hid (strOfNums [48 + r0] ++ strOfNums (dgs N j) = strOfNums (dgs N (j + 1))) := by show _ = _; rw [str_cons, dgs_cons, HD.out]
      have B2 := Lib.hid (B1.out.trans (hb2.mono B1.out.size))
      have A2 := Lib.hid (A1.out.on hb2)
      have VN : Hid (V q0 q1 q2 q3 = N / 10 ^ (j + 1) ∧ 1 ≤ V q0 q1 q2 q3) := by
        refine Lib.hid ⟨?_, ?_⟩
        · rw [div_pow_succ, ← hB.out.v]; omega
        · have := HG.out; omega
      have HQ := Lib.hid hq
      have hj78 : j < 78 := few N0.out N1.out (by rw [← hB.out.v]; have := HG.out; omega)
      clear cb0 cb1 cb2 cb3 fb0 fb1 fb2 fb3 hb2 hcase hv hl e0 hr hq hq0 hV10
      obtain ⟨cb0, cb1, cb2, cb3⟩ := A2.out.cell
      obtain ⟨fb0, fb1, fb2, fb3⟩ := A2.out.free
      have hl2 := A2.out.lt
      have hc8 : (convert 42 9 (.slice (some ⟨w2.heap.size + 1 + 1, 0, none⟩) 1 1)).run Try.prog (((w2.alloc (.cells #[.int .u64 q0, .int .u64 q1, .int .u64 q2, .int .u64 q3] 24)).alloc (.cells #[.int .u64 r0, .int .u64 0, .int .u64 0, .int .u64 0] 24)).alloc (.cells #[.int .u8 (48 + r0)] 5)) = .ok (.string (strOfNums [48 + r0])) (((w2.alloc (.cells #[.int .u64 q0, .int .u64 q1, .int .u64 q2, .int .u64 q3] 24)).alloc (.cells #[.int .u64 r0, .int .u64 0, .int .u64 0, .int .u64 0] 24)).alloc (.cells #[.int .u8 (48 + r0)] 5)) := by
        have h := (one_rd (w := ((w2.alloc (.cells #[.int .u64 q0, .int .u64 q1, .int .u64 q2, .int .u64 q3] 24)).alloc (.cells #[.int .u64 r0, .int .u64 0, .int .u64 0, .int .u64 0] 24))) (x := 48 + r0)).str (P := Try.prog) Try.underlying42 Try.underlying5 Try.underlying9
        have e : ((w2.alloc (.cells #[.int .u64 q0, .int .u64 q1, .int .u64 q2, .int .u64 q3] 24)).alloc (.cells #[.int .u64 r0, .int .u64 0, .int .u64 0, .int .u64 0] 24)).heap.size = w2.heap.size + 1 + 1 := by simp
        rw [e] at h
        exact h
      obtain ⟨cz0, cz1, cz2, cz3⟩ := (((A2.out.alloc (.cells #[.int .u64 q0, .int .u64 q1, .int .u64 q2, .int .u64 q3] 24)).alloc (.cells #[.int .u64 r0, .int .u64 0, .int .u64 0, .int .u64 0] 24)).alloc (.cells #[.int .u8 (48 + r0)] 5)).cell
      obtain ⟨fz0, fz1, fz2, fz3⟩ := (((A2.out.alloc (.cells #[.int .u64 q0, .int .u64 q1, .int .u64 q2, .int .u64 q3] 24)).alloc (.cells #[.int .u64 r0, .int .u64 0, .int .u64 0, .int .u64 0] 24)).alloc (.cells #[.int .u8 (48 + r0)] 5)).free
      have HB : Hid (RPr w (((((((w2.alloc (.cells #[.int .u64 q0, .int .u64 q1, .int .u64 q2, .int .u64 q3] 24)).alloc (.cells #[.int .u64 r0, .int .u64 0, .int .u64 0, .int .u64 0] 24)).alloc (.cells #[.int .u8 (48 + r0)] 5)).setCell ⟨w.heap.size, 0, none⟩ (.int .u64 q0)).setCell ⟨w.heap.size, 1, none⟩ (.int .u64 q1)).setCell ⟨w.heap.size, 2, none⟩ (.int .u64 q2)).setCell ⟨w.heap.size, 3, none⟩ (.int .u64 q3)) N (j + 1) q0 q1 q2 q3) := by
        refine Lib.hid ⟨?_, ?_, HQ.out, VN.out.1, Or.inr VN.out.2⟩
        · have hz := B2.out.size
          exact below_all (((B2.out.alloc hz _).alloc (by simp; omega) _).alloc (by simp; omega) _) (Nat.le_refl _) _ _ _ _
        · exact At4.setAll (((A2.out.alloc _).alloc _).alloc _) _ _ _ _
      have hs1 : (strOfNums [48 + r0]).size = 1 := by rw [size_str]; rfl
      go_wp2_with fail
      rw [ES.out]
      go_roundw
      case rel => exact ⟨j + 1, q0, q1, q2, q3, rfl, by omega, HB⟩
      case measure => simp [szOf, size_str, dgs_len]; omega
    · have hcm : cmp (V b0 b1 b2 b3) (V 9 0 0 0) = 0 ∨ cmp (V b0 b1 b2 b3) (V 9 0 0 0) = -1 := by rw [hV9]; unfold cmp; (repeat' split) <;> omega
      obtain ⟨e0, rfl, rfl, rfl⟩ := V_small hB.out.d (by omega)
      have h0 : 0 ≤ b0 := by have := V_lo hB.out.d; omega
      have h9 : b0 ≤ 9 := by omega
      have HD : Hid (dj N j = 48 + b0) := by show _ = _; unfold dj; rw [← hB.out.v]; omega
      have HL : Hid (Len10 N (j + 1)) := by
        refine Lib.hid ⟨by omega, ?_, ?_⟩
        · rw [div_pow_succ, ← hB.out.v]; omega
        · rcases hB.out.pos with h | h
          · left; omega
          · right; rw [show j + 1 - 1 = j by omega, ← hB.out.v]; omega
      have ES : Hid (strOfNums [48 + b0] ++ strOfNums (dgs N j) = strOfNums (dgs N (j + 1))) := by show _ = _; rw [str_cons, dgs_cons, HD.out]
      have hc8 : (convert 42 9 (.slice (some ⟨w1.heap.size, 0, none⟩) 1 1)).run Try.prog (w1.alloc (.cells #[.int .u8 (48 + b0)] 5)) = .ok (.string (strOfNums [48 + b0])) _ := (one_rd (w := w1) (x := 48 + b0)).str (P := Try.prog) Try.underlying42 Try.underlying5 Try.underlying9
      have hs1 : (strOfNums [48 + b0]).size = 1 := by rw [size_str]; rfl
      rcases hcm with hcm | hcm <;> rw [hcm] <;> clear hcm e0 hgt hV9
      all_goals
        go_wp2_with fail
        rw [ES.out]
        go_ret
        exact ⟨⟨_, HL.out, rfl⟩, B1.out.alloc B1.out.size _⟩
end Go.Proofs.Ytnnlpiflalmmlaa
