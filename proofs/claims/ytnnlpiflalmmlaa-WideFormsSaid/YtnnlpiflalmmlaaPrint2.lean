/-
  The walk of package wide: Print.
-/
import Derived.Test.YtnnlpiflalmmlaaPrintNum
namespace Go.Proofs.Ytnnlpiflalmmlaa
open Go.RowKit

def StrP (N : Int) (e : Ending) : Prop := ∃ L, Len10 N L ∧ e = .returned (.string (strOfNums (dgs N L)))

theorem pow10_le {a b : Nat} (h : a ≤ b) : (10 : Int) ^ a ≤ 10 ^ b := by
  obtain ⟨d, rfl⟩ := Nat.le.dest h
  rw [Int.pow_add]
  have p := pow_pos10 a
  have q := pow_pos10 d
  have : (10 : Int) ^ a * 1 ≤ 10 ^ a * 10 ^ d := Int.mul_le_mul_of_nonneg_left (by omega) (by omega)
  omega

/-- The state at a round's head: m places are free; lo is what is still to be written of k digits. -/
structure Inv (w wr : World) (N : Int) (m k : Nat) (q0 q1 q2 q3 lo : Int) : Prop where
  st : PSt w wr N (80 - m) q0 q1 q2 q3
  dq : D4 q0 q1 q2 q3
  hk : k ≤ 19
  hm : m ≤ 80
  lo0 : 0 ≤ lo
  lo1 : lo < 10 ^ (19 - k)
  val : V q0 q1 q2 q3 * 10 ^ (19 - k) + lo = N / 10 ^ (80 - m)
  can : m = 80 ∨ m = 79 ∨ N / 10 ^ (79 - m) ≠ 0

theorem Inv.room {w wr : World} {N : Int} {m k : Nat} {q0 q1 q2 q3 lo : Int} (h : Inv w wr N m k q0 q1 q2 q3 lo) (h0 : 0 ≤ N) (hN : N < M) : 2 ≤ m := by
  rcases h.can with e | e | e
  · omega
  · omega
  · rcases Nat.lt_or_ge 77 (79 - m) with hl | hl
    · exfalso
      apply e
      have h1 : (10 : Int) ^ 78 ≤ 10 ^ (79 - m) := pow10_le hl
      have h2 : M < (10 : Int) ^ 78 := by unfold M B; decide
      exact Int.ediv_eq_zero_of_lt h0 (by omega)
    · have := h.hm
      have := h.hk
      omega

theorem Inv.lo_le {w wr : World} {N : Int} {m k : Nat} {q0 q1 q2 q3 lo : Int} (h : Inv w wr N m k q0 q1 q2 q3 lo) : lo < 10000000000000000000 := by
  have h1 : (10 : Int) ^ (19 - k) ≤ 10 ^ 19 := pow10_le (by omega)
  have h2 := h.lo1
  have h3 : (10 : Int) ^ 19 = 10000000000000000000 := by decide
  omega

/-- The next digit. -/
theorem Inv.step {w wr : World} {N : Int} {m k : Nat} {q0 q1 q2 q3 lo : Int} (h : Inv w wr N m k q0 q1 q2 q3 lo) (hm : 2 ≤ m) (hk : k < 19) (hgo : ¬ (V q0 q1 q2 q3 = 0 ∧ lo = 0 ∧ m < 80)) :
    Inv w (wr.setCell ⟨w.heap.size + 1, m - 1, none⟩ (.int .u8 (48 + lo % 10))) N (m - 1) (k + 1) q0 q1 q2 q3 (lo / 10) := by
  obtain ⟨st, dq, _, hm80, lo0, lo1, val, can⟩ := h
  obtain ⟨j, hj⟩ : ∃ j, 19 - k = j + 1 := ⟨18 - k, by omega⟩
  have hj' : 19 - (k + 1) = j := by omega
  rw [hj, Int.pow_succ] at lo1 val
  have eL : 80 - (m - 1) = (80 - m) + 1 := by omega
  have hp := pow_pos10 j
  have l := V_lo dq
  have nn : 0 ≤ V q0 q1 q2 q3 * 10 ^ j := Int.mul_nonneg l (Int.le_of_lt hp)
  have e2 : V q0 q1 q2 q3 * (10 ^ j * 10) = 10 * (V q0 q1 q2 q3 * 10 ^ j) := by
    rw [Int.mul_comm (10 ^ j) 10, ← Int.mul_assoc, Int.mul_comm _ 10, Int.mul_assoc]
  rw [e2] at val
  have hdig : 48 + lo % 10 = dj N (80 - m) := by
    unfold dj; rw [← val]; omega
  refine ⟨?_, dq, by omega, by omega, by omega, ?_, ?_, ?_⟩
  · rw [eL]
    exact st.store (by omega) (by omega) hdig
  · rw [hj']; omega
  · rw [hj', eL, div_pow_succ, ← val]; omega
  · rcases Nat.lt_or_ge m 80 with h80 | h80
    · right; right
      rw [show 79 - (m - 1) = 80 - m by omega, ← val]
      intro e0
      have z : V q0 q1 q2 q3 * 10 ^ j = 0 := by omega
      have zz : V q0 q1 q2 q3 = 0 := by
        rcases Int.mul_eq_zero.1 z with h | h
        · exact h
        · omega
      exact hgo ⟨zz, by omega, h80⟩
    · right; left; omega

theorem Inv.done {w wr : World} {N : Int} {m k : Nat} {q0 q1 q2 q3 lo : Int} (h : Inv w wr N m k q0 q1 q2 q3 lo) (hq : V q0 q1 q2 q3 = 0) (hl : lo = 0) (hm : m < 80) : Len10 N (80 - m) := by
  obtain ⟨st, dq, _, hm80, lo0, lo1, val, can⟩ := h
  refine ⟨by omega, ?_, ?_⟩
  · rw [← val, hq, hl]; simp
  · rcases can with e | e | e
    · omega
    · left; omega
    · right; rw [show 80 - m - 1 = 79 - m by omega]; exact e

/-- After a group is written the next one is taken. -/
theorem Inv.next {w wr w1 : World} {N : Int} {m : Nat} {q0 q1 q2 q3 p0 p1 p2 p3 r lo : Int} (h : Inv w wr N m 19 q0 q1 q2 q3 lo) (hb : Below wr.heap.size wr w1) (hp : D4 p0 p1 p2 p3) (r0 : 0 ≤ r) (r1 : r < 10000000000000000000) (hv : V q0 q1 q2 q3 = V p0 p1 p2 p3 * 10000000000000000000 + r) :
    Inv w ((((w1.setCell ⟨w.heap.size, 0, none⟩ (.int .u64 p0)).setCell ⟨w.heap.size, 1, none⟩ (.int .u64 p1)).setCell ⟨w.heap.size, 2, none⟩ (.int .u64 p2)).setCell ⟨w.heap.size, 3, none⟩ (.int .u64 p3)) N m 0 p0 p1 p2 p3 r := by
  obtain ⟨st, dq, _, hm80, lo0, lo1, val, can⟩ := h
  have e : (10 : Int) ^ (19 - 0) = 10000000000000000000 := by decide
  have e' : (10 : Int) ^ (19 - 19) = 1 := by decide
  rw [e'] at lo1 val
  refine ⟨st.put hb, hp, by omega, hm80, r0, by rw [e]; exact r1, ?_, can⟩
  rw [e, ← val]; omega

theorem arr80 : Try.prog.arrayLen 63 = 80 := by kernel_rfl
theorem elem80 : Try.prog.elem 63 = 5 := by kernel_rfl
theorem slice80 (w : World) (k m : Nat) (hm : m < 80) : (Instr.sliceAt 63 (.pointer (some ⟨k, 0, none⟩)) (some (.int .i64 (m : Int))) none none).run Try.prog w = .ok (.slice (some ⟨k, m, none⟩) (80 - m) (80 - m)) w := by
  have h := run_sliceAt_array_l (P := Try.prog) w 63 ⟨k, 0, none⟩ (by rw [arr80, elem80]; exact Try.underlying63) .i64 (m : Int) (by omega) (by rw [arr80]; omega)
  rw [h, elem80, arr80, Try.sizeOf5]
  have e1 : ¬ 80 = m := by omega
  simp [slicedAt, Addr.add, e1]
  omega

set_option maxHeartbeats 2000000 in
theorem Print_any {a0 a1 a2 a3 : Int} (ha : D4 a0 a1 a2 a3) (w : World) :
    Calls Try.prog 28 #[.agg #[.int .u64 a0, .int .u64 a1, .int .u64 a2, .int .u64 a3]] w fun e w' => StrP (V a0 a1 a2 a3) e ∧ Below w.heap.size w w' := by
  have hz80 := zero80
  have N0 := V_lo ha
  have N1 := V_hi ha
  have hst : Hid (Inv w ((w.alloc (.cells #[.int .u64 a0, .int .u64 a1, .int .u64 a2, .int .u64 a3] 24)).alloc (.cells (Array.replicate 80 (.int .u8 0)) 63)) (V a0 a1 a2 a3) 80 19 a0 a1 a2 a3 0) :=
    ⟨PSt.start _ _ _ _ _ _, ha, by omega, by omega, by omega, by decide, by simp, Or.inl rfl⟩
  clear ha
  generalize V a0 a1 a2 a3 = N at *
  go_enter Try.func28, Try.ntmps28
  go_wp2_with fail
  go_step3
  go_wp2_with fail
  go_step3
  go_wp2_with fail
  go_loopw [4] (fun at_ wr => ∃ (m : Nat) (q0 q1 q2 q3 lo : Int), at_ = .int .i64 m ∧ Hid (Inv w wr N m 19 q0 q1 q2 q3 lo)) (fun at_ _ => (intOf at_).toNat)
  case atStart => exact ⟨80, _, _, _, _, _, rfl, hst⟩
  case round =>
    obtain ⟨m, q0, q1, q2, q3, lo, rfl, hI⟩ := hrel
    obtain ⟨c0, c1, c2, c3⟩ := hI.out.st.cellA
    have hcall := group_any hI.out.dq
    have z1 := hI.out.st.size
    have cf := Lib.hid hI
    go_wp2_with fail
    refine (hcall _).mono ?_
    rintro e w1 ⟨p0, p1, p2, p3, r, rfl, ⟨hp, r0, r1, hv⟩, hbw⟩
    have hN := Lib.hid (cf.out.out.next hbw hp r0 r1 hv)
    have s1 := cf.out.out.st.on hbw
    have Hp := Lib.hid hp
    clear c0 c1 c2 c3 z1 hbw hp hv hcall
    obtain ⟨c0, c1, c2, c3⟩ := s1.cellA
    obtain ⟨f0, f1, f2, f3⟩ := s1.frozenA
    have z1 := s1.size
    have Hs := Lib.hid s1
    clear s1
    go_wp2_with fail
    clear c0 c1 c2 c3 f0 f1 f2 f3 z1 Hs Hp r0 r1
    obtain ⟨wo, rfl⟩ : ∃ wo : World, wo = wr := ⟨_, rfl⟩
    go_loopw [4, 5, 6] (fun at_ low n wr => ∃ (m' k : Nat) (lo : Int), at_ = .int .i64 m' ∧ low = .int .u64 lo ∧ n = .int .i64 k ∧ m = m' + k ∧ Hid (Inv w wr N m' k p0 p1 p2 p3 lo)) (fun at_ _ _ _ => (intOf at_).toNat)
    case atStart => exact ⟨m, 0, r, rfl, rfl, rfl, rfl, hN⟩
    case round =>
      obtain ⟨m', k, lo', rfl, rfl, rfl, hmk, hJ⟩ := hrel
      have Hmk := Lib.hid hmk
      have room := hJ.out.room N0 N1
      have hm80 := hJ.out.hm
      have lo0 := hJ.out.lo0
      have lo1 := hJ.out.lo_le
      have hk19 := hJ.out.hk
      obtain ⟨c0, c1, c2, c3⟩ := hJ.out.st.cellA
      obtain ⟨⟨x, cx⟩, fx⟩ := hJ.out.st.cellT (m' - 1) (by omega)
      have z1 := hJ.out.st.size
      clear hmk
      by_cases hk : k < 19
      · by_cases hgo : V p0 p1 p2 p3 = 0 ∧ lo' = 0 ∧ m' < 80
        · have hlen := Lib.hid (hJ.out.done hgo.1 hgo.2.1 hgo.2.2)
          obtain ⟨hv0, hl0, hm8⟩ := hgo
          obtain ⟨rfl, rfl, rfl, rfl⟩ := V_zero hJ.out.dq hv0
          subst hl0
          have heq := @eq4_true 0 0 0 0
          have hb := Lib.hid hJ.out.st.below
          have hcv := run_convert_bytes_arg (P := Try.prog) wr 42 5 Try.underlying42 Try.underlying5 (w.heap.size + 1) m' (80 - m') (80 - m') (dgs N (80 - m')) (by simp [dgs]) (fun i hi => by
            have e := hJ.out.st.text (by omega) i hi
            rw [show 80 - (80 - m') + i = m' + i by omega] at e
            exact e) 9 Try.underlying9
          have hsl := slice80 wr (w.heap.size + 1) m' hm8
          clear hv0
          go_wp2_with fail
          rw [Exit.noGoto_ret]
          go_ret
          exact ⟨⟨_, hlen.out, rfl⟩, hb.out⟩
        · have hnext := Lib.hid (hJ.out.step room hk hgo)
          have hcase : ¬ V p0 p1 p2 p3 = 0 ∨ (V p0 p1 p2 p3 = 0 ∧ ¬ lo' = 0) ∨ (V p0 p1 p2 p3 = 0 ∧ lo' = 0 ∧ m' = 80) := by
            by_cases h1 : V p0 p1 p2 p3 = 0
            · by_cases h2 : lo' = 0
              · right; right; exact ⟨h1, h2, by have : ¬ m' < 80 := fun h => hgo ⟨h1, h2, h⟩; omega⟩
              · right; left; exact ⟨h1, h2⟩
            · left; exact h1
          clear hgo
          rcases hcase with hv | ⟨hv, hl⟩ | ⟨hv, hl, hm⟩
          · have heq := eq4_false (a0 := p0) (a1 := p1) (a2 := p2) (a3 := p3) (b0 := 0) (b1 := 0) (b2 := 0) (b3 := 0) (V_ne (by rw [show V 0 0 0 0 = 0 by unfold V; simp]; exact hv))
            clear hv
            go_wp2_with fail
            go_roundw
            case rel => exact ⟨m' - 1, k + 1, lo' / 10, by go_num, rfl, by go_num, by have := Hmk.out; omega, hnext⟩
            case measure => simp [intOf]; omega
          · have hl' : (lo' == 0) = false := by simpa using hl
            obtain ⟨rfl, rfl, rfl, rfl⟩ := V_zero hJ.out.dq hv
            have heq := @eq4_true 0 0 0 0
            clear hv hl
            go_wp2_with fail
            go_roundw
            case rel => exact ⟨m' - 1, k + 1, lo' / 10, by go_num, rfl, by go_num, by have := Hmk.out; omega, hnext⟩
            case measure => simp [intOf]; omega
          · obtain ⟨rfl, rfl, rfl, rfl⟩ := V_zero hJ.out.dq hv
            subst hl hm
            have heq := @eq4_true 0 0 0 0
            clear hv
            go_wp2_with fail
            go_roundw
            case rel => exact ⟨79, k + 1, 0, rfl, rfl, by go_num, by have := Hmk.out; omega, hnext⟩
            case measure => simp [intOf]
      · obtain rfl : k = 19 := by omega
        go_wp2_with fail
        go_roundw
        case rel => exact ⟨m', p0, p1, p2, p3, lo', rfl, hJ⟩
        case measure => have := Hmk.out; simp [intOf]; omega
end Go.Proofs.Ytnnlpiflalmmlaa
