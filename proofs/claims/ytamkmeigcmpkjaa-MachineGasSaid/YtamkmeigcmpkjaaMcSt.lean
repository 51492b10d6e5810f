/-
  The machine's helpers that touch no state.
-/
import Derived.Test.YtamkmeigcmpkjaaMcM
import Derived.Test.YtamkmeigcmpkjaaMem
namespace Go.Proofs.Ytamkmeigcmpkjaa
set_option maxRecDepth 100000
open Go.RowKit

theorem truth_any (w : World) (b : Bool) : Calls Try.prog 23 #[.bool b] w fun e w' => e = .returned (.int .u64 (tru b)) ∧ w' = w := by
  cases b with
  | false =>
    go_enter Try.func23, Try.ntmps23
    go_wp2_with fail
    go_ret
    exact ⟨rfl, rfl⟩
  | true =>
    go_enter Try.func23, Try.ntmps23
    go_wp2_with fail
    go_ret
    exact ⟨rfl, rfl⟩
theorem num8_any (w : World) (n : Int) : Calls Try.prog 10 #[.int .i64 n] w fun e w' => e = .returned (.int .i64 n) ∧ w' = w := by
  go_enter Try.func10, Try.ntmps10
  go_wp2_with fail
  go_ret
  exact ⟨rfl, rfl⟩

set_option maxHeartbeats 4000000 in
theorem rightInstr_any (w : World) (op a : Int) : Calls Try.prog 15 #[.agg #[.int .i64 op, .int .u64 a]] w fun e w' => e = .returned (.bool (insOk ⟨op, a⟩)) ∧ Below w.heap.size w w' := by
  have B := Lib.hid ((Below.refl w.heap.size w).alloc (Nat.le_refl _) (.cells #[.int .i64 op, .int .u64 a] 43))
  by_cases h1 : op = 1
  · subst h1
    have E : insOk ⟨1, a⟩ = true := rfl
    rw [E]
    clear E
    go_enter Try.func15, Try.ntmps15
    go_wp2_with fail
    go_ret
    exact ⟨rfl, B.out⟩
  have x1 : (op == 1) = false := by simp [h1]
  by_cases h12 : op = 12
  · subst h12
    have E : insOk ⟨12, a⟩ = true := rfl
    rw [E]
    clear E
    go_enter Try.func15, Try.ntmps15
    go_wp2_with fail
    go_ret
    exact ⟨rfl, B.out⟩
  have x12 : (op == 12) = false := by simp [h12]
  by_cases h13 : op = 13
  · subst h13
    have E : insOk ⟨13, a⟩ = true := rfl
    rw [E]
    clear E
    go_enter Try.func15, Try.ntmps15
    go_wp2_with fail
    go_ret
    exact ⟨rfl, B.out⟩
  have x13 : (op == 13) = false := by simp [h13]
  by_cases h16 : op = 16
  · subst h16
    have E : insOk ⟨16, a⟩ = true := rfl
    rw [E]
    clear E
    go_enter Try.func15, Try.ntmps15
    go_wp2_with fail
    go_ret
    exact ⟨rfl, B.out⟩
  have x16 : (op == 16) = false := by simp [h16]
  by_cases h3 : op = 3
  · subst h3
    have E : insOk ⟨3, a⟩ = decide (a < 32) := rfl
    rw [E]
    clear E
    go_enter Try.func15, Try.ntmps15
    go_wp2_with fail
    go_ret
    exact ⟨rfl, B.out⟩
  have x3 : (op == 3) = false := by simp [h3]
  by_cases h4 : op = 4
  · subst h4
    have E : insOk ⟨4, a⟩ = decide (a < 32) := rfl
    rw [E]
    clear E
    go_enter Try.func15, Try.ntmps15
    go_wp2_with fail
    go_ret
    exact ⟨rfl, B.out⟩
  have x4 : (op == 4) = false := by simp [h4]
  by_cases h14 : op = 14
  · subst h14
    have E : insOk ⟨14, a⟩ = decide (a < 16) := rfl
    rw [E]
    clear E
    go_enter Try.func15, Try.ntmps15
    go_wp2_with fail
    go_ret
    exact ⟨rfl, B.out⟩
  have x14 : (op == 14) = false := by simp [h14]
  by_cases h15 : op = 15
  · subst h15
    have E : insOk ⟨15, a⟩ = decide (a < 16) := rfl
    rw [E]
    clear E
    go_enter Try.func15, Try.ntmps15
    go_wp2_with fail
    go_ret
    exact ⟨rfl, B.out⟩
  have x15 : (op == 15) = false := by simp [h15]
  have E : insOk ⟨op, a⟩ = (decide (0 ≤ op) && (decide (op ≤ 19) && (a == 0))) := by
    unfold insOk
    simp only
    rw [if_neg (by omega), if_neg (by omega), if_neg (by omega)]
  rw [E]
  clear E h1 h12 h13 h16 h3 h4 h14 h15
  by_cases g1 : 0 ≤ op
  · have d1 : decide (0 ≤ op) = true := decide_eq_true g1
    have d1' : decide (op ≥ 0) = true := decide_eq_true g1
    by_cases g2 : op ≤ 19
    · have d2 : decide (op ≤ 19) = true := decide_eq_true g2
      rw [d1, d2]
      clear g1 g2
      go_enter Try.func15, Try.ntmps15
      go_wp2_with fail
      go_ret
      exact ⟨rfl, B.out⟩
    · have d2 : decide (op ≤ 19) = false := decide_eq_false g2
      rw [d1, d2]
      clear g1 g2
      go_enter Try.func15, Try.ntmps15
      go_wp2_with fail
      go_ret
      exact ⟨rfl, B.out⟩
  have d1 : decide (0 ≤ op) = false := decide_eq_false g1
  have d1' : decide (op ≥ 0) = false := decide_eq_false g1
  rw [d1]
  clear g1
  go_enter Try.func15, Try.ntmps15
  go_wp2_with fail
  go_ret
  exact ⟨rfl, B.out⟩

set_option maxHeartbeats 4000000 in
theorem effect_any (w : World) (op a : Int) (ha0 : 0 ≤ a) (ha3 : op = 3 ∨ op = 4 → a < 32) : Calls Try.prog 22 #[.agg #[.int .i64 op, .int .u64 a]] w fun e w' => e = .returned (.tuple #[.int .i64 (needsM ⟨op, a⟩), .int .i64 (moreM ⟨op, a⟩)]) ∧ Below w.heap.size w w' := by
  have B := Lib.hid ((Below.refl w.heap.size w).alloc (Nat.le_refl _) (.cells #[.int .i64 op, .int .u64 a] 43))
  by_cases h1 : op = 1
  · subst h1
    have E1 : needsM ⟨1, a⟩ = 0 := rfl
    have E2 : moreM ⟨1, a⟩ = 1 := rfl
    rw [E1, E2]
    clear E1 E2
    clear ha3 ha0
    go_enter Try.func22, Try.ntmps22
    go_wp2_with fail
    go_ret2
    exact ⟨rfl, B.out⟩
  have x1 : (op == 1) = false := by simp [h1]
  by_cases h14 : op = 14
  · subst h14
    have E1 : needsM ⟨14, a⟩ = 0 := rfl
    have E2 : moreM ⟨14, a⟩ = 1 := rfl
    rw [E1, E2]
    clear E1 E2
    clear ha3 ha0
    go_enter Try.func22, Try.ntmps22
    go_wp2_with fail
    go_ret2
    exact ⟨rfl, B.out⟩
  have x14 : (op == 14) = false := by simp [h14]
  by_cases h16 : op = 16
  · subst h16
    have E1 : needsM ⟨16, a⟩ = 0 := rfl
    have E2 : moreM ⟨16, a⟩ = 1 := rfl
    rw [E1, E2]
    clear E1 E2
    clear ha3 ha0
    go_enter Try.func22, Try.ntmps22
    go_wp2_with fail
    go_ret2
    exact ⟨rfl, B.out⟩
  have x16 : (op == 16) = false := by simp [h16]
  by_cases h17 : op = 17
  · subst h17
    have E1 : needsM ⟨17, a⟩ = 0 := rfl
    have E2 : moreM ⟨17, a⟩ = 1 := rfl
    rw [E1, E2]
    clear E1 E2
    clear ha3 ha0
    go_enter Try.func22, Try.ntmps22
    go_wp2_with fail
    go_ret2
    exact ⟨rfl, B.out⟩
  have x17 : (op == 17) = false := by simp [h17]
  by_cases h18 : op = 18
  · subst h18
    have E1 : needsM ⟨18, a⟩ = 0 := rfl
    have E2 : moreM ⟨18, a⟩ = 1 := rfl
    rw [E1, E2]
    clear E1 E2
    clear ha3 ha0
    go_enter Try.func22, Try.ntmps22
    go_wp2_with fail
    go_ret2
    exact ⟨rfl, B.out⟩
  have x18 : (op == 18) = false := by simp [h18]
  by_cases h2 : op = 2
  · subst h2
    have E1 : needsM ⟨2, a⟩ = 1 := rfl
    have E2 : moreM ⟨2, a⟩ = -1 := rfl
    rw [E1, E2]
    clear E1 E2
    clear ha3 ha0
    go_enter Try.func22, Try.ntmps22
    go_wp2_with fail
    go_ret2
    exact ⟨rfl, B.out⟩
  have x2 : (op == 2) = false := by simp [h2]
  by_cases h13 : op = 13
  · subst h13
    have E1 : needsM ⟨13, a⟩ = 1 := rfl
    have E2 : moreM ⟨13, a⟩ = -1 := rfl
    rw [E1, E2]
    clear E1 E2
    clear ha3 ha0
    go_enter Try.func22, Try.ntmps22
    go_wp2_with fail
    go_ret2
    exact ⟨rfl, B.out⟩
  have x13 : (op == 13) = false := by simp [h13]
  by_cases h15 : op = 15
  · subst h15
    have E1 : needsM ⟨15, a⟩ = 1 := rfl
    have E2 : moreM ⟨15, a⟩ = -1 := rfl
    rw [E1, E2]
    clear E1 E2
    clear ha3 ha0
    go_enter Try.func22, Try.ntmps22
    go_wp2_with fail
    go_ret2
    exact ⟨rfl, B.out⟩
  have x15 : (op == 15) = false := by simp [h15]
  by_cases h3 : op = 3
  · subst h3
    have E1 : needsM ⟨3, a⟩ = a + 1 := rfl
    have E2 : moreM ⟨3, a⟩ = 1 := rfl
    rw [E1, E2]
    clear E1 E2
    have ha := ha3 (by omega)
    have w1 : IntKind.i64.wrap a = a := IntWalk.i64_in _ (by omega)
    have w2 : IntKind.i64.wrap (a + 1) = a + 1 := IntWalk.i64_in _ (by omega)
    clear ha
    clear ha3 ha0
    go_enter Try.func22, Try.ntmps22
    go_wp2_with fail
    go_ret2
    exact ⟨rfl, B.out⟩
  have x3 : (op == 3) = false := by simp [h3]
  by_cases h4 : op = 4
  · subst h4
    have E1 : needsM ⟨4, a⟩ = a + 2 := rfl
    have E2 : moreM ⟨4, a⟩ = 0 := rfl
    rw [E1, E2]
    clear E1 E2
    have ha := ha3 (by omega)
    have w1 : IntKind.i64.wrap a = a := IntWalk.i64_in _ (by omega)
    have w2 : IntKind.i64.wrap (a + 2) = a + 2 := IntWalk.i64_in _ (by omega)
    clear ha
    clear ha3 ha0
    go_enter Try.func22, Try.ntmps22
    go_wp2_with fail
    go_ret2
    exact ⟨rfl, B.out⟩
  have x4 : (op == 4) = false := by simp [h4]
  by_cases h0 : op = 0
  · subst h0
    have E1 : needsM ⟨0, a⟩ = 0 := rfl
    have E2 : moreM ⟨0, a⟩ = 0 := rfl
    rw [E1, E2]
    clear E1 E2
    clear ha3 ha0
    go_enter Try.func22, Try.ntmps22
    go_wp2_with fail
    go_ret2
    exact ⟨rfl, B.out⟩
  have x0 : (op == 0) = false := by simp [h0]
  by_cases h12 : op = 12
  · subst h12
    have E1 : needsM ⟨12, a⟩ = 0 := rfl
    have E2 : moreM ⟨12, a⟩ = 0 := rfl
    rw [E1, E2]
    clear E1 E2
    clear ha3 ha0
    go_enter Try.func22, Try.ntmps22
    go_wp2_with fail
    go_ret2
    exact ⟨rfl, B.out⟩
  have x12 : (op == 12) = false := by simp [h12]
  by_cases h19 : op = 19
  · subst h19
    have E1 : needsM ⟨19, a⟩ = 0 := rfl
    have E2 : moreM ⟨19, a⟩ = 0 := rfl
    rw [E1, E2]
    clear E1 E2
    clear ha3 ha0
    go_enter Try.func22, Try.ntmps22
    go_wp2_with fail
    go_ret2
    exact ⟨rfl, B.out⟩
  have x19 : (op == 19) = false := by simp [h19]
  have E1 : needsM ⟨op, a⟩ = 2 := by
    unfold needsM
    simp only
    rw [if_neg (by omega), if_neg (by omega), if_neg (by omega), if_neg (by omega), if_neg (by omega)]
  have E2 : moreM ⟨op, a⟩ = -1 := by
    unfold moreM
    simp only
    rw [if_neg (by omega), if_neg (by omega), if_neg (by omega), if_neg (by omega), if_neg (by omega)]
  rw [E1, E2]
  clear E1 E2
  clear ha3 ha0 h1 h14 h16 h17 h18 h2 h13 h15 h3 h4 h0 h12 h19
  go_enter Try.func22, Try.ntmps22
  go_wp2_with fail
  go_ret2
  exact ⟨rfl, B.out⟩

set_option maxHeartbeats 4000000 in
theorem reckon_any (w : World) (op b a : Int) (hb : 0 ≤ b ∧ b < 18446744073709551616) (ha : 0 ≤ a ∧ a < 18446744073709551616) : Calls Try.prog 21 #[.int .i64 op, .int .u64 b, .int .u64 a] w fun e w' => e = .returned (.tuple #[.int .u64 (rkV op b a), .int .i64 (rkE op a)]) ∧ w' = w := by
  by_cases h5 : op = 5
  · subst h5
    clear ha hb
    go_enter Try.func21, Try.ntmps21
    go_wp2_with fail
    go_ret2
    exact ⟨rfl, rfl⟩
  have x5 : (op == 5) = false := by simp [h5]
  by_cases h6 : op = 6
  · subst h6
    clear ha hb
    go_enter Try.func21, Try.ntmps21
    go_wp2_with fail
    go_ret2
    exact ⟨rfl, rfl⟩
  have x6 : (op == 6) = false := by simp [h6]
  by_cases h7 : op = 7
  · subst h7
    clear ha hb
    go_enter Try.func21, Try.ntmps21
    go_wp2_with fail
    go_ret2
    exact ⟨rfl, rfl⟩
  have x7 : (op == 7) = false := by simp [h7]
  by_cases h10 : op = 10
  · subst h10
    clear ha hb
    go_enter Try.func21, Try.ntmps21
    go_wp2_with fail
    refine (truth_any _ _).mono ?_
    rintro e w1 ⟨rfl, h⟩
    obtain rfl := h.symm
    go_wp2_with fail
    go_ret2
    exact ⟨rfl, rfl⟩
  have x10 : (op == 10) = false := by simp [h10]
  by_cases h11 : op = 11
  · subst h11
    clear ha hb
    go_enter Try.func21, Try.ntmps21
    go_wp2_with fail
    refine (truth_any _ _).mono ?_
    rintro e w1 ⟨rfl, h⟩
    obtain rfl := h.symm
    go_wp2_with fail
    go_ret2
    exact ⟨rfl, rfl⟩
  have x11 : (op == 11) = false := by simp [h11]
  have E1 : rkE op a = if a = 0 then 32 else 0 := by unfold rkE; rw [if_neg (by omega)]
  have E2 : rkV op b a = if a = 0 then 0 else if op = 8 then b.tdiv a else b.tmod a := by unfold rkV; rw [if_neg h5, if_neg h6, if_neg h7, if_neg h10, if_neg h11]
  rw [E1, E2]
  clear E1 E2 h5 h6 h7 h10 h11
  by_cases h0 : a = 0
  · subst h0
    rw [if_pos rfl, if_pos rfl]
    clear ha hb
    go_enter Try.func21, Try.ntmps21
    go_wp2_with fail
    go_ret2
    exact ⟨rfl, rfl⟩
  have z0 : (a == 0) = false := by simp [h0]
  rw [if_neg h0, if_neg h0]
  by_cases h8 : op = 8
  · subst h8
    rw [if_pos rfl]
    have q1 : IntKind.u64.wrap (b.tdiv a) = b.tdiv a := by
      rw [IntKind.wrap_u64]
      rw [Int.tdiv_eq_ediv_of_nonneg hb.1]
      have := Int.ediv_nonneg hb.1 ha.1
      have := Int.ediv_le_self a hb.1
      omega
    clear ha hb
    go_enter Try.func21, Try.ntmps21
    go_wp2_with fail
    go_ret2
    exact ⟨rfl, rfl⟩
  have x8 : (op == 8) = false := by simp [h8]
  rw [if_neg h8]
  have q1 : IntKind.u64.wrap (b.tmod a) = b.tmod a := by
    rw [IntKind.wrap_u64]
    rw [Int.tmod_eq_emod_of_nonneg hb.1]
    have := Int.emod_nonneg b h0
    have := Int.emod_lt_of_pos b (show 0 < a by omega)
    omega
  clear ha hb h8
  go_enter Try.func21, Try.ntmps21
  go_wp2_with fail
  go_ret2
  exact ⟨rfl, rfl⟩
end Go.Proofs.Ytamkmeigcmpkjaa
