/-
  Plain: long division bit by bit; what stands in memory meanwhile.
-/
import Derived.Test.YtnnlpiflalmmlaaKnows
namespace Go.Proofs.Ytnnlpiflalmmlaa
open Go.RowKit

def cells4 (x0 x1 x2 x3 : Int) : Array Value := #[.int .u64 x0, .int .u64 x1, .int .u64 x2, .int .u64 x3]

/-- Block b holds four digits. -/
def At4 (w : World) (b : Nat) (x0 x1 x2 x3 : Int) : Prop := w.heap[b]? = some (.cells (cells4 x0 x1 x2 x3) 24 (0, 0))

theorem At4.lt {w : World} {b : Nat} {x0 x1 x2 x3 : Int} (h : At4 w b x0 x1 x2 x3) : b < w.heap.size := lt_of_block h
theorem At4.cell {w : World} {b : Nat} {x0 x1 x2 x3 : Int} (h : At4 w b x0 x1 x2 x3) :
    w.cell? ⟨b, 0, none⟩ = some (.int .u64 x0) ∧ w.cell? ⟨b, 1, none⟩ = some (.int .u64 x1) ∧ w.cell? ⟨b, 2, none⟩ = some (.int .u64 x2) ∧ w.cell? ⟨b, 3, none⟩ = some (.int .u64 x3) := by
  simp [Joins.cell_of_block h, cells4]
theorem At4.free {w : World} {b : Nat} {x0 x1 x2 x3 : Int} (h : At4 w b x0 x1 x2 x3) :
    w.frozen? ⟨b, 0, none⟩ = false ∧ w.frozen? ⟨b, 1, none⟩ = false ∧ w.frozen? ⟨b, 2, none⟩ = false ∧ w.frozen? ⟨b, 3, none⟩ = false :=
  ⟨Joins.unfrozen_of_block h 0, Joins.unfrozen_of_block h 1, Joins.unfrozen_of_block h 2, Joins.unfrozen_of_block h 3⟩
theorem At4.on {w w1 : World} {b : Nat} {x0 x1 x2 x3 : Int} (h : At4 w b x0 x1 x2 x3) (hb : Below w.heap.size w w1) : At4 w1 b x0 x1 x2 x3 := by
  have := h.lt
  unfold At4
  rw [hb.block _ this]; exact h
theorem At4.alloc {w : World} {b : Nat} {x0 x1 x2 x3 : Int} (h : At4 w b x0 x1 x2 x3) (o : Obj) : At4 (w.alloc o) b x0 x1 x2 x3 := by
  unfold At4
  rw [Below.heap_alloc _ _ _ h.lt]; exact h
theorem At4.new (w : World) (x0 x1 x2 x3 : Int) : At4 (w.alloc (.cells #[.int .u64 x0, .int .u64 x1, .int .u64 x2, .int .u64 x3] 24)) w.heap.size x0 x1 x2 x3 := heap_new _ _
theorem At4.drew {w : World} {b : Nat} {x0 x1 x2 x3 : Int} (h : At4 w b x0 x1 x2 x3) : At4 w.drew b x0 x1 x2 x3 := h
theorem At4.other {w : World} {b : Nat} {x0 x1 x2 x3 : Int} (h : At4 w b x0 x1 x2 x3) {a : Addr} (ha : b ≠ a.block) (v : Value) : At4 (w.setCell a v) b x0 x1 x2 x3 := by
  unfold At4
  rw [Below.heap_setCell _ _ _ _ ha]; exact h
theorem At4.set0 {w : World} {b : Nat} {x0 x1 x2 x3 : Int} (h : At4 w b x0 x1 x2 x3) (y : Int) : At4 (w.setCell ⟨b, 0, none⟩ (.int .u64 y)) b y x1 x2 x3 := by
  have e := Joins.block_setCell (i := 0) h (.int .u64 y)
  unfold At4; rw [e]; rfl
theorem At4.set1 {w : World} {b : Nat} {x0 x1 x2 x3 : Int} (h : At4 w b x0 x1 x2 x3) (y : Int) : At4 (w.setCell ⟨b, 1, none⟩ (.int .u64 y)) b x0 y x2 x3 := by
  have e := Joins.block_setCell (i := 1) h (.int .u64 y)
  unfold At4; rw [e]; rfl
theorem At4.set2 {w : World} {b : Nat} {x0 x1 x2 x3 : Int} (h : At4 w b x0 x1 x2 x3) (y : Int) : At4 (w.setCell ⟨b, 2, none⟩ (.int .u64 y)) b x0 x1 y x3 := by
  have e := Joins.block_setCell (i := 2) h (.int .u64 y)
  unfold At4; rw [e]; rfl
theorem At4.set3 {w : World} {b : Nat} {x0 x1 x2 x3 : Int} (h : At4 w b x0 x1 x2 x3) (y : Int) : At4 (w.setCell ⟨b, 3, none⟩ (.int .u64 y)) b x0 x1 x2 y := by
  have e := Joins.block_setCell (i := 3) h (.int .u64 y)
  unfold At4; rw [e]; rfl
theorem At4.setAll {w : World} {b : Nat} {x0 x1 x2 x3 : Int} (h : At4 w b x0 x1 x2 x3) (y0 y1 y2 y3 : Int) :
    At4 ((((w.setCell ⟨b, 0, none⟩ (.int .u64 y0)).setCell ⟨b, 1, none⟩ (.int .u64 y1)).setCell ⟨b, 2, none⟩ (.int .u64 y2)).setCell ⟨b, 3, none⟩ (.int .u64 y3)) b y0 y1 y2 y3 :=
  (((h.set0 y0).set1 y1).set2 y2).set3 y3
theorem At4.otherAll {w : World} {b c : Nat} {x0 x1 x2 x3 : Int} (h : At4 w c x0 x1 x2 x3) (hc : c ≠ b) (y0 y1 y2 y3 : Value) :
    At4 ((((w.setCell ⟨b, 0, none⟩ y0).setCell ⟨b, 1, none⟩ y1).setCell ⟨b, 2, none⟩ y2).setCell ⟨b, 3, none⟩ y3) c x0 x1 x2 x3 :=
  (((h.other hc _).other hc _).other hc _).other hc _

/-! ### Bits -/

theorem two_pos (n : Nat) : (0 : Int) < 2 ^ n := Int.pow_pos (by omega)

theorem halve (A : Int) (n : Nat) : A / 2 ^ n = 2 * (A / 2 ^ (n + 1)) + A / 2 ^ n % 2 := by
  rw [Int.pow_succ, ← Int.ediv_ediv_of_nonneg (Int.le_of_lt (two_pos n))]
  omega

/-- A digit's bit is the number's. -/
theorem bit_of {x hi : Int} {m : Nat} (hm : m < 64) : (x + B * hi) / 2 ^ m % 2 = x / 2 ^ m % 2 := by
  obtain ⟨j, hj⟩ : ∃ j, 64 = m + (j + 1) := ⟨63 - m, by omega⟩
  have e : B = 2 ^ m * (2 ^ j * 2) := by
    rw [← Int.pow_succ, ← Int.pow_add, ← hj]; rfl
  rw [e, show x + 2 ^ m * (2 ^ j * 2) * hi = x + 2 ^ m * (2 * (2 ^ j * hi)) by
    rw [Int.mul_assoc, Int.mul_comm (2 ^ j) 2, Int.mul_assoc]]
  rw [Int.add_mul_ediv_left _ _ (by have := two_pos m; omega)]
  omega

theorem shift_of {x hi : Int} (hx : Dg x) (m : Nat) : (x + B * hi) / 2 ^ (64 + m) = hi / 2 ^ m := by
  have e : (2 : Int) ^ (64 + m) = B * 2 ^ m := by rw [Int.pow_add]; rfl
  rw [e, ← Int.ediv_ediv_of_nonneg (by unfold B; omega)]
  congr 1
  unfold Dg at hx
  unfold B at *; omega

theorem bit0 {a0 a1 a2 a3 : Int} {m : Nat} (hm : m < 64) : V a0 a1 a2 a3 / 2 ^ m % 2 = a0 / 2 ^ m % 2 := by
  have e : V a0 a1 a2 a3 = a0 + B * (a1 + B * a2 + B * B * a3) := by unfold V B; omega
  rw [e]; exact bit_of hm
theorem bit1 {a0 a1 a2 a3 : Int} (h : D4 a0 a1 a2 a3) {m : Nat} (hm : m < 64) : V a0 a1 a2 a3 / 2 ^ (64 + m) % 2 = a1 / 2 ^ m % 2 := by
  have e : V a0 a1 a2 a3 = a0 + B * (a1 + B * (a2 + B * a3)) := by unfold V B; omega
  rw [e, shift_of h.1]; exact bit_of hm
theorem bit2 {a0 a1 a2 a3 : Int} (h : D4 a0 a1 a2 a3) {m : Nat} (hm : m < 64) : V a0 a1 a2 a3 / 2 ^ (128 + m) % 2 = a2 / 2 ^ m % 2 := by
  have e : V a0 a1 a2 a3 = a0 + B * (a1 + B * (a2 + B * a3)) := by unfold V B; omega
  rw [e, show 128 + m = 64 + (64 + m) by omega, shift_of h.1, shift_of h.2.1]; exact bit_of hm
theorem bit3 {a0 a1 a2 a3 : Int} (h : D4 a0 a1 a2 a3) {m : Nat} (hm : m < 64) : V a0 a1 a2 a3 / 2 ^ (192 + m) % 2 = a3 / 2 ^ m % 2 := by
  have e : V a0 a1 a2 a3 = a0 + B * (a1 + B * (a2 + B * (a3 + B * 0))) := by unfold V B; omega
  rw [e, show 192 + m = 64 + (64 + (64 + m)) by omega, shift_of h.1, shift_of h.2.1, shift_of h.2.2.1]; exact bit_of hm

/-! ### A bit that is set where none was -/

theorem or_bit {x t : Int} {m : Nat} (hx : Dg x) (hm : m < 64) (ht : x = 2 ^ (m + 1) * t) : bits BinOp.or IntKind.u64 x (2 ^ m) = x + 2 ^ m ∧ Dg (x + 2 ^ m) := by
  have h64 : (2 : Int) ^ 64 = B := rfl
  have hlt : (2 : Int) ^ m < B := by
    rw [← h64]; exact Int.pow_lt_pow_of_lt (by omega) hm
  have hp := two_pos m
  have ht0 : 0 ≤ t := by
    have h0 := hx.1
    rw [ht] at h0
    exact Int.nonneg_of_mul_nonneg_right h0 (two_pos (m + 1))
  obtain ⟨T, rfl⟩ := Int.eq_ofNat_of_zero_le ht0
  obtain ⟨X, rfl⟩ := Int.eq_ofNat_of_zero_le hx.1
  have eX : X = 2 ^ (m + 1) * T := by
    have : (X : Int) = ((2 ^ (m + 1) * T : Nat) : Int) := by simpa using ht
    omega
  have eor : X ||| 2 ^ m = X + 2 ^ m := by
    rw [eX]
    exact (Nat.two_pow_add_eq_or_of_lt (Nat.pow_lt_pow_right (by omega) (by omega)) T).symm
  have e2 : ((2 : Int) ^ m).toNat = 2 ^ m := by
    have : ((2 ^ m : Nat) : Int) = (2 : Int) ^ m := by simp
    rw [← this, Int.toNat_natCast]
  have hx' := hx.2
  unfold B at hx' hlt
  rw [u64_or _ _ hx.1 hx' (Int.le_of_lt hp) hlt, Int.toNat_natCast, e2, eor]
  have hX : X < 2 ^ 64 := by omega
  have hor : X ||| 2 ^ m < 2 ^ 64 := Nat.or_lt_two_pow hX (Nat.pow_lt_pow_right (by omega) hm)
  rw [eor] at hor
  have ec : ((X + 2 ^ m : Nat) : Int) = (X : Int) + 2 ^ m := by simp
  refine ⟨ec, ?_⟩
  unfold Dg B
  rw [← ec]
  omega

theorem low_div {x hi Q : Int} {k : Nat} (hk : k ≤ 64) (h : x + B * hi = Q * 2 ^ k) : ∃ t, x = 2 ^ k * t := by
  obtain ⟨j, hj⟩ : ∃ j, 64 = k + j := ⟨64 - k, by omega⟩
  have e : B = 2 ^ k * 2 ^ j := by rw [← Int.pow_add, ← hj]; rfl
  refine ⟨Q - 2 ^ j * hi, ?_⟩
  rw [Int.mul_sub, ← Int.mul_assoc, ← e, Int.mul_comm (2 ^ k) Q]
  omega
theorem high_div {x hi Q : Int} {k : Nat} (hx : Dg x) (h : x + B * hi = Q * 2 ^ (64 + k)) : x = 0 ∧ hi = Q * 2 ^ k := by
  have e : (2 : Int) ^ (64 + k) = B * 2 ^ k := by rw [Int.pow_add]; rfl
  rw [e, ← Int.mul_assoc, Int.mul_comm Q B, Int.mul_assoc] at h
  generalize Q * 2 ^ k = z at *
  unfold Dg B at *
  omega

theorem quo0 {q0 q1 q2 q3 Q : Int} {m : Nat} (h : D4 q0 q1 q2 q3) (hm : m < 64) (hv : V q0 q1 q2 q3 = Q * 2 ^ (m + 1)) :
    bits BinOp.or IntKind.u64 q0 (2 ^ m) = q0 + 2 ^ m ∧ D4 (q0 + 2 ^ m) q1 q2 q3 ∧ V (q0 + 2 ^ m) q1 q2 q3 = (2 * Q + 1) * 2 ^ m := by
  have e : V q0 q1 q2 q3 = q0 + B * (q1 + B * q2 + B * B * q3) := by unfold V B; omega
  obtain ⟨t, ht⟩ := low_div (by omega) (e ▸ hv)
  obtain ⟨o1, o2⟩ := or_bit h.1 hm ht
  refine ⟨o1, ⟨o2, h.2⟩, ?_⟩
  have e2 : V (q0 + 2 ^ m) q1 q2 q3 = V q0 q1 q2 q3 + 2 ^ m := by unfold V; omega
  rw [e2, hv, Int.pow_succ, Int.add_mul, Int.one_mul, Int.mul_comm 2 Q, Int.mul_assoc, Int.mul_comm 2]
theorem quo1 {q0 q1 q2 q3 Q : Int} {m : Nat} (h : D4 q0 q1 q2 q3) (hm : m < 64) (hv : V q0 q1 q2 q3 = Q * 2 ^ (64 + m + 1)) :
    bits BinOp.or IntKind.u64 q1 (2 ^ m) = q1 + 2 ^ m ∧ D4 q0 (q1 + 2 ^ m) q2 q3 ∧ V q0 (q1 + 2 ^ m) q2 q3 = (2 * Q + 1) * 2 ^ (64 + m) := by
  have e : V q0 q1 q2 q3 = q0 + B * (q1 + B * (q2 + B * q3)) := by unfold V B; omega
  obtain ⟨_, e1⟩ := high_div (k := m + 1) h.1 (e ▸ hv)
  obtain ⟨t, ht⟩ := low_div (by omega) e1
  obtain ⟨o1, o2⟩ := or_bit h.2.1 hm ht
  refine ⟨o1, ⟨h.1, o2, h.2.2⟩, ?_⟩
  have e2 : V q0 (q1 + 2 ^ m) q2 q3 = V q0 q1 q2 q3 + 2 ^ (64 + m) := by
    rw [Int.pow_add, show (2 : Int) ^ 64 = B from rfl]; unfold V
    generalize (2 : Int) ^ m = z
    unfold B; omega
  rw [e2, hv, Int.pow_succ, Int.add_mul, Int.one_mul, Int.mul_comm 2 Q, Int.mul_assoc, Int.mul_comm 2]
theorem quo2 {q0 q1 q2 q3 Q : Int} {m : Nat} (h : D4 q0 q1 q2 q3) (hm : m < 64) (hv : V q0 q1 q2 q3 = Q * 2 ^ (128 + m + 1)) :
    bits BinOp.or IntKind.u64 q2 (2 ^ m) = q2 + 2 ^ m ∧ D4 q0 q1 (q2 + 2 ^ m) q3 ∧ V q0 q1 (q2 + 2 ^ m) q3 = (2 * Q + 1) * 2 ^ (128 + m) := by
  have e : V q0 q1 q2 q3 = q0 + B * (q1 + B * (q2 + B * q3)) := by unfold V B; omega
  obtain ⟨_, e1⟩ := high_div (k := 64 + (m + 1)) h.1 (by rw [← e, hv]; congr 2; omega)
  obtain ⟨_, e1⟩ := high_div (k := m + 1) h.2.1 e1
  obtain ⟨t, ht⟩ := low_div (by omega) e1
  obtain ⟨o1, o2⟩ := or_bit h.2.2.1 hm ht
  refine ⟨o1, ⟨h.1, h.2.1, o2, h.2.2.2⟩, ?_⟩
  have e2 : V q0 q1 (q2 + 2 ^ m) q3 = V q0 q1 q2 q3 + 2 ^ (128 + m) := by
    rw [Int.pow_add, show (2 : Int) ^ 128 = B * B from rfl]; unfold V
    generalize (2 : Int) ^ m = z
    unfold B; omega
  rw [e2, hv, Int.pow_succ, Int.add_mul, Int.one_mul, Int.mul_comm 2 Q, Int.mul_assoc, Int.mul_comm 2]
theorem quo3 {q0 q1 q2 q3 Q : Int} {m : Nat} (h : D4 q0 q1 q2 q3) (hm : m < 64) (hv : V q0 q1 q2 q3 = Q * 2 ^ (192 + m + 1)) :
    bits BinOp.or IntKind.u64 q3 (2 ^ m) = q3 + 2 ^ m ∧ D4 q0 q1 q2 (q3 + 2 ^ m) ∧ V q0 q1 q2 (q3 + 2 ^ m) = (2 * Q + 1) * 2 ^ (192 + m) := by
  have e : V q0 q1 q2 q3 = q0 + B * (q1 + B * (q2 + B * (q3 + B * 0))) := by unfold V B; omega
  obtain ⟨_, e1⟩ := high_div (k := 128 + (m + 1)) h.1 (by rw [← e, hv]; congr 2; omega)
  obtain ⟨_, e1⟩ := high_div (k := 64 + (m + 1)) h.2.1 (by rw [e1]; congr 2; omega)
  obtain ⟨_, e1⟩ := high_div (k := m + 1) h.2.2.1 e1
  obtain ⟨t, ht⟩ := low_div (by omega) e1
  obtain ⟨o1, o2⟩ := or_bit h.2.2.2 hm ht
  refine ⟨o1, ⟨h.1, h.2.1, h.2.2.1, o2⟩, ?_⟩
  have e2 : V q0 q1 q2 (q3 + 2 ^ m) = V q0 q1 q2 q3 + 2 ^ (192 + m) := by
    rw [Int.pow_add, show (2 : Int) ^ 192 = B * B * B from rfl]; unfold V
    generalize (2 : Int) ^ m = z
    unfold B; omega
  rw [e2, hv, Int.pow_succ, Int.add_mul, Int.one_mul, Int.mul_comm 2 Q, Int.mul_assoc, Int.mul_comm 2]

/-- The doubled rest, with its new bit. -/
theorem rest_bit {r0 r1 r2 r3 R c bit : Int} (h : D4 r0 r1 r2 r3) (hv : V r0 r1 r2 r3 = 2 * R - M * c) (hb : bit = 0 ∨ bit = 1) :
    bits BinOp.or IntKind.u64 r0 bit = r0 + bit ∧ D4 (r0 + bit) r1 r2 r3 ∧ V (r0 + bit) r1 r2 r3 = 2 * R - M * c + bit := by
  have ev : r0 % 2 = 0 := by
    unfold V M at hv; unfold B at hv; omega
  have hd := h.1
  unfold Dg at hd
  unfold B at hd
  refine ⟨?_, ⟨?_, h.2⟩, ?_⟩
  · rw [u64_or _ _ hd.1 hd.2 (by omega) (by omega)]
    obtain ⟨X, rfl⟩ := Int.eq_ofNat_of_zero_le hd.1
    rcases hb with rfl | rfl
    · simp
    · obtain ⟨T, rfl⟩ : ∃ T, X = 2 * T := ⟨X / 2, by omega⟩
      have := Nat.two_pow_add_eq_or_of_lt (show 1 < 2 ^ 1 by omega) T
      simp only [Nat.pow_one] at this
      rw [Int.toNat_natCast, show (1 : Int).toNat = 1 from rfl, ← this]
      simp
  · unfold Dg B; omega
  · rw [← hv]; unfold V; omega

theorem and_one {x : Int} (h0 : 0 ≤ x) (h1 : x < B) : bits BinOp.and IntKind.u64 x 1 = x % 2 := by
  unfold B at h1
  rw [u64_and _ _ h0 h1 (by omega) (by omega)]
  obtain ⟨X, rfl⟩ := Int.eq_ofNat_of_zero_le h0
  rw [Int.toNat_natCast, show (1 : Int).toNat = 1 from rfl, Nat.and_one_is_mod]
  rfl
theorem and_shift {x : Int} (h : Dg x) (m : Nat) : bits BinOp.and IntKind.u64 (x / 2 ^ m) 1 = x / 2 ^ m % 2 := by
  have p := two_pos m
  refine and_one (Int.ediv_nonneg h.1 (by omega)) ?_
  exact Int.lt_of_le_of_lt (Int.ediv_le_self _ h.1) h.2

theorem wrap_pow {m : Nat} (hm : m < 64) : IntKind.u64.wrap (2 ^ m) = 2 ^ m := by
  have h64 : (2 : Int) ^ 64 = 18446744073709551616 := rfl
  have hlt : (2 : Int) ^ m < 2 ^ 64 := Int.pow_lt_pow_of_lt (by omega) hm
  have hp := two_pos m
  rw [IntKind.wrap_u64]
  omega

theorem over_is {r0 r1 r2 r3 : Int} (h : D4 r0 r1 r2 r3) : (r3 / 9223372036854775808 = 1 ∧ M ≤ 2 * V r0 r1 r2 r3) ∨ (r3 / 9223372036854775808 = 0 ∧ 2 * V r0 r1 r2 r3 < M) := by
  unfold D4 Dg B at h; unfold V M B; omega

theorem div_sub {A0 A1 D Q R X Z L c bo bit : Int} (h1 : A1 = D * Q + R) (h0 : A0 = 2 * A1 + bit) (hb : bit = 0 ∨ bit = 1) (hx : X = R + R - M * c) (hz : Z = 2 * R - M * c + bit) (hl : L = Z - D + M * bo)
    (x0 : 0 ≤ X) (x1 : X < M) (_z0 : 0 ≤ Z) (_z1 : Z < M) (l0 : 0 ≤ L) (l1 : L < M) (r0 : 0 ≤ R) (r1 : R < D) (d1 : D < M) (hc : c = 0 ∨ c = 1) (hbo : bo = 0 ∨ bo = 1) (hgo : M ≤ 2 * R ∨ bo = 0) : A0 = D * (2 * Q + 1) + L ∧ L < D := by
  have e : D * (2 * Q + 1) = 2 * (D * Q) + D := by rw [Int.mul_add, Int.mul_one, Int.mul_left_comm]
  rw [e]
  generalize D * Q = P at *
  unfold M B at *
  omega
theorem div_skip {A0 A1 D Q R X Z L c bo bit : Int} (h1 : A1 = D * Q + R) (h0 : A0 = 2 * A1 + bit) (_hb : bit = 0 ∨ bit = 1) (hx : X = R + R - M * c) (hz : Z = 2 * R - M * c + bit) (hl : L = Z - D + M * bo)
    (x0 : 0 ≤ X) (_x1 : X < M) (_l0 : 0 ≤ L) (l1 : L < M) (hc : c = 0 ∨ c = 1) (hbo : bo = 1) (hov : 2 * R < M) : A0 = D * (2 * Q) + Z ∧ Z < D := by
  have e : D * (2 * Q) = 2 * (D * Q) := by rw [Int.mul_left_comm]
  rw [e]
  generalize D * Q = P at *
  unfold M B at *
  omega
end Go.Proofs.Ytnnlpiflalmmlaa
