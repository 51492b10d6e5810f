/-
  Plain: long division bit by bit; what stands in memory meanwhile.; The walk of package wide: Bytes; bytes and numbers, plain.; The writer's Wide, where there is room.; The walk of package wide: From, of bytes that lie anywhere.
-/
import Derived.Below
import Derived.Lib.Hide
import Derived.Lib.SmallJoins
import Derived.ProofKit
import Derived.Laws.Bits64b
import Derived.Test.YtcpoaalhpjipaaaDoorMd3
namespace Go.Proofs.YtcpoaalhpjipaaaDoor
open Go.RowKit

def cells4 (x0 x1 x2 x3 : Int) : Array Value := #[.int .u64 x0, .int .u64 x1, .int .u64 x2, .int .u64 x3]

/-- Block b holds four digits. -/
def At4 (w : World) (b : Nat) (x0 x1 x2 x3 : Int) : Prop := w.heap[b]? = some (.cells (cells4 x0 x1 x2 x3) 24 (0, 0))

theorem At4.lt {w : World} {b : Nat} {x0 x1 x2 x3 : Int} (h : At4 w b x0 x1 x2 x3) : b < w.heap.size := lt_of_block h
theorem At4.cell {w : World} {b : Nat} {x0 x1 x2 x3 : Int} (h : At4 w b x0 x1 x2 x3) :
    w.cell? ⟨b, 0, none⟩ = some (.int .u64 x0) ∧ w.cell? ⟨b, 1, none⟩ = some (.int .u64 x1) ∧ w.cell? ⟨b, 2, none⟩ = some (.int .u64 x2) ∧ w.cell? ⟨b, 3, none⟩ = some (.int .u64 x3) := by
  simp [Joins.cell_of_block h, cells4]
theorem At4.free {w : World} {b : Nat} {x0 x1 x2 x3 : Int} (h : At4 w b x0 x1 x2 x3) :
    w.frozen? ⟨b, 0, none⟩ = false ∧ w.frozen? ⟨b, 1, none⟩ = false ∧ w.frozen? ⟨b, 2, none⟩ = false ∧ w.frozen? ⟨b, 3, none⟩ = false :=
  ⟨Joins.unfrozen_of_block h 0, Joins.unfrozen_of_block h 1, Joins.unfrozen_of_block h 2, Joins.unfrozen_of_block h 3⟩
theorem At4.on {w w1 : World} {b : Nat} {x0 x1 x2 x3 : Int} (h : At4 w b x0 x1 x2 x3) (hb : Below w.heap.size w w1) : At4 w1 b x0 x1 x2 x3 := by
  have := h.lt
  unfold At4
  rw [hb.block _ this]; exact h
theorem At4.alloc {w : World} {b : Nat} {x0 x1 x2 x3 : Int} (h : At4 w b x0 x1 x2 x3) (o : Obj) : At4 (w.alloc o) b x0 x1 x2 x3 := by
  unfold At4
  rw [Below.heap_alloc _ _ _ h.lt]; exact h
theorem At4.new (w : World) (x0 x1 x2 x3 : Int) : At4 (w.alloc (.cells #[.int .u64 x0, .int .u64 x1, .int .u64 x2, .int .u64 x3] 24)) w.heap.size x0 x1 x2 x3 := heap_alloc_new _ _
theorem At4.drew {w : World} {b : Nat} {x0 x1 x2 x3 : Int} (h : At4 w b x0 x1 x2 x3) : At4 w.drew b x0 x1 x2 x3 := h
theorem At4.other {w : World} {b : Nat} {x0 x1 x2 x3 : Int} (h : At4 w b x0 x1 x2 x3) {a : Addr} (ha : b ≠ a.block) (v : Value) : At4 (w.setCell a v) b x0 x1 x2 x3 := by
  unfold At4
  rw [Below.heap_setCell _ _ _ _ ha]; exact h
theorem At4.set0 {w : World} {b : Nat} {x0 x1 x2 x3 : Int} (h : At4 w b x0 x1 x2 x3) (y : Int) : At4 (w.setCell ⟨b, 0, none⟩ (.int .u64 y)) b y x1 x2 x3 := by
  have e := Joins.block_setCell (i := 0) h (.int .u64 y)
  unfold At4; rw [e]; rfl
theorem At4.set1 {w : World} {b : Nat} {x0 x1 x2 x3 : Int} (h : At4 w b x0 x1 x2 x3) (y : Int) : At4 (w.setCell ⟨b, 1, none⟩ (.int .u64 y)) b x0 y x2 x3 := by
  have e := Joins.block_setCell (i := 1) h (.int .u64 y)
  unfold At4; rw [e]; rfl
theorem At4.set2 {w : World} {b : Nat} {x0 x1 x2 x3 : Int} (h : At4 w b x0 x1 x2 x3) (y : Int) : At4 (w.setCell ⟨b, 2, none⟩ (.int .u64 y)) b x0 x1 y x3 := by
  have e := Joins.block_setCell (i := 2) h (.int .u64 y)
  unfold At4; rw [e]; rfl
theorem At4.set3 {w : World} {b : Nat} {x0 x1 x2 x3 : Int} (h : At4 w b x0 x1 x2 x3) (y : Int) : At4 (w.setCell ⟨b, 3, none⟩ (.int .u64 y)) b x0 x1 x2 y := by
  have e := Joins.block_setCell (i := 3) h (.int .u64 y)
  unfold At4; rw [e]; rfl
theorem At4.setAll {w : World} {b : Nat} {x0 x1 x2 x3 : Int} (h : At4 w b x0 x1 x2 x3) (y0 y1 y2 y3 : Int) :
    At4 ((((w.setCell ⟨b, 0, none⟩ (.int .u64 y0)).setCell ⟨b, 1, none⟩ (.int .u64 y1)).setCell ⟨b, 2, none⟩ (.int .u64 y2)).setCell ⟨b, 3, none⟩ (.int .u64 y3)) b y0 y1 y2 y3 :=
  (((h.set0 y0).set1 y1).set2 y2).set3 y3
theorem At4.otherAll {w : World} {b c : Nat} {x0 x1 x2 x3 : Int} (h : At4 w c x0 x1 x2 x3) (hc : c ≠ b) (y0 y1 y2 y3 : Value) :
    At4 ((((w.setCell ⟨b, 0, none⟩ y0).setCell ⟨b, 1, none⟩ y1).setCell ⟨b, 2, none⟩ y2).setCell ⟨b, 3, none⟩ y3) c x0 x1 x2 x3 :=
  (((h.other hc _).other hc _).other hc _).other hc _

/-! ### Bits -/

theorem two_pos (n : Nat) : (0 : Int) < 2 ^ n := Int.pow_pos (by omega)

theorem halve (A : Int) (n : Nat) : A / 2 ^ n = 2 * (A / 2 ^ (n + 1)) + A / 2 ^ n % 2 := by
  rw [Int.pow_succ, ← Int.ediv_ediv_of_nonneg (Int.le_of_lt (two_pos n))]
  omega

/-- A digit's bit is the number's. -/
theorem bit_of {x hi : Int} {m : Nat} (hm : m < 64) : (x + B * hi) / 2 ^ m % 2 = x / 2 ^ m % 2 := by
  obtain ⟨j, hj⟩ : ∃ j, 64 = m + (j + 1) := ⟨63 - m, by omega⟩
  have e : B = 2 ^ m * (2 ^ j * 2) := by
    rw [← Int.pow_succ, ← Int.pow_add, ← hj]; rfl
  rw [e, show x + 2 ^ m * (2 ^ j * 2) * hi = x + 2 ^ m * (2 * (2 ^ j * hi)) by
    rw [Int.mul_assoc, Int.mul_comm (2 ^ j) 2, Int.mul_assoc]]
  rw [Int.add_mul_ediv_left _ _ (by have := two_pos m; omega)]
  omega

theorem shift_of {x hi : Int} (hx : Dg x) (m : Nat) : (x + B * hi) / 2 ^ (64 + m) = hi / 2 ^ m := by
  have e : (2 : Int) ^ (64 + m) = B * 2 ^ m := by rw [Int.pow_add]; rfl
  rw [e, ← Int.ediv_ediv_of_nonneg (by unfold B; omega)]
  congr 1
  unfold Dg at hx
  unfold B at *; omega

theorem bit0 {a0 a1 a2 a3 : Int} {m : Nat} (hm : m < 64) : V a0 a1 a2 a3 / 2 ^ m % 2 = a0 / 2 ^ m % 2 := by
  have e : V a0 a1 a2 a3 = a0 + B * (a1 + B * a2 + B * B * a3) := by unfold V B; omega
  rw [e]; exact bit_of hm
theorem bit1 {a0 a1 a2 a3 : Int} (h : D4 a0 a1 a2 a3) {m : Nat} (hm : m < 64) : V a0 a1 a2 a3 / 2 ^ (64 + m) % 2 = a1 / 2 ^ m % 2 := by
  have e : V a0 a1 a2 a3 = a0 + B * (a1 + B * (a2 + B * a3)) := by unfold V B; omega
  rw [e, shift_of h.1]; exact bit_of hm
theorem bit2 {a0 a1 a2 a3 : Int} (h : D4 a0 a1 a2 a3) {m : Nat} (hm : m < 64) : V a0 a1 a2 a3 / 2 ^ (128 + m) % 2 = a2 / 2 ^ m % 2 := by
  have e : V a0 a1 a2 a3 = a0 + B * (a1 + B * (a2 + B * a3)) := by unfold V B; omega
  rw [e, show 128 + m = 64 + (64 + m) by omega, shift_of h.1, shift_of h.2.1]; exact bit_of hm
theorem bit3 {a0 a1 a2 a3 : Int} (h : D4 a0 a1 a2 a3) {m : Nat} (hm : m < 64) : V a0 a1 a2 a3 / 2 ^ (192 + m) % 2 = a3 / 2 ^ m % 2 := by
  have e : V a0 a1 a2 a3 = a0 + B * (a1 + B * (a2 + B * (a3 + B * 0))) := by unfold V B; omega
  rw [e, show 192 + m = 64 + (64 + (64 + m)) by omega, shift_of h.1, shift_of h.2.1, shift_of h.2.2.1]; exact bit_of hm

/-! ### A bit that is set where none was -/

theorem or_bit {x t : Int} {m : Nat} (hx : Dg x) (hm : m < 64) (ht : x = 2 ^ (m + 1) * t) : bits BinOp.or IntKind.u64 x (2 ^ m) = x + 2 ^ m ∧ Dg (x + 2 ^ m) := by
  have h64 : (2 : Int) ^ 64 = B := rfl
  have hlt : (2 : Int) ^ m < B := by
    rw [← h64]; exact Int.pow_lt_pow_of_lt (by omega) hm
  have hp := two_pos m
  have ht0 : 0 ≤ t := by
    have h0 := hx.1
    rw [ht] at h0
    exact Int.nonneg_of_mul_nonneg_right h0 (two_pos (m + 1))
  obtain ⟨T, rfl⟩ := Int.eq_ofNat_of_zero_le ht0
  obtain ⟨X, rfl⟩ := Int.eq_ofNat_of_zero_le hx.1
  have eX : X = 2 ^ (m + 1) * T := by
    have : (X : Int) = ((2 ^ (m + 1) * T : Nat) : Int) := by simpa using ht
    omega
  have eor : X ||| 2 ^ m = X + 2 ^ m := by
    rw [eX]
    exact (Nat.two_pow_add_eq_or_of_lt (Nat.pow_lt_pow_right (by omega) (by omega)) T).symm
  have e2 : ((2 : Int) ^ m).toNat = 2 ^ m := by
    have : ((2 ^ m : Nat) : Int) = (2 : Int) ^ m := by simp
    rw [← this, Int.toNat_natCast]
  have hx' := hx.2
  unfold B at hx' hlt
  rw [u64_or _ _ hx.1 hx' (Int.le_of_lt hp) hlt, Int.toNat_natCast, e2, eor]
  have hX : X < 2 ^ 64 := by omega
  have hor : X ||| 2 ^ m < 2 ^ 64 := Nat.or_lt_two_pow hX (Nat.pow_lt_pow_right (by omega) hm)
  rw [eor] at hor
  have ec : ((X + 2 ^ m : Nat) : Int) = (X : Int) + 2 ^ m := by simp
  refine ⟨ec, ?_⟩
  unfold Dg B
  rw [← ec]
  omega

theorem low_div {x hi Q : Int} {k : Nat} (hk : k ≤ 64) (h : x + B * hi = Q * 2 ^ k) : ∃ t, x = 2 ^ k * t := by
  obtain ⟨j, hj⟩ : ∃ j, 64 = k + j := ⟨64 - k, by omega⟩
  have e : B = 2 ^ k * 2 ^ j := by rw [← Int.pow_add, ← hj]; rfl
  refine ⟨Q - 2 ^ j * hi, ?_⟩
  rw [Int.mul_sub, ← Int.mul_assoc, ← e, Int.mul_comm (2 ^ k) Q]
  omega
theorem high_div {x hi Q : Int} {k : Nat} (hx : Dg x) (h : x + B * hi = Q * 2 ^ (64 + k)) : x = 0 ∧ hi = Q * 2 ^ k := by
  have e : (2 : Int) ^ (64 + k) = B * 2 ^ k := by rw [Int.pow_add]; rfl
  rw [e, ← Int.mul_assoc, Int.mul_comm Q B, Int.mul_assoc] at h
  generalize Q * 2 ^ k = z at *
  unfold Dg B at *
  omega

theorem quo0 {q0 q1 q2 q3 Q : Int} {m : Nat} (h : D4 q0 q1 q2 q3) (hm : m < 64) (hv : V q0 q1 q2 q3 = Q * 2 ^ (m + 1)) :
    bits BinOp.or IntKind.u64 q0 (2 ^ m) = q0 + 2 ^ m ∧ D4 (q0 + 2 ^ m) q1 q2 q3 ∧ V (q0 + 2 ^ m) q1 q2 q3 = (2 * Q + 1) * 2 ^ m := by
  have e : V q0 q1 q2 q3 = q0 + B * (q1 + B * q2 + B * B * q3) := by unfold V B; omega
  obtain ⟨t, ht⟩ := low_div (by omega) (e ▸ hv)
  obtain ⟨o1, o2⟩ := or_bit h.1 hm ht
  refine ⟨o1, ⟨o2, h.2⟩, ?_⟩
  have e2 : V (q0 + 2 ^ m) q1 q2 q3 = V q0 q1 q2 q3 + 2 ^ m := by unfold V; omega
  rw [e2, hv, Int.pow_succ, Int.add_mul, Int.one_mul, Int.mul_comm 2 Q, Int.mul_assoc, Int.mul_comm 2]
theorem quo1 {q0 q1 q2 q3 Q : Int} {m : Nat} (h : D4 q0 q1 q2 q3) (hm : m < 64) (hv : V q0 q1 q2 q3 = Q * 2 ^ (64 + m + 1)) :
    bits BinOp.or IntKind.u64 q1 (2 ^ m) = q1 + 2 ^ m ∧ D4 q0 (q1 + 2 ^ m) q2 q3 ∧ V q0 (q1 + 2 ^ m) q2 q3 = (2 * Q + 1) * 2 ^ (64 + m) := by
  have e : V q0 q1 q2 q3 = q0 + B * (q1 + B * (q2 + B * q3)) := by unfold V B; omega
  obtain ⟨_, e1⟩ := high_div (k := m + 1) h.1 (e ▸ hv)
  obtain ⟨t, ht⟩ := low_div (by omega) e1
  obtain ⟨o1, o2⟩ := or_bit h.2.1 hm ht
  refine ⟨o1, ⟨h.1, o2, h.2.2⟩, ?_⟩
  have e2 : V q0 (q1 + 2 ^ m) q2 q3 = V q0 q1 q2 q3 + 2 ^ (64 + m) := by
    rw [Int.pow_add, show (2 : Int) ^ 64 = B from rfl]; unfold V
    generalize (2 : Int) ^ m = z
    unfold B; omega
  rw [e2, hv, Int.pow_succ, Int.add_mul, Int.one_mul, Int.mul_comm 2 Q, Int.mul_assoc, Int.mul_comm 2]
theorem quo2 {q0 q1 q2 q3 Q : Int} {m : Nat} (h : D4 q0 q1 q2 q3) (hm : m < 64) (hv : V q0 q1 q2 q3 = Q * 2 ^ (128 + m + 1)) :
    bits BinOp.or IntKind.u64 q2 (2 ^ m) = q2 + 2 ^ m ∧ D4 q0 q1 (q2 + 2 ^ m) q3 ∧ V q0 q1 (q2 + 2 ^ m) q3 = (2 * Q + 1) * 2 ^ (128 + m) := by
  have e : V q0 q1 q2 q3 = q0 + B * (q1 + B * (q2 + B * q3)) := by unfold V B; omega
  obtain ⟨_, e1⟩ := high_div (k := 64 + (m + 1)) h.1 (by rw [← e, hv]; congr 2; omega)
  obtain ⟨_, e1⟩ := high_div (k := m + 1) h.2.1 e1
  obtain ⟨t, ht⟩ := low_div (by omega) e1
  obtain ⟨o1, o2⟩ := or_bit h.2.2.1 hm ht
  refine ⟨o1, ⟨h.1, h.2.1, o2, h.2.2.2⟩, ?_⟩
  have e2 : V q0 q1 (q2 + 2 ^ m) q3 = V q0 q1 q2 q3 + 2 ^ (128 + m) := by
    rw [Int.pow_add, show (2 : Int) ^ 128 = B * B from rfl]; unfold V
    generalize (2 : Int) ^ m = z
    unfold B; omega
  rw [e2, hv, Int.pow_succ, Int.add_mul, Int.one_mul, Int.mul_comm 2 Q, Int.mul_assoc, Int.mul_comm 2]
theorem quo3 {q0 q1 q2 q3 Q : Int} {m : Nat} (h : D4 q0 q1 q2 q3) (hm : m < 64) (hv : V q0 q1 q2 q3 = Q * 2 ^ (192 + m + 1)) :
    bits BinOp.or IntKind.u64 q3 (2 ^ m) = q3 + 2 ^ m ∧ D4 q0 q1 q2 (q3 + 2 ^ m) ∧ V q0 q1 q2 (q3 + 2 ^ m) = (2 * Q + 1) * 2 ^ (192 + m) := by
  have e : V q0 q1 q2 q3 = q0 + B * (q1 + B * (q2 + B * (q3 + B * 0))) := by unfold V B; omega
  obtain ⟨_, e1⟩ := high_div (k := 128 + (m + 1)) h.1 (by rw [← e, hv]; congr 2; omega)
  obtain ⟨_, e1⟩ := high_div (k := 64 + (m + 1)) h.2.1 (by rw [e1]; congr 2; omega)
  obtain ⟨_, e1⟩ := high_div (k := m + 1) h.2.2.1 e1
  obtain ⟨t, ht⟩ := low_div (by omega) e1
  obtain ⟨o1, o2⟩ := or_bit h.2.2.2 hm ht
  refine ⟨o1, ⟨h.1, h.2.1, h.2.2.1, o2⟩, ?_⟩
  have e2 : V q0 q1 q2 (q3 + 2 ^ m) = V q0 q1 q2 q3 + 2 ^ (192 + m) := by
    rw [Int.pow_add, show (2 : Int) ^ 192 = B * B * B from rfl]; unfold V
    generalize (2 : Int) ^ m = z
    unfold B; omega
  rw [e2, hv, Int.pow_succ, Int.add_mul, Int.one_mul, Int.mul_comm 2 Q, Int.mul_assoc, Int.mul_comm 2]

/-- The doubled rest, with its new bit. -/
theorem rest_bit {r0 r1 r2 r3 R c bit : Int} (h : D4 r0 r1 r2 r3) (hv : V r0 r1 r2 r3 = 2 * R - M * c) (hb : bit = 0 ∨ bit = 1) :
    bits BinOp.or IntKind.u64 r0 bit = r0 + bit ∧ D4 (r0 + bit) r1 r2 r3 ∧ V (r0 + bit) r1 r2 r3 = 2 * R - M * c + bit := by
  have ev : r0 % 2 = 0 := by
    unfold V M at hv; unfold B at hv; omega
  have hd := h.1
  unfold Dg at hd
  unfold B at hd
  refine ⟨?_, ⟨?_, h.2⟩, ?_⟩
  · rw [u64_or _ _ hd.1 hd.2 (by omega) (by omega)]
    obtain ⟨X, rfl⟩ := Int.eq_ofNat_of_zero_le hd.1
    rcases hb with rfl | rfl
    · simp
    · obtain ⟨T, rfl⟩ : ∃ T, X = 2 * T := ⟨X / 2, by omega⟩
      have := Nat.two_pow_add_eq_or_of_lt (show 1 < 2 ^ 1 by omega) T
      simp only [Nat.pow_one] at this
      rw [Int.toNat_natCast, show (1 : Int).toNat = 1 from rfl, ← this]
      simp
  · unfold Dg B; omega
  · rw [← hv]; unfold V; omega

theorem and_one {x : Int} (h0 : 0 ≤ x) (h1 : x < B) : bits BinOp.and IntKind.u64 x 1 = x % 2 := by
  unfold B at h1
  rw [u64_and _ _ h0 h1 (by omega) (by omega)]
  obtain ⟨X, rfl⟩ := Int.eq_ofNat_of_zero_le h0
  rw [Int.toNat_natCast, show (1 : Int).toNat = 1 from rfl, Nat.and_one_is_mod]
  rfl
theorem and_shift {x : Int} (h : Dg x) (m : Nat) : bits BinOp.and IntKind.u64 (x / 2 ^ m) 1 = x / 2 ^ m % 2 := by
  have p := two_pos m
  refine and_one (Int.ediv_nonneg h.1 (by omega)) ?_
  exact Int.lt_of_le_of_lt (Int.ediv_le_self _ h.1) h.2

theorem wrap_pow {m : Nat} (hm : m < 64) : IntKind.u64.wrap (2 ^ m) = 2 ^ m := by
  have h64 : (2 : Int) ^ 64 = 18446744073709551616 := rfl
  have hlt : (2 : Int) ^ m < 2 ^ 64 := Int.pow_lt_pow_of_lt (by omega) hm
  have hp := two_pos m
  rw [IntKind.wrap_u64]
  omega

theorem over_is {r0 r1 r2 r3 : Int} (h : D4 r0 r1 r2 r3) : (r3 / 9223372036854775808 = 1 ∧ M ≤ 2 * V r0 r1 r2 r3) ∨ (r3 / 9223372036854775808 = 0 ∧ 2 * V r0 r1 r2 r3 < M) := by
  unfold D4 Dg B at h; unfold V M B; omega

theorem div_sub {A0 A1 D Q R X Z L c bo bit : Int} (h1 : A1 = D * Q + R) (h0 : A0 = 2 * A1 + bit) (hb : bit = 0 ∨ bit = 1) (hx : X = R + R - M * c) (hz : Z = 2 * R - M * c + bit) (hl : L = Z - D + M * bo)
    (x0 : 0 ≤ X) (x1 : X < M) (_z0 : 0 ≤ Z) (_z1 : Z < M) (l0 : 0 ≤ L) (l1 : L < M) (r0 : 0 ≤ R) (r1 : R < D) (d1 : D < M) (hc : c = 0 ∨ c = 1) (hbo : bo = 0 ∨ bo = 1) (hgo : M ≤ 2 * R ∨ bo = 0) : A0 = D * (2 * Q + 1) + L ∧ L < D := by
  have e : D * (2 * Q + 1) = 2 * (D * Q) + D := by rw [Int.mul_add, Int.mul_one, Int.mul_left_comm]
  rw [e]
  generalize D * Q = P at *
  unfold M B at *
  omega
theorem div_skip {A0 A1 D Q R X Z L c bo bit : Int} (h1 : A1 = D * Q + R) (h0 : A0 = 2 * A1 + bit) (_hb : bit = 0 ∨ bit = 1) (hx : X = R + R - M * c) (hz : Z = 2 * R - M * c + bit) (hl : L = Z - D + M * bo)
    (x0 : 0 ≤ X) (_x1 : X < M) (_l0 : 0 ≤ L) (l1 : L < M) (hc : c = 0 ∨ c = 1) (hbo : bo = 1) (hov : 2 * R < M) : A0 = D * (2 * Q) + Z ∧ Z < D := by
  have e : D * (2 * Q) = 2 * (D * Q) := by rw [Int.mul_left_comm]
  rw [e]
  generalize D * Q = P at *
  unfold M B at *
  omega
end Go.Proofs.YtcpoaalhpjipaaaDoor
namespace Go.Proofs.YtcpoaalhpjipaaaDoor
open Go.RowKit

/-- Byte j from the lowest. -/
def by_ (N : Int) (j : Nat) : Int := N / 256 ^ j % 256
/-- L bytes, the highest first. -/
def bys (N : Int) (L : Nat) : List Int := (List.range L).map fun i => by_ N (L - 1 - i)

theorem pow256 (j : Nat) : (256 : Int) ^ j = 2 ^ (8 * j) := by
  rw [Int.pow_mul]; rfl

theorem byte_of {x hi : Int} {m : Nat} (hm : m < 8) : (x + B * hi) / 2 ^ (8 * m) % 256 = x / 2 ^ (8 * m) % 256 := by
  obtain ⟨j, hj⟩ : ∃ j, 64 = 8 * m + (j + 8) := ⟨56 - 8 * m, by omega⟩
  have e : B = 2 ^ (8 * m) * (2 ^ j * 256) := by
    rw [show (256 : Int) = 2 ^ 8 from rfl, ← Int.pow_add, ← Int.pow_add, ← hj]; rfl
  rw [e, show x + 2 ^ (8 * m) * (2 ^ j * 256) * hi = x + 2 ^ (8 * m) * (256 * (2 ^ j * hi)) by
    rw [Int.mul_assoc, Int.mul_comm (2 ^ j) 256, Int.mul_assoc]]
  rw [Int.add_mul_ediv_left _ _ (by have := two_pos (8 * m); omega)]
  omega

theorem byte0 {a0 a1 a2 a3 : Int} {m : Nat} (hm : m < 8) : by_ (V a0 a1 a2 a3) m = a0 / 2 ^ (8 * m) % 256 := by
  have e : V a0 a1 a2 a3 = a0 + B * (a1 + B * a2 + B * B * a3) := by unfold V B; omega
  unfold by_
  rw [e, pow256]; exact byte_of hm
theorem byte1 {a0 a1 a2 a3 : Int} (h : D4 a0 a1 a2 a3) {m : Nat} (hm : m < 8) : by_ (V a0 a1 a2 a3) (8 + m) = a1 / 2 ^ (8 * m) % 256 := by
  have e : V a0 a1 a2 a3 = a0 + B * (a1 + B * (a2 + B * a3)) := by unfold V B; omega
  unfold by_
  rw [e, pow256, show 8 * (8 + m) = 64 + 8 * m by omega, shift_of h.1]; exact byte_of hm
theorem byte2 {a0 a1 a2 a3 : Int} (h : D4 a0 a1 a2 a3) {m : Nat} (hm : m < 8) : by_ (V a0 a1 a2 a3) (16 + m) = a2 / 2 ^ (8 * m) % 256 := by
  have e : V a0 a1 a2 a3 = a0 + B * (a1 + B * (a2 + B * a3)) := by unfold V B; omega
  unfold by_
  rw [e, pow256, show 8 * (16 + m) = 64 + (64 + 8 * m) by omega, shift_of h.1, shift_of h.2.1]; exact byte_of hm
theorem byte3 {a0 a1 a2 a3 : Int} (h : D4 a0 a1 a2 a3) {m : Nat} (hm : m < 8) : by_ (V a0 a1 a2 a3) (24 + m) = a3 / 2 ^ (8 * m) % 256 := by
  have e : V a0 a1 a2 a3 = a0 + B * (a1 + B * (a2 + B * (a3 + B * 0))) := by unfold V B; omega
  unfold by_
  rw [e, pow256, show 8 * (24 + m) = 64 + (64 + (64 + 8 * m)) by omega, shift_of h.1, shift_of h.2.1, shift_of h.2.2.1]; exact byte_of hm

/-- What stands in memory while bytes are written: k of them. -/
structure BSt (w wr : World) (a0 a1 a2 a3 : Int) (k : Nat) : Prop where
  below : Below w.heap.size w wr
  A : At4 wr w.heap.size a0 a1 a2 a3
  T : ∃ cs : Array Value, wr.heap[w.heap.size + 1]? = some (.cells cs 5 (0, 0)) ∧ cs.size = 32 ∧ (∀ i, i < 32 → ∃ x : Int, cs[i]? = some (.int .u8 x)) ∧ (∀ j, j < k → cs[31 - j]? = some (.int .u8 (by_ (V a0 a1 a2 a3) j)))

theorem BSt.cell {w wr : World} {a0 a1 a2 a3 : Int} {k : Nat} (h : BSt w wr a0 a1 a2 a3 k) (i : Nat) (hi : i < 32) :
    (∃ x : Int, wr.cell? ⟨w.heap.size + 1, i, none⟩ = some (.int .u8 x)) ∧ wr.frozen? ⟨w.heap.size + 1, i, none⟩ = false := by
  obtain ⟨cs, hb, hs, hx, hd⟩ := h.T
  obtain ⟨x, e⟩ := hx i hi
  exact ⟨⟨x, by rw [Joins.cell_of_block hb, e]⟩, Joins.unfrozen_of_block hb i⟩
theorem BSt.size {w wr : World} {a0 a1 a2 a3 : Int} {k : Nat} (h : BSt w wr a0 a1 a2 a3 k) : w.heap.size + 1 < wr.heap.size := by
  obtain ⟨cs, hb, _⟩ := h.T
  exact lt_of_block hb
theorem BSt.start (w : World) (a0 a1 a2 a3 : Int) :
    BSt w ((w.alloc (.cells #[.int .u64 a0, .int .u64 a1, .int .u64 a2, .int .u64 a3] 24)).alloc (.cells (Array.replicate 32 (.int .u8 0)) 5)) a0 a1 a2 a3 0 := by
  refine ⟨by repeat (first | with_reducible exact Below.refl _ _ | with_reducible refine Below.alloc ?_ (by simp; try omega) _), (At4.new w a0 a1 a2 a3).alloc _, Array.replicate 32 (.int .u8 0), ?_, by simp, ?_, by simp⟩
  · have e := heap_alloc_new (w.alloc (.cells #[.int .u64 a0, .int .u64 a1, .int .u64 a2, .int .u64 a3] 24)) (.cells (Array.replicate 32 (.int .u8 0)) 5)
    simpa using e
  · intro i hi; exact ⟨0, by simp [hi]⟩
theorem BSt.store {w wr : World} {a0 a1 a2 a3 : Int} {k : Nat} (h : BSt w wr a0 a1 a2 a3 k) (hk : k < 32) {v : Int} (hv : v = by_ (V a0 a1 a2 a3) k) :
    BSt w (wr.setCell ⟨w.heap.size + 1, 31 - k, none⟩ (.int .u8 v)) a0 a1 a2 a3 (k + 1) := by
  subst hv
  obtain ⟨cs, hb, hs, hx, hd⟩ := h.T
  refine ⟨h.below.setCell (by simp) _, h.A.other (by simp) _, cs.setIfInBounds (31 - k) (.int .u8 (by_ (V a0 a1 a2 a3) k)), Joins.block_setCell hb _, by simp [hs], ?_, ?_⟩
  · intro i hi
    obtain ⟨x, e⟩ := hx i hi
    by_cases e' : 31 - k = i
    · subst e'; exact ⟨_, by rw [Array.getElem?_setIfInBounds_self_of_lt (by omega)]⟩
    · exact ⟨x, by rw [Array.getElem?_setIfInBounds_ne e']; exact e⟩
  · intro j hj
    by_cases e' : j = k
    · subst e'; rw [Array.getElem?_setIfInBounds_self_of_lt (by omega)]
    · rw [Array.getElem?_setIfInBounds_ne (by omega)]; exact hd j (by omega)

/-- Block b holds a number's 32 bytes. -/
def Row32 (w : World) (b : Nat) (N : Int) : Prop := ∃ cs : Array Value, w.heap[b]? = some (.cells cs 5 (0, 0)) ∧ cs.size = 32 ∧ ∀ i, i < 32 → cs[i]? = some (.int .u8 ((bys N 32).getD i 0))
theorem Row32.cell {w : World} {b : Nat} {N : Int} (h : Row32 w b N) (i : Nat) (hi : i < 32) : w.cell? ⟨b, i, none⟩ = some (.int .u8 ((bys N 32).getD i 0)) := by
  obtain ⟨cs, hb, _, hx⟩ := h
  rw [Joins.cell_of_block hb]; exact hx i hi
theorem Row32.lt {w : World} {b : Nat} {N : Int} (h : Row32 w b N) : b < w.heap.size := by
  obtain ⟨cs, hb, _⟩ := h
  exact lt_of_block hb
theorem Row32.on {w w1 : World} {b : Nat} {N : Int} (h : Row32 w b N) (hb : Below w.heap.size w w1) : Row32 w1 b N := by
  have := h.lt
  obtain ⟨cs, h1, h2⟩ := h
  exact ⟨cs, by rw [hb.block _ this]; exact h1, h2⟩
theorem BSt.done {w wr : World} {a0 a1 a2 a3 : Int} (h : BSt w wr a0 a1 a2 a3 32) : Row32 wr (w.heap.size + 1) (V a0 a1 a2 a3) := by
  obtain ⟨cs, hb, hs, hx, hd⟩ := h.T
  refine ⟨cs, hb, hs, fun i hi => ?_⟩
  have e := hd (31 - i) (by omega)
  rw [show 31 - (31 - i) = i by omega] at e
  rw [e]
  simp [bys, List.getD, hi]

theorem make32 (w : World) : (Instr.makeSlice 25 (.int .i64 32) (.int .i64 32)).run Tryd.prog w = .ok (.slice (some ⟨w.heap.size, 0, none⟩) 32 32) (w.alloc (.cells (Array.replicate 32 (.int .u8 0)) 5)) := by kernel_rfl

/-- A slice of the number's bytes, in new memory. -/
def BytesP (w : World) (N : Int) (e : Ending) (w' : World) : Prop := ∃ b, e = .returned (.slice (some ⟨b, 0, none⟩) 32 32) ∧ w.heap.size ≤ b ∧ Row32 w' b N ∧ Below w.heap.size w w'

set_option maxHeartbeats 2000000 in
theorem Bytes_any {a0 a1 a2 a3 : Int} (ha : D4 a0 a1 a2 a3) (w : World) :
    Calls Tryd.prog 78 #[.agg #[.int .u64 a0, .int .u64 a1, .int .u64 a2, .int .u64 a3]] w (BytesP w (V a0 a1 a2 a3)) := by
  have HA := Lib.hid ha
  have hmk := make32
  have hst := Lib.hid (BSt.start w a0 a1 a2 a3)
  have nn : 0 ≤ a0 ∧ 0 ≤ a1 ∧ 0 ≤ a2 ∧ 0 ≤ a3 := ⟨ha.1.1, ha.2.1.1, ha.2.2.1.1, ha.2.2.2.1⟩
  obtain ⟨n0, n1, n2, n3⟩ := nn
  clear ha
  go_enter Tryd.func78, Tryd.ntmps78
  go_wp2_with fail
  go_loopw [8] (fun iv wr => ∃ k : Nat, iv = .int .i64 k ∧ k ≤ 32 ∧ Hid (BSt w wr a0 a1 a2 a3 k)) (fun iv _ => 32 - (intOf iv).toNat)
  case atStart => exact ⟨0, rfl, by omega, hst⟩
  case round =>
    clear hst hmk
    obtain ⟨k, rfl, hk, hB⟩ := hrel
    by_cases hlt : k < 32
    · obtain ⟨⟨x, cx⟩, fx⟩ := hB.out.cell (31 - k) (by omega)
      obtain ⟨ca0, ca1, ca2, ca3⟩ := hB.out.A.cell
      have hj : k / 8 = 0 ∨ k / 8 = 1 ∨ k / 8 = 2 ∨ k / 8 = 3 := by omega
      obtain ⟨m, hm, hm8⟩ : ∃ m, k % 8 = m ∧ m < 8 := ⟨k % 8, rfl, by omega⟩
      rcases hj with hj | hj | hj | hj
      · have hd : (k : Int) / 8 = 0 := by omega
        have hr : (k : Int) % 8 = (m : Int) := by omega
        have Hk := Lib.hid (show k = m by omega)
        clear hj hm
        go_wp2_with fail
        go_roundw
        case rel => exact ⟨k + 1, by go_num, by omega, hB.out.store hlt (by rw [Nat.mul_comm, Hk.out, byte0 hm8])⟩
        case measure => simp [intOf]; omega
      · have hd : (k : Int) / 8 = 1 := by omega
        have hr : (k : Int) % 8 = (m : Int) := by omega
        have Hk := Lib.hid (show k = 8 + m by omega)
        clear hj hm
        go_wp2_with fail
        go_roundw
        case rel => exact ⟨k + 1, by go_num, by omega, hB.out.store hlt (by rw [Nat.mul_comm, Hk.out, byte1 HA.out hm8])⟩
        case measure => simp [intOf]; omega
      · have hd : (k : Int) / 8 = 2 := by omega
        have hr : (k : Int) % 8 = (m : Int) := by omega
        have Hk := Lib.hid (show k = 16 + m by omega)
        clear hj hm
        go_wp2_with fail
        go_roundw
        case rel => exact ⟨k + 1, by go_num, by omega, hB.out.store hlt (by rw [Nat.mul_comm, Hk.out, byte2 HA.out hm8])⟩
        case measure => simp [intOf]; omega
      · have hd : (k : Int) / 8 = 3 := by omega
        have hr : (k : Int) % 8 = (m : Int) := by omega
        have Hk := Lib.hid (show k = 24 + m by omega)
        clear hj hm
        go_wp2_with fail
        go_roundw
        case rel => exact ⟨k + 1, by go_num, by omega, hB.out.store hlt (by rw [Nat.mul_comm, Hk.out, byte3 HA.out hm8])⟩
        case measure => simp [intOf]; omega
    · obtain rfl : k = 32 := by omega
      go_wp2_with fail
      go_ret
      exact ⟨_, rfl, by omega, hB.out.done, hB.out.below⟩

/-! ### The bytes' text stands as the number does -/

theorem by_lo (N : Int) (j : Nat) : 0 ≤ by_ N j ∧ by_ N j < 256 := by unfold by_; omega

theorem bys_succ (N : Int) (L : Nat) : bys N (L + 1) = by_ N L :: bys N L := by
  unfold bys
  rw [List.range_succ_eq_map, List.map_cons, List.map_map]
  congr 1
  refine List.map_congr_left fun i hi => ?_
  have := List.mem_range.1 hi
  show by_ N (L + 1 - 1 - (i + 1)) = _
  rw [show L + 1 - 1 - (i + 1) = L - 1 - i by omega]

theorem mod_succ (N : Int) (L : Nat) : N % 256 ^ (L + 1) = by_ N L * 256 ^ L + N % 256 ^ L := by
  have p : (0 : Int) < 256 ^ L := Int.pow_pos (by omega)
  unfold by_
  have e1 := Int.emod_add_mul_ediv N (256 ^ L)
  have e2 := Int.emod_add_mul_ediv (N / 256 ^ L) 256
  have l1 := Int.emod_nonneg N (show (256 : Int) ^ L ≠ 0 by omega)
  have l2 := Int.emod_lt_of_pos N p
  generalize N % 256 ^ L = r at *
  generalize N / 256 ^ L = q at *
  have d1 : 0 ≤ q % 256 := by omega
  have d2 : q % 256 < 256 := by omega
  generalize q % 256 = d at *
  generalize q / 256 = h at *
  rw [Int.pow_succ]
  generalize (256 : Int) ^ L = z at *
  have eN : N = (d * z + r) + (z * 256) * h := by
    rw [← e1, ← e2, Int.mul_add, Int.mul_comm z d, Int.mul_assoc z 256 h]
    omega
  rw [eN, Int.add_mul_emod_self_left]
  refine Int.emod_eq_of_lt (by have := Int.mul_nonneg d1 (Int.le_of_lt p); omega) ?_
  have : d * z ≤ 255 * z := Int.mul_le_mul_of_nonneg_right (by omega) (Int.le_of_lt p)
  omega

theorem u8_lt {a b : Int} (ha : 0 ≤ a ∧ a < 256) (hb : 0 ≤ b ∧ b < 256) : (UInt8.ofNat a.toNat < UInt8.ofNat b.toNat) ↔ a < b := by
  rw [UInt8.lt_iff_toNat_lt, UInt8.toNat_ofNat', UInt8.toNat_ofNat']
  omega
theorem u8_eq {a b : Int} (ha : 0 ≤ a ∧ a < 256) (hb : 0 ≤ b ∧ b < 256) : (UInt8.ofNat a.toNat = UInt8.ofNat b.toNat) ↔ a = b := by
  rw [← UInt8.toNat_inj, UInt8.toNat_ofNat', UInt8.toNat_ofNat']
  omega

theorem less_mod (A C : Int) : ∀ L : Nat, Op.bytesLess ((bys A L).map fun n => UInt8.ofNat n.toNat) ((bys C L).map fun n => UInt8.ofNat n.toNat) = decide (A % 256 ^ L < C % 256 ^ L)
  | 0 => by simp [bys, Op.bytesLess, Int.emod_one]
  | L + 1 => by
    rw [bys_succ, bys_succ, List.map_cons, List.map_cons, Op.bytesLess, less_mod A C L, mod_succ A L, mod_succ C L]
    have p : (0 : Int) < 256 ^ L := Int.pow_pos (by omega)
    have a1 := Int.emod_nonneg A (show (256 : Int) ^ L ≠ 0 by omega)
    have a2 := Int.emod_lt_of_pos A p
    have c1 := Int.emod_nonneg C (show (256 : Int) ^ L ≠ 0 by omega)
    have c2 := Int.emod_lt_of_pos C p
    have ba := by_lo A L
    have bc := by_lo C L
    rw [Bool.eq_iff_iff]
    simp only [Bool.or_eq_true, Bool.and_eq_true, decide_eq_true_eq, beq_iff_eq, u8_lt ba bc, u8_eq ba bc]
    generalize A % 256 ^ L = x at *
    generalize C % 256 ^ L = y at *
    generalize by_ A L = s at *
    generalize by_ C L = t at *
    generalize (256 : Int) ^ L = z at *
    constructor
    · rintro (h | ⟨rfl, h⟩)
      · have : (s + 1) * z ≤ t * z := Int.mul_le_mul_of_nonneg_right (by omega) (by omega)
        rw [Int.add_mul] at this
        omega
      · omega
    · intro h
      rcases Int.lt_trichotomy s t with g | g | g
      · exact Or.inl g
      · subst g; exact Or.inr ⟨rfl, by omega⟩
      · have : (t + 1) * z ≤ s * z := Int.mul_le_mul_of_nonneg_right (by omega) (by omega)
        rw [Int.add_mul] at this
        omega

theorem text_less {A C : Int} (ha : 0 ≤ A) (ha' : A < M) (hc : 0 ≤ C) (hc' : C < M) : Op.bytesLess (strOfNums (bys A 32)).toList (strOfNums (bys C 32)).toList = decide (A < C) := by
  have e : M = 256 ^ 32 := rfl
  rw [e] at ha' hc'
  rw [Lib.toList_data, Lib.toList_data, strOfNums_data, strOfNums_data, less_mod, Int.emod_eq_of_lt ha ha', Int.emod_eq_of_lt hc hc']
end Go.Proofs.YtcpoaalhpjipaaaDoor
namespace Go.Proofs.YtcpoaalhpjipaaaDoor
set_option maxRecDepth 100000
open Go.RowKit

/-- A wide's limbs. -/
structure W4 where
  a : Int
  b : Int
  c : Int
  d : Int
def W4.bytes (x : W4) : List Int := bys (V x.a x.b x.c x.d) 32
def w0 : W4 := ⟨0, 0, 0, 0⟩
theorem W4.len (x : W4) : x.bytes.length = 32 := by simp [W4.bytes, bys]
/-- The slice v holds these wides, and lies in no block of S. -/
def RdW (w : World) (v : Value) (ws : List W4) (S : List Nat) : Prop := ∃ q c, v = .slice q ws.length c ∧ (ws = [] ∨ ∃ b off, q = some ⟨b, off, none⟩ ∧ b ∉ S ∧ ∀ i, i < ws.length → D4 (ws.getD i w0).a (ws.getD i w0).b (ws.getD i w0).c (ws.getD i w0).d ∧
  w.cell? ⟨b, off + i * 4, none⟩ = some (.int .u64 (ws.getD i w0).a) ∧ w.cell? ⟨b, off + i * 4 + 1, none⟩ = some (.int .u64 (ws.getD i w0).b) ∧ w.cell? ⟨b, off + i * 4 + 2, none⟩ = some (.int .u64 (ws.getD i w0).c) ∧ w.cell? ⟨b, off + i * 4 + 3, none⟩ = some (.int .u64 (ws.getD i w0).d))
theorem RdW.at {w : World} {q : Option Addr} {n c : Nat} {ws : List W4} {S : List Nat} (h : RdW w (.slice q n c) ws S) {i : Nat} (hi : i < ws.length) :
    ∃ b off, n = ws.length ∧ q = some ⟨b, off, none⟩ ∧ b ∉ S ∧ D4 (ws.getD i w0).a (ws.getD i w0).b (ws.getD i w0).c (ws.getD i w0).d ∧
  w.cell? ⟨b, off + i * 4, none⟩ = some (.int .u64 (ws.getD i w0).a) ∧ w.cell? ⟨b, off + i * 4 + 1, none⟩ = some (.int .u64 (ws.getD i w0).b) ∧ w.cell? ⟨b, off + i * 4 + 2, none⟩ = some (.int .u64 (ws.getD i w0).c) ∧ w.cell? ⟨b, off + i * 4 + 3, none⟩ = some (.int .u64 (ws.getD i w0).d) := by
  obtain ⟨q', c', e, rfl | ⟨b, off, rfl, hb, hx⟩⟩ := h
  · simp at hi
  · simp only [Value.slice.injEq] at e
    exact ⟨b, off, e.2.1, e.1, hb, hx i hi⟩
def wides (ws : List W4) : List Int := ws.flatMap W4.bytes
theorem wides_take {ws : List W4} {i : Nat} (hi : i < ws.length) : wides (ws.take (i + 1)) = wides (ws.take i) ++ (ws.getD i w0).bytes := by
  have e : ws.take (i + 1) = ws.take i ++ [ws.getD i w0] := by
    rw [List.take_add_one]
    simp [List.getD, hi]
  rw [e, wides, List.flatMap_append]
  simp [wides]
theorem wides_len : ∀ ws : List W4, (wides ws).length = 32 * ws.length
  | [] => rfl
  | n :: ws => by
    have := wides_len ws
    simp only [wides, List.flatMap_cons, List.length_append, W4.len, List.length_cons] at this ⊢
    omega
theorem row32_rd {w : World} {b : Nat} {N : Int} (h : Row32 w b N) : Rd w (.slice (some ⟨b, 0, none⟩) 32 32) (bys N 32) := by
  have hl : (bys N 32).length = 32 := by simp [bys]
  refine ⟨some ⟨b, 0, none⟩, 32, by rw [hl], .inr ⟨b, 0, rfl, fun i hi => ?_⟩⟩
  rw [Nat.zero_add]
  exact h.cell i (by omega)
end Go.Proofs.YtcpoaalhpjipaaaDoor
namespace Go.Proofs.YtcpoaalhpjipaaaDoor
open Go.RowKit

def NumP (w : World) (R : Int → Int → Int → Int → Int → Prop) (e : Ending) (w' : World) : Prop :=
  ∃ r0 r1 r2 r3 c : Int, e = .returned (.tuple #[.agg #[.int .u64 r0, .int .u64 r1, .int .u64 r2, .int .u64 r3], .int .i64 c]) ∧ R r0 r1 r2 r3 c ∧ Below w.heap.size w w'
/-- m bytes from place o on, the lowest first. -/
def pd (f : Nat → Int) (o : Nat) : Nat → Int
  | 0 => 0
  | m + 1 => pd f o m + f (o + m) * 256 ^ m

/-- Whether all 32 are bytes. -/
def By (f : Nat → Int) : Prop := ∀ i, i < 32 → 0 ≤ f i ∧ f i < 256

theorem pd_bd {f : Nat → Int} (hf : By f) (o : Nat) : ∀ m, o + m ≤ 32 → 0 ≤ pd f o m ∧ pd f o m < 256 ^ m
  | 0, _ => by simp [pd]
  | m + 1, h => by
    obtain ⟨a, b⟩ := pd_bd hf o m (by omega)
    obtain ⟨c, d⟩ := hf (o + m) (by omega)
    have p : (0 : Int) < 256 ^ m := Int.pow_pos (by omega)
    have e := Int.mul_nonneg c (Int.le_of_lt p)
    have g : f (o + m) * 256 ^ m ≤ 255 * 256 ^ m := Int.mul_le_mul_of_nonneg_right (by omega) (Int.le_of_lt p)
    rw [pd, Int.pow_succ]
    omega

/-- What stands in memory: k bytes are read. -/
structure FSt (w wr : World) (f : Nat → Int) (k : Nat) : Prop where
  below : Below w.heap.size w wr
  R : At4 wr w.heap.size 0 0 0 0
  A : At4 wr (w.heap.size + 1) (pd f 0 (min k 8)) (pd f 8 (min (k - 8) 8)) (pd f 16 (min (k - 16) 8)) (pd f 24 (min (k - 24) 8))


theorem or_put {x c : Int} {m : Nat} (hx : 0 ≤ x ∧ x < 256 ^ m) (hc : 0 ≤ c ∧ c < 256) (hm : m < 8) :
    bits .or .u64 x (IntKind.u64.wrap (IntKind.u64.wrap c * 2 ^ (m * 8))) = x + c * 256 ^ m := by
  have e : (256 : Int) ^ m = 2 ^ (m * 8) := by rw [pow256, Nat.mul_comm]
  rw [e] at hx ⊢
  obtain ⟨X, rfl⟩ : ∃ X : Nat, x = X := ⟨x.toNat, by omega⟩
  obtain ⟨C, rfl⟩ : ∃ C : Nat, c = C := ⟨c.toNat, by omega⟩
  have p56 : 2 ^ (m * 8) ≤ 2 ^ 56 := Nat.pow_le_pow_right (by omega) (by omega)
  have hX : X < 2 ^ (m * 8) := by
    have := hx.2
    rw [show ((2 : Int) ^ (m * 8)) = ((2 ^ (m * 8) : Nat) : Int) by norm_cast] at this
    exact Int.ofNat_lt.1 this
  have hCm : C * 2 ^ (m * 8) ≤ 255 * 2 ^ 56 := Nat.mul_le_mul (by omega) p56
  have w1 : IntKind.u64.wrap (C : Int) = (C : Int) := by rw [IntKind.wrap_u64]; omega
  have w2 : IntKind.u64.wrap ((C : Int) * 2 ^ (m * 8)) = ((C * 2 ^ (m * 8) : Nat) : Int) := by
    rw [show ((C : Int) * 2 ^ (m * 8)) = ((C * 2 ^ (m * 8) : Nat) : Int) by push_cast; rfl, IntKind.wrap_u64]
    omega
  rw [w1, w2, bits_or_u64_nat _ _ (by omega) (by omega)]
  have := Nat.two_pow_add_eq_or_of_lt hX C
  rw [Nat.or_comm, Nat.mul_comm C, ← this]
  push_cast
  rw [Int.add_comm, Int.mul_comm]

theorem FSt.store0 {w wr : World} {f : Nat → Int} {m : Nat} (h : FSt w wr f m) (hm : m < 8) {v : Int} (hv : v = pd f 0 m + f m * 256 ^ m) : FSt w (wr.setCell ⟨w.heap.size + 1, 0, none⟩ (.int .u64 v)).drew f (m + 1) := by
  subst hv
  refine ⟨(h.below.setCell (by simp) _).drew, (h.R.other (by simp) _).drew, ?_⟩
  have e := (h.A.set0 (pd f 0 m + f m * 256 ^ m)).drew
  rw [show min (m + 1) 8 = m + 1 by omega, show m + 1 - 8 = 0 by omega, show m + 1 - 16 = 0 by omega, show m + 1 - 24 = 0 by omega, pd, Nat.zero_add]
  rw [show m - 8 = 0 by omega, show m - 16 = 0 by omega, show m - 24 = 0 by omega] at e
  exact e
theorem FSt.store1 {w wr : World} {f : Nat → Int} {m : Nat} (h : FSt w wr f (8 + m)) (hm : m < 8) {v : Int} (hv : v = pd f 8 m + f (8 + m) * 256 ^ m) : FSt w (wr.setCell ⟨w.heap.size + 1, 1, none⟩ (.int .u64 v)).drew f (8 + m + 1) := by
  subst hv
  refine ⟨(h.below.setCell (by simp) _).drew, (h.R.other (by simp) _).drew, ?_⟩
  have e := (h.A.set1 (pd f 8 m + f (8 + m) * 256 ^ m)).drew
  rw [show min (8 + m + 1) 8 = 8 by omega, show min (8 + m + 1 - 8) 8 = m + 1 by omega, show 8 + m + 1 - 16 = 0 by omega, show 8 + m + 1 - 24 = 0 by omega, show pd f 8 (m + 1) = pd f 8 m + f (8 + m) * 256 ^ m from rfl]
  rw [show min (8 + m) 8 = 8 by omega, show 8 + m - 16 = 0 by omega, show 8 + m - 24 = 0 by omega] at e
  exact e
theorem FSt.store2 {w wr : World} {f : Nat → Int} {m : Nat} (h : FSt w wr f (16 + m)) (hm : m < 8) {v : Int} (hv : v = pd f 16 m + f (16 + m) * 256 ^ m) : FSt w (wr.setCell ⟨w.heap.size + 1, 2, none⟩ (.int .u64 v)).drew f (16 + m + 1) := by
  subst hv
  refine ⟨(h.below.setCell (by simp) _).drew, (h.R.other (by simp) _).drew, ?_⟩
  have e := (h.A.set2 (pd f 16 m + f (16 + m) * 256 ^ m)).drew
  rw [show min (16 + m + 1) 8 = 8 by omega, show min (16 + m + 1 - 8) 8 = 8 by omega, show min (16 + m + 1 - 16) 8 = m + 1 by omega, show 16 + m + 1 - 24 = 0 by omega, show pd f 16 (m + 1) = pd f 16 m + f (16 + m) * 256 ^ m from rfl]
  rw [show min (16 + m) 8 = 8 by omega, show min (16 + m - 8) 8 = 8 by omega, show 16 + m - 24 = 0 by omega] at e
  exact e
theorem FSt.store3 {w wr : World} {f : Nat → Int} {m : Nat} (h : FSt w wr f (24 + m)) (hm : m < 8) {v : Int} (hv : v = pd f 24 m + f (24 + m) * 256 ^ m) : FSt w (wr.setCell ⟨w.heap.size + 1, 3, none⟩ (.int .u64 v)).drew f (24 + m + 1) := by
  subst hv
  refine ⟨(h.below.setCell (by simp) _).drew, (h.R.other (by simp) _).drew, ?_⟩
  have e := (h.A.set3 (pd f 24 m + f (24 + m) * 256 ^ m)).drew
  rw [show min (24 + m + 1) 8 = 8 by omega, show min (24 + m + 1 - 8) 8 = 8 by omega, show min (24 + m + 1 - 16) 8 = 8 by omega, show min (24 + m + 1 - 24) 8 = m + 1 by omega, show pd f 24 (m + 1) = pd f 24 m + f (24 + m) * 256 ^ m from rfl]
  rw [show min (24 + m) 8 = 8 by omega, show min (24 + m - 8) 8 = 8 by omega, show min (24 + m - 16) 8 = 8 by omega] at e
  exact e

set_option maxHeartbeats 2000000 in
theorem From_any {f : Nat → Int} (hf : By f) (w : World) (b off cap : Nat) (hb : b < w.heap.size) (hc : ∀ i, i < 32 → w.cell? ⟨b, off + i, none⟩ = some (.int .u8 (f (31 - i)))) :
    Calls Tryd.prog 117 #[.slice (some ⟨b, off, none⟩) 32 cap] w
      (NumP w fun r0 r1 r2 r3 c => c = 0 ∧ r0 = pd f 0 8 ∧ r1 = pd f 8 8 ∧ r2 = pd f 16 8 ∧ r3 = pd f 24 8) := by
  have hst : Hid (FSt w ((w.alloc (.cells #[.int .u64 0, .int .u64 0, .int .u64 0, .int .u64 0] 24)).alloc (.cells #[.int .u64 0, .int .u64 0, .int .u64 0, .int .u64 0] 24)) f 0) := Lib.hid ⟨by repeat (first | with_reducible exact Below.refl _ _ | with_reducible refine Below.alloc ?_ (by simp; try omega) _), (At4.new w 0 0 0 0).alloc _, by simpa [pd] using At4.new (w.alloc (.cells #[.int .u64 0, .int .u64 0, .int .u64 0, .int .u64 0] 24)) 0 0 0 0⟩
  have HF := Lib.hid hf
  have HC := Lib.hid hc
  clear hc hf
  go_enter Tryd.func117, Tryd.ntmps117
  go_wp2_with fail
  go_loopw [10] (fun iv wr => ∃ k : Nat, iv = .int .i64 k ∧ k ≤ 32 ∧ Hid (FSt w wr f k)) (fun iv _ => 32 - (intOf iv).toNat)
  case atStart => exact ⟨0, rfl, by omega, hst⟩
  case round =>
    clear hst
    obtain ⟨k, rfl, hk, hB⟩ := hrel
    by_cases hlt : k < 32
    · obtain ⟨ca0, ca1, ca2, ca3⟩ := hB.out.A.cell
      obtain ⟨fa0, fa1, fa2, fa3⟩ := hB.out.A.free
      have hcb : wr.cell? ⟨b, off + (31 - k), none⟩ = some (.int .u8 (f k)) := by
        have := HC.out (31 - k) (by omega)
        rw [hB.out.below.cell (by simpa using hb), this, show 31 - (31 - k) = k by omega]
      have hj : k / 8 = 0 ∨ k / 8 = 1 ∨ k / 8 = 2 ∨ k / 8 = 3 := by omega
      obtain ⟨m, hm, hm8⟩ : ∃ m, k % 8 = m ∧ m < 8 := ⟨k % 8, rfl, by omega⟩
      rcases hj with hj | hj | hj | hj
      · have hd : (k : Int) / 8 = 0 := by omega
        have hr : (k : Int) % 8 = (m : Int) := by omega
        rw [show min k 8 = m by omega] at ca0
        have HN := Lib.hid (show FSt w (wr.setCell ⟨w.heap.size + 1, 0, none⟩ (.int .u64 (pd f 0 m + f k * 256 ^ m))).drew f (k + 1) from by
          obtain rfl : k = m := by omega
          exact hB.out.store0 hm8 rfl)
        have hor := or_put (pd_bd HF.out 0 m (by omega)) (HF.out k (by omega)) hm8
        clear hj hm
        go_wp2_with fail
        go_region
        go_wp2_with fail
        go_roundw
        case rel => exact ⟨k + 1, by go_num, by omega, HN⟩
        case measure => simp [intOf]; omega
      · have hd : (k : Int) / 8 = 1 := by omega
        have hr : (k : Int) % 8 = (m : Int) := by omega
        rw [show min (k - 8) 8 = m by omega] at ca1
        have HN := Lib.hid (show FSt w (wr.setCell ⟨w.heap.size + 1, 1, none⟩ (.int .u64 (pd f 8 m + f k * 256 ^ m))).drew f (k + 1) from by
          obtain rfl : k = 8 + m := by omega
          exact hB.out.store1 hm8 rfl)
        have hor := or_put (pd_bd HF.out 8 m (by omega)) (HF.out k (by omega)) hm8
        clear hj hm
        go_wp2_with fail
        go_region
        go_wp2_with fail
        go_roundw
        case rel => exact ⟨k + 1, by go_num, by omega, HN⟩
        case measure => simp [intOf]; omega
      · have hd : (k : Int) / 8 = 2 := by omega
        have hr : (k : Int) % 8 = (m : Int) := by omega
        rw [show min (k - 16) 8 = m by omega] at ca2
        have HN := Lib.hid (show FSt w (wr.setCell ⟨w.heap.size + 1, 2, none⟩ (.int .u64 (pd f 16 m + f k * 256 ^ m))).drew f (k + 1) from by
          obtain rfl : k = 16 + m := by omega
          exact hB.out.store2 hm8 rfl)
        have hor := or_put (pd_bd HF.out 16 m (by omega)) (HF.out k (by omega)) hm8
        clear hj hm
        go_wp2_with fail
        go_region
        go_wp2_with fail
        go_roundw
        case rel => exact ⟨k + 1, by go_num, by omega, HN⟩
        case measure => simp [intOf]; omega
      · have hd : (k : Int) / 8 = 3 := by omega
        have hr : (k : Int) % 8 = (m : Int) := by omega
        rw [show min (k - 24) 8 = m by omega] at ca3
        have HN := Lib.hid (show FSt w (wr.setCell ⟨w.heap.size + 1, 3, none⟩ (.int .u64 (pd f 24 m + f k * 256 ^ m))).drew f (k + 1) from by
          obtain rfl : k = 24 + m := by omega
          exact hB.out.store3 hm8 rfl)
        have hor := or_put (pd_bd HF.out 24 m (by omega)) (HF.out k (by omega)) hm8
        clear hj hm
        go_wp2_with fail
        go_region
        go_wp2_with fail
        go_roundw
        case rel => exact ⟨k + 1, by go_num, by omega, HN⟩
        case measure => simp [intOf]; omega
    · obtain rfl : k = 32 := by omega
      have HA : At4 wr (w.heap.size + 1) (pd f 0 8) (pd f 8 8) (pd f 16 8) (pd f 24 8) := by simpa using hB.out.A
      obtain ⟨c0, c1, c2, c3⟩ := HA.cell
      obtain ⟨r0, r1, r2, r3⟩ := hB.out.R.cell
      obtain ⟨f0, f1, f2, f3⟩ := hB.out.R.free
      go_wp2_with fail
      refine bodyPost_ret (v := .tuple #[.agg #[.int .u64 (pd f 0 8), .int .u64 (pd f 8 8), .int .u64 (pd f 16 8), .int .u64 (pd f 24 8)], .int .i64 0]) (by simp [results, Tryd.results117, go_sem, r0, r1, r2, r3]) rfl ⟨_, _, _, _, 0, rfl, ⟨rfl, rfl, rfl, rfl, rfl⟩, ?_⟩
      have hb' := hB.out.below
      repeat (first | with_reducible exact hb' | with_reducible refine Below.setCell ?_ (by simp; try omega) _)

theorem by_div (N : Int) (o m : Nat) : by_ (N / 256 ^ o) m = by_ N (o + m) := by
  unfold by_
  rw [Int.ediv_ediv_of_nonneg (Int.le_of_lt (Int.pow_pos (by omega))), ← Int.pow_add]
theorem pd_by (N : Int) (o : Nat) : ∀ m, pd (by_ N) o m = N / 256 ^ o % 256 ^ m
  | 0 => by simp [pd, Int.emod_one]
  | m + 1 => by rw [pd, pd_by N o m, mod_succ, by_div]; omega
theorem By_by (N : Int) : By (by_ N) := fun i _ => by_lo N i
theorem bys_at (N : Int) (i : Nat) (hi : i < 32) : (bys N 32).getD i 0 = by_ N (31 - i) := by simp [bys, List.getD, hi]
theorem pd_V {a0 a1 a2 a3 : Int} (h : D4 a0 a1 a2 a3) : pd (by_ (V a0 a1 a2 a3)) 0 8 = a0 ∧ pd (by_ (V a0 a1 a2 a3)) 8 8 = a1 ∧ pd (by_ (V a0 a1 a2 a3)) 16 8 = a2 ∧ pd (by_ (V a0 a1 a2 a3)) 24 8 = a3 := by
  rw [pd_by, pd_by, pd_by, pd_by]
  unfold D4 Dg at h
  unfold V B at *
  have e0 : (256 : Int) ^ 0 = 1 := by decide
  have e8 : (256 : Int) ^ 8 = 18446744073709551616 := by decide
  have e16 : (256 : Int) ^ 16 = 340282366920938463463374607431768211456 := by decide
  have e24 : (256 : Int) ^ 24 = 6277101735386680763835789423207666416102355444464034512896 := by decide
  rw [e0, e8, e16, e24]
  omega
end Go.Proofs.YtcpoaalhpjipaaaDoor
