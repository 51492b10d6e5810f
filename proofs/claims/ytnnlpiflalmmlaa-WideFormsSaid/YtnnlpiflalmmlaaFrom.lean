/-
  The walk of package wide: From.
-/
import Derived.Test.YtnnlpiflalmmlaaBytes
import Derived.Laws.Bits64b
namespace Go.Proofs.Ytnnlpiflalmmlaa
open Go.RowKit

/-- m bytes from place o on, the lowest first. -/
def pd (f : Nat → Int) (o : Nat) : Nat → Int
  | 0 => 0
  | m + 1 => pd f o m + f (o + m) * 256 ^ m

/-- Whether all 32 are bytes. -/
def By (f : Nat → Int) : Prop := ∀ i, i < 32 → 0 ≤ f i ∧ f i < 256

theorem pd_bd {f : Nat → Int} (hf : By f) (o : Nat) : ∀ m, o + m ≤ 32 → 0 ≤ pd f o m ∧ pd f o m < 256 ^ m
  | 0, _ => by simp [pd]
  | m + 1, h => by
    obtain ⟨a, b⟩ := pd_bd hf o m (by omega)
    obtain ⟨c, d⟩ := hf (o + m) (by omega)
    have p : (0 : Int) < 256 ^ m := Int.pow_pos (by omega)
    have e := Int.mul_nonneg c (Int.le_of_lt p)
    have g : f (o + m) * 256 ^ m ≤ 255 * 256 ^ m := Int.mul_le_mul_of_nonneg_right (by omega) (Int.le_of_lt p)
    rw [pd, Int.pow_succ]
    omega

/-- What stands in memory: k bytes are read. -/
structure FSt (w wr : World) (f : Nat → Int) (k : Nat) : Prop where
  below : Below w.heap.size w wr
  R : At4 wr w.heap.size 0 0 0 0
  A : At4 wr (w.heap.size + 1) (pd f 0 (min k 8)) (pd f 8 (min (k - 8) 8)) (pd f 16 (min (k - 16) 8)) (pd f 24 (min (k - 24) 8))


theorem or_put {x c : Int} {m : Nat} (hx : 0 ≤ x ∧ x < 256 ^ m) (hc : 0 ≤ c ∧ c < 256) (hm : m < 8) :
    bits .or .u64 x (IntKind.u64.wrap (IntKind.u64.wrap c * 2 ^ (m * 8))) = x + c * 256 ^ m := by
  have e : (256 : Int) ^ m = 2 ^ (m * 8) := by rw [pow256, Nat.mul_comm]
  rw [e] at hx ⊢
  obtain ⟨X, rfl⟩ : ∃ X : Nat, x = X := ⟨x.toNat, by omega⟩
  obtain ⟨C, rfl⟩ : ∃ C : Nat, c = C := ⟨c.toNat, by omega⟩
  have p56 : 2 ^ (m * 8) ≤ 2 ^ 56 := Nat.pow_le_pow_right (by omega) (by omega)
  have hX : X < 2 ^ (m * 8) := by
    have := hx.2
    rw [show ((2 : Int) ^ (m * 8)) = ((2 ^ (m * 8) : Nat) : Int) by norm_cast] at this
    exact Int.ofNat_lt.1 this
  have hCm : C * 2 ^ (m * 8) ≤ 255 * 2 ^ 56 := Nat.mul_le_mul (by omega) p56
  have w1 : IntKind.u64.wrap (C : Int) = (C : Int) := by rw [IntKind.wrap_u64]; omega
  have w2 : IntKind.u64.wrap ((C : Int) * 2 ^ (m * 8)) = ((C * 2 ^ (m * 8) : Nat) : Int) := by
    rw [show ((C : Int) * 2 ^ (m * 8)) = ((C * 2 ^ (m * 8) : Nat) : Int) by push_cast; rfl, IntKind.wrap_u64]
    omega
  rw [w1, w2, bits_or_u64_nat _ _ (by omega) (by omega)]
  have := Nat.two_pow_add_eq_or_of_lt hX C
  rw [Nat.or_comm, Nat.mul_comm C, ← this]
  push_cast
  rw [Int.add_comm, Int.mul_comm]

theorem FSt.store0 {w wr : World} {f : Nat → Int} {m : Nat} (h : FSt w wr f m) (hm : m < 8) {v : Int} (hv : v = pd f 0 m + f m * 256 ^ m) : FSt w (wr.setCell ⟨w.heap.size + 1, 0, none⟩ (.int .u64 v)).drew f (m + 1) := by
  subst hv
  refine ⟨(h.below.setCell (by simp) _).drew, (h.R.other (by simp) _).drew, ?_⟩
  have e := (h.A.set0 (pd f 0 m + f m * 256 ^ m)).drew
  rw [show min (m + 1) 8 = m + 1 by omega, show m + 1 - 8 = 0 by omega, show m + 1 - 16 = 0 by omega, show m + 1 - 24 = 0 by omega, pd, Nat.zero_add]
  rw [show m - 8 = 0 by omega, show m - 16 = 0 by omega, show m - 24 = 0 by omega] at e
  exact e
theorem FSt.store1 {w wr : World} {f : Nat → Int} {m : Nat} (h : FSt w wr f (8 + m)) (hm : m < 8) {v : Int} (hv : v = pd f 8 m + f (8 + m) * 256 ^ m) : FSt w (wr.setCell ⟨w.heap.size + 1, 1, none⟩ (.int .u64 v)).drew f (8 + m + 1) := by
  subst hv
  refine ⟨(h.below.setCell (by simp) _).drew, (h.R.other (by simp) _).drew, ?_⟩
  have e := (h.A.set1 (pd f 8 m + f (8 + m) * 256 ^ m)).drew
  rw [show min (8 + m + 1) 8 = 8 by omega, show min (8 + m + 1 - 8) 8 = m + 1 by omega, show 8 + m + 1 - 16 = 0 by omega, show 8 + m + 1 - 24 = 0 by omega, show pd f 8 (m + 1) = pd f 8 m + f (8 + m) * 256 ^ m from rfl]
  rw [show min (8 + m) 8 = 8 by omega, show 8 + m - 16 = 0 by omega, show 8 + m - 24 = 0 by omega] at e
  exact e
theorem FSt.store2 {w wr : World} {f : Nat → Int} {m : Nat} (h : FSt w wr f (16 + m)) (hm : m < 8) {v : Int} (hv : v = pd f 16 m + f (16 + m) * 256 ^ m) : FSt w (wr.setCell ⟨w.heap.size + 1, 2, none⟩ (.int .u64 v)).drew f (16 + m + 1) := by
  subst hv
  refine ⟨(h.below.setCell (by simp) _).drew, (h.R.other (by simp) _).drew, ?_⟩
  have e := (h.A.set2 (pd f 16 m + f (16 + m) * 256 ^ m)).drew
  rw [show min (16 + m + 1) 8 = 8 by omega, show min (16 + m + 1 - 8) 8 = 8 by omega, show min (16 + m + 1 - 16) 8 = m + 1 by omega, show 16 + m + 1 - 24 = 0 by omega, show pd f 16 (m + 1) = pd f 16 m + f (16 + m) * 256 ^ m from rfl]
  rw [show min (16 + m) 8 = 8 by omega, show min (16 + m - 8) 8 = 8 by omega, show 16 + m - 24 = 0 by omega] at e
  exact e
theorem FSt.store3 {w wr : World} {f : Nat → Int} {m : Nat} (h : FSt w wr f (24 + m)) (hm : m < 8) {v : Int} (hv : v = pd f 24 m + f (24 + m) * 256 ^ m) : FSt w (wr.setCell ⟨w.heap.size + 1, 3, none⟩ (.int .u64 v)).drew f (24 + m + 1) := by
  subst hv
  refine ⟨(h.below.setCell (by simp) _).drew, (h.R.other (by simp) _).drew, ?_⟩
  have e := (h.A.set3 (pd f 24 m + f (24 + m) * 256 ^ m)).drew
  rw [show min (24 + m + 1) 8 = 8 by omega, show min (24 + m + 1 - 8) 8 = 8 by omega, show min (24 + m + 1 - 16) 8 = 8 by omega, show min (24 + m + 1 - 24) 8 = m + 1 by omega, show pd f 24 (m + 1) = pd f 24 m + f (24 + m) * 256 ^ m from rfl]
  rw [show min (24 + m) 8 = 8 by omega, show min (24 + m - 8) 8 = 8 by omega, show min (24 + m - 16) 8 = 8 by omega] at e
  exact e

set_option maxHeartbeats 2000000 in
theorem From_any {f : Nat → Int} (hf : By f) (w : World) (b cap : Nat) (hb : b < w.heap.size) (hc : ∀ i, i < 32 → w.cell? ⟨b, i, none⟩ = some (.int .u8 (f (31 - i)))) :
    Calls Try.prog 22 #[.slice (some ⟨b, 0, none⟩) 32 cap] w
      (NumP w fun r0 r1 r2 r3 c => c = 0 ∧ r0 = pd f 0 8 ∧ r1 = pd f 8 8 ∧ r2 = pd f 16 8 ∧ r3 = pd f 24 8) := by
  have hst : Hid (FSt w ((w.alloc (.cells #[.int .u64 0, .int .u64 0, .int .u64 0, .int .u64 0] 24)).alloc (.cells #[.int .u64 0, .int .u64 0, .int .u64 0, .int .u64 0] 24)) f 0) := Lib.hid ⟨by repeat (first | with_reducible exact Below.refl _ _ | with_reducible refine Below.alloc ?_ (by simp; try omega) _), (At4.new w 0 0 0 0).alloc _, by simpa [pd] using At4.new (w.alloc (.cells #[.int .u64 0, .int .u64 0, .int .u64 0, .int .u64 0] 24)) 0 0 0 0⟩
  have HF := Lib.hid hf
  have HC := Lib.hid hc
  clear hc hf
  go_enter Try.func22, Try.ntmps22
  go_wp2_with fail
  go_loopw [10] (fun iv wr => ∃ k : Nat, iv = .int .i64 k ∧ k ≤ 32 ∧ Hid (FSt w wr f k)) (fun iv _ => 32 - (intOf iv).toNat)
  case atStart => exact ⟨0, rfl, by omega, hst⟩
  case round =>
    clear hst
    obtain ⟨k, rfl, hk, hB⟩ := hrel
    by_cases hlt : k < 32
    · obtain ⟨ca0, ca1, ca2, ca3⟩ := hB.out.A.cell
      obtain ⟨fa0, fa1, fa2, fa3⟩ := hB.out.A.free
      have hcb : wr.cell? ⟨b, 31 - k, none⟩ = some (.int .u8 (f k)) := by
        have := HC.out (31 - k) (by omega)
        rw [hB.out.below.cell (by simpa using hb), this, show 31 - (31 - k) = k by omega]
      have hj : k / 8 = 0 ∨ k / 8 = 1 ∨ k / 8 = 2 ∨ k / 8 = 3 := by omega
      obtain ⟨m, hm, hm8⟩ : ∃ m, k % 8 = m ∧ m < 8 := ⟨k % 8, rfl, by omega⟩
      rcases hj with hj | hj | hj | hj
      · have hd : (k : Int) / 8 = 0 := by omega
        have hr : (k : Int) % 8 = (m : Int) := by omega
        rw [show min k 8 = m by omega] at ca0
        have HN := Lib.hid (show FSt w (wr.setCell ⟨w.heap.size + 1, 0, none⟩ (.int .u64 (pd f 0 m + f k * 256 ^ m))).drew f (k + 1) from by
          obtain rfl : k = m := by omega
          exact hB.out.store0 hm8 rfl)
        have hor := or_put (pd_bd HF.out 0 m (by omega)) (HF.out k (by omega)) hm8
        clear hj hm
        go_wp2_with fail
        go_region
        go_wp2_with fail
        go_roundw
        case rel => exact ⟨k + 1, by go_num, by omega, HN⟩
        case measure => simp [intOf]; omega
      · have hd : (k : Int) / 8 = 1 := by omega
        have hr : (k : Int) % 8 = (m : Int) := by omega
        rw [show min (k - 8) 8 = m by omega] at ca1
        have HN := Lib.hid (show FSt w (wr.setCell ⟨w.heap.size + 1, 1, none⟩ (.int .u64 (pd f 8 m + f k * 256 ^ m))).drew f (k + 1) from by
          obtain rfl : k = 8 + m := by omega
          exact hB.out.store1 hm8 rfl)
        have hor := or_put (pd_bd HF.out 8 m (by omega)) (HF.out k (by omega)) hm8
        clear hj hm
        go_wp2_with fail
        go_region
        go_wp2_with fail
        go_roundw
        case rel => exact ⟨k + 1, by go_num, by omega, HN⟩
        case measure => simp [intOf]; omega
      · have hd : (k : Int) / 8 = 2 := by omega
        have hr : (k : Int) % 8 = (m : Int) := by omega
        rw [show min (k - 16) 8 = m by omega] at ca2
        have HN := Lib.hid (show FSt w (wr.setCell ⟨w.heap.size + 1, 2, none⟩ (.int .u64 (pd f 16 m + f k * 256 ^ m))).drew f (k + 1) from by
          obtain rfl : k = 16 + m := by omega
          exact hB.out.store2 hm8 rfl)
        have hor := or_put (pd_bd HF.out 16 m (by omega)) (HF.out k (by omega)) hm8
        clear hj hm
        go_wp2_with fail
        go_region
        go_wp2_with fail
        go_roundw
        case rel => exact ⟨k + 1, by go_num, by omega, HN⟩
        case measure => simp [intOf]; omega
      · have hd : (k : Int) / 8 = 3 := by omega
        have hr : (k : Int) % 8 = (m : Int) := by omega
        rw [show min (k - 24) 8 = m by omega] at ca3
        have HN := Lib.hid (show FSt w (wr.setCell ⟨w.heap.size + 1, 3, none⟩ (.int .u64 (pd f 24 m + f k * 256 ^ m))).drew f (k + 1) from by
          obtain rfl : k = 24 + m := by omega
          exact hB.out.store3 hm8 rfl)
        have hor := or_put (pd_bd HF.out 24 m (by omega)) (HF.out k (by omega)) hm8
        clear hj hm
        go_wp2_with fail
        go_region
        go_wp2_with fail
        go_roundw
        case rel => exact ⟨k + 1, by go_num, by omega, HN⟩
        case measure => simp [intOf]; omega
    · obtain rfl : k = 32 := by omega
      have HA : At4 wr (w.heap.size + 1) (pd f 0 8) (pd f 8 8) (pd f 16 8) (pd f 24 8) := by simpa using hB.out.A
      obtain ⟨c0, c1, c2, c3⟩ := HA.cell
      obtain ⟨r0, r1, r2, r3⟩ := hB.out.R.cell
      obtain ⟨f0, f1, f2, f3⟩ := hB.out.R.free
      go_wp2_with fail
      refine bodyPost_ret (v := .tuple #[.agg #[.int .u64 (pd f 0 8), .int .u64 (pd f 8 8), .int .u64 (pd f 16 8), .int .u64 (pd f 24 8)], .int .i64 0]) (by simp [results, Try.results22, go_sem, r0, r1, r2, r3]) rfl ⟨_, _, _, _, 0, rfl, ⟨rfl, rfl, rfl, rfl, rfl⟩, ?_⟩
      have hb' := hB.out.below
      repeat (first | with_reducible exact hb' | with_reducible refine Below.setCell ?_ (by simp; try omega) _)
end Go.Proofs.Ytnnlpiflalmmlaa
