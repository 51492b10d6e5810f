/-
  The document's From.
-/
import Derived.Test.YtnnlpiflalmmlaaFrom
namespace Go.Proofs.Ytnnlpiflalmmlaa
open Go.RowKit

/-- m bytes from place o on, the highest first. -/
def hu (g : Nat → Int) (o : Nat) : Nat → Int
  | 0 => 0
  | m + 1 => hu g o m * 256 + g (o + m)
theorem hu_bd {f : Nat → Int} (hf : By f) (o : Nat) : ∀ m, o + m ≤ 32 → 0 ≤ hu f o m ∧ hu f o m < 256 ^ m
  | 0, _ => by simp [hu]
  | m + 1, h => by
    obtain ⟨a, b⟩ := hu_bd hf o m (by omega)
    obtain ⟨c, d⟩ := hf (o + m) (by omega)
    rw [hu, Int.pow_succ]
    omega
theorem hu_bd7 {f : Nat → Int} (hf : By f) (o m : Nat) (h : o + m ≤ 32) (hm : m < 8) : 0 ≤ hu f o m ∧ hu f o m < 72057594037927936 := by
  obtain ⟨a, b⟩ := hu_bd hf o m h
  refine ⟨a, Int.lt_of_lt_of_le b ?_⟩
  have e : m = 0 ∨ m = 1 ∨ m = 2 ∨ m = 3 ∨ m = 4 ∨ m = 5 ∨ m = 6 ∨ m = 7 := by omega
  rcases e with rfl | rfl | rfl | rfl | rfl | rfl | rfl | rfl <;> decide
theorem pd_first (f : Nat → Int) (s : Nat) : ∀ m, pd f s (m + 1) = f s + 256 * pd f (s + 1) m
  | 0 => by simp [pd]
  | m + 1 => by
    rw [pd, pd_first f s m, pd, Int.pow_succ, show s + (m + 1) = s + 1 + m by omega]
    generalize f (s + 1 + m) = a
    generalize pd f (s + 1) m = b
    generalize (256 : Int) ^ m = c
    have : a * (c * 256) = 256 * (a * c) := by rw [← Int.mul_assoc, Int.mul_comm]
    rw [this]; omega
theorem hu_pd (f g : Nat → Int) (h : ∀ i, i < 32 → g i = f (31 - i)) (o : Nat) : ∀ m, o + m ≤ 32 → hu g o m = pd f (32 - o - m) m
  | 0, _ => by simp [hu, pd]
  | m + 1, hm => by
    rw [hu, hu_pd f g h o m (by omega), h (o + m) (by omega), pd_first, show 32 - o - (m + 1) + 1 = 32 - o - m by omega, show 32 - o - (m + 1) = 31 - (o + m) by omega]
    omega

/-- What stands in memory: k bytes are read. -/
structure RFSt (w wr : World) (f : Nat → Int) (k : Nat) : Prop where
  below : Below w.heap.size w wr
  R : At4 wr w.heap.size 0 0 0 0
  A : At4 wr (w.heap.size + 1) (hu f 24 (min (k - 24) 8)) (hu f 16 (min (k - 16) 8)) (hu f 8 (min (k - 8) 8)) (hu f 0 (min k 8))
theorem RFSt.store3 {w wr : World} {f : Nat → Int} {m : Nat} (h : RFSt w wr f m) (hm : m < 8) {v : Int} (hv : v = hu f 0 m * 256 + f m) : RFSt w (wr.setCell ⟨w.heap.size + 1, 3, none⟩ (.int .u64 v)).drew f (m + 1) := by
  subst hv
  refine ⟨(h.below.setCell (by simp) _).drew, (h.R.other (by simp) _).drew, ?_⟩
  have e := (h.A.set3 (hu f 0 m * 256 + f m)).drew
  rw [show min (m + 1) 8 = m + 1 by omega, show min (m + 1 - 8) 8 = 0 by omega, show min (m + 1 - 16) 8 = 0 by omega, show min (m + 1 - 24) 8 = 0 by omega]
  rw [show min (m - 8) 8 = 0 by omega, show min (m - 16) 8 = 0 by omega, show min (m - 24) 8 = 0 by omega] at e
  simpa [hu] using e
theorem RFSt.store2 {w wr : World} {f : Nat → Int} {m : Nat} (h : RFSt w wr f (8 + m)) (hm : m < 8) {v : Int} (hv : v = hu f 8 m * 256 + f (8 + m)) : RFSt w (wr.setCell ⟨w.heap.size + 1, 2, none⟩ (.int .u64 v)).drew f (8 + m + 1) := by
  subst hv
  refine ⟨(h.below.setCell (by simp) _).drew, (h.R.other (by simp) _).drew, ?_⟩
  have e := (h.A.set2 (hu f 8 m * 256 + f (8 + m))).drew
  rw [show min (8 + m + 1) 8 = 8 by omega, show min (8 + m + 1 - 8) 8 = m + 1 by omega, show min (8 + m + 1 - 16) 8 = 0 by omega, show min (8 + m + 1 - 24) 8 = 0 by omega]
  rw [show min (8 + m) 8 = 8 by omega, show min (8 + m - 16) 8 = 0 by omega, show min (8 + m - 24) 8 = 0 by omega] at e
  simpa [hu] using e
theorem RFSt.store1 {w wr : World} {f : Nat → Int} {m : Nat} (h : RFSt w wr f (16 + m)) (hm : m < 8) {v : Int} (hv : v = hu f 16 m * 256 + f (16 + m)) : RFSt w (wr.setCell ⟨w.heap.size + 1, 1, none⟩ (.int .u64 v)).drew f (16 + m + 1) := by
  subst hv
  refine ⟨(h.below.setCell (by simp) _).drew, (h.R.other (by simp) _).drew, ?_⟩
  have e := (h.A.set1 (hu f 16 m * 256 + f (16 + m))).drew
  rw [show min (16 + m + 1) 8 = 8 by omega, show min (16 + m + 1 - 8) 8 = 8 by omega, show min (16 + m + 1 - 16) 8 = m + 1 by omega, show min (16 + m + 1 - 24) 8 = 0 by omega]
  rw [show min (16 + m) 8 = 8 by omega, show min (16 + m - 8) 8 = 8 by omega, show min (16 + m - 24) 8 = 0 by omega] at e
  simpa [hu] using e
theorem RFSt.store0 {w wr : World} {f : Nat → Int} {m : Nat} (h : RFSt w wr f (24 + m)) (hm : m < 8) {v : Int} (hv : v = hu f 24 m * 256 + f (24 + m)) : RFSt w (wr.setCell ⟨w.heap.size + 1, 0, none⟩ (.int .u64 v)).drew f (24 + m + 1) := by
  subst hv
  refine ⟨(h.below.setCell (by simp) _).drew, (h.R.other (by simp) _).drew, ?_⟩
  have e := (h.A.set0 (hu f 24 m * 256 + f (24 + m))).drew
  rw [show min (24 + m + 1) 8 = 8 by omega, show min (24 + m + 1 - 8) 8 = 8 by omega, show min (24 + m + 1 - 16) 8 = 8 by omega, show min (24 + m + 1 - 24) 8 = m + 1 by omega]
  rw [show min (24 + m) 8 = 8 by omega, show min (24 + m - 8) 8 = 8 by omega, show min (24 + m - 16) 8 = 8 by omega] at e
  simpa [hu] using e

set_option maxHeartbeats 2000000 in
theorem refFrom_raw {f : Nat → Int} (hf : By f) (w : World) (b off cap : Nat) (hb : b < w.heap.size) (hc : ∀ i, i < 32 → w.cell? ⟨b, off + i, none⟩ = some (.int .u8 (f i))) :
    Calls Try.prog 23 #[.slice (some ⟨b, off, none⟩) 32 cap] w
      (NumP w fun r0 r1 r2 r3 c => c = 0 ∧ r0 = hu f 24 8 ∧ r1 = hu f 16 8 ∧ r2 = hu f 8 8 ∧ r3 = hu f 0 8) := by
  have hst : Hid (RFSt w ((w.alloc (.cells #[.int .u64 0, .int .u64 0, .int .u64 0, .int .u64 0] 24)).alloc (.cells #[.int .u64 0, .int .u64 0, .int .u64 0, .int .u64 0] 24)) f 0) := Lib.hid ⟨by repeat (first | with_reducible exact Below.refl _ _ | with_reducible refine Below.alloc ?_ (by simp; try omega) _), (At4.new w 0 0 0 0).alloc _, by simpa [hu] using At4.new (w.alloc (.cells #[.int .u64 0, .int .u64 0, .int .u64 0, .int .u64 0] 24)) 0 0 0 0⟩
  have HF := Lib.hid hf
  have HC := Lib.hid hc
  clear hc hf
  go_enter Try.func23, Try.ntmps23
  go_wp2_with fail
  go_loopw [5] (fun iv wr => ∃ k : Nat, iv = .int .i64 k ∧ k ≤ 32 ∧ Hid (RFSt w wr f k)) (fun iv _ => 32 - (intOf iv).toNat)
  case atStart => exact ⟨0, rfl, by omega, hst⟩
  case round =>
    clear hst
    obtain ⟨k, rfl, hk, hB⟩ := hrel
    by_cases hlt : k < 32
    · obtain ⟨ca0, ca1, ca2, ca3⟩ := hB.out.A.cell
      obtain ⟨fa0, fa1, fa2, fa3⟩ := hB.out.A.free
      have hcb : wr.cell? ⟨b, off + k, none⟩ = some (.int .u8 (f k)) := by
        rw [hB.out.below.cell (by simpa using hb), HC.out k hlt]
      have hj : k / 8 = 0 ∨ k / 8 = 1 ∨ k / 8 = 2 ∨ k / 8 = 3 := by omega
      obtain ⟨m, hm, hm8⟩ : ∃ m, k % 8 = m ∧ m < 8 := ⟨k % 8, rfl, by omega⟩
      rcases hj with hj | hj | hj | hj
      · have hd : (k : Int) / 8 = 0 := by omega
        rw [show min k 8 = m by omega] at ca3
        have HN := Lib.hid (show RFSt w (wr.setCell ⟨w.heap.size + 1, 3, none⟩ (.int .u64 (hu f 0 m * 256 + f k))).drew f (k + 1) from by
          obtain rfl : k = m := by omega
          exact hB.out.store3 hm8 rfl)
        obtain ⟨x0, x1⟩ := hu_bd7 HF.out 0 m (by omega) hm8
        obtain ⟨z0, z1⟩ := HF.out k (by omega)
        generalize hu f 0 m = X at ca3 HN x0 x1
        generalize f k = Z at hcb HN z0 z1
        clear hj hm hB
        go_wp2_with fail
        go_region
        go_wp2_with fail
        go_roundw
        case rel => exact ⟨k + 1, by go_num, by omega, HN⟩
        case measure => simp [intOf]; omega
      · have hd : (k : Int) / 8 = 1 := by omega
        rw [show min (k - 8) 8 = m by omega] at ca2
        have HN := Lib.hid (show RFSt w (wr.setCell ⟨w.heap.size + 1, 2, none⟩ (.int .u64 (hu f 8 m * 256 + f k))).drew f (k + 1) from by
          obtain rfl : k = 8 + m := by omega
          exact hB.out.store2 hm8 rfl)
        obtain ⟨x0, x1⟩ := hu_bd7 HF.out 8 m (by omega) hm8
        obtain ⟨z0, z1⟩ := HF.out k (by omega)
        generalize hu f 8 m = X at ca2 HN x0 x1
        generalize f k = Z at hcb HN z0 z1
        clear hj hm hB
        go_wp2_with fail
        go_region
        go_wp2_with fail
        go_roundw
        case rel => exact ⟨k + 1, by go_num, by omega, HN⟩
        case measure => simp [intOf]; omega
      · have hd : (k : Int) / 8 = 2 := by omega
        rw [show min (k - 16) 8 = m by omega] at ca1
        have HN := Lib.hid (show RFSt w (wr.setCell ⟨w.heap.size + 1, 1, none⟩ (.int .u64 (hu f 16 m * 256 + f k))).drew f (k + 1) from by
          obtain rfl : k = 16 + m := by omega
          exact hB.out.store1 hm8 rfl)
        obtain ⟨x0, x1⟩ := hu_bd7 HF.out 16 m (by omega) hm8
        obtain ⟨z0, z1⟩ := HF.out k (by omega)
        generalize hu f 16 m = X at ca1 HN x0 x1
        generalize f k = Z at hcb HN z0 z1
        clear hj hm hB
        go_wp2_with fail
        go_region
        go_wp2_with fail
        go_roundw
        case rel => exact ⟨k + 1, by go_num, by omega, HN⟩
        case measure => simp [intOf]; omega
      · have hd : (k : Int) / 8 = 3 := by omega
        rw [show min (k - 24) 8 = m by omega] at ca0
        have HN := Lib.hid (show RFSt w (wr.setCell ⟨w.heap.size + 1, 0, none⟩ (.int .u64 (hu f 24 m * 256 + f k))).drew f (k + 1) from by
          obtain rfl : k = 24 + m := by omega
          exact hB.out.store0 hm8 rfl)
        obtain ⟨x0, x1⟩ := hu_bd7 HF.out 24 m (by omega) hm8
        obtain ⟨z0, z1⟩ := HF.out k (by omega)
        generalize hu f 24 m = X at ca0 HN x0 x1
        generalize f k = Z at hcb HN z0 z1
        clear hj hm hB
        go_wp2_with fail
        go_region
        go_wp2_with fail
        go_roundw
        case rel => exact ⟨k + 1, by go_num, by omega, HN⟩
        case measure => simp [intOf]; omega
    · obtain rfl : k = 32 := by omega
      have HA : At4 wr (w.heap.size + 1) (hu f 24 8) (hu f 16 8) (hu f 8 8) (hu f 0 8) := by simpa using hB.out.A
      obtain ⟨c0, c1, c2, c3⟩ := HA.cell
      obtain ⟨r0, r1, r2, r3⟩ := hB.out.R.cell
      obtain ⟨f0, f1, f2, f3⟩ := hB.out.R.free
      go_wp2_with fail
      refine bodyPost_ret (v := .tuple #[.agg #[.int .u64 (hu f 24 8), .int .u64 (hu f 16 8), .int .u64 (hu f 8 8), .int .u64 (hu f 0 8)], .int .i64 0]) (by simp [results, Try.results23, go_sem, r0, r1, r2, r3]) rfl ⟨_, _, _, _, 0, rfl, ⟨rfl, rfl, rfl, rfl, rfl⟩, ?_⟩
      have hb' := hB.out.below
      repeat (first | with_reducible exact hb' | with_reducible refine Below.setCell ?_ (by simp; try omega) _)
theorem refFrom_any {f : Nat → Int} (hf : By f) (w : World) (b off cap : Nat) (hb : b < w.heap.size) (hc : ∀ i, i < 32 → w.cell? ⟨b, off + i, none⟩ = some (.int .u8 (f (31 - i)))) :
    Calls Try.prog 23 #[.slice (some ⟨b, off, none⟩) 32 cap] w
      (NumP w fun r0 r1 r2 r3 c => c = 0 ∧ r0 = pd f 0 8 ∧ r1 = pd f 8 8 ∧ r2 = pd f 16 8 ∧ r3 = pd f 24 8) := by
  have e := hu_pd f (fun i => f (31 - i)) (fun i _ => rfl)
  refine (refFrom_raw (f := fun i => f (31 - i)) (fun i hi => hf (31 - i) (by omega)) w b off cap hb hc).mono ?_
  rintro E w1 ⟨r0, r1, r2, r3, c, hE, ⟨h0, h1, h2, h3, h4⟩, hB⟩
  exact ⟨r0, r1, r2, r3, c, hE, ⟨h0, h1.trans (e 24 8 (by omega)), h2.trans (e 16 8 (by omega)), h3.trans (e 8 8 (by omega)), h4.trans (e 0 8 (by omega))⟩, hB⟩

theorem refFrom_no (w : World) (q : Option Addr) (n cap : Nat) (hn : n ≠ 32) (hm : n ≤ maxLen) :
    Calls Try.prog 23 #[.slice q n cap] w (NumP w fun r0 r1 r2 r3 c => c = 21 ∧ r0 = 0 ∧ r1 = 0 ∧ r2 = 0 ∧ r3 = 0) := by
  unfold maxLen at hm
  have hn' : (n : Int) ≠ 32 := by omega
  go_enter Try.func23, Try.ntmps23
  go_wp2_with fail
  refine bodyPost_ret (v := .tuple #[.agg #[.int .u64 0, .int .u64 0, .int .u64 0, .int .u64 0], .int .i64 21]) (by simp [results, Try.results23, go_sem]) rfl ⟨_, _, _, _, _, rfl, ⟨rfl, rfl, rfl, rfl, rfl⟩, ?_⟩
  repeat (first | with_reducible exact Below.refl _ _ | with_reducible refine Below.setCell ?_ (by simp; try omega) _ | with_reducible refine Below.alloc ?_ (by simp; try omega) _)
theorem From_no (w : World) (q : Option Addr) (n cap : Nat) (hn : n ≠ 32) (hm : n ≤ maxLen) :
    Calls Try.prog 22 #[.slice q n cap] w (NumP w fun r0 r1 r2 r3 c => c = 21 ∧ r0 = 0 ∧ r1 = 0 ∧ r2 = 0 ∧ r3 = 0) := by
  unfold maxLen at hm
  have hn' : (n : Int) ≠ 32 := by omega
  go_enter Try.func22, Try.ntmps22
  go_wp2_with fail
  refine bodyPost_ret (v := .tuple #[.agg #[.int .u64 0, .int .u64 0, .int .u64 0, .int .u64 0], .int .i64 21]) (by simp [results, Try.results22, go_sem]) rfl ⟨_, _, _, _, _, rfl, ⟨rfl, rfl, rfl, rfl, rfl⟩, ?_⟩
  repeat (first | with_reducible exact Below.refl _ _ | with_reducible refine Below.setCell ?_ (by simp; try omega) _ | with_reducible refine Below.alloc ?_ (by simp; try omega) _)
end Go.Proofs.Ytnnlpiflalmmlaa
