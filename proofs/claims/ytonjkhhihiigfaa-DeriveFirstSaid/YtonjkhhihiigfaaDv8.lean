/-
  The document's From.; Wide numbers of any bytes, and blobs, of both readers.; The readers' states, with or without an error: numbers, wide ones, blobs, as the bytes alone tell.
-/
import Derived.Test.YtonjkhhihiigfaaDv4
import Derived.Test.YtonjkhhihiigfaaDv7
namespace Go.Proofs.Ytonjkhhihiigfaa
open Go.RowKit

/-- m bytes from place o on, the highest first. -/
def hu (g : Nat → Int) (o : Nat) : Nat → Int
  | 0 => 0
  | m + 1 => hu g o m * 256 + g (o + m)
theorem hu_bd {f : Nat → Int} (hf : By f) (o : Nat) : ∀ m, o + m ≤ 32 → 0 ≤ hu f o m ∧ hu f o m < 256 ^ m
  | 0, _ => by simp [hu]
  | m + 1, h => by
    obtain ⟨a, b⟩ := hu_bd hf o m (by omega)
    obtain ⟨c, d⟩ := hf (o + m) (by omega)
    rw [hu, Int.pow_succ]
    omega
theorem hu_bd7 {f : Nat → Int} (hf : By f) (o m : Nat) (h : o + m ≤ 32) (hm : m < 8) : 0 ≤ hu f o m ∧ hu f o m < 72057594037927936 := by
  obtain ⟨a, b⟩ := hu_bd hf o m h
  refine ⟨a, Int.lt_of_lt_of_le b ?_⟩
  have e : m = 0 ∨ m = 1 ∨ m = 2 ∨ m = 3 ∨ m = 4 ∨ m = 5 ∨ m = 6 ∨ m = 7 := by omega
  rcases e with rfl | rfl | rfl | rfl | rfl | rfl | rfl | rfl <;> decide
theorem pd_first (f : Nat → Int) (s : Nat) : ∀ m, pd f s (m + 1) = f s + 256 * pd f (s + 1) m
  | 0 => by simp [pd]
  | m + 1 => by
    rw [pd, pd_first f s m, pd, Int.pow_succ, show s + (m + 1) = s + 1 + m by omega]
    generalize f (s + 1 + m) = a
    generalize pd f (s + 1) m = b
    generalize (256 : Int) ^ m = c
    have : a * (c * 256) = 256 * (a * c) := by rw [← Int.mul_assoc, Int.mul_comm]
    rw [this]; omega
theorem hu_pd (f g : Nat → Int) (h : ∀ i, i < 32 → g i = f (31 - i)) (o : Nat) : ∀ m, o + m ≤ 32 → hu g o m = pd f (32 - o - m) m
  | 0, _ => by simp [hu, pd]
  | m + 1, hm => by
    rw [hu, hu_pd f g h o m (by omega), h (o + m) (by omega), pd_first, show 32 - o - (m + 1) + 1 = 32 - o - m by omega, show 32 - o - (m + 1) = 31 - (o + m) by omega]
    omega

/-- What stands in memory: k bytes are read. -/
structure RFSt (w wr : World) (f : Nat → Int) (k : Nat) : Prop where
  below : Below w.heap.size w wr
  R : At4 wr w.heap.size 0 0 0 0
  A : At4 wr (w.heap.size + 1) (hu f 24 (min (k - 24) 8)) (hu f 16 (min (k - 16) 8)) (hu f 8 (min (k - 8) 8)) (hu f 0 (min k 8))
theorem RFSt.store3 {w wr : World} {f : Nat → Int} {m : Nat} (h : RFSt w wr f m) (hm : m < 8) {v : Int} (hv : v = hu f 0 m * 256 + f m) : RFSt w (wr.setCell ⟨w.heap.size + 1, 3, none⟩ (.int .u64 v)).drew f (m + 1) := by
  subst hv
  refine ⟨(h.below.setCell (by simp) _).drew, (h.R.other (by simp) _).drew, ?_⟩
  have e := (h.A.set3 (hu f 0 m * 256 + f m)).drew
  rw [show min (m + 1) 8 = m + 1 by omega, show min (m + 1 - 8) 8 = 0 by omega, show min (m + 1 - 16) 8 = 0 by omega, show min (m + 1 - 24) 8 = 0 by omega]
  rw [show min (m - 8) 8 = 0 by omega, show min (m - 16) 8 = 0 by omega, show min (m - 24) 8 = 0 by omega] at e
  simpa [hu] using e
theorem RFSt.store2 {w wr : World} {f : Nat → Int} {m : Nat} (h : RFSt w wr f (8 + m)) (hm : m < 8) {v : Int} (hv : v = hu f 8 m * 256 + f (8 + m)) : RFSt w (wr.setCell ⟨w.heap.size + 1, 2, none⟩ (.int .u64 v)).drew f (8 + m + 1) := by
  subst hv
  refine ⟨(h.below.setCell (by simp) _).drew, (h.R.other (by simp) _).drew, ?_⟩
  have e := (h.A.set2 (hu f 8 m * 256 + f (8 + m))).drew
  rw [show min (8 + m + 1) 8 = 8 by omega, show min (8 + m + 1 - 8) 8 = m + 1 by omega, show min (8 + m + 1 - 16) 8 = 0 by omega, show min (8 + m + 1 - 24) 8 = 0 by omega]
  rw [show min (8 + m) 8 = 8 by omega, show min (8 + m - 16) 8 = 0 by omega, show min (8 + m - 24) 8 = 0 by omega] at e
  simpa [hu] using e
theorem RFSt.store1 {w wr : World} {f : Nat → Int} {m : Nat} (h : RFSt w wr f (16 + m)) (hm : m < 8) {v : Int} (hv : v = hu f 16 m * 256 + f (16 + m)) : RFSt w (wr.setCell ⟨w.heap.size + 1, 1, none⟩ (.int .u64 v)).drew f (16 + m + 1) := by
  subst hv
  refine ⟨(h.below.setCell (by simp) _).drew, (h.R.other (by simp) _).drew, ?_⟩
  have e := (h.A.set1 (hu f 16 m * 256 + f (16 + m))).drew
  rw [show min (16 + m + 1) 8 = 8 by omega, show min (16 + m + 1 - 8) 8 = 8 by omega, show min (16 + m + 1 - 16) 8 = m + 1 by omega, show min (16 + m + 1 - 24) 8 = 0 by omega]
  rw [show min (16 + m) 8 = 8 by omega, show min (16 + m - 8) 8 = 8 by omega, show min (16 + m - 24) 8 = 0 by omega] at e
  simpa [hu] using e
theorem RFSt.store0 {w wr : World} {f : Nat → Int} {m : Nat} (h : RFSt w wr f (24 + m)) (hm : m < 8) {v : Int} (hv : v = hu f 24 m * 256 + f (24 + m)) : RFSt w (wr.setCell ⟨w.heap.size + 1, 0, none⟩ (.int .u64 v)).drew f (24 + m + 1) := by
  subst hv
  refine ⟨(h.below.setCell (by simp) _).drew, (h.R.other (by simp) _).drew, ?_⟩
  have e := (h.A.set0 (hu f 24 m * 256 + f (24 + m))).drew
  rw [show min (24 + m + 1) 8 = 8 by omega, show min (24 + m + 1 - 8) 8 = 8 by omega, show min (24 + m + 1 - 16) 8 = 8 by omega, show min (24 + m + 1 - 24) 8 = m + 1 by omega]
  rw [show min (24 + m) 8 = 8 by omega, show min (24 + m - 8) 8 = 8 by omega, show min (24 + m - 16) 8 = 8 by omega] at e
  simpa [hu] using e

set_option maxHeartbeats 2000000 in
theorem refFrom_raw {f : Nat → Int} (hf : By f) (w : World) (b off cap : Nat) (hb : b < w.heap.size) (hc : ∀ i, i < 32 → w.cell? ⟨b, off + i, none⟩ = some (.int .u8 (f i))) :
    Calls Try.prog 59 #[.slice (some ⟨b, off, none⟩) 32 cap] w
      (NumP w fun r0 r1 r2 r3 c => c = 0 ∧ r0 = hu f 24 8 ∧ r1 = hu f 16 8 ∧ r2 = hu f 8 8 ∧ r3 = hu f 0 8) := by
  have hst : Hid (RFSt w ((w.alloc (.cells #[.int .u64 0, .int .u64 0, .int .u64 0, .int .u64 0] 49)).alloc (.cells #[.int .u64 0, .int .u64 0, .int .u64 0, .int .u64 0] 49)) f 0) := Lib.hid ⟨by repeat (first | with_reducible exact Below.refl _ _ | with_reducible refine Below.alloc ?_ (by simp; try omega) _), (At4.new w 0 0 0 0).alloc _, by simpa [hu] using At4.new (w.alloc (.cells #[.int .u64 0, .int .u64 0, .int .u64 0, .int .u64 0] 49)) 0 0 0 0⟩
  have HF := Lib.hid hf
  have HC := Lib.hid hc
  clear hc hf
  go_enter Try.func59, Try.ntmps59
  go_wp2_with fail
  go_loopw [5] (fun iv wr => ∃ k : Nat, iv = .int .i64 k ∧ k ≤ 32 ∧ Hid (RFSt w wr f k)) (fun iv _ => 32 - (intOf iv).toNat)
  case atStart => exact ⟨0, rfl, by omega, hst⟩
  case round =>
    clear hst
    obtain ⟨k, rfl, hk, hB⟩ := hrel
    by_cases hlt : k < 32
    · obtain ⟨ca0, ca1, ca2, ca3⟩ := hB.out.A.cell
      obtain ⟨fa0, fa1, fa2, fa3⟩ := hB.out.A.free
      have hcb : wr.cell? ⟨b, off + k, none⟩ = some (.int .u8 (f k)) := by
        rw [hB.out.below.cell (by simpa using hb), HC.out k hlt]
      have hj : k / 8 = 0 ∨ k / 8 = 1 ∨ k / 8 = 2 ∨ k / 8 = 3 := by omega
      obtain ⟨m, hm, hm8⟩ : ∃ m, k % 8 = m ∧ m < 8 := ⟨k % 8, rfl, by omega⟩
      rcases hj with hj | hj | hj | hj
      · have hd : (k : Int) / 8 = 0 := by omega
        rw [show min k 8 = m by omega] at ca3
        have HN := Lib.hid (show RFSt w (wr.setCell ⟨w.heap.size + 1, 3, none⟩ (.int .u64 (hu f 0 m * 256 + f k))).drew f (k + 1) from by
          obtain rfl : k = m := by omega
          exact hB.out.store3 hm8 rfl)
        obtain ⟨x0, x1⟩ := hu_bd7 HF.out 0 m (by omega) hm8
        obtain ⟨z0, z1⟩ := HF.out k (by omega)
        generalize hu f 0 m = X at ca3 HN x0 x1
        generalize f k = Z at hcb HN z0 z1
        clear hj hm hB
        go_wp2_with fail
        go_region
        go_wp2_with fail
        go_roundw
        case rel => exact ⟨k + 1, by go_num, by omega, HN⟩
        case measure => simp [intOf]; omega
      · have hd : (k : Int) / 8 = 1 := by omega
        rw [show min (k - 8) 8 = m by omega] at ca2
        have HN := Lib.hid (show RFSt w (wr.setCell ⟨w.heap.size + 1, 2, none⟩ (.int .u64 (hu f 8 m * 256 + f k))).drew f (k + 1) from by
          obtain rfl : k = 8 + m := by omega
          exact hB.out.store2 hm8 rfl)
        obtain ⟨x0, x1⟩ := hu_bd7 HF.out 8 m (by omega) hm8
        obtain ⟨z0, z1⟩ := HF.out k (by omega)
        generalize hu f 8 m = X at ca2 HN x0 x1
        generalize f k = Z at hcb HN z0 z1
        clear hj hm hB
        go_wp2_with fail
        go_region
        go_wp2_with fail
        go_roundw
        case rel => exact ⟨k + 1, by go_num, by omega, HN⟩
        case measure => simp [intOf]; omega
      · have hd : (k : Int) / 8 = 2 := by omega
        rw [show min (k - 16) 8 = m by omega] at ca1
        have HN := Lib.hid (show RFSt w (wr.setCell ⟨w.heap.size + 1, 1, none⟩ (.int .u64 (hu f 16 m * 256 + f k))).drew f (k + 1) from by
          obtain rfl : k = 16 + m := by omega
          exact hB.out.store1 hm8 rfl)
        obtain ⟨x0, x1⟩ := hu_bd7 HF.out 16 m (by omega) hm8
        obtain ⟨z0, z1⟩ := HF.out k (by omega)
        generalize hu f 16 m = X at ca1 HN x0 x1
        generalize f k = Z at hcb HN z0 z1
        clear hj hm hB
        go_wp2_with fail
        go_region
        go_wp2_with fail
        go_roundw
        case rel => exact ⟨k + 1, by go_num, by omega, HN⟩
        case measure => simp [intOf]; omega
      · have hd : (k : Int) / 8 = 3 := by omega
        rw [show min (k - 24) 8 = m by omega] at ca0
        have HN := Lib.hid (show RFSt w (wr.setCell ⟨w.heap.size + 1, 0, none⟩ (.int .u64 (hu f 24 m * 256 + f k))).drew f (k + 1) from by
          obtain rfl : k = 24 + m := by omega
          exact hB.out.store0 hm8 rfl)
        obtain ⟨x0, x1⟩ := hu_bd7 HF.out 24 m (by omega) hm8
        obtain ⟨z0, z1⟩ := HF.out k (by omega)
        generalize hu f 24 m = X at ca0 HN x0 x1
        generalize f k = Z at hcb HN z0 z1
        clear hj hm hB
        go_wp2_with fail
        go_region
        go_wp2_with fail
        go_roundw
        case rel => exact ⟨k + 1, by go_num, by omega, HN⟩
        case measure => simp [intOf]; omega
    · obtain rfl : k = 32 := by omega
      have HA : At4 wr (w.heap.size + 1) (hu f 24 8) (hu f 16 8) (hu f 8 8) (hu f 0 8) := by simpa using hB.out.A
      obtain ⟨c0, c1, c2, c3⟩ := HA.cell
      obtain ⟨r0, r1, r2, r3⟩ := hB.out.R.cell
      obtain ⟨f0, f1, f2, f3⟩ := hB.out.R.free
      go_wp2_with fail
      refine bodyPost_ret (v := .tuple #[.agg #[.int .u64 (hu f 24 8), .int .u64 (hu f 16 8), .int .u64 (hu f 8 8), .int .u64 (hu f 0 8)], .int .i64 0]) (by simp [results, Try.results59, go_sem, r0, r1, r2, r3]) rfl ⟨_, _, _, _, 0, rfl, ⟨rfl, rfl, rfl, rfl, rfl⟩, ?_⟩
      have hb' := hB.out.below
      repeat (first | with_reducible exact hb' | with_reducible refine Below.setCell ?_ (by simp; try omega) _)
theorem refFrom_any {f : Nat → Int} (hf : By f) (w : World) (b off cap : Nat) (hb : b < w.heap.size) (hc : ∀ i, i < 32 → w.cell? ⟨b, off + i, none⟩ = some (.int .u8 (f (31 - i)))) :
    Calls Try.prog 59 #[.slice (some ⟨b, off, none⟩) 32 cap] w
      (NumP w fun r0 r1 r2 r3 c => c = 0 ∧ r0 = pd f 0 8 ∧ r1 = pd f 8 8 ∧ r2 = pd f 16 8 ∧ r3 = pd f 24 8) := by
  have e := hu_pd f (fun i => f (31 - i)) (fun i _ => rfl)
  refine (refFrom_raw (f := fun i => f (31 - i)) (fun i hi => hf (31 - i) (by omega)) w b off cap hb hc).mono ?_
  rintro E w1 ⟨r0, r1, r2, r3, c, hE, ⟨h0, h1, h2, h3, h4⟩, hB⟩
  exact ⟨r0, r1, r2, r3, c, hE, ⟨h0, h1.trans (e 24 8 (by omega)), h2.trans (e 16 8 (by omega)), h3.trans (e 8 8 (by omega)), h4.trans (e 0 8 (by omega))⟩, hB⟩

theorem refFrom_no (w : World) (q : Option Addr) (n cap : Nat) (hn : n ≠ 32) (_hm : n ≤ maxLen) :
    Calls Try.prog 59 #[.slice q n cap] w (NumP w fun r0 r1 r2 r3 c => c = 21 ∧ r0 = 0 ∧ r1 = 0 ∧ r2 = 0 ∧ r3 = 0) := by
  unfold maxLen at _hm
  have hn' : (n : Int) ≠ 32 := by omega
  go_enter Try.func59, Try.ntmps59
  go_wp2_with fail
  refine bodyPost_ret (v := .tuple #[.agg #[.int .u64 0, .int .u64 0, .int .u64 0, .int .u64 0], .int .i64 21]) (by simp [results, Try.results59, go_sem]) rfl ⟨_, _, _, _, _, rfl, ⟨rfl, rfl, rfl, rfl, rfl⟩, ?_⟩
  repeat (first | with_reducible exact Below.refl _ _ | with_reducible refine Below.setCell ?_ (by simp; try omega) _ | with_reducible refine Below.alloc ?_ (by simp; try omega) _)
theorem From_no (w : World) (q : Option Addr) (n cap : Nat) (hn : n ≠ 32) (_hm : n ≤ maxLen) :
    Calls Try.prog 99 #[.slice q n cap] w (NumP w fun r0 r1 r2 r3 c => c = 21 ∧ r0 = 0 ∧ r1 = 0 ∧ r2 = 0 ∧ r3 = 0) := by
  unfold maxLen at _hm
  have hn' : (n : Int) ≠ 32 := by omega
  go_enter Try.func99, Try.ntmps99
  go_wp2_with fail
  refine bodyPost_ret (v := .tuple #[.agg #[.int .u64 0, .int .u64 0, .int .u64 0, .int .u64 0], .int .i64 21]) (by simp [results, Try.results99, go_sem]) rfl ⟨_, _, _, _, _, rfl, ⟨rfl, rfl, rfl, rfl, rfl⟩, ?_⟩
  repeat (first | with_reducible exact Below.refl _ _ | with_reducible refine Below.setCell ?_ (by simp; try omega) _ | with_reducible refine Below.alloc ?_ (by simp; try omega) _)
end Go.Proofs.Ytonjkhhihiigfaa
namespace Go.Proofs.Ytonjkhhihiigfaa
set_option maxRecDepth 100000
open Go.RowKit

def wf (xs : List Int) (pos : Nat) : Nat → Int := fun i => xs.getD (pos + (31 - i)) 0
theorem wf_at (xs : List Int) (pos : Nat) {i : Nat} (hi : i < 32) : xs.getD (pos + i) 0 = wf xs pos (31 - i) := by
  unfold wf
  rw [show 31 - (31 - i) = i by omega]
theorem getD_byte {xs : List Int} (hx : Bytes xs) (i : Nat) : 0 ≤ xs.getD i 0 ∧ xs.getD i 0 < 256 := by
  by_cases h : i < xs.length
  · have e : xs.getD i 0 = xs[i] := by simp [List.getD, h]
    rw [e]
    have := hx _ (List.getElem_mem h)
    omega
  · have e : xs.getD i 0 = 0 := by simp [List.getD, h]
    rw [e]; omega
theorem wf_by {xs : List Int} (hx : Bytes xs) (pos : Nat) : By (wf xs pos) := fun _ _ => getD_byte hx _
/-- The wide number that stands at a place. -/
def w4 (xs : List Int) (pos : Nat) : W4 := ⟨pd (wf xs pos) 0 8, pd (wf xs pos) 8 8, pd (wf xs pos) 16 8, pd (wf xs pos) 24 8⟩
theorem w4_ok {xs : List Int} (hx : Bytes xs) (pos : Nat) : D4 (w4 xs pos).a (w4 xs pos).b (w4 xs pos).c (w4 xs pos).d := by
  have e : (256 : Int) ^ 8 = B := by decide
  refine ⟨?_, ?_, ?_, ?_⟩
  · have := pd_bd (wf_by hx pos) 0 8 (by omega); rw [e] at this; exact this
  · have := pd_bd (wf_by hx pos) 8 8 (by omega); rw [e] at this; exact this
  · have := pd_bd (wf_by hx pos) 16 8 (by omega); rw [e] at this; exact this
  · have := pd_bd (wf_by hx pos) 24 8 (by omega); rw [e] at this; exact this
def w4v (x : W4) : Value := .agg #[.int .u64 x.a, .int .u64 x.b, .int .u64 x.c, .int .u64 x.d]

set_option maxHeartbeats 2000000 in
theorem RWide_any {w : World} {p : Nat} {v : Value} {xs : List Int} {pos : Nat} (h : RrV w p v xs pos) (hx : Bytes xs) (hf : pos + 32 ≤ xs.length) :
    Calls Try.prog 96 #[.pointer (some ⟨p, 0, none⟩)] w fun e w' => e = .returned (w4v (w4 xs pos)) ∧ RrV w' p v xs (pos + 32) ∧ Chg w w' [p] := by
  have hb0 : Below w.heap.size w (w.alloc (.cells #[.int .u64 0, .int .u64 0, .int .u64 0, .int .u64 0] 49)) := (Below.refl _ _).alloc (Nat.le_refl _) _
  have B0 := Lib.hid hb0
  have R0 := Lib.hid (heap_alloc_new w (.cells #[.int .u64 0, .int .u64 0, .int .u64 0, .int .u64 0] 49))
  have H := Lib.hid (h.on hb0)
  have hpl := h.lt
  have hlen := h.len
  have HV : Hid (∀ g, v.ownBlock = some g → g < w.heap.size) := fun g hg => own_lt h.own hg
  have HG : Hid (∀ i, i < 32 → xs.getD (pos + i) 0 = wf xs pos (31 - i)) := fun i hi => wf_at xs pos hi
  have HBY := Lib.hid (wf_by hx pos)
  have P0 := Lib.hid (show pd (wf xs pos) 0 8 = (w4 xs pos).a from rfl)
  have P1 := Lib.hid (show pd (wf xs pos) 8 8 = (w4 xs pos).b from rfl)
  have P2 := Lib.hid (show pd (wf xs pos) 16 8 = (w4 xs pos).c from rfl)
  have P3 := Lib.hid (show pd (wf xs pos) 24 8 = (w4 xs pos).d from rfl)
  unfold w4v
  obtain ⟨x, hx4⟩ : ∃ x, w4 xs pos = x := ⟨_, rfl⟩
  rw [hx4] at P0 P1 P2 P3 ⊢
  obtain ⟨ff, hff⟩ : ∃ ff, wf xs pos = ff := ⟨_, rfl⟩
  rw [hff] at P0 P1 P2 P3 HG HBY
  clear h hb0 hx hx4 hff
  go_enter Try.func96, Try.ntmps96
  go_wp2_with fail
  refine (ready_ok H.out).mono ?_
  rintro e w1 ⟨rfl, rfl⟩
  generalize hW0 : w.alloc (.cells #[.int .u64 0, .int .u64 0, .int .u64 0, .int .u64 0] 49) = W0 at *
  have hs0 : W0.heap.size = w.heap.size + 1 := by rw [← hW0]; simp
  clear hW0
  go_wp2_with fail
  refine (look_ok H.out (n := 32) (by omega) hf).mono ?_
  rintro e w2 ⟨b, off, c, m, rfl, hvb, hc8, hcell, rfl⟩
  have H1 := Lib.hid (H.out.drewN m)
  obtain ⟨-, -, c2, -, f2, -⟩ := H1.out.cells
  have hbp : b ≠ p := fun e => H.out.ne (by rw [hvb, e])
  have HP : Hid (RrV ((W0.drewN m).setCell ⟨p, 2, none⟩ (.int .i64 ((pos : Int) + 32))) p v xs (pos + 32)) := by
    have := H1.out.pass (q := pos + 32) hf
    rw [show ((pos + 32 : Nat) : Int) = (pos : Int) + 32 by push_cast; rfl] at this
    exact this
  have HC : Hid (Chg w ((W0.drewN m).setCell ⟨p, 2, none⟩ (.int .i64 ((pos : Int) + 32))) [p]) :=
    ((Chg.below B0.out (Nat.le_refl _) [p]).trans (show Chg W0 (W0.drewN m) [p] from ⟨rfl, rfl, rfl, Nat.le_refl _, fun _ _ _ => rfl⟩) (fun x hx _ => hx)).setCell (.inl (by simp)) _
  have HCe : Hid (∀ i, i < 32 → ((W0.drewN m).setCell ⟨p, 2, none⟩ (.int .i64 ((pos : Int) + 32))).cell? ⟨b, off + i, none⟩ = some (.int .u8 (ff (31 - i)))) := fun i hi => by
    rw [World.cell?_of_block (w := W0.drewN m) (Below.heap_setCell _ _ _ _ hbp), ← HG.out i hi]
    exact hcell i hi
  have R1 : Hid (((W0.drewN m).setCell ⟨p, 2, none⟩ (.int .i64 ((pos : Int) + 32))).heap[w.heap.size]? = some (.cells #[.int .u64 0, .int .u64 0, .int .u64 0, .int .u64 0] 49 (0, 0))) := by
    show _ = _
    rw [Below.heap_setCell _ _ _ _ (by show w.heap.size ≠ p; omega)]; exact R0.out
  have hblt : b < ((W0.drewN m).setCell ⟨p, 2, none⟩ (.int .i64 ((pos : Int) + 32))).heap.size := lt_of_cell (HCe.out 0 (by omega))
  clear hcell H1 H B0 R0 HG hvb
  go_wp2_with fail
  generalize (W0.drewN m).setCell ⟨p, 2, none⟩ (.int .i64 ((pos : Int) + 32)) = W at *
  refine (From_any (f := ff) HBY.out W b off c hblt HCe.out).mono ?_
  rintro e w3 ⟨_, _, _, _, _, rfl, ⟨rfl, rfl, rfl, rfl, rfl⟩, hb3⟩
  rw [P0.out, P1.out, P2.out, P3.out]
  have R3 := R1.out
  rw [← hb3.block _ (lt_of_block R3)] at R3
  have HP3 := Lib.hid (HP.out.on hb3)
  have HC3 := Lib.hid (HC.out.trans (Chg.below hb3 (Nat.le_refl _) [p]) (fun x hx _ => hx))
  have hlt3 := lt_of_block R3
  have c0 : w3.cell? ⟨w.heap.size, 0, none⟩ = some (.int .u64 0) := Joins.cell_of_block R3 0
  have c1 : w3.cell? ⟨w.heap.size, 1, none⟩ = some (.int .u64 0) := Joins.cell_of_block R3 1
  have c2 : w3.cell? ⟨w.heap.size, 2, none⟩ = some (.int .u64 0) := Joins.cell_of_block R3 2
  have c3 : w3.cell? ⟨w.heap.size, 3, none⟩ = some (.int .u64 0) := Joins.cell_of_block R3 3
  have f0 := Joins.unfrozen_of_block R3 0
  have f1 := Joins.unfrozen_of_block R3 1
  have f2' := Joins.unfrozen_of_block R3 2
  have f3 := Joins.unfrozen_of_block R3 3
  have hne : w.heap.size ≠ w3.heap.size := by omega
  have hpn : p ≠ w.heap.size := by omega
  clear HP HC R1 HCe hb3 R3
  go_wp2_with fail
  have X1 : Chg w3 (((((w3.setCell ⟨w.heap.size, 0, none⟩ (.int .u64 x.a)).setCell ⟨w.heap.size, 1, none⟩ (.int .u64 x.b)).setCell ⟨w.heap.size, 2, none⟩ (.int .u64 x.c)).setCell ⟨w.heap.size, 3, none⟩ (.int .u64 x.d)).alloc (.cells #[.int .u64 x.a, .int .u64 x.b, .int .u64 x.c, .int .u64 x.d] 49)) [w.heap.size] :=
    (((((Chg.refl w3 [w.heap.size]).setCell (p := ⟨w.heap.size, 0, none⟩) (.inl (by simp)) _).setCell (p := ⟨w.heap.size, 1, none⟩) (.inl (by simp)) _).setCell (p := ⟨w.heap.size, 2, none⟩) (.inl (by simp)) _).setCell (p := ⟨w.heap.size, 3, none⟩) (.inl (by simp)) _).trans (Chg.below ((Below.refl _ _).alloc (Nat.le_refl _) _) (Nat.le_refl _) [w.heap.size]) (fun x hx _ => hx)
  have hsz : ((((w3.setCell ⟨w.heap.size, 0, none⟩ (.int .u64 x.a)).setCell ⟨w.heap.size, 1, none⟩ (.int .u64 x.b)).setCell ⟨w.heap.size, 2, none⟩ (.int .u64 x.c)).setCell ⟨w.heap.size, 3, none⟩ (.int .u64 x.d)).heap.size = w3.heap.size := by simp only [size_setCell]
  refine bodyPost_ret (v := .agg #[.int .u64 x.a, .int .u64 x.b, .int .u64 x.c, .int .u64 x.d]) (by simp [results, Try.results96, go_sem, c0, c1, c2, c3, hlt3, hsz]) rfl ⟨rfl, HP3.out.chg X1 (by simpa using hpn) (fun g hg hm => by have := HV.out g hg; simp at hm; omega), HC3.out.trans X1 (fun y hy hl => by simp at hy; omega)⟩


theorem DrF.chg {w w' : World} {p : Nat} (h : DrF w p) {K : List Nat} (hc : Chg w w' K) (hp : p ∉ K) : DrF w' p := by
  have hl := h.lt
  unfold DrF at h ⊢
  rw [hc.block p hl hp]; exact h

set_option maxHeartbeats 2000000 in
theorem rdWide_any {w : World} {p : Nat} {v : Value} {xs : List Int} {pos : Nat} (h : DrV w p v xs pos) (hx : Bytes xs) (hf : pos + 32 ≤ xs.length) :
    Calls Try.prog 48 #[.pointer (some ⟨p, 0, none⟩)] w fun e w' => e = .returned (w4v (w4 xs pos)) ∧ DrV w' p v xs (pos + 32) ∧ Chg w w' [p] := by
  have hb0 : Below w.heap.size w (w.alloc (.cells #[.int .u64 0, .int .u64 0, .int .u64 0, .int .u64 0] 49)) := (Below.refl _ _).alloc (Nat.le_refl _) _
  have R0 := Lib.hid (heap_alloc_new w (.cells #[.int .u64 0, .int .u64 0, .int .u64 0, .int .u64 0] 49))
  have KT := Lib.hid (rdTake_ok (h.on hb0) (n := 32) (by omega) (by omega) hf)
  have hpl := h.lt
  have HV : Hid (∀ g, v.ownBlock = some g → g < w.heap.size) := fun g hg => own_lt h.own hg
  have lT : ((xs.drop pos).take 32).length = 32 := by simp; omega
  have HG : Hid (∀ i, i < 32 → ((xs.drop pos).take 32).getD i 0 = wf xs pos (31 - i)) := fun i hi => by
    rw [← wf_at xs pos hi]; simp [List.getD, hi]
  have HBY := Lib.hid (wf_by hx pos)
  have C0 : Hid (Chg w (w.alloc (.cells #[.int .u64 0, .int .u64 0, .int .u64 0, .int .u64 0] 49)) [p]) := Chg.below hb0 (Nat.le_refl _) [p]
  have P0 := Lib.hid (show pd (wf xs pos) 0 8 = (w4 xs pos).a from rfl)
  have P1 := Lib.hid (show pd (wf xs pos) 8 8 = (w4 xs pos).b from rfl)
  have P2 := Lib.hid (show pd (wf xs pos) 16 8 = (w4 xs pos).c from rfl)
  have P3 := Lib.hid (show pd (wf xs pos) 24 8 = (w4 xs pos).d from rfl)
  unfold w4v
  obtain ⟨x, hx4⟩ : ∃ x, w4 xs pos = x := ⟨_, rfl⟩
  rw [hx4] at P0 P1 P2 P3 ⊢
  obtain ⟨ff, hff⟩ : ∃ ff, wf xs pos = ff := ⟨_, rfl⟩
  rw [hff] at P0 P1 P2 P3 HG HBY
  obtain ⟨ys, hys⟩ : ∃ ys, (xs.drop pos).take 32 = ys := ⟨_, rfl⟩
  rw [hys] at KT HG lT
  have LT := Lib.hid lT
  clear h hb0 hx hx4 hff hys lT
  go_enter Try.func48, Try.ntmps48
  go_wp2_with fail
  generalize w.alloc (.cells #[.int .u64 0, .int .u64 0, .int .u64 0, .int .u64 0] 49) = W0 at *
  refine KT.out.mono ?_
  rintro e w1 ⟨q, c, rfl, hR, hD, hC, -⟩
  have R1 := Lib.hid (show w1.heap[w.heap.size]? = some (.cells #[.int .u64 0, .int .u64 0, .int .u64 0, .int .u64 0] 49 (0, 0)) by rw [hC.block _ (Array.getElem?_eq_some_iff.1 R0.out).1 (by simp; omega)]; exact R0.out)
  have D1 := Lib.hid hD
  have C1 : Hid (Chg w w1 [p]) := C0.out.trans hC (fun x hx _ => hx)
  obtain ⟨q', c', e1, hR⟩ := hR
  simp only [Value.slice.injEq] at e1
  obtain ⟨rfl, -, rfl⟩ := e1
  obtain ⟨b, off, rfl, hcell⟩ := hR.resolve_left (fun e => by have := LT.out; rw [e] at this; simp at this)
  have HCe : Hid (∀ i, i < 32 → w1.cell? ⟨b, off + i, none⟩ = some (.int .u8 (ff (31 - i)))) := fun i hi => by
    rw [← HG.out i hi]; exact hcell i (by rw [LT.out]; exact hi)
  have hblt : b < w1.heap.size := lt_of_cell (HCe.out 0 (by omega))
  clear hcell hR hD hC KT HG R0 C0
  go_wp2_with fail
  refine (refFrom_any (f := ff) HBY.out w1 b off c hblt HCe.out).mono ?_
  rintro e w3 ⟨_, _, _, _, _, rfl, ⟨rfl, rfl, rfl, rfl, rfl⟩, hb3⟩
  rw [P0.out, P1.out, P2.out, P3.out]
  have R3 := R1.out
  rw [← hb3.block _ (lt_of_block R3)] at R3
  have HP3 := Lib.hid (D1.out.on hb3)
  have HC3 := Lib.hid (C1.out.trans (Chg.below hb3 (Nat.le_refl _) [p]) (fun x hx _ => hx))
  clear HCe hb3 C1 D1 R1
  have hlt3 := lt_of_block R3
  have c0 : w3.cell? ⟨w.heap.size, 0, none⟩ = some (.int .u64 0) := Joins.cell_of_block R3 0
  have c1 : w3.cell? ⟨w.heap.size, 1, none⟩ = some (.int .u64 0) := Joins.cell_of_block R3 1
  have c2 : w3.cell? ⟨w.heap.size, 2, none⟩ = some (.int .u64 0) := Joins.cell_of_block R3 2
  have c3 : w3.cell? ⟨w.heap.size, 3, none⟩ = some (.int .u64 0) := Joins.cell_of_block R3 3
  have f0 := Joins.unfrozen_of_block R3 0
  have f1 := Joins.unfrozen_of_block R3 1
  have f2' := Joins.unfrozen_of_block R3 2
  have f3 := Joins.unfrozen_of_block R3 3
  have hne : w.heap.size ≠ w3.heap.size := by omega
  have hpn : p ≠ w.heap.size := by omega
  clear R3
  go_wp2_with fail
  have X1 : Chg w3 (((((w3.setCell ⟨w.heap.size, 0, none⟩ (.int .u64 x.a)).setCell ⟨w.heap.size, 1, none⟩ (.int .u64 x.b)).setCell ⟨w.heap.size, 2, none⟩ (.int .u64 x.c)).setCell ⟨w.heap.size, 3, none⟩ (.int .u64 x.d)).alloc (.cells #[.int .u64 x.a, .int .u64 x.b, .int .u64 x.c, .int .u64 x.d] 49)) [w.heap.size] :=
    (((((Chg.refl w3 [w.heap.size]).setCell (p := ⟨w.heap.size, 0, none⟩) (.inl (by simp)) _).setCell (p := ⟨w.heap.size, 1, none⟩) (.inl (by simp)) _).setCell (p := ⟨w.heap.size, 2, none⟩) (.inl (by simp)) _).setCell (p := ⟨w.heap.size, 3, none⟩) (.inl (by simp)) _).trans (Chg.below ((Below.refl _ _).alloc (Nat.le_refl _) _) (Nat.le_refl _) [w.heap.size]) (fun x hx _ => hx)
  have hsz : ((((w3.setCell ⟨w.heap.size, 0, none⟩ (.int .u64 x.a)).setCell ⟨w.heap.size, 1, none⟩ (.int .u64 x.b)).setCell ⟨w.heap.size, 2, none⟩ (.int .u64 x.c)).setCell ⟨w.heap.size, 3, none⟩ (.int .u64 x.d)).heap.size = w3.heap.size := by simp only [size_setCell]
  refine bodyPost_ret (v := .agg #[.int .u64 x.a, .int .u64 x.b, .int .u64 x.c, .int .u64 x.d]) (by simp [results, Try.results48, go_sem, c0, c1, c2, c3, hlt3, hsz]) rfl ⟨rfl, HP3.out.chg X1 (by simpa using hpn) (fun g hg hm => by have := HV.out g hg; simp at hm; omega), HC3.out.trans X1 (fun y hy hl => by simp at hy; omega)⟩

set_option maxHeartbeats 2000000 in
theorem rdWide_no {w : World} {p : Nat} (hp : p < w.heap.size) (h : Calls Try.prog 47 #[.pointer (some ⟨p, 0, none⟩), .int .i64 32] (w.alloc (.cells #[.int .u64 0, .int .u64 0, .int .u64 0, .int .u64 0] 49)) fun e w' => e = .returned (.slice none 0 0) ∧ DrF w' p ∧ Chg (w.alloc (.cells #[.int .u64 0, .int .u64 0, .int .u64 0, .int .u64 0] 49)) w' [p]) :
    Calls Try.prog 48 #[.pointer (some ⟨p, 0, none⟩)] w fun e w' => e = .returned (w4v ⟨0, 0, 0, 0⟩) ∧ DrF w' p ∧ Chg w w' [p] := by
  have hb0 : Below w.heap.size w (w.alloc (.cells #[.int .u64 0, .int .u64 0, .int .u64 0, .int .u64 0] 49)) := (Below.refl _ _).alloc (Nat.le_refl _) _
  have R0 := Lib.hid (heap_alloc_new w (.cells #[.int .u64 0, .int .u64 0, .int .u64 0, .int .u64 0] 49))
  have KT := Lib.hid h
  have C0 : Hid (Chg w (w.alloc (.cells #[.int .u64 0, .int .u64 0, .int .u64 0, .int .u64 0] 49)) [p]) := Chg.below hb0 (Nat.le_refl _) [p]
  unfold w4v
  clear h hb0
  go_enter Try.func48, Try.ntmps48
  go_wp2_with fail
  generalize w.alloc (.cells #[.int .u64 0, .int .u64 0, .int .u64 0, .int .u64 0] 49) = W0 at *
  refine KT.out.mono ?_
  rintro e w1 ⟨rfl, hD, hC⟩
  have R1 := Lib.hid (show w1.heap[w.heap.size]? = some (.cells #[.int .u64 0, .int .u64 0, .int .u64 0, .int .u64 0] 49 (0, 0)) by rw [hC.block _ (Array.getElem?_eq_some_iff.1 R0.out).1 (by simp; omega)]; exact R0.out)
  have D1 := Lib.hid hD
  have C1 : Hid (Chg w w1 [p]) := C0.out.trans hC (fun x hx _ => hx)
  clear hD hC KT R0 C0
  go_wp2_with fail
  refine (refFrom_no w1 none 0 0 (by omega) (by unfold maxLen; omega)).mono ?_
  rintro e w3 ⟨_, _, _, _, _, rfl, ⟨rfl, rfl, rfl, rfl, rfl⟩, hb3⟩
  have R3 := R1.out
  rw [← hb3.block _ (lt_of_block R3)] at R3
  have HP3 := Lib.hid (D1.out.on hb3)
  have HC3 := Lib.hid (C1.out.trans (Chg.below hb3 (Nat.le_refl _) [p]) (fun x hx _ => hx))
  clear hb3 C1 D1 R1
  have hlt3 := lt_of_block R3
  have c0 : w3.cell? ⟨w.heap.size, 0, none⟩ = some (.int .u64 0) := Joins.cell_of_block R3 0
  have c1 : w3.cell? ⟨w.heap.size, 1, none⟩ = some (.int .u64 0) := Joins.cell_of_block R3 1
  have c2 : w3.cell? ⟨w.heap.size, 2, none⟩ = some (.int .u64 0) := Joins.cell_of_block R3 2
  have c3 : w3.cell? ⟨w.heap.size, 3, none⟩ = some (.int .u64 0) := Joins.cell_of_block R3 3
  have f0 := Joins.unfrozen_of_block R3 0
  have f1 := Joins.unfrozen_of_block R3 1
  have f2' := Joins.unfrozen_of_block R3 2
  have f3 := Joins.unfrozen_of_block R3 3
  have hne : w.heap.size ≠ w3.heap.size := by omega
  have hpn : p ≠ w.heap.size := by omega
  clear R3
  go_wp2_with fail
  have X1 : Chg w3 (((((w3.setCell ⟨w.heap.size, 0, none⟩ (.int .u64 0)).setCell ⟨w.heap.size, 1, none⟩ (.int .u64 0)).setCell ⟨w.heap.size, 2, none⟩ (.int .u64 0)).setCell ⟨w.heap.size, 3, none⟩ (.int .u64 0)).alloc (.cells #[.int .u64 0, .int .u64 0, .int .u64 0, .int .u64 0] 49)) [w.heap.size] :=
    (((((Chg.refl w3 [w.heap.size]).setCell (p := ⟨w.heap.size, 0, none⟩) (.inl (by simp)) _).setCell (p := ⟨w.heap.size, 1, none⟩) (.inl (by simp)) _).setCell (p := ⟨w.heap.size, 2, none⟩) (.inl (by simp)) _).setCell (p := ⟨w.heap.size, 3, none⟩) (.inl (by simp)) _).trans (Chg.below ((Below.refl _ _).alloc (Nat.le_refl _) _) (Nat.le_refl _) [w.heap.size]) (fun x hx _ => hx)
  have hsz : ((((w3.setCell ⟨w.heap.size, 0, none⟩ (.int .u64 0)).setCell ⟨w.heap.size, 1, none⟩ (.int .u64 0)).setCell ⟨w.heap.size, 2, none⟩ (.int .u64 0)).setCell ⟨w.heap.size, 3, none⟩ (.int .u64 0)).heap.size = w3.heap.size := by simp only [size_setCell]
  refine bodyPost_ret (v := .agg #[.int .u64 0, .int .u64 0, .int .u64 0, .int .u64 0]) (by simp [results, Try.results48, go_sem, c0, c1, c2, c3, hlt3, hsz]) rfl ⟨rfl, DrF.chg HP3.out X1 (by simpa using hpn), HC3.out.trans X1 (fun y hy hl => by simp at hy; omega)⟩

theorem rdWide_bad {w : World} {p : Nat} (h : DrF w p) :
    Calls Try.prog 48 #[.pointer (some ⟨p, 0, none⟩)] w fun e w' => e = .returned (w4v ⟨0, 0, 0, 0⟩) ∧ DrF w' p ∧ Chg w w' [p] :=
  rdWide_no h.lt ((rdTake_bad (h.on ((Below.refl _ _).alloc (Nat.le_refl _) _))).mono (by
    rintro e w' ⟨rfl, rfl⟩
    exact ⟨rfl, h.on ((Below.refl _ _).alloc (Nat.le_refl _) _), Chg.refl _ _⟩))
theorem rdWide_end {w : World} {p : Nat} {v : Value} {xs : List Int} {pos : Nat} (h : DrV w p v xs pos) (hf : xs.length < pos + 32) :
    Calls Try.prog 48 #[.pointer (some ⟨p, 0, none⟩)] w fun e w' => e = .returned (w4v ⟨0, 0, 0, 0⟩) ∧ DrF w' p ∧ Chg w w' [p] :=
  rdWide_no h.lt (rdTake_end (h.on ((Below.refl _ _).alloc (Nat.le_refl _) _)) (n := 32) (by omega) hf)

set_option maxHeartbeats 2000000 in
theorem rdBlob_bad {w : World} {p : Nat} (h : DrF w p) :
    Calls Try.prog 49 #[.pointer (some ⟨p, 0, none⟩)] w fun e w' => e = .returned (.slice none 0 0) ∧ DrF w' p ∧ Chg w w' [p] := by
  have H := Lib.hid h
  have c1 : ∃ z, w.cell? ⟨p, 1, none⟩ = some (.int .i64 z) := by obtain ⟨v, pos, f, h1, h2⟩ := h; exact ⟨_, (Joins.cell_of_block h2 1).trans rfl⟩
  obtain ⟨z1, c1⟩ := c1
  clear h
  go_enter Try.func49, Try.ntmps49
  go_wp2_with fail
  refine (rdUint_bad H.out).mono ?_
  rintro e w1 ⟨rfl, hF, hC⟩
  have HF := Lib.hid hF
  have HC := Lib.hid hC
  obtain ⟨v1, pos1, f, h1, h2⟩ := hF
  have c2 := (Joins.cell_of_block h2 2).trans (rfl : _ = some _)
  have d0 : (f == 0) = false := by simpa using h1
  have d1 : (f != 0) = true := by simpa using h1
  clear h2 h1 hC
  go_wp2_with fail
  go_ret
  exact ⟨rfl, HF.out, HC.out⟩

set_option maxHeartbeats 2000000 in
theorem rdBlob_end {w : World} {p : Nat} {v : Value} {xs : List Int} {pos : Nat} (h : DrV w p v xs pos) (hf : xs.length < pos + 8) :
    Calls Try.prog 49 #[.pointer (some ⟨p, 0, none⟩)] w fun e w' => e = .returned (.slice none 0 0) ∧ DrF w' p ∧ Chg w w' [p] := by
  have H := Lib.hid h
  have c1 : ∃ z, w.cell? ⟨p, 1, none⟩ = some (.int .i64 z) := ⟨_, (Joins.cell_of_block h.blk 1).trans rfl⟩
  obtain ⟨z1, c1⟩ := c1
  clear h
  go_enter Try.func49, Try.ntmps49
  go_wp2_with fail
  refine (rdUint_end H.out hf).mono ?_
  rintro e w1 ⟨rfl, hF, hC⟩
  have HF := Lib.hid hF
  have HC := Lib.hid hC
  obtain ⟨v1, pos1, f, h1, h2⟩ := hF
  have c2 := (Joins.cell_of_block h2 2).trans (rfl : _ = some _)
  have d0 : (f == 0) = false := by simpa using h1
  have d1 : (f != 0) = true := by simpa using h1
  clear h2 h1 hC
  go_wp2_with fail
  go_ret
  exact ⟨rfl, HF.out, HC.out⟩

set_option maxHeartbeats 2000000 in
theorem rdBlob_big {w : World} {p : Nat} {v : Value} {xs : List Int} {pos : Nat} (h : DrV w p v xs pos) (hx : Bytes xs) (hf : pos + 8 ≤ xs.length) (hz : 65536 < num ((xs.drop pos).take 8)) :
    Calls Try.prog 49 #[.pointer (some ⟨p, 0, none⟩)] w fun e w' => e = .returned (.slice none 0 0) ∧ DrF w' p ∧ Chg w w' [p] := by
  have H := Lib.hid h
  have HX := Lib.hid hx
  have c1 := (Joins.cell_of_block h.blk 1).trans (rfl : _ = some _)
  clear h hx
  go_enter Try.func49, Try.ntmps49
  go_wp2_with fail
  refine (rdUint_ok H.out HX.out hf).mono ?_
  rintro e w1 ⟨rfl, hD, hC⟩
  have c1 := (Joins.cell_of_block hD.blk 1).trans (rfl : _ = some _)
  have c2 := (Joins.cell_of_block hD.blk 2).trans (rfl : _ = some _)
  have f1 := Joins.unfrozen_of_block hD.blk 1
  have f2 := Joins.unfrozen_of_block hD.blk 2
  have HF : Hid (DrF ((w1.setCell ⟨p, 2, none⟩ (.int .i64 21)).setCell ⟨p, 1, none⟩ (.int .i64 (pos : Int))) p) := ⟨v, pos, 21, by decide, by rw [Joins.block_setCell (i := 1) (Joins.block_setCell (i := 2) hD.blk _)]; rfl⟩
  have HC : Hid (Chg w ((w1.setCell ⟨p, 2, none⟩ (.int .i64 21)).setCell ⟨p, 1, none⟩ (.int .i64 (pos : Int))) [p]) := (hC.setCell (p := ⟨p, 2, none⟩) (.inl (by simp)) _).setCell (p := ⟨p, 1, none⟩) (.inl (by simp)) _
  generalize num ((xs.drop pos).take 8) = z at *
  clear H hD hC
  go_wp2_with fail
  go_ret
  exact ⟨rfl, HF.out, HC.out⟩

set_option maxHeartbeats 2000000 in
theorem rdBlob_short {w : World} {p : Nat} {v : Value} {xs : List Int} {pos : Nat} (h : DrV w p v xs pos) (hx : Bytes xs) (hf : pos + 8 ≤ xs.length) {z : Nat} (hz : num ((xs.drop pos).take 8) = z) (hzm : z ≤ 65536) (hs : xs.length < pos + (8 + z)) :
    Calls Try.prog 49 #[.pointer (some ⟨p, 0, none⟩)] w fun e w' => e = .returned (.slice none 0 0) ∧ DrF w' p ∧ Chg w w' [p] := by
  have hzI : ¬ (65536 : Int) < (z : Int) := by omega
  have u0 : IntKind.i64.wrap (z : Int) = (z : Int) := IntWalk.i64_in _ (by omega)
  have H := Lib.hid h
  have HX := Lib.hid hx
  have c1 := (Joins.cell_of_block h.blk 1).trans (rfl : _ = some _)
  clear h hx
  go_enter Try.func49, Try.ntmps49
  go_wp2_with fail
  refine (rdUint_ok H.out HX.out hf).mono ?_
  rintro e w1 ⟨rfl, hD, hC⟩
  rw [hz]
  have c1 := (Joins.cell_of_block hD.blk 1).trans (rfl : _ = some _)
  have c2 := (Joins.cell_of_block hD.blk 2).trans (rfl : _ = some _)
  have H1 := Lib.hid hD
  have C1 := Lib.hid hC
  clear hz hD hC
  go_wp2_with fail
  refine (rdTake_end H1.out (n := z) (by omega) (by omega)).mono ?_
  rintro e w2 ⟨rfl, hF, hC2⟩
  have hFF := hF
  obtain ⟨v1, pos1, f, h1, h2⟩ := hFF
  have c1 := (Joins.cell_of_block h2 1).trans (rfl : _ = some _)
  have c2 := (Joins.cell_of_block h2 2).trans (rfl : _ = some _)
  have f1 := Joins.unfrozen_of_block h2 1
  have d1 : (f != 0) = true := by simpa using h1
  have d0 : (f == 0) = false := by simpa using h1
  have HF : Hid (DrF (w2.setCell ⟨p, 1, none⟩ (.int .i64 (pos : Int))) p) := ⟨v1, pos, f, h1, by rw [Joins.block_setCell (i := 1) h2]; rfl⟩
  have HC : Hid (Chg w (w2.setCell ⟨p, 1, none⟩ (.int .i64 (pos : Int))) [p]) := (C1.out.trans hC2 (fun x hx _ => hx)).setCell (p := ⟨p, 1, none⟩) (.inl (by simp)) _
  clear h1 h2 hF hC2
  go_wp2_with fail
  go_ret
  exact ⟨rfl, HF.out, HC.out⟩

set_option maxHeartbeats 2000000 in
theorem rdBlob_ok {w : World} {p : Nat} {v : Value} {xs : List Int} {pos : Nat} (h : DrV w p v xs pos) (hx : Bytes xs) (hf : pos + 8 ≤ xs.length) {z : Nat} (hz : num ((xs.drop pos).take 8) = z) (hzm : z ≤ 65536) (hs : pos + 8 + z ≤ xs.length) :
    Calls Try.prog 49 #[.pointer (some ⟨p, 0, none⟩)] w fun e w' => ∃ q c, e = .returned (.slice q z c) ∧ Rd w' (.slice q z c) ((xs.drop (pos + 8)).take z) ∧ DrV w' p v xs (pos + 8 + z) ∧ Chg w w' [p] ∧ ∀ a, q = some a → w.heap.size ≤ a.block := by
  have hzI : ¬ (65536 : Int) < (z : Int) := by omega
  have u0 : IntKind.i64.wrap (z : Int) = (z : Int) := IntWalk.i64_in _ (by omega)
  have H := Lib.hid h
  have HX := Lib.hid hx
  have c1 := (Joins.cell_of_block h.blk 1).trans (rfl : _ = some _)
  clear h hx
  go_enter Try.func49, Try.ntmps49
  go_wp2_with fail
  refine (rdUint_ok H.out HX.out hf).mono ?_
  rintro e w1 ⟨rfl, hD, hC⟩
  rw [hz]
  have c1 := (Joins.cell_of_block hD.blk 1).trans (rfl : _ = some _)
  have c2 := (Joins.cell_of_block hD.blk 2).trans (rfl : _ = some _)
  have H1 := Lib.hid hD
  have C1 := Lib.hid hC
  clear hz hD hC
  go_wp2_with fail
  refine (rdTake_any H1.out (n := z) (by omega) (by omega) hs).mono ?_
  rintro e w2 ⟨q, c, rfl, hR, hD2, hC2, hq⟩
  have HR := Lib.hid hR
  have H2 := Lib.hid hD2
  have c2 := (Joins.cell_of_block hD2.blk 2).trans (rfl : _ = some _)
  have HC := Lib.hid (C1.out.trans hC2 (fun x hx _ => hx))
  have HQ : Hid (∀ a, q = some a → w.heap.size ≤ a.block) := fun a ha => Nat.le_trans C1.out.size (hq a ha)
  clear hR hD2 hC2 hq
  go_wp2_with fail
  go_ret
  exact ⟨q, c, rfl, HR.out, H2.out, HC.out, HQ.out⟩
end Go.Proofs.Ytonjkhhihiigfaa
namespace Go.Proofs.Ytonjkhhihiigfaa
set_option maxRecDepth 100000
open Go.RowKit

/-! ### The program -/
/-- A reader's state: f tells whether there was an error. -/
structure RSt (w : World) (p : Nat) (v : Value) (xs : List Int) (pos : Nat) (f : Bool) : Prop where
  ok : f = false → RrV w p v xs pos
  bad : f = true → RrF w p
  lt : p < w.heap.size
theorem RSt.chg {w w' : World} {p : Nat} {v : Value} {xs : List Int} {pos : Nat} {f : Bool} (h : RSt w p v xs pos f) {K : List Nat} (hc : Chg w w' K) (hp : p ∉ K) (hv : ∀ g, v.ownBlock = some g → g ∉ K) : RSt w' p v xs pos f := by
  refine ⟨fun e => (h.ok e).chg hc hp hv, fun e => ?_, by have := hc.size; have := h.lt; omega⟩
  have := h.bad e
  unfold RrF at this ⊢
  rw [hc.block p h.lt hp]; exact this
theorem RSt.on {w w' : World} {p : Nat} {v : Value} {xs : List Int} {pos : Nat} {f : Bool} (h : RSt w p v xs pos f) (hb : Below w.heap.size w w') : RSt w' p v xs pos f := h.chg (K := []) (Chg.below hb (Nat.le_refl _) []) (by simp) (fun _ _ => by simp)
theorem RSt.mk0 {w : World} {p : Nat} {v : Value} {xs : List Int} {pos : Nat} (h : RrV w p v xs pos) : RSt w p v xs pos false := ⟨fun _ => h, fun e => by simp at e, h.lt⟩
theorem RSt.mk1 {w : World} {p : Nat} {v : Value} {xs : List Int} {pos : Nat} (h : RrF w p) : RSt w p v xs pos true := ⟨fun e => by simp at e, fun _ => h, h.lt⟩
theorem Count_st {w : World} {p : Nat} {v : Value} {xs : List Int} {pos most : Nat} {f : Bool} (h : RSt w p v xs pos f) (hx : Bytes xs) (hm : most ≤ 1000000) :
    Calls Try.prog 92 #[.pointer (some ⟨p, 0, none⟩), .int .i64 (most : Int)] w fun e w' => ∃ (z : Nat) (f' : Bool), e = .returned (.int .i64 z) ∧ z ≤ most ∧ RSt w' p v xs (pos + 8) f' ∧ Chg w w' [p] ∧ (f' = false → f = false ∧ pos + 8 ≤ xs.length ∧ num ((xs.drop pos).take 8) = z) ∧ (f' = true → f = true ∨ xs.length < pos + 8 ∨ (most : Int) < num ((xs.drop pos).take 8)) := by
  cases f with
  | true =>
    refine (Count_bad (most := (most : Int)) (h.bad rfl)).mono ?_
    rintro e w' ⟨rfl, h1, h2⟩
    exact ⟨0, true, rfl, Nat.zero_le _, RSt.mk1 h1, h2, fun e => by simp at e, fun _ => .inl rfl⟩
  | false =>
    have h0 := h.ok rfl
    by_cases hf : pos + 8 ≤ xs.length
    · have hb := num_bd (xs := (xs.drop pos).take 8) (fun x hx' => hx x (List.mem_of_mem_drop (List.mem_of_mem_take hx'))) 8 (by simp; omega)
      rw [List.take_of_length_le (l := (xs.drop pos).take 8) (by simp; omega)] at hb
      obtain ⟨z, hz⟩ : ∃ z : Nat, num ((xs.drop pos).take 8) = z := ⟨(num ((xs.drop pos).take 8)).toNat, by omega⟩
      by_cases hzm : z ≤ most
      · refine (Count_ok h0 hx hm hf hz hzm).mono ?_
        rintro e w' ⟨rfl, h1, h2⟩
        exact ⟨z, false, rfl, hzm, RSt.mk0 h1, h2, fun _ => ⟨rfl, hf, hz⟩, fun e => by simp at e⟩
      · refine (Count_big h0 hx hm hf (by rw [hz]; omega)).mono ?_
        rintro e w' ⟨rfl, h1, h2⟩
        exact ⟨0, true, rfl, Nat.zero_le _, RSt.mk1 h1, h2, fun e => by simp at e, fun _ => .inr (.inr (by rw [hz]; omega))⟩
    · refine (Count_end (most := (most : Int)) h0 (by omega)).mono ?_
      rintro e w' ⟨rfl, h1, h2⟩
      exact ⟨0, true, rfl, Nat.zero_le _, RSt.mk1 h1, h2, fun e => by simp at e, fun _ => .inr (.inl (by omega))⟩
theorem Done_st {w : World} {p : Nat} {v : Value} {xs : List Int} {pos : Nat} {f : Bool} (h : RSt w p v xs pos f) :
    Calls Try.prog 66 #[.pointer (some ⟨p, 0, none⟩)] w fun e w' => ∃ (z : Int) (m : Nat), e = .returned (.int .i64 z) ∧ w' = w.drewN m ∧ (z = 0 ↔ f = false ∧ pos = xs.length) := by
  cases f with
  | true =>
    refine (Done_bad (h.bad rfl)).mono ?_
    rintro e w' ⟨z, hz, rfl, rfl⟩
    exact ⟨z, 0, rfl, rfl, ⟨fun e => absurd e hz, fun e => by simp at e⟩⟩
  | false =>
    have h0 := h.ok rfl
    have hle := h0.le
    by_cases hl : pos = xs.length
    · subst hl
      refine (Done_all h0).mono ?_
      rintro e w' ⟨m, rfl, rfl⟩
      exact ⟨0, m, rfl, rfl, by simp⟩
    · refine (Done_left h0 (by omega)).mono ?_
      rintro e w' ⟨m, rfl, rfl⟩
      exact ⟨21, m, rfl, rfl, by constructor <;> intro e <;> omega⟩

/-! ### The document -/
/-- A reader's state: f tells whether there was an error. -/
structure DSt (w : World) (p : Nat) (v : Value) (xs : List Int) (pos : Nat) (f : Bool) : Prop where
  ok : f = false → DrV w p v xs pos
  bad : f = true → DrF w p
  lt : p < w.heap.size
theorem DSt.chg {w w' : World} {p : Nat} {v : Value} {xs : List Int} {pos : Nat} {f : Bool} (h : DSt w p v xs pos f) {K : List Nat} (hc : Chg w w' K) (hp : p ∉ K) (hv : ∀ g, v.ownBlock = some g → g ∉ K) : DSt w' p v xs pos f := by
  refine ⟨fun e => (h.ok e).chg hc hp hv, fun e => ?_, by have := hc.size; have := h.lt; omega⟩
  have := h.bad e
  unfold DrF at this ⊢
  rw [hc.block p h.lt hp]; exact this
theorem DSt.on {w w' : World} {p : Nat} {v : Value} {xs : List Int} {pos : Nat} {f : Bool} (h : DSt w p v xs pos f) (hb : Below w.heap.size w w') : DSt w' p v xs pos f := h.chg (K := []) (Chg.below hb (Nat.le_refl _) []) (by simp) (fun _ _ => by simp)
theorem DSt.mk0 {w : World} {p : Nat} {v : Value} {xs : List Int} {pos : Nat} (h : DrV w p v xs pos) : DSt w p v xs pos false := ⟨fun _ => h, fun e => by simp at e, h.lt⟩
theorem DSt.mk1 {w : World} {p : Nat} {v : Value} {xs : List Int} {pos : Nat} (h : DrF w p) : DSt w p v xs pos true := ⟨fun e => by simp at e, fun _ => h, h.lt⟩
theorem rdCount_st {w : World} {p : Nat} {v : Value} {xs : List Int} {pos most : Nat} {f : Bool} (h : DSt w p v xs pos f) (hx : Bytes xs) (hm : most ≤ 1000000) :
    Calls Try.prog 35 #[.pointer (some ⟨p, 0, none⟩), .int .i64 (most : Int)] w fun e w' => ∃ (z : Nat) (f' : Bool), e = .returned (.int .i64 z) ∧ z ≤ most ∧ DSt w' p v xs (pos + 8) f' ∧ Chg w w' [p] ∧ (f' = false → f = false ∧ pos + 8 ≤ xs.length ∧ num ((xs.drop pos).take 8) = z) ∧ (f' = true → f = true ∨ xs.length < pos + 8 ∨ (most : Int) < num ((xs.drop pos).take 8)) := by
  cases f with
  | true =>
    refine (rdCount_bad (most := (most : Int)) (h.bad rfl)).mono ?_
    rintro e w' ⟨rfl, h1, h2⟩
    exact ⟨0, true, rfl, Nat.zero_le _, DSt.mk1 h1, h2, fun e => by simp at e, fun _ => .inl rfl⟩
  | false =>
    have h0 := h.ok rfl
    by_cases hf : pos + 8 ≤ xs.length
    · have hb := num_bd (xs := (xs.drop pos).take 8) (fun x hx' => hx x (List.mem_of_mem_drop (List.mem_of_mem_take hx'))) 8 (by simp; omega)
      rw [List.take_of_length_le (l := (xs.drop pos).take 8) (by simp; omega)] at hb
      obtain ⟨z, hz⟩ : ∃ z : Nat, num ((xs.drop pos).take 8) = z := ⟨(num ((xs.drop pos).take 8)).toNat, by omega⟩
      by_cases hzm : z ≤ most
      · refine (rdCount_ok h0 hx hm hf hz hzm).mono ?_
        rintro e w' ⟨rfl, h1, h2⟩
        exact ⟨z, false, rfl, hzm, DSt.mk0 h1, h2, fun _ => ⟨rfl, hf, hz⟩, fun e => by simp at e⟩
      · refine (rdCount_big h0 hx hm hf (by rw [hz]; omega)).mono ?_
        rintro e w' ⟨rfl, h1, h2⟩
        exact ⟨0, true, rfl, Nat.zero_le _, DSt.mk1 h1, h2, fun e => by simp at e, fun _ => .inr (.inr (by rw [hz]; omega))⟩
    · refine (rdCount_end (most := (most : Int)) h0 (by omega)).mono ?_
      rintro e w' ⟨rfl, h1, h2⟩
      exact ⟨0, true, rfl, Nat.zero_le _, DSt.mk1 h1, h2, fun e => by simp at e, fun _ => .inr (.inl (by omega))⟩
theorem rdDone_st {w : World} {p : Nat} {v : Value} {xs : List Int} {pos : Nat} {f : Bool} (h : DSt w p v xs pos f) :
    Calls Try.prog 37 #[.pointer (some ⟨p, 0, none⟩)] w fun e w' => ∃ (z : Int) (m : Nat), e = .returned (.int .i64 z) ∧ w' = w.drewN m ∧ (z = 0 ↔ f = false ∧ pos = xs.length) := by
  cases f with
  | true =>
    refine (rdDone_bad (h.bad rfl)).mono ?_
    rintro e w' ⟨z, hz, rfl, rfl⟩
    exact ⟨z, 0, rfl, rfl, ⟨fun e => absurd e hz, fun e => by simp at e⟩⟩
  | false =>
    have h0 := h.ok rfl
    have hle := h0.le
    by_cases hl : pos = xs.length
    · subst hl
      refine (rdDone_all h0).mono ?_
      rintro e w' ⟨m, rfl, rfl⟩
      exact ⟨0, m, rfl, rfl, by simp⟩
    · refine (rdDone_left h0 (by omega)).mono ?_
      rintro e w' ⟨m, rfl, rfl⟩
      exact ⟨21, m, rfl, rfl, by constructor <;> intro e <;> omega⟩



section
variable {w w' : World} {p : Nat} {v : Value} {xs : List Int} {pos : Nat} {f : Bool}
theorem RSt.chg2 (h : RSt w p v xs pos f) {K : List Nat} (hc : Chg w w' K) (hp : p ∉ K) (hv : w.ownsRow 0 5 1 v xs.length (bc xs) → ∀ g, v.ownBlock = some g → g ∉ K) : RSt w' p v xs pos f := by
  refine ⟨fun e => (h.ok e).chg hc hp (hv (h.ok e).own), fun e => ?_, by have := hc.size; have := h.lt; omega⟩
  have := h.bad e
  unfold RrF at this ⊢
  rw [hc.block p h.lt hp]; exact this
theorem DSt.chg2 (h : DSt w p v xs pos f) {K : List Nat} (hc : Chg w w' K) (hp : p ∉ K) (hv : w.ownsRow 0 5 1 v xs.length (bc xs) → ∀ g, v.ownBlock = some g → g ∉ K) : DSt w' p v xs pos f := by
  refine ⟨fun e => (h.ok e).chg hc hp (hv (h.ok e).own), fun e => ?_, by have := hc.size; have := h.lt; omega⟩
  have := h.bad e
  unfold DrF at this ⊢
  rw [hc.block p h.lt hp]; exact this
end
/-- The flag behind a number of k bytes, its value; those of a blob. -/
def fU (f : Bool) (xs : List Int) (pos k : Nat) : Bool := f || decide (xs.length < pos + k)
def nAt (xs : List Int) (pos : Nat) : Int := num ((xs.drop pos).take 8)
def uV (f : Bool) (xs : List Int) (pos : Nat) : Int := if f = true then 0 else nAt xs pos
def wV (f : Bool) (xs : List Int) (pos : Nat) : W4 := if f = true then ⟨0, 0, 0, 0⟩ else w4 xs pos
def fB (f : Bool) (xs : List Int) (pos : Nat) : Bool := f || decide (xs.length < pos + 8) || decide (65536 < nAt xs pos) || decide (xs.length < pos + 8 + (nAt xs pos).toNat)
def bD (f : Bool) (xs : List Int) (pos : Nat) : List Int := if f = true then [] else (xs.drop (pos + 8)).take (nAt xs pos).toNat
theorem fU_t (xs : List Int) (pos k : Nat) : fU true xs pos k = true := rfl
theorem fU_end {xs : List Int} {pos k : Nat} (h : xs.length < pos + k) : fU false xs pos k = true := by simp [fU, h]
theorem fU_ok {xs : List Int} {pos k : Nat} (h : pos + k ≤ xs.length) : fU false xs pos k = false := by simp [fU]; omega
theorem nAt_bd {xs : List Int} (hx : Bytes xs) (pos : Nat) : 0 ≤ nAt xs pos ∧ nAt xs pos < 18446744073709551616 := by
  have hb : Bytes ((xs.drop pos).take 8) := fun x hx' => hx x (List.mem_of_mem_drop (List.mem_of_mem_take hx'))
  have h := num_bd hb ((xs.drop pos).take 8).length (Nat.le_refl _)
  rw [List.take_length] at h
  refine ⟨h.1, Int.lt_of_lt_of_le h.2 ?_⟩
  have hl : ((xs.drop pos).take 8).length ≤ 8 := by simp; omega
  generalize ((xs.drop pos).take 8).length = l at hl
  have e : l = 0 ∨ l = 1 ∨ l = 2 ∨ l = 3 ∨ l = 4 ∨ l = 5 ∨ l = 6 ∨ l = 7 ∨ l = 8 := by omega
  rcases e with rfl | rfl | rfl | rfl | rfl | rfl | rfl | rfl | rfl <;> decide
theorem uV_bd {xs : List Int} (hx : Bytes xs) (f : Bool) (pos : Nat) : 0 ≤ uV f xs pos ∧ uV f xs pos < 18446744073709551616 := by
  unfold uV
  split
  · decide
  · exact nAt_bd hx pos
theorem bD_bytes {xs : List Int} (hx : Bytes xs) (f : Bool) (pos : Nat) : Bytes (bD f xs pos) := by
  unfold bD
  split
  · intro x hx; cases hx
  · exact fun x hx' => hx x (List.mem_of_mem_drop (List.mem_of_mem_take hx'))
theorem bD_len (f : Bool) (xs : List Int) (pos : Nat) (_hf : f = fB f xs pos ∨ True) : (bD (fB f xs pos) xs pos).length ≤ 65536 := by
  unfold bD
  split
  · simp
  · rename_i h
    have h2 : ¬ 65536 < nAt xs pos := by
      intro h3; apply h; simp [fB, h3]
    rw [List.length_take]
    omega
theorem be8_num {ys : List Int} (h : Bytes ys) (hl : ys.length = 8) : be8 (num ys) = ys := by
  rcases ys with _ | ⟨a, _ | ⟨b, _ | ⟨c, _ | ⟨d, _ | ⟨e, _ | ⟨f, _ | ⟨g, _ | ⟨k, _ | _⟩⟩⟩⟩⟩⟩⟩⟩ <;> simp at hl
  have ha := h a (by simp)
  have hb := h b (by simp)
  have hc := h c (by simp)
  have hd := h d (by simp)
  have he := h e (by simp)
  have hf := h f (by simp)
  have hg := h g (by simp)
  have hk := h k (by simp)
  clear h hl
  have e1 : num [a, b, c, d, e, f, g, k] = ((((((a * 256 + b) * 256 + c) * 256 + d) * 256 + e) * 256 + f) * 256 + g) * 256 + k := by simp [num]
  rw [e1]
  unfold be8
  congr 1
  · omega
  congr 1
  · omega
  congr 1
  · omega
  congr 1
  · omega
  congr 1
  · omega
  congr 1
  · omega
  congr 1
  · omega
  congr 1
  omega

theorem Uint_st {w : World} {p : Nat} {v : Value} {xs : List Int} {pos : Nat} {f : Bool} (h : RSt w p v xs pos f) (hx : Bytes xs) :
    Calls Try.prog 91 #[.pointer (some ⟨p, 0, none⟩)] w fun e w' => e = .returned (.int .u64 (uV (fU f xs pos 8) xs pos)) ∧ RSt w' p v xs (pos + 8) (fU f xs pos 8) ∧ Chg w w' [p] := by
  cases f with
  | true =>
    rw [fU_t]
    refine (Uint_bad (h.bad rfl)).mono ?_
    rintro e w' ⟨rfl, h1, h2⟩
    exact ⟨rfl, RSt.mk1 h1, h2⟩
  | false =>
    by_cases hf : pos + 8 ≤ xs.length
    · rw [fU_ok hf]
      refine (RUint_ok (h.ok rfl) hx hf (z := nAt xs pos) rfl).mono ?_
      rintro e w' ⟨rfl, h1, h2⟩
      exact ⟨rfl, RSt.mk0 h1, h2⟩
    · rw [fU_end (by omega)]
      refine (Uint_end (h.ok rfl) (by omega)).mono ?_
      rintro e w' ⟨rfl, h1, h2⟩
      exact ⟨rfl, RSt.mk1 h1, h2⟩
theorem Wide_st {w : World} {p : Nat} {v : Value} {xs : List Int} {pos : Nat} {f : Bool} (h : RSt w p v xs pos f) (hx : Bytes xs) :
    Calls Try.prog 96 #[.pointer (some ⟨p, 0, none⟩)] w fun e w' => e = .returned (w4v (wV (fU f xs pos 32) xs pos)) ∧ RSt w' p v xs (pos + 32) (fU f xs pos 32) ∧ Chg w w' [p] := by
  cases f with
  | true =>
    rw [fU_t]
    refine (Wide_bad (h.bad rfl)).mono ?_
    rintro e w' ⟨rfl, h1, h2⟩
    exact ⟨rfl, RSt.mk1 h1, h2⟩
  | false =>
    by_cases hf : pos + 32 ≤ xs.length
    · rw [fU_ok hf]
      refine (RWide_any (h.ok rfl) hx hf).mono ?_
      rintro e w' ⟨rfl, h1, h2⟩
      exact ⟨rfl, RSt.mk0 h1, h2⟩
    · rw [fU_end (by omega)]
      refine (Wide_end (h.ok rfl) (by omega)).mono ?_
      rintro e w' ⟨rfl, h1, h2⟩
      exact ⟨rfl, RSt.mk1 h1, h2⟩
def BlobS (w : World) (p : Nat) (v : Value) (xs : List Int) (pos : Nat) (f : Bool) (e : Ending) (w' : World) : Prop := ∃ q k, e = .returned (.slice q (bD f xs pos).length k) ∧ Rd w' (.slice q (bD f xs pos).length k) (bD f xs pos) ∧ (∀ g, (Value.slice q (bD f xs pos).length k).ownBlock = some g → w.heap.size ≤ g) ∧ RSt w' p v xs (pos + 8 + (bD f xs pos).length) f ∧ Chg w w' [p]
theorem Blob_st {w : World} {p : Nat} {v : Value} {xs : List Int} {pos : Nat} {f : Bool} (h : RSt w p v xs pos f) (hx : Bytes xs) :
    Calls Try.prog 97 #[.pointer (some ⟨p, 0, none⟩)] w (BlobS w p v xs pos (fB f xs pos)) := by
  have NO : ∀ (f' : Bool) (w' : World), f' = true → RrF w' p → Chg w w' [p] → BlobS w p v xs pos f' (.returned (.slice none 0 0)) w' := fun f' w' e h1 h2 => by
    subst e
    exact ⟨none, 0, rfl, Rd.nil w', by simp [Value.ownBlock], RSt.mk1 h1, h2⟩
  cases f with
  | true =>
    refine (Blob_bad (h.bad rfl)).mono ?_
    rintro e w' ⟨rfl, h1, h2⟩
    exact NO _ _ (by simp [fB]) h1 h2
  | false =>
    have h0 := h.ok rfl
    by_cases hf : pos + 8 ≤ xs.length
    · by_cases hb : 65536 < nAt xs pos
      · refine (Blob_big h0 hx hf hb).mono ?_
        rintro e w' ⟨rfl, h1, h2⟩
        exact NO _ _ (by simp [fB, hb]) h1 h2
      · have hn := nAt_bd hx pos
        obtain ⟨z, hz⟩ : ∃ z : Nat, nAt xs pos = z := ⟨(nAt xs pos).toNat, by omega⟩
        have hzt : (nAt xs pos).toNat = z := by omega
        by_cases hs : pos + (8 + z) ≤ xs.length
        · have e1 : fB false xs pos = false := by
            simp only [fB, hzt, Bool.false_or, Bool.or_eq_false_iff, decide_eq_false_iff_not]
            exact ⟨⟨by omega, hb⟩, by omega⟩
          have e2 : bD false xs pos = (xs.drop (pos + 8)).take z := by unfold bD; rw [if_neg (by simp), hzt]
          have l2 : ((xs.drop (pos + 8)).take z).length = z := by rw [List.length_take, List.length_drop]; omega
          rw [e1]
          unfold BlobS
          rw [e2, l2]
          have hd : xs.drop pos = be8 ((xs.drop (pos + 8)).take z).length ++ (xs.drop (pos + 8)).take z ++ xs.drop (pos + 8 + z) := by
            have hb8 : Bytes ((xs.drop pos).take 8) := fun x hx' => hx x (List.mem_of_mem_drop (List.mem_of_mem_take hx'))
            rw [l2, ← hz]
            unfold nAt
            rw [be8_num hb8 (by rw [List.length_take, List.length_drop]; omega), List.append_assoc, show xs.drop (pos + 8) = (xs.drop pos).drop 8 by rw [List.drop_drop], show xs.drop (pos + 8 + z) = ((xs.drop pos).drop 8).drop z by rw [List.drop_drop, List.drop_drop, Nat.add_assoc], List.take_append_drop, List.take_append_drop]
          refine (RBlob_ok h0 hx hd (by rw [l2]; omega)).mono ?_
          rintro e w' ⟨q, c, rfl, h1, h2, h3, h4⟩
          rw [l2] at h1 h2 h4 ⊢
          exact ⟨q, c, rfl, rd_of_row h1, h4, RSt.mk0 h2, h3⟩
        · refine (Blob_short h0 hx hf hz (by omega) (by omega)).mono ?_
          rintro e w' ⟨rfl, h1, h2⟩
          exact NO _ _ (by simp only [fB, hzt, Bool.or_eq_true, decide_eq_true_eq]; exact .inr (by omega)) h1 h2
    · refine (Blob_end h0 (by omega)).mono ?_
      rintro e w' ⟨rfl, h1, h2⟩
      exact NO _ _ (by simp only [fB, Bool.or_eq_true, decide_eq_true_eq]; exact .inl (.inl (.inr (by omega)))) h1 h2

theorem rdUint_st {w : World} {p : Nat} {v : Value} {xs : List Int} {pos : Nat} {f : Bool} (h : DSt w p v xs pos f) (hx : Bytes xs) :
    Calls Try.prog 34 #[.pointer (some ⟨p, 0, none⟩)] w fun e w' => e = .returned (.int .u64 (uV (fU f xs pos 8) xs pos)) ∧ DSt w' p v xs (pos + 8) (fU f xs pos 8) ∧ Chg w w' [p] := by
  cases f with
  | true =>
    rw [fU_t]
    refine (rdUint_bad (h.bad rfl)).mono ?_
    rintro e w' ⟨rfl, h1, h2⟩
    exact ⟨rfl, DSt.mk1 h1, h2⟩
  | false =>
    by_cases hf : pos + 8 ≤ xs.length
    · rw [fU_ok hf]
      refine (rdUint_ok (h.ok rfl) hx hf).mono ?_
      rintro e w' ⟨rfl, h1, h2⟩
      exact ⟨rfl, DSt.mk0 h1, h2⟩
    · rw [fU_end (by omega)]
      refine (rdUint_end (h.ok rfl) (by omega)).mono ?_
      rintro e w' ⟨rfl, h1, h2⟩
      exact ⟨rfl, DSt.mk1 h1, h2⟩
theorem rdWide_st {w : World} {p : Nat} {v : Value} {xs : List Int} {pos : Nat} {f : Bool} (h : DSt w p v xs pos f) (hx : Bytes xs) :
    Calls Try.prog 48 #[.pointer (some ⟨p, 0, none⟩)] w fun e w' => e = .returned (w4v (wV (fU f xs pos 32) xs pos)) ∧ DSt w' p v xs (pos + 32) (fU f xs pos 32) ∧ Chg w w' [p] := by
  cases f with
  | true =>
    rw [fU_t]
    refine (rdWide_bad (h.bad rfl)).mono ?_
    rintro e w' ⟨rfl, h1, h2⟩
    exact ⟨rfl, DSt.mk1 h1, h2⟩
  | false =>
    by_cases hf : pos + 32 ≤ xs.length
    · rw [fU_ok hf]
      refine (rdWide_any (h.ok rfl) hx hf).mono ?_
      rintro e w' ⟨rfl, h1, h2⟩
      exact ⟨rfl, DSt.mk0 h1, h2⟩
    · rw [fU_end (by omega)]
      refine (rdWide_end (h.ok rfl) (by omega)).mono ?_
      rintro e w' ⟨rfl, h1, h2⟩
      exact ⟨rfl, DSt.mk1 h1, h2⟩
def rdBlobS (w : World) (p : Nat) (v : Value) (xs : List Int) (pos : Nat) (f : Bool) (e : Ending) (w' : World) : Prop := ∃ q k, e = .returned (.slice q (bD f xs pos).length k) ∧ Rd w' (.slice q (bD f xs pos).length k) (bD f xs pos) ∧ (∀ g, (Value.slice q (bD f xs pos).length k).ownBlock = some g → w.heap.size ≤ g) ∧ DSt w' p v xs (pos + 8 + (bD f xs pos).length) f ∧ Chg w w' [p]
theorem rdBlob_st {w : World} {p : Nat} {v : Value} {xs : List Int} {pos : Nat} {f : Bool} (h : DSt w p v xs pos f) (hx : Bytes xs) :
    Calls Try.prog 49 #[.pointer (some ⟨p, 0, none⟩)] w (rdBlobS w p v xs pos (fB f xs pos)) := by
  have NO : ∀ (f' : Bool) (w' : World), f' = true → DrF w' p → Chg w w' [p] → rdBlobS w p v xs pos f' (.returned (.slice none 0 0)) w' := fun f' w' e h1 h2 => by
    subst e
    exact ⟨none, 0, rfl, Rd.nil w', by simp [Value.ownBlock], DSt.mk1 h1, h2⟩
  cases f with
  | true =>
    refine (rdBlob_bad (h.bad rfl)).mono ?_
    rintro e w' ⟨rfl, h1, h2⟩
    exact NO _ _ (by simp [fB]) h1 h2
  | false =>
    have h0 := h.ok rfl
    by_cases hf : pos + 8 ≤ xs.length
    · by_cases hb : 65536 < nAt xs pos
      · refine (rdBlob_big h0 hx hf hb).mono ?_
        rintro e w' ⟨rfl, h1, h2⟩
        exact NO _ _ (by simp [fB, hb]) h1 h2
      · have hn := nAt_bd hx pos
        obtain ⟨z, hz⟩ : ∃ z : Nat, nAt xs pos = z := ⟨(nAt xs pos).toNat, by omega⟩
        have hzt : (nAt xs pos).toNat = z := by omega
        by_cases hs : pos + (8 + z) ≤ xs.length
        · have e1 : fB false xs pos = false := by
            simp only [fB, hzt, Bool.false_or, Bool.or_eq_false_iff, decide_eq_false_iff_not]
            exact ⟨⟨by omega, hb⟩, by omega⟩
          have e2 : bD false xs pos = (xs.drop (pos + 8)).take z := by unfold bD; rw [if_neg (by simp), hzt]
          have l2 : ((xs.drop (pos + 8)).take z).length = z := by rw [List.length_take, List.length_drop]; omega
          rw [e1]
          unfold rdBlobS
          rw [e2, l2]
          refine (rdBlob_ok h0 hx hf hz (by omega) (by omega)).mono ?_
          rintro e w' ⟨q, c, rfl, h1, h2, h3, h4⟩
          exact ⟨q, c, rfl, h1, fun g hg => by
            cases q with
            | none => simp [Value.ownBlock] at hg
            | some a =>
              have := h4 a rfl
              simp [Value.ownBlock] at hg
              omega, DSt.mk0 h2, h3⟩
        · refine (rdBlob_short h0 hx hf hz (by omega) (by omega)).mono ?_
          rintro e w' ⟨rfl, h1, h2⟩
          exact NO _ _ (by simp only [fB, hzt, Bool.or_eq_true, decide_eq_true_eq]; exact .inr (by omega)) h1 h2
    · refine (rdBlob_end h0 (by omega)).mono ?_
      rintro e w' ⟨rfl, h1, h2⟩
      exact NO _ _ (by simp only [fB, Bool.or_eq_true, decide_eq_true_eq]; exact .inl (.inl (.inr (by omega)))) h1 h2
end Go.Proofs.Ytonjkhhihiigfaa
