/-
  The walk of package wide: Bytes; bytes and numbers, plain.
-/
import Derived.Test.YtnnlpiflalmmlaaDivNum
namespace Go.Proofs.Ytnnlpiflalmmlaa
open Go.RowKit

/-- Byte j from the lowest. -/
def by_ (N : Int) (j : Nat) : Int := N / 256 ^ j % 256
/-- L bytes, the highest first. -/
def bys (N : Int) (L : Nat) : List Int := (List.range L).map fun i => by_ N (L - 1 - i)

theorem pow256 (j : Nat) : (256 : Int) ^ j = 2 ^ (8 * j) := by
  rw [Int.pow_mul]; rfl

theorem byte_of {x hi : Int} {m : Nat} (hm : m < 8) : (x + B * hi) / 2 ^ (8 * m) % 256 = x / 2 ^ (8 * m) % 256 := by
  obtain ⟨j, hj⟩ : ∃ j, 64 = 8 * m + (j + 8) := ⟨56 - 8 * m, by omega⟩
  have e : B = 2 ^ (8 * m) * (2 ^ j * 256) := by
    rw [show (256 : Int) = 2 ^ 8 from rfl, ← Int.pow_add, ← Int.pow_add, ← hj]; rfl
  rw [e, show x + 2 ^ (8 * m) * (2 ^ j * 256) * hi = x + 2 ^ (8 * m) * (256 * (2 ^ j * hi)) by
    rw [Int.mul_assoc, Int.mul_comm (2 ^ j) 256, Int.mul_assoc]]
  rw [Int.add_mul_ediv_left _ _ (by have := two_pos (8 * m); omega)]
  omega

theorem byte0 {a0 a1 a2 a3 : Int} {m : Nat} (hm : m < 8) : by_ (V a0 a1 a2 a3) m = a0 / 2 ^ (8 * m) % 256 := by
  have e : V a0 a1 a2 a3 = a0 + B * (a1 + B * a2 + B * B * a3) := by unfold V B; omega
  unfold by_
  rw [e, pow256]; exact byte_of hm
theorem byte1 {a0 a1 a2 a3 : Int} (h : D4 a0 a1 a2 a3) {m : Nat} (hm : m < 8) : by_ (V a0 a1 a2 a3) (8 + m) = a1 / 2 ^ (8 * m) % 256 := by
  have e : V a0 a1 a2 a3 = a0 + B * (a1 + B * (a2 + B * a3)) := by unfold V B; omega
  unfold by_
  rw [e, pow256, show 8 * (8 + m) = 64 + 8 * m by omega, shift_of h.1]; exact byte_of hm
theorem byte2 {a0 a1 a2 a3 : Int} (h : D4 a0 a1 a2 a3) {m : Nat} (hm : m < 8) : by_ (V a0 a1 a2 a3) (16 + m) = a2 / 2 ^ (8 * m) % 256 := by
  have e : V a0 a1 a2 a3 = a0 + B * (a1 + B * (a2 + B * a3)) := by unfold V B; omega
  unfold by_
  rw [e, pow256, show 8 * (16 + m) = 64 + (64 + 8 * m) by omega, shift_of h.1, shift_of h.2.1]; exact byte_of hm
theorem byte3 {a0 a1 a2 a3 : Int} (h : D4 a0 a1 a2 a3) {m : Nat} (hm : m < 8) : by_ (V a0 a1 a2 a3) (24 + m) = a3 / 2 ^ (8 * m) % 256 := by
  have e : V a0 a1 a2 a3 = a0 + B * (a1 + B * (a2 + B * (a3 + B * 0))) := by unfold V B; omega
  unfold by_
  rw [e, pow256, show 8 * (24 + m) = 64 + (64 + (64 + 8 * m)) by omega, shift_of h.1, shift_of h.2.1, shift_of h.2.2.1]; exact byte_of hm

/-- What stands in memory while bytes are written: k of them. -/
structure BSt (w wr : World) (a0 a1 a2 a3 : Int) (k : Nat) : Prop where
  below : Below w.heap.size w wr
  A : At4 wr w.heap.size a0 a1 a2 a3
  T : ∃ cs : Array Value, wr.heap[w.heap.size + 1]? = some (.cells cs 5 (0, 0)) ∧ cs.size = 32 ∧ (∀ i, i < 32 → ∃ x : Int, cs[i]? = some (.int .u8 x)) ∧ (∀ j, j < k → cs[31 - j]? = some (.int .u8 (by_ (V a0 a1 a2 a3) j)))

theorem BSt.cell {w wr : World} {a0 a1 a2 a3 : Int} {k : Nat} (h : BSt w wr a0 a1 a2 a3 k) (i : Nat) (hi : i < 32) :
    (∃ x : Int, wr.cell? ⟨w.heap.size + 1, i, none⟩ = some (.int .u8 x)) ∧ wr.frozen? ⟨w.heap.size + 1, i, none⟩ = false := by
  obtain ⟨cs, hb, hs, hx, hd⟩ := h.T
  obtain ⟨x, e⟩ := hx i hi
  exact ⟨⟨x, by rw [Joins.cell_of_block hb, e]⟩, Joins.unfrozen_of_block hb i⟩
theorem BSt.size {w wr : World} {a0 a1 a2 a3 : Int} {k : Nat} (h : BSt w wr a0 a1 a2 a3 k) : w.heap.size + 1 < wr.heap.size := by
  obtain ⟨cs, hb, _⟩ := h.T
  exact lt_of_block hb
theorem BSt.start (w : World) (a0 a1 a2 a3 : Int) :
    BSt w ((w.alloc (.cells #[.int .u64 a0, .int .u64 a1, .int .u64 a2, .int .u64 a3] 24)).alloc (.cells (Array.replicate 32 (.int .u8 0)) 5)) a0 a1 a2 a3 0 := by
  refine ⟨by repeat (first | with_reducible exact Below.refl _ _ | with_reducible refine Below.alloc ?_ (by simp; try omega) _), (At4.new w a0 a1 a2 a3).alloc _, Array.replicate 32 (.int .u8 0), ?_, by simp, ?_, by simp⟩
  · have e := heap_new (w.alloc (.cells #[.int .u64 a0, .int .u64 a1, .int .u64 a2, .int .u64 a3] 24)) (.cells (Array.replicate 32 (.int .u8 0)) 5)
    simpa using e
  · intro i hi; exact ⟨0, by simp [hi]⟩
theorem BSt.store {w wr : World} {a0 a1 a2 a3 : Int} {k : Nat} (h : BSt w wr a0 a1 a2 a3 k) (hk : k < 32) {v : Int} (hv : v = by_ (V a0 a1 a2 a3) k) :
    BSt w (wr.setCell ⟨w.heap.size + 1, 31 - k, none⟩ (.int .u8 v)) a0 a1 a2 a3 (k + 1) := by
  subst hv
  obtain ⟨cs, hb, hs, hx, hd⟩ := h.T
  refine ⟨h.below.setCell (by simp) _, h.A.other (by simp) _, cs.setIfInBounds (31 - k) (.int .u8 (by_ (V a0 a1 a2 a3) k)), Joins.block_setCell hb _, by simp [hs], ?_, ?_⟩
  · intro i hi
    obtain ⟨x, e⟩ := hx i hi
    by_cases e' : 31 - k = i
    · subst e'; exact ⟨_, by rw [Array.getElem?_setIfInBounds_self_of_lt (by omega)]⟩
    · exact ⟨x, by rw [Array.getElem?_setIfInBounds_ne e']; exact e⟩
  · intro j hj
    by_cases e' : j = k
    · subst e'; rw [Array.getElem?_setIfInBounds_self_of_lt (by omega)]
    · rw [Array.getElem?_setIfInBounds_ne (by omega)]; exact hd j (by omega)

/-- Block b holds a number's 32 bytes. -/
def Row32 (w : World) (b : Nat) (N : Int) : Prop := ∃ cs : Array Value, w.heap[b]? = some (.cells cs 5 (0, 0)) ∧ cs.size = 32 ∧ ∀ i, i < 32 → cs[i]? = some (.int .u8 ((bys N 32).getD i 0))
theorem Row32.cell {w : World} {b : Nat} {N : Int} (h : Row32 w b N) (i : Nat) (hi : i < 32) : w.cell? ⟨b, i, none⟩ = some (.int .u8 ((bys N 32).getD i 0)) := by
  obtain ⟨cs, hb, _, hx⟩ := h
  rw [Joins.cell_of_block hb]; exact hx i hi
theorem Row32.lt {w : World} {b : Nat} {N : Int} (h : Row32 w b N) : b < w.heap.size := by
  obtain ⟨cs, hb, _⟩ := h
  exact lt_of_block hb
theorem Row32.on {w w1 : World} {b : Nat} {N : Int} (h : Row32 w b N) (hb : Below w.heap.size w w1) : Row32 w1 b N := by
  have := h.lt
  obtain ⟨cs, h1, h2⟩ := h
  exact ⟨cs, by rw [hb.block _ this]; exact h1, h2⟩
theorem BSt.done {w wr : World} {a0 a1 a2 a3 : Int} (h : BSt w wr a0 a1 a2 a3 32) : Row32 wr (w.heap.size + 1) (V a0 a1 a2 a3) := by
  obtain ⟨cs, hb, hs, hx, hd⟩ := h.T
  refine ⟨cs, hb, hs, fun i hi => ?_⟩
  have e := hd (31 - i) (by omega)
  rw [show 31 - (31 - i) = i by omega] at e
  rw [e]
  simp [bys, List.getD, hi]

theorem make32 (w : World) : (Instr.makeSlice 42 (.int .i64 32) (.int .i64 32)).run Try.prog w = .ok (.slice (some ⟨w.heap.size, 0, none⟩) 32 32) (w.alloc (.cells (Array.replicate 32 (.int .u8 0)) 5)) := by kernel_rfl

/-- A slice of the number's bytes, in new memory. -/
def BytesP (w : World) (N : Int) (e : Ending) (w' : World) : Prop := ∃ b, e = .returned (.slice (some ⟨b, 0, none⟩) 32 32) ∧ w.heap.size ≤ b ∧ Row32 w' b N ∧ Below w.heap.size w w'

set_option maxHeartbeats 2000000 in
theorem Bytes_any {a0 a1 a2 a3 : Int} (ha : D4 a0 a1 a2 a3) (w : World) :
    Calls Try.prog 26 #[.agg #[.int .u64 a0, .int .u64 a1, .int .u64 a2, .int .u64 a3]] w (BytesP w (V a0 a1 a2 a3)) := by
  have HA := Lib.hid ha
  have hmk := make32
  have hst := Lib.hid (BSt.start w a0 a1 a2 a3)
  have nn : 0 ≤ a0 ∧ 0 ≤ a1 ∧ 0 ≤ a2 ∧ 0 ≤ a3 := ⟨ha.1.1, ha.2.1.1, ha.2.2.1.1, ha.2.2.2.1⟩
  obtain ⟨n0, n1, n2, n3⟩ := nn
  clear ha
  go_enter Try.func26, Try.ntmps26
  go_wp2_with fail
  go_loopw [8] (fun iv wr => ∃ k : Nat, iv = .int .i64 k ∧ k ≤ 32 ∧ Hid (BSt w wr a0 a1 a2 a3 k)) (fun iv _ => 32 - (intOf iv).toNat)
  case atStart => exact ⟨0, rfl, by omega, hst⟩
  case round =>
    clear hst hmk
    obtain ⟨k, rfl, hk, hB⟩ := hrel
    by_cases hlt : k < 32
    · obtain ⟨⟨x, cx⟩, fx⟩ := hB.out.cell (31 - k) (by omega)
      obtain ⟨ca0, ca1, ca2, ca3⟩ := hB.out.A.cell
      have hj : k / 8 = 0 ∨ k / 8 = 1 ∨ k / 8 = 2 ∨ k / 8 = 3 := by omega
      obtain ⟨m, hm, hm8⟩ : ∃ m, k % 8 = m ∧ m < 8 := ⟨k % 8, rfl, by omega⟩
      rcases hj with hj | hj | hj | hj
      · have hd : (k : Int) / 8 = 0 := by omega
        have hr : (k : Int) % 8 = (m : Int) := by omega
        have Hk := Lib.hid (show k = m by omega)
        clear hj hm
        go_wp2_with fail
        go_roundw
        case rel => exact ⟨k + 1, by go_num, by omega, hB.out.store hlt (by rw [Nat.mul_comm, Hk.out, byte0 hm8])⟩
        case measure => simp [intOf]; omega
      · have hd : (k : Int) / 8 = 1 := by omega
        have hr : (k : Int) % 8 = (m : Int) := by omega
        have Hk := Lib.hid (show k = 8 + m by omega)
        clear hj hm
        go_wp2_with fail
        go_roundw
        case rel => exact ⟨k + 1, by go_num, by omega, hB.out.store hlt (by rw [Nat.mul_comm, Hk.out, byte1 HA.out hm8])⟩
        case measure => simp [intOf]; omega
      · have hd : (k : Int) / 8 = 2 := by omega
        have hr : (k : Int) % 8 = (m : Int) := by omega
        have Hk := Lib.hid (show k = 16 + m by omega)
        clear hj hm
        go_wp2_with fail
        go_roundw
        case rel => exact ⟨k + 1, by go_num, by omega, hB.out.store hlt (by rw [Nat.mul_comm, Hk.out, byte2 HA.out hm8])⟩
        case measure => simp [intOf]; omega
      · have hd : (k : Int) / 8 = 3 := by omega
        have hr : (k : Int) % 8 = (m : Int) := by omega
        have Hk := Lib.hid (show k = 24 + m by omega)
        clear hj hm
        go_wp2_with fail
        go_roundw
        case rel => exact ⟨k + 1, by go_num, by omega, hB.out.store hlt (by rw [Nat.mul_comm, Hk.out, byte3 HA.out hm8])⟩
        case measure => simp [intOf]; omega
    · obtain rfl : k = 32 := by omega
      go_wp2_with fail
      go_ret
      exact ⟨_, rfl, by omega, hB.out.done, hB.out.below⟩

/-! ### The bytes' text stands as the number does -/

theorem by_lo (N : Int) (j : Nat) : 0 ≤ by_ N j ∧ by_ N j < 256 := by unfold by_; omega

theorem bys_succ (N : Int) (L : Nat) : bys N (L + 1) = by_ N L :: bys N L := by
  unfold bys
  rw [List.range_succ_eq_map, List.map_cons, List.map_map]
  congr 1
  refine List.map_congr_left fun i hi => ?_
  have := List.mem_range.1 hi
  show by_ N (L + 1 - 1 - (i + 1)) = _
  rw [show L + 1 - 1 - (i + 1) = L - 1 - i by omega]

theorem mod_succ (N : Int) (L : Nat) : N % 256 ^ (L + 1) = by_ N L * 256 ^ L + N % 256 ^ L := by
  have p : (0 : Int) < 256 ^ L := Int.pow_pos (by omega)
  unfold by_
  have e1 := Int.emod_add_mul_ediv N (256 ^ L)
  have e2 := Int.emod_add_mul_ediv (N / 256 ^ L) 256
  have l1 := Int.emod_nonneg N (show (256 : Int) ^ L ≠ 0 by omega)
  have l2 := Int.emod_lt_of_pos N p
  generalize N % 256 ^ L = r at *
  generalize N / 256 ^ L = q at *
  have d1 : 0 ≤ q % 256 := by omega
  have d2 : q % 256 < 256 := by omega
  generalize q % 256 = d at *
  generalize q / 256 = h at *
  rw [Int.pow_succ]
  generalize (256 : Int) ^ L = z at *
  have eN : N = (d * z + r) + (z * 256) * h := by
    rw [← e1, ← e2, Int.mul_add, Int.mul_comm z d, Int.mul_assoc z 256 h]
    omega
  rw [eN, Int.add_mul_emod_self_left]
  refine Int.emod_eq_of_lt (by have := Int.mul_nonneg d1 (Int.le_of_lt p); omega) ?_
  have : d * z ≤ 255 * z := Int.mul_le_mul_of_nonneg_right (by omega) (Int.le_of_lt p)
  omega

theorem u8_lt {a b : Int} (ha : 0 ≤ a ∧ a < 256) (hb : 0 ≤ b ∧ b < 256) : (UInt8.ofNat a.toNat < UInt8.ofNat b.toNat) ↔ a < b := by
  rw [UInt8.lt_iff_toNat_lt, UInt8.toNat_ofNat', UInt8.toNat_ofNat']
  omega
theorem u8_eq {a b : Int} (ha : 0 ≤ a ∧ a < 256) (hb : 0 ≤ b ∧ b < 256) : (UInt8.ofNat a.toNat = UInt8.ofNat b.toNat) ↔ a = b := by
  rw [← UInt8.toNat_inj, UInt8.toNat_ofNat', UInt8.toNat_ofNat']
  omega

theorem less_mod (A C : Int) : ∀ L : Nat, Op.bytesLess ((bys A L).map fun n => UInt8.ofNat n.toNat) ((bys C L).map fun n => UInt8.ofNat n.toNat) = decide (A % 256 ^ L < C % 256 ^ L)
  | 0 => by simp [bys, Op.bytesLess, Int.emod_one]
  | L + 1 => by
    rw [bys_succ, bys_succ, List.map_cons, List.map_cons, Op.bytesLess, less_mod A C L, mod_succ A L, mod_succ C L]
    have p : (0 : Int) < 256 ^ L := Int.pow_pos (by omega)
    have a1 := Int.emod_nonneg A (show (256 : Int) ^ L ≠ 0 by omega)
    have a2 := Int.emod_lt_of_pos A p
    have c1 := Int.emod_nonneg C (show (256 : Int) ^ L ≠ 0 by omega)
    have c2 := Int.emod_lt_of_pos C p
    have ba := by_lo A L
    have bc := by_lo C L
    rw [Bool.eq_iff_iff]
    simp only [Bool.or_eq_true, Bool.and_eq_true, decide_eq_true_eq, beq_iff_eq, u8_lt ba bc, u8_eq ba bc]
    generalize A % 256 ^ L = x at *
    generalize C % 256 ^ L = y at *
    generalize by_ A L = s at *
    generalize by_ C L = t at *
    generalize (256 : Int) ^ L = z at *
    constructor
    · rintro (h | ⟨rfl, h⟩)
      · have : (s + 1) * z ≤ t * z := Int.mul_le_mul_of_nonneg_right (by omega) (by omega)
        rw [Int.add_mul] at this
        omega
      · omega
    · intro h
      rcases Int.lt_trichotomy s t with g | g | g
      · exact Or.inl g
      · subst g; exact Or.inr ⟨rfl, by omega⟩
      · have : (t + 1) * z ≤ s * z := Int.mul_le_mul_of_nonneg_right (by omega) (by omega)
        rw [Int.add_mul] at this
        omega

theorem text_less {A C : Int} (ha : 0 ≤ A) (ha' : A < M) (hc : 0 ≤ C) (hc' : C < M) : Op.bytesLess (strOfNums (bys A 32)).toList (strOfNums (bys C 32)).toList = decide (A < C) := by
  have e : M = 256 ^ 32 := rfl
  rw [e] at ha' hc'
  rw [Lib.toList_data, Lib.toList_data, strOfNums_data, strOfNums_data, less_mod, Int.emod_eq_of_lt ha ha', Int.emod_eq_of_lt hc hc']
end Go.Proofs.Ytnnlpiflalmmlaa
