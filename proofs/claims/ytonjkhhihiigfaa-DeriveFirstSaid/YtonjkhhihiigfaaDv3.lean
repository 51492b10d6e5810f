/-
  The walk of package wide: Bytes; bytes and numbers, plain.; The writer's Wide, where there is room.; Cells that make a row.; Rows of one's own, of whatever element; basculelaw02.Parts.; Messages: rows of nine cells; which may be; the law's copies.; The program's reader, with errors.
-/
import Derived.RangeFuncOwn
import Derived.Laws.Cover3
import Derived.Laws.Bits64b
import Derived.Test.YtonjkhhihiigfaaDv1
import Derived.Test.YtonjkhhihiigfaaDv2
namespace Go.Proofs.Ytonjkhhihiigfaa
open Go.RowKit

/-- Byte j from the lowest. -/
def by_ (N : Int) (j : Nat) : Int := N / 256 ^ j % 256
/-- L bytes, the highest first. -/
def bys (N : Int) (L : Nat) : List Int := (List.range L).map fun i => by_ N (L - 1 - i)

theorem pow256 (j : Nat) : (256 : Int) ^ j = 2 ^ (8 * j) := by
  rw [Int.pow_mul]; rfl

theorem byte_of {x hi : Int} {m : Nat} (hm : m < 8) : (x + B * hi) / 2 ^ (8 * m) % 256 = x / 2 ^ (8 * m) % 256 := by
  obtain ⟨j, hj⟩ : ∃ j, 64 = 8 * m + (j + 8) := ⟨56 - 8 * m, by omega⟩
  have e : B = 2 ^ (8 * m) * (2 ^ j * 256) := by
    rw [show (256 : Int) = 2 ^ 8 from rfl, ← Int.pow_add, ← Int.pow_add, ← hj]; rfl
  rw [e, show x + 2 ^ (8 * m) * (2 ^ j * 256) * hi = x + 2 ^ (8 * m) * (256 * (2 ^ j * hi)) by
    rw [Int.mul_assoc, Int.mul_comm (2 ^ j) 256, Int.mul_assoc]]
  rw [Int.add_mul_ediv_left _ _ (by have := two_pos (8 * m); omega)]
  omega

theorem byte0 {a0 a1 a2 a3 : Int} {m : Nat} (hm : m < 8) : by_ (V a0 a1 a2 a3) m = a0 / 2 ^ (8 * m) % 256 := by
  have e : V a0 a1 a2 a3 = a0 + B * (a1 + B * a2 + B * B * a3) := by unfold V B; omega
  unfold by_
  rw [e, pow256]; exact byte_of hm
theorem byte1 {a0 a1 a2 a3 : Int} (h : D4 a0 a1 a2 a3) {m : Nat} (hm : m < 8) : by_ (V a0 a1 a2 a3) (8 + m) = a1 / 2 ^ (8 * m) % 256 := by
  have e : V a0 a1 a2 a3 = a0 + B * (a1 + B * (a2 + B * a3)) := by unfold V B; omega
  unfold by_
  rw [e, pow256, show 8 * (8 + m) = 64 + 8 * m by omega, shift_of h.1]; exact byte_of hm
theorem byte2 {a0 a1 a2 a3 : Int} (h : D4 a0 a1 a2 a3) {m : Nat} (hm : m < 8) : by_ (V a0 a1 a2 a3) (16 + m) = a2 / 2 ^ (8 * m) % 256 := by
  have e : V a0 a1 a2 a3 = a0 + B * (a1 + B * (a2 + B * a3)) := by unfold V B; omega
  unfold by_
  rw [e, pow256, show 8 * (16 + m) = 64 + (64 + 8 * m) by omega, shift_of h.1, shift_of h.2.1]; exact byte_of hm
theorem byte3 {a0 a1 a2 a3 : Int} (h : D4 a0 a1 a2 a3) {m : Nat} (hm : m < 8) : by_ (V a0 a1 a2 a3) (24 + m) = a3 / 2 ^ (8 * m) % 256 := by
  have e : V a0 a1 a2 a3 = a0 + B * (a1 + B * (a2 + B * (a3 + B * 0))) := by unfold V B; omega
  unfold by_
  rw [e, pow256, show 8 * (24 + m) = 64 + (64 + (64 + 8 * m)) by omega, shift_of h.1, shift_of h.2.1, shift_of h.2.2.1]; exact byte_of hm

/-- What stands in memory while bytes are written: k of them. -/
structure BSt (w wr : World) (a0 a1 a2 a3 : Int) (k : Nat) : Prop where
  below : Below w.heap.size w wr
  A : At4 wr w.heap.size a0 a1 a2 a3
  T : ∃ cs : Array Value, wr.heap[w.heap.size + 1]? = some (.cells cs 5 (0, 0)) ∧ cs.size = 32 ∧ (∀ i, i < 32 → ∃ x : Int, cs[i]? = some (.int .u8 x)) ∧ (∀ j, j < k → cs[31 - j]? = some (.int .u8 (by_ (V a0 a1 a2 a3) j)))

theorem BSt.cell {w wr : World} {a0 a1 a2 a3 : Int} {k : Nat} (h : BSt w wr a0 a1 a2 a3 k) (i : Nat) (hi : i < 32) :
    (∃ x : Int, wr.cell? ⟨w.heap.size + 1, i, none⟩ = some (.int .u8 x)) ∧ wr.frozen? ⟨w.heap.size + 1, i, none⟩ = false := by
  obtain ⟨cs, hb, hs, hx, hd⟩ := h.T
  obtain ⟨x, e⟩ := hx i hi
  exact ⟨⟨x, by rw [Joins.cell_of_block hb, e]⟩, Joins.unfrozen_of_block hb i⟩
theorem BSt.size {w wr : World} {a0 a1 a2 a3 : Int} {k : Nat} (h : BSt w wr a0 a1 a2 a3 k) : w.heap.size + 1 < wr.heap.size := by
  obtain ⟨cs, hb, _⟩ := h.T
  exact lt_of_block hb
theorem BSt.start (w : World) (a0 a1 a2 a3 : Int) :
    BSt w ((w.alloc (.cells #[.int .u64 a0, .int .u64 a1, .int .u64 a2, .int .u64 a3] 49)).alloc (.cells (Array.replicate 32 (.int .u8 0)) 5)) a0 a1 a2 a3 0 := by
  refine ⟨by repeat (first | with_reducible exact Below.refl _ _ | with_reducible refine Below.alloc ?_ (by simp; try omega) _), (At4.new w a0 a1 a2 a3).alloc _, Array.replicate 32 (.int .u8 0), ?_, by simp, ?_, by simp⟩
  · have e := heap_alloc_new (w.alloc (.cells #[.int .u64 a0, .int .u64 a1, .int .u64 a2, .int .u64 a3] 49)) (.cells (Array.replicate 32 (.int .u8 0)) 5)
    simpa using e
  · intro i hi; exact ⟨0, by simp [hi]⟩
theorem BSt.store {w wr : World} {a0 a1 a2 a3 : Int} {k : Nat} (h : BSt w wr a0 a1 a2 a3 k) (hk : k < 32) {v : Int} (hv : v = by_ (V a0 a1 a2 a3) k) :
    BSt w (wr.setCell ⟨w.heap.size + 1, 31 - k, none⟩ (.int .u8 v)) a0 a1 a2 a3 (k + 1) := by
  subst hv
  obtain ⟨cs, hb, hs, hx, hd⟩ := h.T
  refine ⟨h.below.setCell (by simp) _, h.A.other (by simp) _, cs.setIfInBounds (31 - k) (.int .u8 (by_ (V a0 a1 a2 a3) k)), Joins.block_setCell hb _, by simp [hs], ?_, ?_⟩
  · intro i hi
    obtain ⟨x, e⟩ := hx i hi
    by_cases e' : 31 - k = i
    · subst e'; exact ⟨_, by rw [Array.getElem?_setIfInBounds_self_of_lt (by omega)]⟩
    · exact ⟨x, by rw [Array.getElem?_setIfInBounds_ne e']; exact e⟩
  · intro j hj
    by_cases e' : j = k
    · subst e'; rw [Array.getElem?_setIfInBounds_self_of_lt (by omega)]
    · rw [Array.getElem?_setIfInBounds_ne (by omega)]; exact hd j (by omega)

/-- Block b holds a number's 32 bytes. -/
def Row32 (w : World) (b : Nat) (N : Int) : Prop := ∃ cs : Array Value, w.heap[b]? = some (.cells cs 5 (0, 0)) ∧ cs.size = 32 ∧ ∀ i, i < 32 → cs[i]? = some (.int .u8 ((bys N 32).getD i 0))
theorem Row32.cell {w : World} {b : Nat} {N : Int} (h : Row32 w b N) (i : Nat) (hi : i < 32) : w.cell? ⟨b, i, none⟩ = some (.int .u8 ((bys N 32).getD i 0)) := by
  obtain ⟨cs, hb, _, hx⟩ := h
  rw [Joins.cell_of_block hb]; exact hx i hi
theorem Row32.lt {w : World} {b : Nat} {N : Int} (h : Row32 w b N) : b < w.heap.size := by
  obtain ⟨cs, hb, _⟩ := h
  exact lt_of_block hb
theorem Row32.on {w w1 : World} {b : Nat} {N : Int} (h : Row32 w b N) (hb : Below w.heap.size w w1) : Row32 w1 b N := by
  have := h.lt
  obtain ⟨cs, h1, h2⟩ := h
  exact ⟨cs, by rw [hb.block _ this]; exact h1, h2⟩
theorem BSt.done {w wr : World} {a0 a1 a2 a3 : Int} (h : BSt w wr a0 a1 a2 a3 32) : Row32 wr (w.heap.size + 1) (V a0 a1 a2 a3) := by
  obtain ⟨cs, hb, hs, hx, hd⟩ := h.T
  refine ⟨cs, hb, hs, fun i hi => ?_⟩
  have e := hd (31 - i) (by omega)
  rw [show 31 - (31 - i) = i by omega] at e
  rw [e]
  simp [bys, List.getD, hi]

theorem make32 (w : World) : (Instr.makeSlice 50 (.int .i64 32) (.int .i64 32)).run Try.prog w = .ok (.slice (some ⟨w.heap.size, 0, none⟩) 32 32) (w.alloc (.cells (Array.replicate 32 (.int .u8 0)) 5)) := by kernel_rfl

/-- A slice of the number's bytes, in new memory. -/
def BytesP (w : World) (N : Int) (e : Ending) (w' : World) : Prop := ∃ b, e = .returned (.slice (some ⟨b, 0, none⟩) 32 32) ∧ w.heap.size ≤ b ∧ Row32 w' b N ∧ Below w.heap.size w w'

set_option maxHeartbeats 2000000 in
theorem Bytes_any {a0 a1 a2 a3 : Int} (ha : D4 a0 a1 a2 a3) (w : World) :
    Calls Try.prog 64 #[.agg #[.int .u64 a0, .int .u64 a1, .int .u64 a2, .int .u64 a3]] w (BytesP w (V a0 a1 a2 a3)) := by
  have HA := Lib.hid ha
  have hmk := make32
  have hst := Lib.hid (BSt.start w a0 a1 a2 a3)
  have nn : 0 ≤ a0 ∧ 0 ≤ a1 ∧ 0 ≤ a2 ∧ 0 ≤ a3 := ⟨ha.1.1, ha.2.1.1, ha.2.2.1.1, ha.2.2.2.1⟩
  obtain ⟨n0, n1, n2, n3⟩ := nn
  clear ha
  go_enter Try.func64, Try.ntmps64
  go_wp2_with fail
  go_loopw [8] (fun iv wr => ∃ k : Nat, iv = .int .i64 k ∧ k ≤ 32 ∧ Hid (BSt w wr a0 a1 a2 a3 k)) (fun iv _ => 32 - (intOf iv).toNat)
  case atStart => exact ⟨0, rfl, by omega, hst⟩
  case round =>
    clear hst hmk
    obtain ⟨k, rfl, hk, hB⟩ := hrel
    by_cases hlt : k < 32
    · obtain ⟨⟨x, cx⟩, fx⟩ := hB.out.cell (31 - k) (by omega)
      obtain ⟨ca0, ca1, ca2, ca3⟩ := hB.out.A.cell
      have hj : k / 8 = 0 ∨ k / 8 = 1 ∨ k / 8 = 2 ∨ k / 8 = 3 := by omega
      obtain ⟨m, hm, hm8⟩ : ∃ m, k % 8 = m ∧ m < 8 := ⟨k % 8, rfl, by omega⟩
      rcases hj with hj | hj | hj | hj
      · have hd : (k : Int) / 8 = 0 := by omega
        have hr : (k : Int) % 8 = (m : Int) := by omega
        have Hk := Lib.hid (show k = m by omega)
        clear hj hm
        go_wp2_with fail
        go_roundw
        case rel => exact ⟨k + 1, by go_num, by omega, hB.out.store hlt (by rw [Nat.mul_comm, Hk.out, byte0 hm8])⟩
        case measure => simp [intOf]; omega
      · have hd : (k : Int) / 8 = 1 := by omega
        have hr : (k : Int) % 8 = (m : Int) := by omega
        have Hk := Lib.hid (show k = 8 + m by omega)
        clear hj hm
        go_wp2_with fail
        go_roundw
        case rel => exact ⟨k + 1, by go_num, by omega, hB.out.store hlt (by rw [Nat.mul_comm, Hk.out, byte1 HA.out hm8])⟩
        case measure => simp [intOf]; omega
      · have hd : (k : Int) / 8 = 2 := by omega
        have hr : (k : Int) % 8 = (m : Int) := by omega
        have Hk := Lib.hid (show k = 16 + m by omega)
        clear hj hm
        go_wp2_with fail
        go_roundw
        case rel => exact ⟨k + 1, by go_num, by omega, hB.out.store hlt (by rw [Nat.mul_comm, Hk.out, byte2 HA.out hm8])⟩
        case measure => simp [intOf]; omega
      · have hd : (k : Int) / 8 = 3 := by omega
        have hr : (k : Int) % 8 = (m : Int) := by omega
        have Hk := Lib.hid (show k = 24 + m by omega)
        clear hj hm
        go_wp2_with fail
        go_roundw
        case rel => exact ⟨k + 1, by go_num, by omega, hB.out.store hlt (by rw [Nat.mul_comm, Hk.out, byte3 HA.out hm8])⟩
        case measure => simp [intOf]; omega
    · obtain rfl : k = 32 := by omega
      go_wp2_with fail
      go_ret
      exact ⟨_, rfl, by omega, hB.out.done, hB.out.below⟩

/-! ### The bytes' text stands as the number does -/

theorem by_lo (N : Int) (j : Nat) : 0 ≤ by_ N j ∧ by_ N j < 256 := by unfold by_; omega

theorem bys_succ (N : Int) (L : Nat) : bys N (L + 1) = by_ N L :: bys N L := by
  unfold bys
  rw [List.range_succ_eq_map, List.map_cons, List.map_map]
  congr 1
  refine List.map_congr_left fun i hi => ?_
  have := List.mem_range.1 hi
  show by_ N (L + 1 - 1 - (i + 1)) = _
  rw [show L + 1 - 1 - (i + 1) = L - 1 - i by omega]

theorem mod_succ (N : Int) (L : Nat) : N % 256 ^ (L + 1) = by_ N L * 256 ^ L + N % 256 ^ L := by
  have p : (0 : Int) < 256 ^ L := Int.pow_pos (by omega)
  unfold by_
  have e1 := Int.emod_add_mul_ediv N (256 ^ L)
  have e2 := Int.emod_add_mul_ediv (N / 256 ^ L) 256
  have l1 := Int.emod_nonneg N (show (256 : Int) ^ L ≠ 0 by omega)
  have l2 := Int.emod_lt_of_pos N p
  generalize N % 256 ^ L = r at *
  generalize N / 256 ^ L = q at *
  have d1 : 0 ≤ q % 256 := by omega
  have d2 : q % 256 < 256 := by omega
  generalize q % 256 = d at *
  generalize q / 256 = h at *
  rw [Int.pow_succ]
  generalize (256 : Int) ^ L = z at *
  have eN : N = (d * z + r) + (z * 256) * h := by
    rw [← e1, ← e2, Int.mul_add, Int.mul_comm z d, Int.mul_assoc z 256 h]
    omega
  rw [eN, Int.add_mul_emod_self_left]
  refine Int.emod_eq_of_lt (by have := Int.mul_nonneg d1 (Int.le_of_lt p); omega) ?_
  have : d * z ≤ 255 * z := Int.mul_le_mul_of_nonneg_right (by omega) (Int.le_of_lt p)
  omega

theorem u8_lt {a b : Int} (ha : 0 ≤ a ∧ a < 256) (hb : 0 ≤ b ∧ b < 256) : (UInt8.ofNat a.toNat < UInt8.ofNat b.toNat) ↔ a < b := by
  rw [UInt8.lt_iff_toNat_lt, UInt8.toNat_ofNat', UInt8.toNat_ofNat']
  omega
theorem u8_eq {a b : Int} (ha : 0 ≤ a ∧ a < 256) (hb : 0 ≤ b ∧ b < 256) : (UInt8.ofNat a.toNat = UInt8.ofNat b.toNat) ↔ a = b := by
  rw [← UInt8.toNat_inj, UInt8.toNat_ofNat', UInt8.toNat_ofNat']
  omega

theorem less_mod (A C : Int) : ∀ L : Nat, Op.bytesLess ((bys A L).map fun n => UInt8.ofNat n.toNat) ((bys C L).map fun n => UInt8.ofNat n.toNat) = decide (A % 256 ^ L < C % 256 ^ L)
  | 0 => by simp [bys, Op.bytesLess, Int.emod_one]
  | L + 1 => by
    rw [bys_succ, bys_succ, List.map_cons, List.map_cons, Op.bytesLess, less_mod A C L, mod_succ A L, mod_succ C L]
    have p : (0 : Int) < 256 ^ L := Int.pow_pos (by omega)
    have a1 := Int.emod_nonneg A (show (256 : Int) ^ L ≠ 0 by omega)
    have a2 := Int.emod_lt_of_pos A p
    have c1 := Int.emod_nonneg C (show (256 : Int) ^ L ≠ 0 by omega)
    have c2 := Int.emod_lt_of_pos C p
    have ba := by_lo A L
    have bc := by_lo C L
    rw [Bool.eq_iff_iff]
    simp only [Bool.or_eq_true, Bool.and_eq_true, decide_eq_true_eq, beq_iff_eq, u8_lt ba bc, u8_eq ba bc]
    generalize A % 256 ^ L = x at *
    generalize C % 256 ^ L = y at *
    generalize by_ A L = s at *
    generalize by_ C L = t at *
    generalize (256 : Int) ^ L = z at *
    constructor
    · rintro (h | ⟨rfl, h⟩)
      · have : (s + 1) * z ≤ t * z := Int.mul_le_mul_of_nonneg_right (by omega) (by omega)
        rw [Int.add_mul] at this
        omega
      · omega
    · intro h
      rcases Int.lt_trichotomy s t with g | g | g
      · exact Or.inl g
      · subst g; exact Or.inr ⟨rfl, by omega⟩
      · have : (t + 1) * z ≤ s * z := Int.mul_le_mul_of_nonneg_right (by omega) (by omega)
        rw [Int.add_mul] at this
        omega

theorem text_less {A C : Int} (ha : 0 ≤ A) (ha' : A < M) (hc : 0 ≤ C) (hc' : C < M) : Op.bytesLess (strOfNums (bys A 32)).toList (strOfNums (bys C 32)).toList = decide (A < C) := by
  have e : M = 256 ^ 32 := rfl
  rw [e] at ha' hc'
  rw [Lib.toList_data, Lib.toList_data, strOfNums_data, strOfNums_data, less_mod, Int.emod_eq_of_lt ha ha', Int.emod_eq_of_lt hc hc']
end Go.Proofs.Ytonjkhhihiigfaa
namespace Go.Proofs.Ytonjkhhihiigfaa
set_option maxRecDepth 100000
open Go.RowKit

/-- A wide's limbs. -/
structure W4 where
  a : Int
  b : Int
  c : Int
  d : Int
def W4.bytes (x : W4) : List Int := bys (V x.a x.b x.c x.d) 32
def w0 : W4 := ⟨0, 0, 0, 0⟩
theorem W4.len (x : W4) : x.bytes.length = 32 := by simp [W4.bytes, bys]
/-- The slice v holds these wides, and lies in no block of S. -/
def RdW (w : World) (v : Value) (ws : List W4) (S : List Nat) : Prop := ∃ q c, v = .slice q ws.length c ∧ (ws = [] ∨ ∃ b off, q = some ⟨b, off, none⟩ ∧ b ∉ S ∧ ∀ i, i < ws.length → D4 (ws.getD i w0).a (ws.getD i w0).b (ws.getD i w0).c (ws.getD i w0).d ∧
  w.cell? ⟨b, off + i * 4, none⟩ = some (.int .u64 (ws.getD i w0).a) ∧ w.cell? ⟨b, off + i * 4 + 1, none⟩ = some (.int .u64 (ws.getD i w0).b) ∧ w.cell? ⟨b, off + i * 4 + 2, none⟩ = some (.int .u64 (ws.getD i w0).c) ∧ w.cell? ⟨b, off + i * 4 + 3, none⟩ = some (.int .u64 (ws.getD i w0).d))
theorem RdW.at {w : World} {q : Option Addr} {n c : Nat} {ws : List W4} {S : List Nat} (h : RdW w (.slice q n c) ws S) {i : Nat} (hi : i < ws.length) :
    ∃ b off, n = ws.length ∧ q = some ⟨b, off, none⟩ ∧ b ∉ S ∧ D4 (ws.getD i w0).a (ws.getD i w0).b (ws.getD i w0).c (ws.getD i w0).d ∧
  w.cell? ⟨b, off + i * 4, none⟩ = some (.int .u64 (ws.getD i w0).a) ∧ w.cell? ⟨b, off + i * 4 + 1, none⟩ = some (.int .u64 (ws.getD i w0).b) ∧ w.cell? ⟨b, off + i * 4 + 2, none⟩ = some (.int .u64 (ws.getD i w0).c) ∧ w.cell? ⟨b, off + i * 4 + 3, none⟩ = some (.int .u64 (ws.getD i w0).d) := by
  obtain ⟨q', c', e, rfl | ⟨b, off, rfl, hb, hx⟩⟩ := h
  · simp at hi
  · simp only [Value.slice.injEq] at e
    exact ⟨b, off, e.2.1, e.1, hb, hx i hi⟩
def wides (ws : List W4) : List Int := ws.flatMap W4.bytes
theorem wides_take {ws : List W4} {i : Nat} (hi : i < ws.length) : wides (ws.take (i + 1)) = wides (ws.take i) ++ (ws.getD i w0).bytes := by
  have e : ws.take (i + 1) = ws.take i ++ [ws.getD i w0] := by
    rw [List.take_add_one]
    simp [List.getD, hi]
  rw [e, wides, List.flatMap_append]
  simp [wides]
theorem wides_len : ∀ ws : List W4, (wides ws).length = 32 * ws.length
  | [] => rfl
  | n :: ws => by
    have := wides_len ws
    simp only [wides, List.flatMap_cons, List.length_append, W4.len, List.length_cons] at this ⊢
    omega
theorem row32_rd {w : World} {b : Nat} {N : Int} (h : Row32 w b N) : Rd w (.slice (some ⟨b, 0, none⟩) 32 32) (bys N 32) := by
  have hl : (bys N 32).length = 32 := by simp [bys]
  refine ⟨some ⟨b, 0, none⟩, 32, by rw [hl], .inr ⟨b, 0, rfl, fun i hi => ?_⟩⟩
  rw [Nat.zero_add]
  exact h.cell i (by omega)
end Go.Proofs.Ytonjkhhihiigfaa
namespace Go.Proofs.Ytonjkhhihiigfaa
theorem rowOf_cells {w : World} {b o : Nat} {F : List Int} (h : ∀ i, i < F.length → w.cell? ⟨b, o + i, none⟩ = some (.int .u8 (F.getD i 0))) : rowOf w b o F.length = hc F := by
  by_cases h0 : F.length = 0
  · obtain rfl := List.eq_nil_of_length_eq_zero h0
    unfold rowOf
    split <;> simp [hc]
  · obtain ⟨x, hb, hx⟩ := cells_of_cell (h 0 (by omega))
    obtain ⟨cs, t, fr, rfl⟩ : ∃ cs t fr, x = .cells cs t fr := by
      cases x <;> first | exact ⟨_, _, _, rfl⟩ | simp [Obj.isCells] at hx
    rw [rowOf_block hb]
    apply List.ext_getElem?
    intro i
    by_cases hi : i < F.length
    · have := h i hi
      rw [Joins.cell_of_block hb] at this
      have e1 : (cs.extract o (o + F.length)).toList[i]? = cs[o + i]? := by
        simp [List.getElem?_drop, hi]
      rw [e1, this]
      simp [hc, List.getD, hi]
    · have hs : cs.size ≥ o + F.length := by
        have := h (F.length - 1) (by omega)
        rw [Joins.cell_of_block hb] at this
        have := (Array.getElem?_eq_some_iff.1 this).1
        omega
      rw [List.getElem?_eq_none (by simp; omega), List.getElem?_eq_none (by rw [hc_len]; omega)]
end Go.Proofs.Ytonjkhhihiigfaa
namespace Go.Proofs.Ytonjkhhihiigfaa
set_option maxRecDepth 100000
open Go.RowKit

section
variable {w w' : World} {e : TypeId} {size : Nat} {v : Value} {n : Nat} {xs : List Value}
theorem own_lt (h : w.ownsRow 0 e size v n xs) {k : Nat} (hk : v.ownBlock = some k) : k < w.heap.size := by
  rcases h.2 with ⟨rfl, _⟩ | ⟨g, cap, cur, rfl, _, hg, _⟩
  · simp [Value.ownBlock] at hk
  · obtain rfl : g = k := by simpa [Value.ownBlock] using hk
    exact (Array.getElem?_eq_some_iff.1 hg).1
theorem own_ne (h : w.ownsRow 0 e size v n xs) {p : Nat} {cs : Array Value} {t : TypeId} {fr : Nat × Nat} (hp : w.heap[p]? = some (.cells cs t fr)) (ht : t ≠ e) : v.ownBlock ≠ some p := by
  rcases h.2 with ⟨rfl, _⟩ | ⟨g, cap, cur, rfl, _, hg, _⟩
  · simp [Value.ownBlock]
  · intro hk
    obtain rfl : g = p := by simpa [Value.ownBlock] using hk
    rw [hp] at hg
    simp at hg
    exact ht hg.2.1
theorem own_keep (h : w.ownsRow 0 e size v n xs) (hb : ∀ k, v.ownBlock = some k → w'.heap[k]? = w.heap[k]?) : w'.ownsRow 0 e size v n xs := by
  refine ⟨h.1, ?_⟩
  rcases h.2 with hn | ⟨g, cap, cur, rfl, hq, hg, r⟩
  · exact .inl hn
  · exact .inr ⟨g, cap, cur, rfl, hq, by rw [hb g rfl]; exact hg, r⟩
theorem own_chg2 {S : List Nat} (h : w.ownsRow 0 e size v n xs) (hc : Chg w w' S) (hS : ∀ k, v.ownBlock = some k → k ∉ S) : w'.ownsRow 0 e size v n xs :=
  own_keep h fun k hk => hc.block k (own_lt h hk) (hS k hk)
theorem own_on (h : w.ownsRow 0 e size v n xs) (hb : Below w.heap.size w w') : w'.ownsRow 0 e size v n xs := own_chg2 h (Chg.below hb (Nat.le_refl _) []) (by simp)
theorem own_two {e' : TypeId} {size' : Nat} {v' : Value} {n' : Nat} {xs' : List Value} (h : w.ownsRow 0 e size v n xs) (h' : w.ownsRow 0 e' size' v' n' xs') (ht : e ≠ e') {k : Nat} (hk : v.ownBlock = some k) : v'.ownBlock ≠ some k := by
  rcases h.2 with ⟨rfl, _⟩ | ⟨g, cap, cur, rfl, _, hg, _⟩
  · simp [Value.ownBlock] at hk
  · obtain rfl : g = k := by simpa [Value.ownBlock] using hk
    exact own_ne h' hg ht
theorem own_slice (h : w.ownsRow 0 e size v n xs) : ∃ q c, v = .slice q n c := by
  rcases h.2 with ⟨rfl, rfl⟩ | ⟨g, cap, cur, rfl, _⟩
  · exact ⟨_, _, rfl⟩
  · exact ⟨_, _, rfl⟩
theorem own_empty (w : World) (e : TypeId) (size : Nat) : (w.alloc (.cells #[] e)).ownsRow 0 e size (.slice (some ⟨w.heap.size, 0, none⟩) 0 0) 0 [] :=
  ⟨by simp, .inr ⟨w.heap.size, 0, #[], rfl, Nat.zero_le _, heap_alloc_new w _, Nat.le_refl _, Nat.zero_le _, by simp, by simp⟩⟩
end

theorem Try.infoU8s : (Try.prog.info? 50).map (fun i => (i.zero, i.size, i.bytes)) = some (some (.slice none 0 0), 1, 24) := by kernel_rfl

/-- k slices were copied. -/
structure PtS (w wr : World) (L : List (List Int)) (k : Nat) (v : Value) (vs : List Value) : Prop where
  own : wr.ownsRow 0 50 1 v k vs
  len : vs.length = k
  each : ∀ i u, vs[i]? = some u → wr.ownsRow 0 5 1 u (L.getD i []).length (bc (L.getD i [])) ∧ ∀ g, u.ownBlock = some g → w.heap.size ≤ g
  fresh : ∀ g, v.ownBlock = some g → w.heap.size ≤ g
  below : Below w.heap.size w wr

set_option maxHeartbeats 4000000 in
theorem Parts_any {w : World} {a : Value} {L : List (List Int)} (hL : RdL w a L []) (hn : L.length * 24 ≤ 140737488355328) (hx : ∀ i, (L.getD i []).length ≤ 140737488355328) :
    Calls Try.prog 42 #[a] w fun e w' => ∃ v vs, e = .returned v ∧ PtS w w' L L.length v vs := by
  obtain ⟨i0, hi, hz0, hz1, hz2⟩ := info_parts Try.infoU8
  obtain ⟨j0, hj, ez0, ez1, ez2⟩ := info_parts Try.infoU8s
  have H0 : Hid (PtS w w L 0 (.slice none 0 0) []) := ⟨World.ownsRow_nil w 0 _ 1, rfl, by simp, by simp [Value.ownBlock], Below.refl _ _⟩
  obtain ⟨q, c, rfl⟩ : ∃ q c, a = .slice q L.length c := by obtain ⟨q, c, e, _⟩ := hL; exact ⟨q, c, e⟩
  have HL := Lib.hid hL
  clear hL
  replace hi := Lib.hid hi
  replace hz0 := Lib.hid hz0
  replace hz1 := Lib.hid hz1
  replace hz2 := Lib.hid hz2
  replace hj := Lib.hid hj
  replace ez0 := Lib.hid ez0
  replace ez1 := Lib.hid ez1
  replace ez2 := Lib.hid ez2
  go_enter Try.func42, Try.ntmps42
  go_wp2_with fail
  go_loopw [3, 4] (fun ov iv wr => ∃ k : Nat, iv = .int .i64 k ∧ k ≤ L.length ∧ ∃ qo co, ov = .slice qo k co ∧ ∃ vs, Hid (PtS w wr L k ov vs)) (fun _ iv _ => L.length - (intOf iv).toNat)
  case atStart => exact ⟨0, rfl, by omega, _, _, rfl, [], H0⟩
  case round =>
    clear H0
    obtain ⟨k, rfl, hk, qo, co, rfl, vs, hS⟩ := hrel
    by_cases hlt : k < L.length
    · obtain ⟨b, off, r, m, kc, hm0, rfl, -, cb, hm, hrd, -⟩ := (HL.out.chg (Chg.below hS.out.below (Nat.le_refl _) [])).at hlt
      have HR := Lib.hid hrd
      have hxk := hx k
      have hbl := lt_of_cell cb
      subst hm
      clear hrd
      generalize hxs : L.getD k [] = xs at cb HR hxk ⊢
      go_wp2_with (at_builtin; refine wpList_append_row rfl _ _ rfl Try.underlying50 hi.out hz0.out hz1.out hz2.out rfl (own_empty wr 5 1) ((HR.out.alloc _).src (P := Try.prog) Try.underlying50) ?b1 ?b2 ?_)
      case b1 => unfold maxLen; omega
      intro q2 k2 w2 own2 grow2 fr2
      have H9 := Lib.hid own2
      have G2 : Below wr.heap.size wr w2 := ((Below.refl _ _).alloc (Nat.le_refl _) (.cells #[] 5)).grown grow2 (by simp) (by intro g hg; simp [Value.ownBlock] at hg; omega)
      have F2 : Hid (∀ g, (Value.slice q2 xs.length k2).ownBlock = some g → wr.heap.size ≤ g) := fun g hg => by
        rcases fr2 with e | e
        · rw [e] at hg; simp [Value.ownBlock] at hg; omega
        · rw [e] at hg; simp at hg; omega
      have G2' := Lib.hid G2
      have O2 := Lib.hid (own_on hS.out.own G2)
      clear own2 grow2 fr2 G2
      go_wp2_with (at_builtin; refine wpList_append_row rfl _ _ rfl Try.underlying58 hj.out ez0.out ez1.out ez2.out rfl (own_on O2.out ((Below.refl _ _).alloc (Nat.le_refl _) (.cells #[.slice q2 xs.length k2] 50))) (news := [.slice q2 xs.length k2]) (m := 1) ?rd ?b3 ?b4 ?_)
      case rd =>
        refine Src.ofSlice _ Try.underlying58 _ _ _ _ rfl (fun j u hu => ?_) (fun u hu => ?_)
        · rw [addr_add, Nat.zero_add, Joins.cell_of_block (heap_alloc_new w2 _)]
          simpa using hu
        · obtain rfl := List.mem_singleton.1 hu
          rfl
      case b3 => unfold maxLen; omega
      (try case b4 => omega)
      intro q5 k5 w5 own5 grow5 fr5
      have HN : Hid (PtS w w5 L (k + 1) (.slice q5 (k + 1) k5) (vs ++ [.slice q2 xs.length k2])) := by
        have hb4 : Below w2.heap.size w2 (w2.alloc (.cells #[.slice q2 xs.length k2] 50)) := (Below.refl _ _).alloc (Nat.le_refl _) _
        have G4 : Below wr.heap.size wr (w2.alloc (.cells #[.slice q2 xs.length k2] 50)) := G2'.out.trans (hb4.mono G2'.out.size)
        have hc : Chg (w2.alloc (.cells #[.slice q2 xs.length k2] 50)) w5 (Value.slice qo k co).ownBlock.toList := Chg.grown grow5 (fun g hg => by simp [hg])
        have ho := own_on O2.out hb4
        have keep : ∀ {u : Value} {m : Nat} {ys : List Value}, (w2.alloc (.cells #[.slice q2 xs.length k2] 50)).ownsRow 0 5 1 u m ys → w5.ownsRow 0 5 1 u m ys := fun h =>
          own_chg2 h hc (fun g hg hm => own_two h ho (by decide) hg (by simpa using hm))
        have hw := hS.out.below.size
        have hw2 := G2'.out.size
        refine ⟨own5, by rw [List.length_append, hS.out.len]; rfl, ?_, ?_, ?_⟩
        · intro i u hu
          by_cases hik : i < k
          · rw [List.getElem?_append_left (by rw [hS.out.len]; exact hik)] at hu
            obtain ⟨e1, e2⟩ := hS.out.each i u hu
            exact ⟨keep (own_on e1 G4), e2⟩
          · rw [List.getElem?_append_right (by rw [hS.out.len]; omega), hS.out.len] at hu
            have hi0 : i = k := by
              have := (List.getElem?_eq_some_iff.1 hu).1
              simp at this
              omega
            subst hi0
            obtain rfl : (Value.slice q2 xs.length k2) = u := by simpa using hu
            rw [hxs]
            exact ⟨keep (own_on H9.out hb4), fun g hg => Nat.le_trans hw (F2.out g hg)⟩
        · intro g hg
          rcases fr5 with e | e
          · exact hS.out.fresh g (by rw [← e]; exact hg)
          · rw [e] at hg; simp at hg; omega
        · refine (hS.out.below.trans (G4.mono hw)).trans (hc.toBelow ?_ ?_)
          · have := G4.size; omega
          · intro g hg; exact hS.out.fresh g (by simpa using hg)
      clear own5 grow5 fr5 H9 F2 O2 G2' hS HR cb
      go_wp2_with fail
      go_roundw
      case rel => exact ⟨k + 1, by go_num, by omega, _, _, rfl, _, HN⟩
      case measure => simp [intOf]; omega
    · obtain rfl : k = L.length := by omega
      go_wp2_with fail
      go_ret
      exact ⟨_, vs, rfl, hS.out⟩
end Go.Proofs.Ytonjkhhihiigfaa
namespace Go.Proofs.Ytonjkhhihiigfaa
set_option maxRecDepth 100000
open Go.RowKit

structure Mg where
  no : Int
  se : Int
  ta : Int
  val : W4
  gas : Int
  data : List Int
structure Mg.ok (m : Mg) : Prop where
  no : 0 ≤ m.no ∧ m.no < 18446744073709551616
  se : 0 ≤ m.se ∧ m.se < 18446744073709551616
  ta : 0 ≤ m.ta ∧ m.ta < 18446744073709551616
  val : D4 m.val.a m.val.b m.val.c m.val.d
  gas : 0 ≤ m.gas ∧ m.gas < 18446744073709551616
  data : Bytes m.data
def mg0 : Mg := ⟨0, 0, 0, ⟨0, 0, 0, 0⟩, 0, []⟩
theorem dg0 : Dg 0 := by unfold Dg B; decide
theorem mg0_ok : mg0.ok := ⟨by decide, by decide, by decide, ⟨dg0, dg0, dg0, dg0⟩, by decide, fun x hx => by cases hx⟩
def mgRow (m : Mg) (q : Option Addr) (n k : Nat) : List Value := [.int .u64 m.no, .int .u64 m.se, .int .u64 m.ta, .int .u64 m.val.a, .int .u64 m.val.b, .int .u64 m.val.c, .int .u64 m.val.d, .int .u64 m.gas, .slice q n k]
@[go_sem] theorem mgRow_len (m : Mg) (q : Option Addr) (n k : Nat) : (mgRow m q n k).length = 9 := rfl
theorem mgRow_one (m : Mg) (q : Option Addr) (n k : Nat) : ∀ u ∈ mgRow m q n k, u.oneCell' = true := by
  intro u hu
  simp only [mgRow, List.mem_cons, List.not_mem_nil, or_false] at hu
  rcases hu with rfl | rfl | rfl | rfl | rfl | rfl | rfl | rfl | rfl <;> rfl
/-- The block b holds a message. -/
def MgAt (w : World) (b : Nat) (t : TypeId) (m : Mg) (q : Option Addr) (n k : Nat) : Prop := w.heap[b]? = some (.cells (mgRow m q n k).toArray t (0, 0))
section
variable {w w' : World} {b : Nat} {t : TypeId} {m : Mg} {q : Option Addr} {n k : Nat}
theorem MgAt.lt (h : MgAt w b t m q n k) : b < w.heap.size := (Array.getElem?_eq_some_iff.1 h).1
theorem MgAt.new (w : World) (t : TypeId) (m : Mg) (q : Option Addr) (n k : Nat) : MgAt (w.alloc (.cells (mgRow m q n k).toArray t)) w.heap.size t m q n k := heap_alloc_new w _
theorem MgAt.on (h : MgAt w b t m q n k) (hb : Below w.heap.size w w') : MgAt w' b t m q n k := by
  unfold MgAt at h ⊢
  rw [hb.block _ (Array.getElem?_eq_some_iff.1 h).1]; exact h
theorem MgAt.chg {K : List Nat} (h : MgAt w b t m q n k) (hc : Chg w w' K) (hb : b ∉ K) : MgAt w' b t m q n k := by
  unfold MgAt at h ⊢
  rw [hc.block _ (Array.getElem?_eq_some_iff.1 h).1 hb]; exact h
theorem MgAt.row (h : MgAt w b t m q n k) : rowOf w b 0 9 = mgRow m q n k := by
  rw [rowOf_block h]; rfl
theorem MgAt.there (h : MgAt w b t m q n k) : w.there b 0 9 := fun j hj => by
  refine ⟨?_, Joins.unfrozen_of_block h _⟩
  rw [cell_of_row _ _ _ _ _ _ h]
  simp only [List.getElem?_toArray]
  rw [List.getElem?_eq_getElem (by rw [mgRow_len]; omega)]
  rfl
theorem MgAt.put {m' : Mg} {q' : Option Addr} {n' k' : Nat} (h : MgAt w b t m' q' n' k') (m : Mg) (q : Option Addr) (n k : Nat) : MgAt (w.setCells b 0 (mgRow m q n k)) b t m q n k := by
  unfold MgAt at h ⊢
  have := setCells_block (b := b) (t := t) (fr := (0, 0)) (mgRow m q n k) (o := 0) (w := w) (pre := []) (mid := mgRow m' q' n' k') (post := []) (by simpa using h) rfl rfl
  simpa using this
theorem MgAt.frees (h : MgAt w b t m q n k) (i : Nat) : w.frozen? ⟨b, i, none⟩ = false := Joins.unfrozen_of_block h i
theorem MgAt.cells (h : MgAt w b t m q n k) : w.cell? ⟨b, 0, none⟩ = some (.int .u64 m.no) ∧ w.cell? ⟨b, 1, none⟩ = some (.int .u64 m.se) ∧ w.cell? ⟨b, 2, none⟩ = some (.int .u64 m.ta) ∧ w.cell? ⟨b, 3, none⟩ = some (.int .u64 m.val.a) ∧ w.cell? ⟨b, 4, none⟩ = some (.int .u64 m.val.b) ∧ w.cell? ⟨b, 5, none⟩ = some (.int .u64 m.val.c) ∧ w.cell? ⟨b, 6, none⟩ = some (.int .u64 m.val.d) ∧ w.cell? ⟨b, 7, none⟩ = some (.int .u64 m.gas) ∧ w.cell? ⟨b, 8, none⟩ = some (.slice q n k) :=
  ⟨(Joins.cell_of_block h 0).trans rfl, (Joins.cell_of_block h 1).trans rfl, (Joins.cell_of_block h 2).trans rfl, (Joins.cell_of_block h 3).trans rfl, (Joins.cell_of_block h 4).trans rfl, (Joins.cell_of_block h 5).trans rfl, (Joins.cell_of_block h 6).trans rfl, (Joins.cell_of_block h 7).trans rfl, (Joins.cell_of_block h 8).trans rfl⟩
end
@[go_sem ↓] theorem load9 (a : Addr) : loadCellsFrom a 0 9 #[] = rowLoad a 9 := rfl
@[go_sem] theorem run_storeCells_mg {P : Program} (w : World) (b : Nat) (m : Mg) (q : Option Addr) (n k : Nat) (hw : w.there b 0 9) : (storeCells ⟨b, 0, none⟩ (mgRow m q n k) 0).run P w = .ok () (w.setCells b 0 (mgRow m q n k)) := by
  have := run_storeCells_cells (P := P) b 0 (mgRow m q n k) 0 w (fun j hj => by rw [mgRow_len] at hj; simpa using (hw j hj).1) (fun j hj => by rw [mgRow_len] at hj; simpa using (hw j hj).2) (mgRow_one m q n k)
  simpa using this
@[go_sem ↓] theorem Try.zero_mgp (w : World) : (zeroValue 52).run Try.prog w = .ok (.agg (mgRow mg0 none 0 0).toArray) w := by kernel_rfl
@[go_sem ↓] theorem Try.build_mgp (ps : Array (Nat × Value)) : Instr.build 52 ps = rowBuild 52 ps := rfl
@[go_sem] theorem Try.run_mg0p (w : World) : (rowBuild 52 #[]).run Try.prog w = .ok (.agg (mgRow mg0 none 0 0).toArray) w := by unfold rowBuild; kernel_rfl
theorem Try.run_mgp (w : World) (m : Mg) (q : Option Addr) (n k : Nat) : (rowBuild 52 #[(0, .int .u64 m.no), (1, .int .u64 m.se), (2, .int .u64 m.ta), (3, .agg #[.int .u64 m.val.a, .int .u64 m.val.b, .int .u64 m.val.c, .int .u64 m.val.d]), (4, .int .u64 m.gas), (5, .slice q n k)]).run Try.prog w = .ok (.agg (mgRow m q n k).toArray) w := by unfold rowBuild; kernel_rfl
theorem Try.run_mg1p (w : World) (z : Int) : (rowBuild 52 #[(0, .int .u64 z)]).run Try.prog w = .ok (.agg (mgRow ⟨z, 0, 0, ⟨0, 0, 0, 0⟩, 0, []⟩ none 0 0).toArray) w := by unfold rowBuild; kernel_rfl
@[go_sem ↓] theorem Try.zero_mgr (w : World) : (zeroValue 62).run Try.prog w = .ok (.agg (mgRow mg0 none 0 0).toArray) w := by kernel_rfl
@[go_sem ↓] theorem Try.build_mgr (ps : Array (Nat × Value)) : Instr.build 62 ps = rowBuild 62 ps := rfl
@[go_sem] theorem Try.run_mg0r (w : World) : (rowBuild 62 #[]).run Try.prog w = .ok (.agg (mgRow mg0 none 0 0).toArray) w := by unfold rowBuild; kernel_rfl
theorem Try.run_mgr (w : World) (m : Mg) (q : Option Addr) (n k : Nat) : (rowBuild 62 #[(0, .int .u64 m.no), (1, .int .u64 m.se), (2, .int .u64 m.ta), (3, .agg #[.int .u64 m.val.a, .int .u64 m.val.b, .int .u64 m.val.c, .int .u64 m.val.d]), (4, .int .u64 m.gas), (5, .slice q n k)]).run Try.prog w = .ok (.agg (mgRow m q n k).toArray) w := by unfold rowBuild; kernel_rfl
theorem Try.run_mg1r (w : World) (z : Int) : (rowBuild 62 #[(0, .int .u64 z)]).run Try.prog w = .ok (.agg (mgRow ⟨z, 0, 0, ⟨0, 0, 0, 0⟩, 0, []⟩ none 0 0).toArray) w := by unfold rowBuild; kernel_rfl

set_option maxHeartbeats 1000000 in
theorem RightMessage_any {w : World} {m : Mg} {q : Option Addr} {n k : Nat} (hg : 0 ≤ m.gas ∧ m.gas < 18446744073709551616) (_hn : n ≤ maxLen) :
    Calls Try.prog 74 #[.agg (mgRow m q n k).toArray] w fun e w' => e = .returned (.bool (decide (m.gas ≤ 65536 ∧ n ≤ 64))) ∧ Below w.heap.size w w' := by
  have HB := Lib.hid ((Below.refl w.heap.size w).alloc (Nat.le_refl _) (.cells (mgRow m q n k).toArray 52))
  have K := MgAt.new w 52 m q n k
  obtain ⟨-, -, -, -, -, -, -, c7, c8⟩ := K.cells
  clear K
  obtain ⟨hg0, hg1⟩ := hg
  have HE : Hid (∀ x : Bool, decide (m.gas ≤ 65536 ∧ n ≤ 64) = x → (Ending.returned (.bool x) = .returned (.bool (decide (m.gas ≤ 65536 ∧ n ≤ 64))))) := fun x h => by rw [h]
  by_cases h1 : m.gas ≤ 65536
  · by_cases h2 : (n : Int) ≤ 64
    · replace HE := Lib.hid (HE.out true (decide_eq_true ⟨h1, by omega⟩))
      generalize decide (m.gas ≤ 65536 ∧ n ≤ 64) = res at *
      generalize m.gas = gas at *
      go_enter Try.func74, Try.ntmps74
      go_wp2_with fail
      go_ret
      exact ⟨HE.out, HB.out⟩
    · replace HE := Lib.hid (HE.out false (decide_eq_false (fun h => h2 (by omega))))
      generalize decide (m.gas ≤ 65536 ∧ n ≤ 64) = res at *
      have d2 : decide ((n : Int) ≤ 64) = false := by rw [decide_eq_false_iff_not]; exact h2
      go_enter Try.func74, Try.ntmps74
      go_wp2_with fail
      go_ret
      exact ⟨HE.out, HB.out⟩
  · replace HE := Lib.hid (HE.out false (decide_eq_false (fun h => h1 h.1)))
    generalize decide (m.gas ≤ 65536 ∧ n ≤ 64) = res at *
    have d1 : decide (m.gas ≤ 65536) = false := by rw [decide_eq_false_iff_not]; exact h1
    go_enter Try.func74, Try.ntmps74
    go_wp2_with fail
    go_ret
    exact ⟨HE.out, HB.out⟩

set_option maxHeartbeats 1000000 in
theorem refRightMessage_any {w : World} {m : Mg} {q : Option Addr} {n k : Nat} (hg : 0 ≤ m.gas ∧ m.gas < 18446744073709551616) (_hn : n ≤ maxLen) :
    Calls Try.prog 68 #[.agg (mgRow m q n k).toArray] w fun e w' => e = .returned (.bool (decide (m.gas ≤ 65536 ∧ n ≤ 64))) ∧ Below w.heap.size w w' := by
  have HB := Lib.hid ((Below.refl w.heap.size w).alloc (Nat.le_refl _) (.cells (mgRow m q n k).toArray 62))
  have K := MgAt.new w 62 m q n k
  obtain ⟨-, -, -, -, -, -, -, c7, c8⟩ := K.cells
  clear K
  obtain ⟨hg0, hg1⟩ := hg
  have HE : Hid (∀ x : Bool, decide (m.gas ≤ 65536 ∧ n ≤ 64) = x → (Ending.returned (.bool x) = .returned (.bool (decide (m.gas ≤ 65536 ∧ n ≤ 64))))) := fun x h => by rw [h]
  by_cases h1 : m.gas ≤ 65536
  · by_cases h2 : (n : Int) ≤ 64
    · replace HE := Lib.hid (HE.out true (decide_eq_true ⟨h1, by omega⟩))
      generalize decide (m.gas ≤ 65536 ∧ n ≤ 64) = res at *
      generalize m.gas = gas at *
      go_enter Try.func68, Try.ntmps68
      go_wp2_with fail
      go_ret
      exact ⟨HE.out, HB.out⟩
    · replace HE := Lib.hid (HE.out false (decide_eq_false (fun h => h2 (by omega))))
      generalize decide (m.gas ≤ 65536 ∧ n ≤ 64) = res at *
      have d2 : decide ((n : Int) ≤ 64) = false := by rw [decide_eq_false_iff_not]; exact h2
      go_enter Try.func68, Try.ntmps68
      go_wp2_with fail
      go_ret
      exact ⟨HE.out, HB.out⟩
  · replace HE := Lib.hid (HE.out false (decide_eq_false (fun h => h1 h.1)))
    generalize decide (m.gas ≤ 65536 ∧ n ≤ 64) = res at *
    have d1 : decide (m.gas ≤ 65536) = false := by rw [decide_eq_false_iff_not]; exact h1
    go_enter Try.func68, Try.ntmps68
    go_wp2_with fail
    go_ret
    exact ⟨HE.out, HB.out⟩
end Go.Proofs.Ytonjkhhihiigfaa
namespace Go.Proofs.Ytonjkhhihiigfaa
set_option maxRecDepth 100000
open Go.RowKit

/-- Block p holds a Reader that was made, of the bytes xs, of which pos were passed; v is its slice; there was no error. -/
structure RrV (w : World) (p : Nat) (v : Value) (xs : List Int) (pos : Nat) : Prop where
  blk : w.heap[p]? = some (.cells #[.bool true, v, .int .i64 pos, .int .i64 0] 150 (0, 0))
  own : w.ownsRow 0 5 1 v xs.length (bc xs)
  le : pos ≤ xs.length
  len : xs.length ≤ 140737488355328
section
variable {w w' : World} {p : Nat} {v : Value} {xs : List Int} {pos : Nat}
theorem RrV.lt (h : RrV w p v xs pos) : p < w.heap.size := (Array.getElem?_eq_some_iff.1 h.blk).1
theorem RrV.ne (h : RrV w p v xs pos) : v.ownBlock ≠ some p := by
  rcases h.own.2 with ⟨rfl, _⟩ | ⟨g, cap, cur, rfl, _, hg, _⟩
  · simp [Value.ownBlock]
  · intro e
    obtain rfl : g = p := by simpa [Value.ownBlock] using e
    rw [h.blk] at hg
    simp at hg
theorem own_chg {e : TypeId} {size n : Nat} {ys : List Value} {S : List Nat} (h : w.ownsRow 0 e size v n ys) (hc : Chg w w' S) (hv : ∀ g, v.ownBlock = some g → g ∉ S) : w'.ownsRow 0 e size v n ys := by
  refine ⟨h.1, ?_⟩
  rcases h.2 with hn | ⟨g, cap, cur, rfl, hb, hg, r⟩
  · exact .inl hn
  · exact .inr ⟨g, cap, cur, rfl, hb, by rw [hc.block g (Array.getElem?_eq_some_iff.1 hg).1 (hv g rfl)]; exact hg, r⟩
theorem RrV.chg {S : List Nat} (h : RrV w p v xs pos) (hc : Chg w w' S) (hp : p ∉ S) (hv : ∀ g, v.ownBlock = some g → g ∉ S) : RrV w' p v xs pos :=
  ⟨by rw [hc.block p h.lt hp]; exact h.blk, own_chg h.own hc hv, h.le, h.len⟩
theorem RrV.on (h : RrV w p v xs pos) (hb : Below w.heap.size w w') : RrV w' p v xs pos := h.chg (S := []) (Chg.below hb (Nat.le_refl _) []) (by simp) (fun _ _ => by simp)
theorem RrV.cells (h : RrV w p v xs pos) : w.cell? ⟨p, 0, none⟩ = some (.bool true) ∧ w.cell? ⟨p, 1, none⟩ = some v ∧ w.cell? ⟨p, 2, none⟩ = some (.int .i64 pos) ∧ w.cell? ⟨p, 3, none⟩ = some (.int .i64 0) ∧ w.frozen? ⟨p, 2, none⟩ = false ∧ w.frozen? ⟨p, 3, none⟩ = false :=
  ⟨by rw [Joins.cell_of_block h.blk]; rfl, by rw [Joins.cell_of_block h.blk]; rfl, by rw [Joins.cell_of_block h.blk]; rfl, by rw [Joins.cell_of_block h.blk]; rfl, Joins.unfrozen_of_block h.blk 2, Joins.unfrozen_of_block h.blk 3⟩
theorem RrV.pass (h : RrV w p v xs pos) {q : Nat} (hq : q ≤ xs.length) : RrV (w.setCell ⟨p, 2, none⟩ (.int .i64 q)) p v xs q := by
  refine ⟨by rw [Joins.block_setCell (i := 2) h.blk]; rfl, own_chg h.own ((Chg.refl w [p]).setCell (.inl (by simp)) _) (fun g hg => ?_), hq, h.len⟩
  intro hm
  obtain rfl := List.mem_singleton.1 hm
  exact h.ne hg
end

set_option maxHeartbeats 1000000 in
theorem NewReader_any {w : World} {a : Value} {xs : List Int} (h : Rd w a xs) (hl : xs.length ≤ 140737488355328) :
    Calls Try.prog 65 #[a] w fun e w' => ∃ p v, e = .returned (.pointer (some ⟨p, 0, none⟩)) ∧ RrV w' p v xs 0 ∧ w.heap.size ≤ p ∧ Below w.heap.size w w' ∧ ∀ k, v.ownBlock = some k → w.heap.size ≤ k := by
  obtain ⟨i0, hi, hz0, hz1, hz2⟩ := info_parts Try.infoU8
  obtain ⟨qv, kv, rfl⟩ := h.len
  have hs := Lib.hid (h.src (P := Try.prog) Try.underlying50)
  clear h
  replace hi := Lib.hid hi
  replace hz0 := Lib.hid hz0
  replace hz1 := Lib.hid hz1
  replace hz2 := Lib.hid hz2
  go_enter Try.func65, Try.ntmps65
  go_wp2_with (at_builtin; refine wpList_append_row rfl _ _ rfl Try.underlying50 hi.out hz0.out hz1.out hz2.out rfl (World.ownsRow_nil w 0 _ 1) hs.out ?b1 ?b2 ?_)
  case b1 => unfold maxLen; omega
  case b2 => omega
  intro q2 k2 w2 own2 grow2 fr2
  try simp only [Nat.zero_add, List.nil_append] at own2
  try simp only [Nat.zero_add, List.nil_append] at fr2
  try simp only [Nat.zero_add]
  have H2 := Lib.hid own2
  have HB := Lib.hid ((Below.refl w.heap.size w).grown grow2 (Nat.le_refl _) (by intro k hk; simp [Value.ownBlock] at hk))
  have HF : Hid (∀ k, (Value.slice q2 xs.length k2).ownBlock = some k → w.heap.size ≤ k) := fun k hk => by
    rcases fr2 with e | e
    · rw [e] at hk; simp [Value.ownBlock] at hk
    · rw [e] at hk; simp at hk; omega
  clear own2 grow2 fr2 hs
  have hz := HB.out.size
  go_wp2_with fail
  go_ret
  exact ⟨_, _, rfl, ⟨heap_alloc_new w2 _, own_chg H2.out (Chg.below ((Below.refl _ _).alloc (Nat.le_refl _) _) (Nat.le_refl _) []) (fun _ _ => by simp), by omega, hl⟩, hz, HB.out.alloc hz _, HF.out⟩

theorem ready_ok {w : World} {p : Nat} {v : Value} {xs : List Int} {pos : Nat} (h : RrV w p v xs pos) :
    Calls Try.prog 94 #[.pointer (some ⟨p, 0, none⟩)] w fun e w' => e = .returned (.bool true) ∧ w = w' := by
  obtain ⟨c0, -, -, c3, -, -⟩ := h.cells
  clear h
  go_enter Try.func94, Try.ntmps94
  go_wp2_with fail
  go_ret
  exact ⟨rfl, rfl⟩

set_option maxHeartbeats 1000000 in
theorem look_ok {w : World} {p : Nat} {v : Value} {xs : List Int} {pos : Nat} (h : RrV w p v xs pos) {n : Nat} (hn : 0 < n) (hf : pos + n ≤ xs.length) :
    Calls Try.prog 98 #[.pointer (some ⟨p, 0, none⟩), .int .i64 n] w fun e w' => ∃ b off c m, e = .returned (.tuple #[.slice (some ⟨b, off, none⟩) n c, .bool true]) ∧ v.ownBlock = some b ∧ n ≤ c ∧ (∀ i, i < n → w.cell? ⟨b, off + i, none⟩ = some (.int .u8 (xs.getD (pos + i) 0))) ∧ w' = w.drewN m := by
  have hlen := h.len
  rcases h.own.2 with ⟨rfl, h0⟩ | ⟨g, cap, cur, rfl, _, hg, hcap, hcm, hcs, htake⟩
  · omega
  have HC : Hid (∀ i, i < n → w.cell? ⟨g, pos + i, none⟩ = some (.int .u8 (xs.getD (pos + i) 0))) := fun i hi => by
    have := h.own.cells (g := g) rfl (pos + i) (.int .u8 (xs.getD (pos + i) 0)) (by simp [bc, List.getD, show pos + i < xs.length by omega])
    rw [addr_add] at this
    simpa using this
  obtain ⟨-, c1, c2, -, -, -⟩ := h.cells
  clear h hg hcs htake
  unfold maxLen at hcm
  have hne : ¬ cap = pos := by omega
  go_enter Try.func98, Try.ntmps98
  go_wp2_with fail
  go_quiet (fail)
  go_wp2_with fail
  go_quiet (fail)
  go_wp2_with fail
  go_ret2
  refine ⟨g, pos, cap - pos, _, by rw [Nat.add_sub_cancel_left]; rfl, rfl, by omega, HC.out, World.drewN_drewN _ _ _⟩

theorem or_low {a c : Int} (ha : 0 ≤ a ∧ a < 72057594037927936) (hc : 0 ≤ c ∧ c < 256) : bits .or .u64 (a * 256) c = a * 256 + c := by
  obtain ⟨A, rfl⟩ : ∃ A : Nat, a = A := ⟨a.toNat, by omega⟩
  obtain ⟨C, rfl⟩ : ∃ C : Nat, c = C := ⟨c.toNat, by omega⟩
  rw [show ((A : Int) * 256) = ((A * 256 : Nat) : Int) by push_cast; rfl, bits_or_u64_nat _ _ (by omega) (by omega)]
  have := Nat.two_pow_add_eq_or_of_lt (i := 8) (b := C) (by omega) A
  rw [show 2 ^ 8 * A = A * 256 by omega] at this
  rw [← this]
  push_cast
  rfl
theorem num_take {xs : List Int} {k : Nat} (hk : k < xs.length) : num (xs.take (k + 1)) = num (xs.take k) * 256 + xs.getD k 0 := by
  have e : xs.take (k + 1) = xs.take k ++ [xs.getD k 0] := by
    rw [List.take_add_one]
    simp [List.getD, hk]
  rw [e, num, List.foldl_append]
  rfl
theorem num_bd {xs : List Int} (h : Bytes xs) : ∀ k, k ≤ xs.length → 0 ≤ num (xs.take k) ∧ num (xs.take k) < 256 ^ k
  | 0, _ => by simp [num]
  | k + 1, hk => by
    obtain ⟨a, b⟩ := num_bd h k (by omega)
    have hx := h (xs.getD k 0) (by simp [List.getD, show k < xs.length by omega])
    rw [num_take (by omega), Int.pow_succ]
    omega

set_option maxHeartbeats 1000000 in
theorem lookUint_ok {w : World} {p : Nat} {v : Value} {xs : List Int} {pos : Nat} (h : RrV w p v xs pos) (hx : Bytes xs) (hf : pos + 8 ≤ xs.length) :
    Calls Try.prog 95 #[.pointer (some ⟨p, 0, none⟩)] w fun e w' => ∃ m, e = .returned (.tuple #[.int .u64 (num ((xs.drop pos).take 8)), .bool true]) ∧ w' = w.drewN m := by
  have H := Lib.hid h
  have hlen := h.len
  have HB : Hid (Bytes ((xs.drop pos).take 8)) := fun x hx' => hx x (List.mem_of_mem_drop (List.mem_of_mem_take hx'))
  have hl8 : ((xs.drop pos).take 8).length = 8 := by simp; omega
  have HG : Hid (∀ i, i < 8 → ((xs.drop pos).take 8).getD i 0 = xs.getD (pos + i) 0) := fun i hi => by simp [List.getD, hi]
  generalize (xs.drop pos).take 8 = ys at HB hl8 HG
  replace hl8 := Lib.hid hl8
  clear h hx
  go_enter Try.func95, Try.ntmps95
  go_wp2_with fail
  refine (look_ok H.out (n := 8) (by omega) hf).mono ?_
  rintro e w1 ⟨b, off, c, m, rfl, -, hc8, hcell, rfl⟩
  have HC := Lib.hid hcell
  clear hcell
  go_wp2_with fail
  go_loopw [6, 8, 16] (fun nv _ iv wr => ∃ k : Nat, iv = .int .i64 k ∧ k ≤ 8 ∧ nv = .int .u64 (num (ys.take k)) ∧ wr = w.drewN m) (fun _ _ iv _ => 8 - (intOf iv).toNat)
  case atStart => exact ⟨0, rfl, by omega, by simp [num], rfl⟩
  case round =>
    obtain ⟨k, rfl, hk, rfl, rfl⟩ := hrel
    by_cases hlt : k < 8
    · have hc1 := HC.out k hlt
      rw [← HG.out k hlt] at hc1
      have hb := num_bd HB.out k (by rw [hl8.out]; omega)
      have hp : (256 : Int) ^ k ≤ 72057594037927936 := by
        have e : k = 0 ∨ k = 1 ∨ k = 2 ∨ k = 3 ∨ k = 4 ∨ k = 5 ∨ k = 6 ∨ k = 7 := by omega
        rcases e with rfl | rfl | rfl | rfl | rfl | rfl | rfl | rfl <;> decide
      have hy := HB.out (ys.getD k 0) (by simp [List.getD, show k < ys.length by rw [hl8.out]; exact hlt])
      have HN := Lib.hid (num_take (xs := ys) (k := k) (by rw [hl8.out]; exact hlt))
      have HO := Lib.hid (or_low (a := num (ys.take k)) (c := ys.getD k 0) ⟨hb.1, by omega⟩ hy)
      obtain ⟨hn0, hn1⟩ := hb
      have hn2 : num (ys.take k) < 72057594037927936 := by omega
      obtain ⟨hy0, hy1⟩ := hy
      clear hn1 hp
      generalize num (ys.take k) = nk at *
      generalize ys.getD k 0 = yk at *
      go_wp2_with fail
      go_roundw
      case rel => exact ⟨k + 1, by go_num, by omega, by rw [HO.out, ← HN.out], trivial⟩
      case measure => simp [intOf]; omega
    · obtain rfl : k = 8 := by omega
      rw [List.take_of_length_le (by rw [hl8.out]; omega)]
      clear hlt hk
      go_wp2_with fail
      go_ret2
      exact ⟨m, rfl, rfl⟩

theorem Left_ok {w : World} {p : Nat} {v : Value} {xs : List Int} {pos : Nat} (h : RrV w p v xs pos) :
    Calls Try.prog 73 #[.pointer (some ⟨p, 0, none⟩)] w fun e w' => ∃ m, e = .returned (.int .i64 ((xs.length : Int) - (pos : Int))) ∧ w' = w.drewN m := by
  have hlen := h.len
  have hle := h.le
  obtain ⟨qv, kv, rfl⟩ := (rd_of_row h.own).len
  obtain ⟨c0, c1, c2, -, -, -⟩ := h.cells
  clear h
  go_enter Try.func73, Try.ntmps73
  go_wp2_with fail
  go_quiet (fail)
  go_wp2_with fail
  go_ret
  exact ⟨_, rfl, rfl⟩

theorem Done_all {w : World} {p : Nat} {v : Value} {xs : List Int} (h : RrV w p v xs xs.length) :
    Calls Try.prog 66 #[.pointer (some ⟨p, 0, none⟩)] w fun e w' => ∃ m, e = .returned (.int .i64 0) ∧ w' = w.drewN m := by
  have H := Lib.hid h
  obtain ⟨c0, -, -, c3, -, -⟩ := h.cells
  clear h
  go_enter Try.func66, Try.ntmps66
  go_wp2_with fail
  refine (Left_ok H.out).mono ?_
  rintro e w1 ⟨m, rfl, rfl⟩
  rw [Int.sub_self]
  go_wp2_with fail
  go_ret
  exact ⟨m, rfl, rfl⟩

theorem chg_setCells (b : Nat) : ∀ (vs : List Value) (o : Nat) {a w : World}, Chg a w [b] → Chg a (w.setCells b o vs) [b]
  | [], _, _, _, h => h
  | v :: vs, o, _, _, h => chg_setCells b vs (o + 1) (h.setCell (p := ⟨b, o, none⟩) (.inl (by simp)) v)
theorem RrV.drewN {w : World} {p : Nat} {v : Value} {xs : List Int} {pos : Nat} (h : RrV w p v xs pos) (m : Nat) : RrV (w.drewN m) p v xs pos := ⟨h.blk, h.own, h.le, h.len⟩


/-- A reader that met an error. -/
def RrF (w : World) (p : Nat) : Prop := ∃ (v : Value) (pos : Nat) (f : Int), f ≠ 0 ∧ w.heap[p]? = some (.cells #[.bool true, v, .int .i64 pos, .int .i64 f] 150 (0, 0))
theorem RrF.on {w w' : World} {p : Nat} (h : RrF w p) (hb : Below w.heap.size w w') : RrF w' p := by
  obtain ⟨v, pos, f, h1, h2⟩ := h
  exact ⟨v, pos, f, h1, by rw [hb.block p (Array.getElem?_eq_some_iff.1 h2).1]; exact h2⟩
theorem RrF.lt {w : World} {p : Nat} (h : RrF w p) : p < w.heap.size := by
  obtain ⟨v, pos, f, h1, h2⟩ := h
  exact (Array.getElem?_eq_some_iff.1 h2).1
theorem RrV.fail {w : World} {p : Nat} {v : Value} {xs : List Int} {pos : Nat} (h : RrV w p v xs pos) {f : Int} (hf : f ≠ 0) : RrF (w.setCell ⟨p, 3, none⟩ (.int .i64 f)) p :=
  ⟨v, pos, f, hf, by rw [Joins.block_setCell (i := 3) h.blk]; rfl⟩
theorem ready_bad {w : World} {p : Nat} (h : RrF w p) :
    Calls Try.prog 94 #[.pointer (some ⟨p, 0, none⟩)] w fun e w' => e = .returned (.bool false) ∧ w = w' := by
  obtain ⟨v, pos, f, h1, h2⟩ := h
  have c0 := (Joins.cell_of_block h2 0).trans (rfl : _ = some _)
  have c3 := (Joins.cell_of_block h2 3).trans (rfl : _ = some _)
  have d0 : (f == 0) = false := by simpa using h1
  clear h2
  go_enter Try.func94, Try.ntmps94
  go_wp2_with fail
  go_ret
  exact ⟨rfl, rfl⟩
set_option maxHeartbeats 1000000 in
theorem look_bad {w : World} {p : Nat} {v : Value} {xs : List Int} {pos : Nat} (h : RrV w p v xs pos) {n : Nat} (hn : n ≤ 1000000) (hf : xs.length < pos + n) :
    Calls Try.prog 98 #[.pointer (some ⟨p, 0, none⟩), .int .i64 n] w fun e w' => e = .returned (.tuple #[.slice none 0 0, .bool false]) ∧ RrF w' p ∧ Chg w w' [p] := by
  have hlen := h.len
  have hle := h.le
  have H := Lib.hid h
  obtain ⟨qv, kv, rfl⟩ := (rd_of_row h.own).len
  obtain ⟨-, c1, c2, -, -, f3⟩ := h.cells
  have hg : (xs.length : Int) - (pos : Int) < (n : Int) := by omega
  have c3 := h.cells.2.2.2.1
  clear h
  go_enter Try.func98, Try.ntmps98
  go_wp2_with fail
  go_quiet (fail)
  go_wp2_with fail
  have HF : Hid (∀ m, RrF ((w.drewN m).setCell ⟨p, 3, none⟩ (.int .i64 20)) p) := fun m => (H.out.drewN m).fail (by decide)
  have HC : Hid (∀ m, Chg w ((w.drewN m).setCell ⟨p, 3, none⟩ (.int .i64 20)) [p]) := fun m => (show Chg w (w.drewN m) [p] from ⟨rfl, rfl, rfl, Nat.le_refl _, fun _ _ _ => rfl⟩).setCell (.inl (by simp)) _
  go_ret2
  exact ⟨rfl, HF.out _, HC.out _⟩
set_option maxHeartbeats 1000000 in
theorem lookUint_bad {w : World} {p : Nat} {v : Value} {xs : List Int} {pos : Nat} (h : RrV w p v xs pos) (hf : xs.length < pos + 8) :
    Calls Try.prog 95 #[.pointer (some ⟨p, 0, none⟩)] w fun e w' => e = .returned (.tuple #[.int .u64 0, .bool false]) ∧ RrF w' p ∧ Chg w w' [p] := by
  have H := Lib.hid h
  clear h
  go_enter Try.func95, Try.ntmps95
  go_wp2_with fail
  refine (look_bad H.out (n := 8) (by omega) hf).mono ?_
  rintro e w1 ⟨rfl, hF, hC⟩
  have HF := Lib.hid hF
  have HC := Lib.hid hC
  clear hF hC
  go_wp2_with fail
  refine wp_loop_rounds 1 ?_
  rw [rounds_succ]
  go_wp2_with fail
  go_ret2
  exact ⟨rfl, HF.out, HC.out⟩

/-! ### Count -/
theorem Count_bad {w : World} {p : Nat} {most : Int} (h : RrF w p) :
    Calls Try.prog 92 #[.pointer (some ⟨p, 0, none⟩), .int .i64 most] w fun e w' => e = .returned (.int .i64 0) ∧ RrF w' p ∧ Chg w w' [p] := by
  have H := Lib.hid h
  clear h
  go_enter Try.func92, Try.ntmps92
  go_wp2_with fail
  refine (ready_bad H.out).mono ?_
  rintro e w1 ⟨rfl, rfl⟩
  go_wp2_with fail
  go_ret
  exact ⟨rfl, H.out, Chg.refl _ _⟩
theorem Count_end {w : World} {p : Nat} {v : Value} {xs : List Int} {pos : Nat} {most : Int} (h : RrV w p v xs pos) (hf : xs.length < pos + 8) :
    Calls Try.prog 92 #[.pointer (some ⟨p, 0, none⟩), .int .i64 most] w fun e w' => e = .returned (.int .i64 0) ∧ RrF w' p ∧ Chg w w' [p] := by
  have H := Lib.hid h
  clear h
  go_enter Try.func92, Try.ntmps92
  go_wp2_with fail
  refine (ready_ok H.out).mono ?_
  rintro e w1 ⟨rfl, rfl⟩
  go_wp2_with fail
  refine (lookUint_bad H.out hf).mono ?_
  rintro e w1 ⟨rfl, hF, hC⟩
  have HF := Lib.hid hF
  have HC := Lib.hid hC
  clear hF hC
  go_wp2_with fail
  go_ret
  exact ⟨rfl, HF.out, HC.out⟩
set_option maxHeartbeats 2000000 in
theorem Count_big {w : World} {p : Nat} {v : Value} {xs : List Int} {pos : Nat} {most : Nat} (h : RrV w p v xs pos) (hx : Bytes xs) (hm : most ≤ 1000000) (hf : pos + 8 ≤ xs.length) (hz : (most : Int) < num ((xs.drop pos).take 8)) :
    Calls Try.prog 92 #[.pointer (some ⟨p, 0, none⟩), .int .i64 most] w fun e w' => e = .returned (.int .i64 0) ∧ RrF w' p ∧ Chg w w' [p] := by
  have H := Lib.hid h
  have HX := Lib.hid hx
  have u0 : IntKind.u64.wrap (most : Int) = (most : Int) := by rw [IntKind.wrap_u64]; omega
  clear h hx
  go_enter Try.func92, Try.ntmps92
  go_wp2_with fail
  refine (ready_ok H.out).mono ?_
  rintro e w1 ⟨rfl, rfl⟩
  go_wp2_with fail
  refine (lookUint_ok H.out HX.out hf).mono ?_
  rintro e w2 ⟨m, rfl, rfl⟩
  have H1 := Lib.hid (H.out.drewN m)
  have HF : Hid (RrF ((w.drewN m).setCell ⟨p, 3, none⟩ (.int .i64 21)) p) := H1.out.fail (by decide)
  have HC : Hid (Chg w ((w.drewN m).setCell ⟨p, 3, none⟩ (.int .i64 21)) [p]) := (show Chg w (w.drewN m) [p] from ⟨rfl, rfl, rfl, Nat.le_refl _, fun _ _ _ => rfl⟩).setCell (.inl (by simp)) _
  obtain ⟨-, -, -, c3, -, f3⟩ := H1.out.cells
  generalize num ((xs.drop pos).take 8) = z at *
  clear H H1
  go_wp2_with fail
  go_ret
  exact ⟨rfl, HF.out, HC.out⟩
set_option maxHeartbeats 2000000 in
theorem Count_ok {w : World} {p : Nat} {v : Value} {xs : List Int} {pos : Nat} {most : Nat} (h : RrV w p v xs pos) (hx : Bytes xs) (hm : most ≤ 1000000) (hf : pos + 8 ≤ xs.length) {z : Nat} (hz : num ((xs.drop pos).take 8) = z) (hzm : z ≤ most) :
    Calls Try.prog 92 #[.pointer (some ⟨p, 0, none⟩), .int .i64 most] w fun e w' => e = .returned (.int .i64 z) ∧ RrV w' p v xs (pos + 8) ∧ Chg w w' [p] := by
  have H := Lib.hid h
  have HX := Lib.hid hx
  have hlen := h.len
  have u0 : IntKind.u64.wrap (most : Int) = (most : Int) := by rw [IntKind.wrap_u64]; omega
  have hzI : ¬ (most : Int) < (z : Int) := by omega
  clear h hx
  go_enter Try.func92, Try.ntmps92
  go_wp2_with fail
  refine (ready_ok H.out).mono ?_
  rintro e w1 ⟨rfl, rfl⟩
  go_wp2_with fail
  refine (lookUint_ok H.out HX.out hf).mono ?_
  rintro e w2 ⟨m, rfl, rfl⟩
  rw [hz]
  have H1 := Lib.hid (H.out.drewN m)
  have HP : Hid (RrV ((w.drewN m).setCell ⟨p, 2, none⟩ (.int .i64 ((pos : Int) + 8))) p v xs (pos + 8)) := by
    have := H1.out.pass (q := pos + 8) hf
    rw [show ((pos + 8 : Nat) : Int) = (pos : Int) + 8 by push_cast; rfl] at this
    exact this
  have HC : Hid (Chg w ((w.drewN m).setCell ⟨p, 2, none⟩ (.int .i64 ((pos : Int) + 8))) [p]) := (show Chg w (w.drewN m) [p] from ⟨rfl, rfl, rfl, Nat.le_refl _, fun _ _ _ => rfl⟩).setCell (.inl (by simp)) _
  obtain ⟨-, -, c2, -, f2, -⟩ := H1.out.cells
  clear H H1 hz
  go_wp2_with fail
  go_ret
  exact ⟨rfl, HP.out, HC.out⟩

/-! ### Hash, where there is an error; Done -/
theorem Done_bad {w : World} {p : Nat} (h : RrF w p) :
    Calls Try.prog 66 #[.pointer (some ⟨p, 0, none⟩)] w fun e w' => ∃ f : Int, f ≠ 0 ∧ e = .returned (.int .i64 f) ∧ w' = w := by
  obtain ⟨v, pos, f, h1, h2⟩ := h
  have c0 := (Joins.cell_of_block h2 0).trans (rfl : _ = some _)
  have c3 := (Joins.cell_of_block h2 3).trans (rfl : _ = some _)
  have d0 : (f == 0) = false := by simpa using h1
  have HN := Lib.hid h1
  clear h2 h1
  go_enter Try.func66, Try.ntmps66
  go_wp2_with fail
  go_ret
  exact ⟨f, HN.out, rfl, rfl⟩
theorem Done_left {w : World} {p : Nat} {v : Value} {xs : List Int} {pos : Nat} (h : RrV w p v xs pos) (hlt : pos < xs.length) :
    Calls Try.prog 66 #[.pointer (some ⟨p, 0, none⟩)] w fun e w' => ∃ m, e = .returned (.int .i64 21) ∧ w' = w.drewN m := by
  have H := Lib.hid h
  have hg : (0 : Int) < (xs.length : Int) - (pos : Int) := by omega
  obtain ⟨c0, -, -, c3, -, -⟩ := h.cells
  clear h
  go_enter Try.func66, Try.ntmps66
  go_wp2_with fail
  refine (Left_ok H.out).mono ?_
  rintro e w1 ⟨m, rfl, rfl⟩
  go_wp2_with fail
  go_ret
  exact ⟨m, rfl, rfl⟩
end Go.Proofs.Ytonjkhhihiigfaa
