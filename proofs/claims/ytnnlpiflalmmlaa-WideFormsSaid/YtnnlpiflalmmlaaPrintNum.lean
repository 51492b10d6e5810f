/-
  Plain: what stands in memory while a number's digits are written; decimal digits.
-/
import Derived.Test.YtnnlpiflalmmlaaPrint
import Derived.Laws.BytesArg
import Derived.Lib.SmallJoins
namespace Go.Proofs.Ytnnlpiflalmmlaa
open Go.RowKit

/-- Digit j from the right. -/
def dj (N : Int) (j : Nat) : Int := 48 + N / 10 ^ j % 10
/-- L digits, the highest first. -/
def dgs (N : Int) (L : Nat) : List Int := (List.range L).map fun i => dj N (L - 1 - i)
/-- So many digits has N. -/
def Len10 (N : Int) (L : Nat) : Prop := 1 ≤ L ∧ N / 10 ^ L = 0 ∧ (L = 1 ∨ N / 10 ^ (L - 1) ≠ 0)

theorem pow_pos10 (n : Nat) : (0 : Int) < 10 ^ n := Int.pow_pos (by omega)

theorem div_pow_succ (N : Int) (L : Nat) : N / 10 ^ (L + 1) = N / 10 ^ L / 10 := by
  rw [Int.pow_succ, Int.ediv_ediv_of_nonneg (Int.le_of_lt (pow_pos10 L))]

/-- What stands in memory: A: the number's block; T: the text's, with L digits at its end. -/
structure PSt (w wr : World) (N : Int) (L : Nat) (q0 q1 q2 q3 : Int) : Prop where
  below : Below w.heap.size w wr
  blkA : wr.heap[w.heap.size]? = some (.cells #[.int .u64 q0, .int .u64 q1, .int .u64 q2, .int .u64 q3] 24 (0, 0))
  blkT : ∃ cs : Array Value, wr.heap[w.heap.size + 1]? = some (.cells cs 63 (0, 0)) ∧ cs.size = 80 ∧ (∀ i, i < 80 → ∃ x : Int, cs[i]? = some (.int .u8 x)) ∧ (∀ j, j < L → cs[79 - j]? = some (.int .u8 (dj N j)))

theorem PSt.cellA {w wr : World} {N : Int} {L : Nat} {q0 q1 q2 q3 : Int} (h : PSt w wr N L q0 q1 q2 q3) :
    wr.cell? ⟨w.heap.size, 0, none⟩ = some (.int .u64 q0) ∧ wr.cell? ⟨w.heap.size, 1, none⟩ = some (.int .u64 q1) ∧ wr.cell? ⟨w.heap.size, 2, none⟩ = some (.int .u64 q2) ∧ wr.cell? ⟨w.heap.size, 3, none⟩ = some (.int .u64 q3) := by
  simp [Joins.cell_of_block h.blkA]

theorem PSt.frozenA {w wr : World} {N : Int} {L : Nat} {q0 q1 q2 q3 : Int} (h : PSt w wr N L q0 q1 q2 q3) :
    wr.frozen? ⟨w.heap.size, 0, none⟩ = false ∧ wr.frozen? ⟨w.heap.size, 1, none⟩ = false ∧ wr.frozen? ⟨w.heap.size, 2, none⟩ = false ∧ wr.frozen? ⟨w.heap.size, 3, none⟩ = false :=
  ⟨Joins.unfrozen_of_block h.blkA 0, Joins.unfrozen_of_block h.blkA 1, Joins.unfrozen_of_block h.blkA 2, Joins.unfrozen_of_block h.blkA 3⟩

theorem PSt.cellT {w wr : World} {N : Int} {L : Nat} {q0 q1 q2 q3 : Int} (h : PSt w wr N L q0 q1 q2 q3) (i : Nat) (hi : i < 80) :
    (∃ x : Int, wr.cell? ⟨w.heap.size + 1, i, none⟩ = some (.int .u8 x)) ∧ wr.frozen? ⟨w.heap.size + 1, i, none⟩ = false := by
  obtain ⟨cs, hb, hs, hx, hd⟩ := h.blkT
  obtain ⟨x, e⟩ := hx i hi
  exact ⟨⟨x, by rw [Joins.cell_of_block hb, e]⟩, Joins.unfrozen_of_block hb i⟩

theorem PSt.size {w wr : World} {N : Int} {L : Nat} {q0 q1 q2 q3 : Int} (h : PSt w wr N L q0 q1 q2 q3) : w.heap.size + 1 < wr.heap.size := by
  obtain ⟨cs, hb, _⟩ := h.blkT
  exact lt_of_block hb

theorem heap_new (w : World) (o : Obj) : (w.alloc o).heap[w.heap.size]? = some o := by
  show (w.heap.push o)[w.heap.size]? = _
  simp

theorem PSt.on {w wr w1 : World} {N : Int} {L : Nat} {q0 q1 q2 q3 : Int} (h : PSt w wr N L q0 q1 q2 q3) (hb : Below wr.heap.size wr w1) : PSt w w1 N L q0 q1 q2 q3 := by
  have hz := h.size
  refine ⟨h.below.trans (hb.mono (by omega)), by rw [hb.block _ (by omega)]; exact h.blkA, ?_⟩
  obtain ⟨cs, hbT, r⟩ := h.blkT
  exact ⟨cs, by rw [hb.block _ (by omega)]; exact hbT, r⟩

theorem PSt.start (w : World) (N q0 q1 q2 q3 : Int) :
    PSt w ((w.alloc (.cells #[.int .u64 q0, .int .u64 q1, .int .u64 q2, .int .u64 q3] 24)).alloc (.cells (Array.replicate 80 (.int .u8 0)) 63)) N 0 q0 q1 q2 q3 := by
  refine ⟨?_, ?_, ?_⟩
  · exact ((Below.refl _ _).alloc (Nat.le_refl _) _).alloc (by simp) _
  · rw [Below.heap_alloc _ _ _ (by simp)]
    exact heap_new _ _
  · refine ⟨Array.replicate 80 (.int .u8 0), ?_, by simp, ?_, by simp⟩
    · have e := heap_new (w.alloc (.cells #[.int .u64 q0, .int .u64 q1, .int .u64 q2, .int .u64 q3] 24)) (.cells (Array.replicate 80 (.int .u8 0)) 63)
      simpa using e
    · intro i hi; exact ⟨0, by simp [hi]⟩

theorem PSt.store {w wr : World} {N : Int} {L : Nat} {q0 q1 q2 q3 : Int} (h : PSt w wr N L q0 q1 q2 q3) (hL : L < 80) {i : Nat} (hi : i = 79 - L) {v : Int} (hv : v = dj N L) :
    PSt w (wr.setCell ⟨w.heap.size + 1, i, none⟩ (.int .u8 v)) N (L + 1) q0 q1 q2 q3 := by
  subst hi hv
  obtain ⟨cs, hb, hs, hx, hd⟩ := h.blkT
  refine ⟨h.below.setCell (by simp) _, ?_, ?_⟩
  · rw [Below.heap_setCell _ _ _ _ (by simp)]; exact h.blkA
  · refine ⟨cs.setIfInBounds (79 - L) (.int .u8 (dj N L)), Joins.block_setCell hb _, by simp [hs], ?_, ?_⟩
    · intro i hi
      obtain ⟨x, e⟩ := hx i hi
      by_cases e' : 79 - L = i
      · subst e'; exact ⟨dj N L, by rw [Array.getElem?_setIfInBounds_self_of_lt (by omega)]⟩
      · exact ⟨x, by rw [Array.getElem?_setIfInBounds_ne e']; exact e⟩
    · intro j hj
      by_cases e' : j = L
      · subst e'; rw [Array.getElem?_setIfInBounds_self_of_lt (by omega)]
      · rw [Array.getElem?_setIfInBounds_ne (by omega)]; exact hd j (by omega)

theorem PSt.put {w wr w1 : World} {N : Int} {L : Nat} {q0 q1 q2 q3 p0 p1 p2 p3 : Int} (h : PSt w wr N L q0 q1 q2 q3) (hb : Below wr.heap.size wr w1) :
    PSt w ((((w1.setCell ⟨w.heap.size, 0, none⟩ (.int .u64 p0)).setCell ⟨w.heap.size, 1, none⟩ (.int .u64 p1)).setCell ⟨w.heap.size, 2, none⟩ (.int .u64 p2)).setCell ⟨w.heap.size, 3, none⟩ (.int .u64 p3)) N L p0 p1 p2 p3 := by
  have hz := h.size
  have b0 : Below w.heap.size w w1 := h.below.trans (hb.mono (by omega))
  refine ⟨(((b0.setCell (by simp) _).setCell (by simp) _).setCell (by simp) _).setCell (by simp) _, ?_, ?_⟩
  · have e : w1.heap[w.heap.size]? = some (.cells #[.int .u64 q0, .int .u64 q1, .int .u64 q2, .int .u64 q3] 24 (0, 0)) := by rw [hb.block _ (by omega)]; exact h.blkA
    have e1 := Joins.block_setCell (i := 0) e (.int .u64 p0)
    have e2 := Joins.block_setCell (i := 1) e1 (.int .u64 p1)
    have e3 := Joins.block_setCell (i := 2) e2 (.int .u64 p2)
    have e4 := Joins.block_setCell (i := 3) e3 (.int .u64 p3)
    rw [e4]; rfl
  · obtain ⟨cs, hbT, r⟩ := h.blkT
    refine ⟨cs, ?_, r⟩
    rw [Below.heap_setCell _ _ _ _ (by simp), Below.heap_setCell _ _ _ _ (by simp), Below.heap_setCell _ _ _ _ (by simp), Below.heap_setCell _ _ _ _ (by simp), hb.block _ (by omega)]
    exact hbT

/-- A block besides. -/
theorem PSt.draw {w wr : World} {N : Int} {L : Nat} {q0 q1 q2 q3 : Int} (h : PSt w wr N L q0 q1 q2 q3) (n : Nat) : PSt w (wr.drewN n) N L q0 q1 q2 q3 :=
  ⟨below_drewN h.below n, h.blkA, h.blkT⟩

theorem PSt.text {w wr : World} {N : Int} {L : Nat} {q0 q1 q2 q3 : Int} (h : PSt w wr N L q0 q1 q2 q3) (hL : L ≤ 80) (i : Nat) (hi : i < L) :
    wr.cell? ⟨w.heap.size + 1, 80 - L + i, none⟩ = some (.int .u8 ((dgs N L).getD i 0)) := by
  obtain ⟨cs, hb, hs, hx, hd⟩ := h.blkT
  rw [Joins.cell_of_block hb, show 80 - L + i = 79 - (L - 1 - i) by omega, hd _ (by omega)]
  simp [dgs, List.getD, hi]
end Go.Proofs.Ytnnlpiflalmmlaa
