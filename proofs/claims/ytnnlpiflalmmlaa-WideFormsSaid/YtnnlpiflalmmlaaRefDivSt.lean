/-
  What stands in memory while the document divides.
-/
import Derived.Test.YtnnlpiflalmmlaaRefDivNum
namespace Go.Proofs.Ytnnlpiflalmmlaa
open Go.RowKit

/-- The dividend, the divisor, two zeros for the results, the quotient, the rest. -/
structure RSt (w wr : World) (bq : Nat) (a0 a1 a2 a3 b0 b1 b2 b3 q0 q1 q2 q3 r0 r1 r2 r3 : Int) : Prop where
  below : Below w.heap.size w wr
  A : At4 wr w.heap.size a0 a1 a2 a3
  D : At4 wr (w.heap.size + 1) b0 b1 b2 b3
  P : At4 wr (w.heap.size + 1 + 1) 0 0 0 0
  U : At4 wr (w.heap.size + 1 + 1 + 1) 0 0 0 0
  Q : At4 wr bq q0 q1 q2 q3
  R : At4 wr (bq + 1) r0 r1 r2 r3
  l : w.heap.size + 1 + 1 + 1 < bq

section
variable {w wr w1 : World} {bq : Nat} {a0 a1 a2 a3 b0 b1 b2 b3 q0 q1 q2 q3 r0 r1 r2 r3 : Int}
theorem RSt.on (h : RSt w wr bq a0 a1 a2 a3 b0 b1 b2 b3 q0 q1 q2 q3 r0 r1 r2 r3) (hb : Below wr.heap.size wr w1) : RSt w w1 bq a0 a1 a2 a3 b0 b1 b2 b3 q0 q1 q2 q3 r0 r1 r2 r3 :=
  ⟨h.below.trans (hb.mono (by have := h.R.lt; have := h.l; omega)), h.A.on hb, h.D.on hb, h.P.on hb, h.U.on hb, h.Q.on hb, h.R.on hb, h.l⟩
theorem RSt.drew (h : RSt w wr bq a0 a1 a2 a3 b0 b1 b2 b3 q0 q1 q2 q3 r0 r1 r2 r3) : RSt w wr.drew bq a0 a1 a2 a3 b0 b1 b2 b3 q0 q1 q2 q3 r0 r1 r2 r3 := ⟨h.below.drew, h.A, h.D, h.P, h.U, h.Q, h.R, h.l⟩
theorem RSt.alloc (h : RSt w wr bq a0 a1 a2 a3 b0 b1 b2 b3 q0 q1 q2 q3 r0 r1 r2 r3) (o : Obj) : RSt w (wr.alloc o) bq a0 a1 a2 a3 b0 b1 b2 b3 q0 q1 q2 q3 r0 r1 r2 r3 :=
  ⟨h.below.alloc (by have := h.R.lt; have := h.l; omega) o, h.A.alloc o, h.D.alloc o, h.P.alloc o, h.U.alloc o, h.Q.alloc o, h.R.alloc o, h.l⟩
theorem RSt.putR0 (h : RSt w wr bq a0 a1 a2 a3 b0 b1 b2 b3 q0 q1 q2 q3 r0 r1 r2 r3) (y : Int) : RSt w (wr.setCell ⟨bq + 1, 0, none⟩ (.int .u64 y)) bq a0 a1 a2 a3 b0 b1 b2 b3 q0 q1 q2 q3 y r1 r2 r3 := by
  have l := h.l
  exact ⟨h.below.setCell (by simp; omega) _, h.A.other (by simp; omega) _, h.D.other (by simp; omega) _, h.P.other (by simp; omega) _, h.U.other (by simp; omega) _, h.Q.other (by simp) _, h.R.set0 _, l⟩
theorem RSt.putQ0 (h : RSt w wr bq a0 a1 a2 a3 b0 b1 b2 b3 q0 q1 q2 q3 r0 r1 r2 r3) (y : Int) : RSt w (wr.setCell ⟨bq, 0, none⟩ (.int .u64 y)) bq a0 a1 a2 a3 b0 b1 b2 b3 y q1 q2 q3 r0 r1 r2 r3 := by
  have l := h.l
  exact ⟨h.below.setCell (by simp; omega) _, h.A.other (by simp; omega) _, h.D.other (by simp; omega) _, h.P.other (by simp; omega) _, h.U.other (by simp; omega) _, h.Q.set0 _, h.R.other (by simp) _, l⟩
theorem RSt.putR1 (h : RSt w wr bq a0 a1 a2 a3 b0 b1 b2 b3 q0 q1 q2 q3 r0 r1 r2 r3) (y : Int) : RSt w (wr.setCell ⟨bq + 1, 1, none⟩ (.int .u64 y)) bq a0 a1 a2 a3 b0 b1 b2 b3 q0 q1 q2 q3 r0 y r2 r3 := by
  have l := h.l
  exact ⟨h.below.setCell (by simp; omega) _, h.A.other (by simp; omega) _, h.D.other (by simp; omega) _, h.P.other (by simp; omega) _, h.U.other (by simp; omega) _, h.Q.other (by simp) _, h.R.set1 _, l⟩
theorem RSt.putQ1 (h : RSt w wr bq a0 a1 a2 a3 b0 b1 b2 b3 q0 q1 q2 q3 r0 r1 r2 r3) (y : Int) : RSt w (wr.setCell ⟨bq, 1, none⟩ (.int .u64 y)) bq a0 a1 a2 a3 b0 b1 b2 b3 q0 y q2 q3 r0 r1 r2 r3 := by
  have l := h.l
  exact ⟨h.below.setCell (by simp; omega) _, h.A.other (by simp; omega) _, h.D.other (by simp; omega) _, h.P.other (by simp; omega) _, h.U.other (by simp; omega) _, h.Q.set1 _, h.R.other (by simp) _, l⟩
theorem RSt.putR2 (h : RSt w wr bq a0 a1 a2 a3 b0 b1 b2 b3 q0 q1 q2 q3 r0 r1 r2 r3) (y : Int) : RSt w (wr.setCell ⟨bq + 1, 2, none⟩ (.int .u64 y)) bq a0 a1 a2 a3 b0 b1 b2 b3 q0 q1 q2 q3 r0 r1 y r3 := by
  have l := h.l
  exact ⟨h.below.setCell (by simp; omega) _, h.A.other (by simp; omega) _, h.D.other (by simp; omega) _, h.P.other (by simp; omega) _, h.U.other (by simp; omega) _, h.Q.other (by simp) _, h.R.set2 _, l⟩
theorem RSt.putQ2 (h : RSt w wr bq a0 a1 a2 a3 b0 b1 b2 b3 q0 q1 q2 q3 r0 r1 r2 r3) (y : Int) : RSt w (wr.setCell ⟨bq, 2, none⟩ (.int .u64 y)) bq a0 a1 a2 a3 b0 b1 b2 b3 q0 q1 y q3 r0 r1 r2 r3 := by
  have l := h.l
  exact ⟨h.below.setCell (by simp; omega) _, h.A.other (by simp; omega) _, h.D.other (by simp; omega) _, h.P.other (by simp; omega) _, h.U.other (by simp; omega) _, h.Q.set2 _, h.R.other (by simp) _, l⟩
theorem RSt.putR3 (h : RSt w wr bq a0 a1 a2 a3 b0 b1 b2 b3 q0 q1 q2 q3 r0 r1 r2 r3) (y : Int) : RSt w (wr.setCell ⟨bq + 1, 3, none⟩ (.int .u64 y)) bq a0 a1 a2 a3 b0 b1 b2 b3 q0 q1 q2 q3 r0 r1 r2 y := by
  have l := h.l
  exact ⟨h.below.setCell (by simp; omega) _, h.A.other (by simp; omega) _, h.D.other (by simp; omega) _, h.P.other (by simp; omega) _, h.U.other (by simp; omega) _, h.Q.other (by simp) _, h.R.set3 _, l⟩
theorem RSt.putQ3 (h : RSt w wr bq a0 a1 a2 a3 b0 b1 b2 b3 q0 q1 q2 q3 r0 r1 r2 r3) (y : Int) : RSt w (wr.setCell ⟨bq, 3, none⟩ (.int .u64 y)) bq a0 a1 a2 a3 b0 b1 b2 b3 q0 q1 q2 y r0 r1 r2 r3 := by
  have l := h.l
  exact ⟨h.below.setCell (by simp; omega) _, h.A.other (by simp; omega) _, h.D.other (by simp; omega) _, h.P.other (by simp; omega) _, h.U.other (by simp; omega) _, h.Q.set3 _, h.R.other (by simp) _, l⟩
theorem RSt.putR (h : RSt w wr bq a0 a1 a2 a3 b0 b1 b2 b3 q0 q1 q2 q3 r0 r1 r2 r3) (y0 y1 y2 y3 : Int) :
    RSt w ((((wr.setCell ⟨bq + 1, 0, none⟩ (.int .u64 y0)).setCell ⟨bq + 1, 1, none⟩ (.int .u64 y1)).setCell ⟨bq + 1, 2, none⟩ (.int .u64 y2)).setCell ⟨bq + 1, 3, none⟩ (.int .u64 y3)) bq a0 a1 a2 a3 b0 b1 b2 b3 q0 q1 q2 q3 y0 y1 y2 y3 :=
  (((h.putR0 y0).putR1 y1).putR2 y2).putR3 y3
end

/-- Where the division stands when k bits are still to come. -/
structure RLong (w wr : World) (bq : Nat) (a0 a1 a2 a3 b0 b1 b2 b3 q0 q1 q2 q3 r0 r1 r2 r3 : Int) (k : Nat) (Q : Int) : Prop where
  st : RSt w wr bq a0 a1 a2 a3 b0 b1 b2 b3 q0 q1 q2 q3 r0 r1 r2 r3
  dq : D4 q0 q1 q2 q3
  dr : D4 r0 r1 r2 r3
  vq : V q0 q1 q2 q3 = Q * 2 ^ k
  eq : V a0 a1 a2 a3 / 2 ^ k = V b0 b1 b2 b3 * Q + V r0 r1 r2 r3
  lt : V r0 r1 r2 r3 < V b0 b1 b2 b3
end Go.Proofs.Ytnnlpiflalmmlaa
