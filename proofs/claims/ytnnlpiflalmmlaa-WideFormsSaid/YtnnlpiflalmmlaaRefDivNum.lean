/-
  Plain: the document's long division: the rest is doubled digit by digit.
-/
import Derived.Test.YtnnlpiflalmmlaaDiv
import Derived.Test.YtnnlpiflalmmlaaRefLess
namespace Go.Proofs.Ytnnlpiflalmmlaa
open Go.RowKit

theorem shl_any {r0 r1 r2 r3 bit : Int} (h : D4 r0 r1 r2 r3) (hb : bit = 0 ∨ bit = 1) :
    D4 (r0 * 2 % 18446744073709551616 + bit) (r1 * 2 % 18446744073709551616 + r0 / 9223372036854775808) (r2 * 2 % 18446744073709551616 + r1 / 9223372036854775808) (r3 * 2 % 18446744073709551616 + r2 / 9223372036854775808) ∧
    V (r0 * 2 % 18446744073709551616 + bit) (r1 * 2 % 18446744073709551616 + r0 / 9223372036854775808) (r2 * 2 % 18446744073709551616 + r1 / 9223372036854775808) (r3 * 2 % 18446744073709551616 + r2 / 9223372036854775808) = 2 * V r0 r1 r2 r3 + bit - M * (r3 / 9223372036854775808) ∧
    (r3 / 9223372036854775808 = 0 ∨ r3 / 9223372036854775808 = 1) := by
  obtain ⟨⟨l0, u0⟩, ⟨l1, u1⟩, ⟨l2, u2⟩, ⟨l3, u3⟩⟩ := h
  unfold B at u0 u1 u2 u3
  have e (r : Int) (l : 0 ≤ r) (u : r < 18446744073709551616) : ∃ t y, r / 9223372036854775808 = t ∧ r * 2 % 18446744073709551616 = y ∧ r * 2 = y + 18446744073709551616 * t ∧ (t = 0 ∨ t = 1) ∧ 0 ≤ y ∧ y ≤ 18446744073709551614 := ⟨_, _, rfl, rfl, by omega, by omega, by omega, by omega⟩
  obtain ⟨t0, y0, e0, f0, g0, c0, a0, b0⟩ := e r0 l0 u0
  obtain ⟨t1, y1, e1, f1, g1, c1, a1, b1⟩ := e r1 l1 u1
  obtain ⟨t2, y2, e2, f2, g2, c2, a2, b2⟩ := e r2 l2 u2
  obtain ⟨t3, y3, e3, f3, g3, c3, a3, b3⟩ := e r3 l3 u3
  rw [e0, e1, e2, e3, f0, f1, f2, f3]
  clear e0 e1 e2 e3 f0 f1 f2 f3
  refine ⟨⟨⟨by omega, by unfold B; omega⟩, ⟨by omega, by unfold B; omega⟩, ⟨by omega, by unfold B; omega⟩, ⟨by omega, by unfold B; omega⟩⟩, ?_, c3⟩
  unfold V M B
  omega

theorem ref_sub {A0 A1 D Q R Z L c top bit : Int} (h1 : A1 = D * Q + R) (h0 : A0 = 2 * A1 + bit) (hb : bit = 0 ∨ bit = 1) (hz : Z = 2 * R + bit - M * top) (ht : top = 0 ∨ top = 1) (hl : L = Z - D + M * c) (hc : c = 0 ∨ c = 1)
    (z0 : 0 ≤ Z) (z1 : Z < M) (l0 : 0 ≤ L) (l1 : L < M) (r0 : 0 ≤ R) (r1 : R < D) (d1 : D < M) (hgo : top = 1 ∨ D ≤ Z) : A0 = D * (2 * Q + 1) + L ∧ L < D := by
  have e : D * (2 * Q + 1) = 2 * (D * Q) + D := by rw [Int.mul_add, Int.mul_one, Int.mul_left_comm]
  rw [e]
  generalize D * Q = P at *
  unfold M B at *
  omega
theorem ref_skip {A0 A1 D Q R Z top bit : Int} (h1 : A1 = D * Q + R) (h0 : A0 = 2 * A1 + bit) (hz : Z = 2 * R + bit - M * top) (ht : top = 0) (hno : Z < D) : A0 = D * (2 * Q) + Z ∧ Z < D := by
  have e : D * (2 * Q) = 2 * (D * Q) := by rw [Int.mul_left_comm]
  rw [e]
  generalize D * Q = P at *
  subst ht
  omega
end Go.Proofs.Ytnnlpiflalmmlaa
