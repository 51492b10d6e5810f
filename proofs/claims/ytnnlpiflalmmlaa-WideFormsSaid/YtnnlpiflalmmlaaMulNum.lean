/-
  Plain: what sixteen rounds of a long multiplication make.
-/
import Derived.Test.YtnnlpiflalmmlaaNum
namespace Go.Proofs.Ytnnlpiflalmmlaa
open Go.RowKit

theorem VV (b a0 a1 a2 a3 b0 b1 b2 b3 : Int) : (a0 + b * a1 + b * b * a2 + b * b * b * a3) * (b0 + b * b1 + b * b * b2 + b * b * b * b3) =
    a0 * b0 + b * (a0 * b1 + a1 * b0) + b * b * (a0 * b2 + a1 * b1 + a2 * b0) + b * b * b * (a0 * b3 + a1 * b2 + a2 * b1 + a3 * b0) + b * b * b * b * (a1 * b3 + a2 * b2 + a3 * b1) + b * b * b * b * b * (a2 * b3 + a3 * b2) + b * b * b * b * b * b * (a3 * b3) := by
  grind

theorem mul_total {a0 a1 a2 a3 b0 b1 b2 b3 s00 s01 s02 s03 s10 s11 s12 s13 s20 s21 s22 s23 s30 s31 s32 s33 k00 k01 k02 k03 k10 k11 k12 k13 k20 k21 k22 k23 k30 k31 k32 k33 : Int}
    (h : s33 + B * k33 = k23 + k32 + a3 * b3 ∧ s32 + B * k32 = s23 + k31 + a3 * b2 ∧ s31 + B * k31 = s22 + k30 + a3 * b1 ∧ s30 + B * k30 = s21 + 0 + a3 * b0 ∧
      s23 + B * k23 = k13 + k22 + a2 * b3 ∧ s22 + B * k22 = s13 + k21 + a2 * b2 ∧ s21 + B * k21 = s12 + k20 + a2 * b1 ∧ s20 + B * k20 = s11 + 0 + a2 * b0 ∧
      s13 + B * k13 = k03 + k12 + a1 * b3 ∧ s12 + B * k12 = s03 + k11 + a1 * b2 ∧ s11 + B * k11 = s02 + k10 + a1 * b1 ∧ s10 + B * k10 = s01 + 0 + a1 * b0 ∧
      s03 + B * k03 = 0 + k02 + a0 * b3 ∧ s02 + B * k02 = 0 + k01 + a0 * b2 ∧ s01 + B * k01 = 0 + k00 + a0 * b1 ∧ s00 + B * k00 = 0 + 0 + a0 * b0 ∧ True) :
    V s00 s10 s20 s30 + M * V s31 s32 s33 k33 = V a0 a1 a2 a3 * V b0 b1 b2 b3 := by
  have e := VV B a0 a1 a2 a3 b0 b1 b2 b3
  unfold V
  rw [e]
  clear e
  generalize a0 * b0 = p00 at *
  generalize a0 * b1 = p01 at *
  generalize a0 * b2 = p02 at *
  generalize a0 * b3 = p03 at *
  generalize a1 * b0 = p10 at *
  generalize a1 * b1 = p11 at *
  generalize a1 * b2 = p12 at *
  generalize a1 * b3 = p13 at *
  generalize a2 * b0 = p20 at *
  generalize a2 * b1 = p21 at *
  generalize a2 * b2 = p22 at *
  generalize a2 * b3 = p23 at *
  generalize a3 * b0 = p30 at *
  generalize a3 * b1 = p31 at *
  generalize a3 * b2 = p32 at *
  generalize a3 * b3 = p33 at *
  unfold M
  unfold B at *
  omega

theorem V_pos {a0 a1 a2 a3 : Int} (h : D4 a0 a1 a2 a3) (hn : ¬ (a0 = 0 ∧ a1 = 0 ∧ a2 = 0 ∧ a3 = 0)) : 1 ≤ V a0 a1 a2 a3 := by
  unfold D4 Dg B at h; unfold V B; omega

theorem mul_fin {X lo0 lo1 lo2 lo3 hi0 hi1 hi2 hi3 : Int} (h : V lo0 lo1 lo2 lo3 + M * V hi0 hi1 hi2 hi3 = X) (d : D4 lo0 lo1 lo2 lo3) (d' : D4 hi0 hi1 hi2 hi3) :
    D4 lo0 lo1 lo2 lo3 ∧ ((hi0 = 0 ∧ hi1 = 0 ∧ hi2 = 0 ∧ hi3 = 0) → X < M ∧ V lo0 lo1 lo2 lo3 = X) ∧ (¬ (hi0 = 0 ∧ hi1 = 0 ∧ hi2 = 0 ∧ hi3 = 0) → M ≤ X) := by
  have u := V_hi d
  have l := V_lo d
  refine ⟨d, ?_, ?_⟩
  · rintro ⟨rfl, rfl, rfl, rfl⟩
    have z : V 0 0 0 0 = 0 := by unfold V; simp
    rw [z] at h
    omega
  · intro hn
    have p := V_pos d' hn
    generalize V hi0 hi1 hi2 hi3 = v at *
    have e : M = B * B * B * B := rfl
    unfold B at e
    have q : M * 1 ≤ M * v := Int.mul_le_mul_of_nonneg_left p (by omega)
    omega
end Go.Proofs.Ytnnlpiflalmmlaa
