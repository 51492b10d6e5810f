/-
  Plain facts on 64-bit digits and numbers of four of them: nothing here speaks of the program.
-/
import Derived.Test.YtnnlpiflalmmlaaRows
import Derived.WalkKit
namespace Go.Proofs.Ytnnlpiflalmmlaa
open Go.RowKit

/-- The base of a digit. -/
def B : Int := 18446744073709551616
/-- A digit. -/
def Dg (x : Int) : Prop := 0 ≤ x ∧ x < B
/-- Four digits. -/
def D4 (a0 a1 a2 a3 : Int) : Prop := Dg a0 ∧ Dg a1 ∧ Dg a2 ∧ Dg a3
/-- What four digits tell. -/
def V (a0 a1 a2 a3 : Int) : Int := a0 + B * a1 + B * B * a2 + B * B * B * a3
/-- The greatest number, and one. -/
def M : Int := B * B * B * B

theorem V_lo {a0 a1 a2 a3 : Int} (h : D4 a0 a1 a2 a3) : 0 ≤ V a0 a1 a2 a3 := by
  unfold D4 Dg B at h; unfold V B; omega
theorem V_hi {a0 a1 a2 a3 : Int} (h : D4 a0 a1 a2 a3) : V a0 a1 a2 a3 < M := by
  unfold D4 Dg B at h; unfold V M B; omega
theorem V_inj {a0 a1 a2 a3 b0 b1 b2 b3 : Int} (h : D4 a0 a1 a2 a3) (k : D4 b0 b1 b2 b3) (e : V a0 a1 a2 a3 = V b0 b1 b2 b3) : a0 = b0 ∧ a1 = b1 ∧ a2 = b2 ∧ a3 = b3 := by
  unfold D4 Dg B at h k; unfold V B at e; omega

/-- The difference's low 64 bits, and what is borrowed. -/
def sb (x y b : Int) : Int := (x + 18446744073709551616 - y - b) % 18446744073709551616
def bo (x y b : Int) : Int := if x < y + b then 1 else 0
theorem bo_lo (x y b : Int) : 0 ≤ bo x y b := by unfold bo; split <;> omega
theorem bo_hi (x y b : Int) : bo x y b ≤ 1 := by unfold bo; split <;> omega
theorem sb_eq {x y b : Int} (hx : Dg x) (hy : Dg y) (h0 : 0 ≤ b) (h1 : b ≤ 1) : Dg (sb x y b) ∧ sb x y b = x - y - b + B * bo x y b := by
  unfold Dg B at *; unfold sb bo; split <;> omega
theorem sub4 {a0 a1 a2 a3 b0 b1 b2 b3 : Int} (h : D4 a0 a1 a2 a3) (k : D4 b0 b1 b2 b3) :
    D4 (sb a0 b0 0) (sb a1 b1 (bo a0 b0 0)) (sb a2 b2 (bo a1 b1 (bo a0 b0 0))) (sb a3 b3 (bo a2 b2 (bo a1 b1 (bo a0 b0 0)))) ∧
    V (sb a0 b0 0) (sb a1 b1 (bo a0 b0 0)) (sb a2 b2 (bo a1 b1 (bo a0 b0 0))) (sb a3 b3 (bo a2 b2 (bo a1 b1 (bo a0 b0 0)))) =
      V a0 a1 a2 a3 - V b0 b1 b2 b3 + M * bo a3 b3 (bo a2 b2 (bo a1 b1 (bo a0 b0 0))) := by
  obtain ⟨h0, h1, h2, h3⟩ := h
  obtain ⟨k0, k1, k2, k3⟩ := k
  have e0 := sb_eq h0 k0 (Int.le_refl 0) (by omega)
  have e1 := sb_eq h1 k1 (bo_lo a0 b0 0) (bo_hi _ _ _)
  have e2 := sb_eq h2 k2 (bo_lo a1 b1 (bo a0 b0 0)) (bo_hi _ _ _)
  have e3 := sb_eq h3 k3 (bo_lo a2 b2 (bo a1 b1 (bo a0 b0 0))) (bo_hi _ _ _)
  refine ⟨⟨e0.1, e1.1, e2.1, e3.1⟩, ?_⟩
  have f0 := e0.2; have f1 := e1.2; have f2 := e2.2; have f3 := e3.2
  generalize sb a3 b3 (bo a2 b2 (bo a1 b1 (bo a0 b0 0))) = r3 at *
  generalize bo a3 b3 (bo a2 b2 (bo a1 b1 (bo a0 b0 0))) = c3 at *
  generalize sb a2 b2 (bo a1 b1 (bo a0 b0 0)) = r2 at *
  generalize bo a2 b2 (bo a1 b1 (bo a0 b0 0)) = c2 at *
  generalize sb a1 b1 (bo a0 b0 0) = r1 at *
  generalize bo a1 b1 (bo a0 b0 0) = c1 at *
  generalize sb a0 b0 0 = r0 at *
  generalize bo a0 b0 0 = c0 at *
  unfold V M; unfold B at *; omega

/-- The sum's low 64 bits, and what is carried. -/
def ad (x y c : Int) : Int := (x + y + c) % 18446744073709551616
def ca (x y c : Int) : Int := (x + y + c) / 18446744073709551616
theorem ad_eq {x y c : Int} (hx : Dg x) (hy : Dg y) (h0 : 0 ≤ c) (h1 : c ≤ 1) : Dg (ad x y c) ∧ ad x y c = x + y + c - B * ca x y c ∧ 0 ≤ ca x y c ∧ ca x y c ≤ 1 := by
  unfold Dg B at *; unfold ad ca; omega
theorem ca_lo {x y c : Int} (hx : Dg x) (hy : Dg y) (h0 : 0 ≤ c) (h1 : c ≤ 1) : 0 ≤ ca x y c := (ad_eq hx hy h0 h1).2.2.1
theorem ca_hi {x y c : Int} (hx : Dg x) (hy : Dg y) (h0 : 0 ≤ c) (h1 : c ≤ 1) : ca x y c ≤ 1 := (ad_eq hx hy h0 h1).2.2.2
theorem add4 {a0 a1 a2 a3 b0 b1 b2 b3 : Int} (h : D4 a0 a1 a2 a3) (k : D4 b0 b1 b2 b3) :
    (0 ≤ ca a0 b0 0 ∧ ca a0 b0 0 ≤ 1) ∧ (0 ≤ ca a1 b1 (ca a0 b0 0) ∧ ca a1 b1 (ca a0 b0 0) ≤ 1) ∧ (0 ≤ ca a2 b2 (ca a1 b1 (ca a0 b0 0)) ∧ ca a2 b2 (ca a1 b1 (ca a0 b0 0)) ≤ 1) ∧
    (0 ≤ ca a3 b3 (ca a2 b2 (ca a1 b1 (ca a0 b0 0))) ∧ ca a3 b3 (ca a2 b2 (ca a1 b1 (ca a0 b0 0))) ≤ 1) ∧
    D4 (ad a0 b0 0) (ad a1 b1 (ca a0 b0 0)) (ad a2 b2 (ca a1 b1 (ca a0 b0 0))) (ad a3 b3 (ca a2 b2 (ca a1 b1 (ca a0 b0 0)))) ∧
    V (ad a0 b0 0) (ad a1 b1 (ca a0 b0 0)) (ad a2 b2 (ca a1 b1 (ca a0 b0 0))) (ad a3 b3 (ca a2 b2 (ca a1 b1 (ca a0 b0 0)))) =
      V a0 a1 a2 a3 + V b0 b1 b2 b3 - M * ca a3 b3 (ca a2 b2 (ca a1 b1 (ca a0 b0 0))) := by
  obtain ⟨h0, h1, h2, h3⟩ := h
  obtain ⟨k0, k1, k2, k3⟩ := k
  have e0 := ad_eq h0 k0 (Int.le_refl 0) (by omega)
  have e1 := ad_eq h1 k1 e0.2.2.1 e0.2.2.2
  have e2 := ad_eq h2 k2 e1.2.2.1 e1.2.2.2
  have e3 := ad_eq h3 k3 e2.2.2.1 e2.2.2.2
  refine ⟨e0.2.2, e1.2.2, e2.2.2, e3.2.2, ⟨e0.1, e1.1, e2.1, e3.1⟩, ?_⟩
  have f0 := e0.2.1; have f1 := e1.2.1; have f2 := e2.2.1; have f3 := e3.2.1
  generalize ad a3 b3 (ca a2 b2 (ca a1 b1 (ca a0 b0 0))) = r3 at *
  generalize ca a3 b3 (ca a2 b2 (ca a1 b1 (ca a0 b0 0))) = c3 at *
  generalize ad a2 b2 (ca a1 b1 (ca a0 b0 0)) = r2 at *
  generalize ca a2 b2 (ca a1 b1 (ca a0 b0 0)) = c2 at *
  generalize ad a1 b1 (ca a0 b0 0) = r1 at *
  generalize ca a1 b1 (ca a0 b0 0) = c1 at *
  generalize ad a0 b0 0 = r0 at *
  generalize ca a0 b0 0 = c0 at *
  unfold V M; unfold B at *; omega
end Go.Proofs.Ytnnlpiflalmmlaa
