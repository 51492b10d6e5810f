/-
  The walk of package wide: Mul.
-/
import Derived.Test.YtnnlpiflalmmlaaWide3
import Derived.Test.YtnnlpiflalmmlaaShelf
import Derived.Test.YtnnlpiflalmmlaaMulNum
namespace Go.Proofs.Ytnnlpiflalmmlaa
open Go.RowKit

/-- Two digits' product, as two digits. -/
def Pr (x y : Int) (e : Ending) : Prop := ∃ hi lo : Int, e = .returned (.tuple #[.int .u64 hi, .int .u64 lo]) ∧ Dg lo ∧ 0 ≤ hi ∧ hi < B - 1 ∧ B * hi + lo = x * y ∧ x * y ≤ (B - 1) * (B - 1)

theorem mul64_any {x y : Int} (hx : Dg x) (hy : Dg y) (w : World) : Calls Try.prog 34 #[.int .u64 x, .int .u64 y] w fun e w' => Pr x y e ∧ w = w' := by
  obtain ⟨X, rfl⟩ := Int.eq_ofNat_of_zero_le hx.1
  obtain ⟨Y, rfl⟩ := Int.eq_ofNat_of_zero_le hy.1
  have h1 : X < 18446744073709551616 := by have := hx.2; unfold B at this; omega
  have h2 : Y < 18446744073709551616 := by have := hy.2; unfold B at this; omega
  refine (Try.bits_Mul64 X Y h1 h2 w).mono fun e w' ⟨he, hw⟩ => ⟨⟨_, _, he, ?_, ?_, ?_, ?_, ?_⟩, hw.symm⟩
  · unfold Dg B; omega
  · omega
  · have h3 : X * Y ≤ 18446744073709551615 * 18446744073709551615 := Nat.mul_le_mul (by omega) (by omega)
    unfold B; omega
  · have h4 : ((X * Y : Nat) : Int) = (X : Int) * (Y : Int) := by simp
    unfold B; omega
  · have h3 : X * Y ≤ 18446744073709551615 * 18446744073709551615 := Nat.mul_le_mul (by omega) (by omega)
    have h4 : ((X * Y : Nat) : Int) = (X : Int) * (Y : Int) := by simp
    unfold B; omega

theorem Dg_zero : Dg 0 := by unfold Dg B; omega
theorem upon_add64 {o : Oper} {a : Act} {K : Act → World → Prop} {Q : Exit → Act → World → Prop} {w : World} {x y : Int} (hx : Dg x) (hy : Dg y)
    (h : ∀ s c : Int, Dg s → 0 ≤ c → c ≤ 1 → s + B * c = x + y → K (a.put o.dst (.tuple #[.int .u64 s, .int .u64 c])) w) :
    Oper.upon Try.prog o a K Q ((callFunc 35 #[.int .u64 x, .int .u64 y, .int .u64 0]).run Try.prog w) := by
  rw [call_add64 hx hy (Int.le_refl 0) (by omega)]
  have e := ad_eq hx hy (Int.le_refl 0) (by omega)
  exact h _ _ e.1 e.2.2.1 e.2.2.2 (by have := e.2.1; omega)

theorem idx0 (x0 x1 x2 x3 : Value) (w : World) : (Instr.index 24 (.agg #[x0, x1, x2, x3]) (.int .i64 0)).run Try.prog w = .ok x0 w := by kernel_rfl
theorem idx1 (x0 x1 x2 x3 : Value) (w : World) : (Instr.index 24 (.agg #[x0, x1, x2, x3]) (.int .i64 1)).run Try.prog w = .ok x1 w := by kernel_rfl
theorem idx2 (x0 x1 x2 x3 : Value) (w : World) : (Instr.index 24 (.agg #[x0, x1, x2, x3]) (.int .i64 2)).run Try.prog w = .ok x2 w := by kernel_rfl
theorem idx3 (x0 x1 x2 x3 : Value) (w : World) : (Instr.index 24 (.agg #[x0, x1, x2, x3]) (.int .i64 3)).run Try.prog w = .ok x3 w := by kernel_rfl

theorem carry_ok {x y hi lo cy o s1 c1 s2 c2 : Int} (hlo : Dg lo) (hcy : Dg cy) (ho : Dg o) (_h1 : Dg s1) (h2 : Dg s2) (hh : 0 ≤ hi) (_l1 : 0 ≤ c1) (_l2 : 0 ≤ c2) (heq : B * hi + lo = x * y) (hp : x * y ≤ (B - 1) * (B - 1)) (e1 : s1 + B * c1 = lo + cy) (e2 : s2 + B * c2 = o + s1) :
    Dg (hi + c1 + c2) ∧ s2 + B * (hi + c1 + c2) = o + cy + x * y := by
  unfold Dg B at *; omega

theorem Try.arr4Cells : Try.prog.cellsOf 22 = 1 := by kernel_rfl

theorem upon_eq4 {o : Oper} {a : Act} {K : Act → World → Prop} {Q : Exit → Act → World → Prop} {w : World} {x0 x1 x2 x3 : Int} {F : Bool → World → Result Value} {G : Value → World → Result Next}
    (h : ∀ b : Bool, (b = true → (x0 = 0 ∧ x1 = 0 ∧ x2 = 0 ∧ x3 = 0)) → (b = false → ¬ (x0 = 0 ∧ x1 = 0 ∧ x2 = 0 ∧ x3 = 0)) → Oper.upon Try.prog o a K Q ((F b w).andThen G)) :
    Oper.upon Try.prog o a K Q ((((Op.equalIn 10000 23 (.agg #[.int .u64 x0, .int .u64 x1, .int .u64 x2, .int .u64 x3]) (.agg #[.int .u64 0, .int .u64 0, .int .u64 0, .int .u64 0])).run Try.prog w).andThen F).andThen G) := by
  have r := run_equalIn_ints (P := Try.prog) w 9998 Try.underlying23 Try.underlying22 Try.arr4Cells [x0, x1, x2, x3] [0, 0, 0, 0] rfl rfl
  have r' : (Op.equalIn 10000 23 (.agg #[.int .u64 x0, .int .u64 x1, .int .u64 x2, .int .u64 x3]) (.agg #[.int .u64 0, .int .u64 0, .int .u64 0, .int .u64 0])).run Try.prog w = .ok ([x0, x1, x2, x3] == [0, 0, 0, 0]) w := by simpa using r
  rw [r', Result.andThen_ok]
  exact h _ (fun e => by simpa using e) (fun e k => by simp [k] at e)

set_option maxHeartbeats 8000000 in
theorem Mul_any {a0 a1 a2 a3 b0 b1 b2 b3 : Int} (ha : D4 a0 a1 a2 a3) (hb : D4 b0 b1 b2 b3) (w : World) :
    Calls Try.prog 18 #[.agg #[.int .u64 a0, .int .u64 a1, .int .u64 a2, .int .u64 a3], .agg #[.int .u64 b0, .int .u64 b1, .int .u64 b2, .int .u64 b3]] w
      (NumP w fun r0 r1 r2 r3 c => D4 r0 r1 r2 r3 ∧ ((V a0 a1 a2 a3 * V b0 b1 b2 b3 < M ∧ c = 0 ∧ V r0 r1 r2 r3 = V a0 a1 a2 a3 * V b0 b1 b2 b3) ∨ (M ≤ V a0 a1 a2 a3 * V b0 b1 b2 b3 ∧ c = 30 ∧ V r0 r1 r2 r3 = 0))) := by
  have hat1 : ∀ (k : Nat) (w : World), (Instr.arrayAt 23 (.slice (some ⟨k, 4, none⟩) 4 4)).run Try.prog w = .ok (.pointer (some ⟨k, 4, none⟩)) w := fun k w => run_arrayAt w 23 22 4 _ 4 4 Try.underlying23 (Nat.le_refl _)
  have hat2 : ∀ (k : Nat) (w : World), (Instr.arrayAt 24 (.slice (some ⟨k, 0, none⟩) 4 8)).run Try.prog w = .ok (.pointer (some ⟨k, 0, none⟩)) w := fun k w => run_arrayAt w 24 22 4 _ 4 8 Try.underlying24 (Nat.le_refl _)
  have i0 := idx0
  have i1 := idx1
  have i2 := idx2
  have i3 := idx3
  obtain ⟨A0, A1, A2, A3⟩ := ha
  obtain ⟨B0, B1, B2, B3⟩ := hb
  have Z := Dg_zero
  have acc : Hid True := trivial
  go_enter Try.func18, Try.ntmps18
  go_wp2_with fail
  refine wp_loop_rounds 5 ?_
  iterate 4
    rw [rounds_succ]
    go_wp2_with fail
    refine wp_loop_rounds 5 ?_
    iterate 4
      rw [rounds_succ]
      go_wp2_with fail
      refine (mul64_any (by assumption) (by assumption) _).mono ?_
      rintro e w1 ⟨⟨hi, lo, rfl, hlo, hhi0, hhi1, heq, hp⟩, rfl⟩
      have hhi2 : hi < 18446744073709551615 := by unfold B at hhi1; omega
      have Heq := Lib.hid heq
      clear heq
      go_wp2_with fail
      refine upon_add64 hlo (by assumption) ?_
      intro s1 c1 hs1 l1 u1 e1
      have E1 := Lib.hid e1
      clear e1
      go_wp2_with fail
      refine upon_add64 (by assumption) hs1 ?_
      intro s2 c2 hs2 l2 u2 e2
      obtain ⟨hcar, hval⟩ := carry_ok hlo (by assumption) (by assumption) hs1 hs2 hhi0 l1 l2 Heq.out hp E1.out e2
      have acc := Lib.hid (And.intro hval acc.out)
      have hcar2 : hi + c1 + c2 < 18446744073709551616 := by have := hcar.2; unfold B at this; omega
      clear e2 E1 Heq hp hval hhi1
      go_wp2_with fail
      clear l1 u1 l2 u2 hcar2 hhi2 hhi0 hlo hs1
    rw [rounds_succ]
    go_wp2_with fail
  rw [rounds_succ]
  go_wp2_with fail
  have hfin := Lib.hid (mul_fin (mul_total acc.out) ⟨by assumption, by assumption, by assumption, by assumption⟩ ⟨by assumption, by assumption, by assumption, by assumption⟩)
  refine upon_eq4 ?_
  intro b hb1 hb0
  cases b
  · have hn := hb0 rfl
    clear hb0 hb1
    go_wp2_with fail
    refine bodyPost_ret (v := .tuple #[.agg #[.int .u64 0, .int .u64 0, .int .u64 0, .int .u64 0], .int .i64 30]) (by simp [results, Try.results18, go_sem]) rfl
      ⟨0, 0, 0, 0, 30, rfl, ⟨D4_zero, Or.inr ⟨hfin.out.2.2 hn, rfl, by unfold V; simp⟩⟩, ?_⟩
    repeat (first | exact Below.refl _ _ | refine Below.alloc ?_ (by simp; try omega) _)
  · have hn := Lib.hid (hb1 rfl)
    clear hb0 hb1
    go_wp2_with fail
    have f := hfin.out.2.1 hn.out
    refine bodyPost_ret (v := .tuple #[.agg #[.int .u64 _, .int .u64 _, .int .u64 _, .int .u64 _], .int .i64 0]) (by simp [results, Try.results18, go_sem]) rfl
      ⟨_, _, _, _, 0, rfl, ⟨hfin.out.1, Or.inl ⟨f.1, rfl, f.2⟩⟩, ?_⟩
    repeat (first | exact Below.refl _ _ | refine Below.alloc ?_ (by simp; try omega) _)
end Go.Proofs.Ytnnlpiflalmmlaa
