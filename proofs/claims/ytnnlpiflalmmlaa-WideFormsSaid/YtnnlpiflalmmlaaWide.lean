/-
  The walks of package wide: sums and differences.
-/
import Derived.Test.YtnnlpiflalmmlaaNum
import Derived.WalkSpells
import Derived.WalkLawsBesides
import Derived.StillTailTactics
import Derived.BigQuiet
import Derived.Deep.QuietTactic
import Derived.Lib.Hide
namespace Go.Proofs.Ytnnlpiflalmmlaa
open Go.RowKit

def sub64Entry : Array Value → Sem Value := fun args => do
  let (x, y, b) ← Extern.MathBitsCarry.three "Sub64" args
  pure (Extern.MathBitsCarry.pair ((x + Extern.MathBitsCarry.m64 - y - b) % Extern.MathBitsCarry.m64) (if x < y + b then 1 else 0))

theorem run_sub64 {P : Program} (x y c : Int) (hx : 0 ≤ x) (hy : 0 ≤ y) (hyx : y < 18446744073709551616) (hc0 : 0 ≤ c) (hc : c ≤ 1) (w : World) :
    (sub64Entry #[.int .u64 x, .int .u64 y, .int .u64 c]).run P w =
      .ok (.tuple #[.int .u64 (sb x y c), .int .u64 (bo x y c)]) w := by
  have key : ∀ k : Nat, k ≤ 1 → (sub64Entry #[.int .u64 x, .int .u64 y, .int .u64 (k : Int)]).run P w =
      .ok (Extern.MathBitsCarry.pair ((x.toNat + Extern.MathBitsCarry.m64 - y.toNat - k) % Extern.MathBitsCarry.m64) (if x.toNat < y.toNat + k then 1 else 0)) w := by
    intro k hk
    have : k = 0 ∨ k = 1 := by omega
    rcases this with rfl | rfl <;> rfl
  obtain ⟨k, rfl⟩ := Int.eq_ofNat_of_zero_le hc0
  rw [key k (by omega)]
  obtain ⟨X, rfl⟩ := Int.eq_ofNat_of_zero_le hx
  obtain ⟨Y, rfl⟩ := Int.eq_ofNat_of_zero_le hy
  have e1 : ((((X : Int).toNat + Extern.MathBitsCarry.m64 - (Y : Int).toNat - k) % Extern.MathBitsCarry.m64 : Nat) : Int) = sb X Y k := by
    unfold sb Extern.MathBitsCarry.m64; omega
  have e2 : (((if (X : Int).toNat < (Y : Int).toNat + k then 1 else 0 : Nat)) : Int) = bo X Y k := by
    unfold bo; split <;> split <;> omega
  simp only [Extern.MathBitsCarry.pair, Int.ofNat_eq_natCast, e1, e2]

theorem call_sub64 {x y c : Int} (hx : Dg x) (hy : Dg y) (hc0 : 0 ≤ c) (hc : c ≤ 1) (w : World) :
    (callFunc 39 #[.int .u64 x, .int .u64 y, .int .u64 c]).run Try.prog w = .ok (.value (.tuple #[.int .u64 (sb x y c), .int .u64 (bo x y c)])) w := by
  rw [run_callFunc_extern (e := sub64Entry) Try.func39 (by kernel_rfl) (by kernel_rfl) (by kernel_rfl) (by kernel_rfl), run_sub64 x y c hx.1 hy.1 hy.2 hc0 hc]
  rfl

theorem call_add64 {x y c : Int} (hx : Dg x) (hy : Dg y) (hc0 : 0 ≤ c) (hc : c ≤ 1) (w : World) :
    (callFunc 35 #[.int .u64 x, .int .u64 y, .int .u64 c]).run Try.prog w = .ok (.value (.tuple #[.int .u64 (ad x y c), .int .u64 (ca x y c)])) w := by
  rw [run_callFunc_extern (e := add64Entry) Try.func35 (by kernel_rfl) (by kernel_rfl) (by kernel_rfl) (by kernel_rfl), run_add64 x y c hx.1 hy.1 hc0 hc]
  rfl

set_option maxHeartbeats 1000000 in
theorem sub_raw {a0 a1 a2 a3 b0 b1 b2 b3 : Int} (ha : D4 a0 a1 a2 a3) (hb : D4 b0 b1 b2 b3) (w : World) :
    Calls Try.prog 33 #[.agg #[.int .u64 a0, .int .u64 a1, .int .u64 a2, .int .u64 a3], .agg #[.int .u64 b0, .int .u64 b1, .int .u64 b2, .int .u64 b3]] w fun e w' =>
      e = .returned (.tuple #[.agg #[.int .u64 (sb a0 b0 0), .int .u64 (sb a1 b1 (bo a0 b0 0)), .int .u64 (sb a2 b2 (bo a1 b1 (bo a0 b0 0))), .int .u64 (sb a3 b3 (bo a2 b2 (bo a1 b1 (bo a0 b0 0))))], .int .u64 (bo a3 b3 (bo a2 b2 (bo a1 b1 (bo a0 b0 0))))]) ∧ Below w.heap.size w w' := by
  have h0 := call_sub64 ha.1 hb.1 (Int.le_refl 0) (by omega)
  have h1 := call_sub64 ha.2.1 hb.2.1 (bo_lo a0 b0 0) (bo_hi _ _ _)
  have h2 := call_sub64 ha.2.2.1 hb.2.2.1 (bo_lo a1 b1 (bo a0 b0 0)) (bo_hi _ _ _)
  have h3 := call_sub64 ha.2.2.2 hb.2.2.2 (bo_lo a2 b2 (bo a1 b1 (bo a0 b0 0))) (bo_hi _ _ _)
  clear ha hb
  go_enter Try.func33, Try.ntmps33
  go_wp2_with fail
  refine wp_loop_rounds 5 ?_
  iterate 4
    rw [rounds_succ]
    go_wp2_with fail
    go_region
    go_wp2_with fail
  rw [rounds_succ]
  go_wp2_with fail
  exact bodyPost_ret (v := .tuple #[.agg #[.int .u64 (sb a0 b0 0), .int .u64 (sb a1 b1 (bo a0 b0 0)), .int .u64 (sb a2 b2 (bo a1 b1 (bo a0 b0 0))), .int .u64 (sb a3 b3 (bo a2 b2 (bo a1 b1 (bo a0 b0 0))))], .int .u64 (bo a3 b3 (bo a2 b2 (bo a1 b1 (bo a0 b0 0))))]) (by simp [results, Try.results33, go_sem]) rfl
    ⟨rfl, ((((((((Below.refl _ _).alloc (Nat.le_refl _) _).alloc (by simp) _).alloc (by simp; omega) _).drew).drew).drew).drew)⟩

set_option maxHeartbeats 1000000 in
theorem add_raw {a0 a1 a2 a3 b0 b1 b2 b3 : Int} (ha : D4 a0 a1 a2 a3) (hb : D4 b0 b1 b2 b3) (w : World) :
    Calls Try.prog 30 #[.agg #[.int .u64 a0, .int .u64 a1, .int .u64 a2, .int .u64 a3], .agg #[.int .u64 b0, .int .u64 b1, .int .u64 b2, .int .u64 b3]] w fun e w' =>
      e = .returned (.tuple #[.agg #[.int .u64 (ad a0 b0 0), .int .u64 (ad a1 b1 (ca a0 b0 0)), .int .u64 (ad a2 b2 (ca a1 b1 (ca a0 b0 0))), .int .u64 (ad a3 b3 (ca a2 b2 (ca a1 b1 (ca a0 b0 0))))], .int .u64 (ca a3 b3 (ca a2 b2 (ca a1 b1 (ca a0 b0 0))))]) ∧ Below w.heap.size w w' := by
  obtain ⟨c0, c1, c2, _⟩ := add4 ha hb
  have h0 := call_add64 ha.1 hb.1 (Int.le_refl 0) (by omega)
  have h1 := call_add64 ha.2.1 hb.2.1 c0.1 c0.2
  have h2 := call_add64 ha.2.2.1 hb.2.2.1 c1.1 c1.2
  have h3 := call_add64 ha.2.2.2 hb.2.2.2 c2.1 c2.2
  clear ha hb c0 c1 c2
  go_enter Try.func30, Try.ntmps30
  go_wp2_with fail
  refine wp_loop_rounds 5 ?_
  iterate 4
    rw [rounds_succ]
    go_wp2_with fail
    go_region
    go_wp2_with fail
  rw [rounds_succ]
  go_wp2_with fail
  exact bodyPost_ret (v := .tuple #[.agg #[.int .u64 (ad a0 b0 0), .int .u64 (ad a1 b1 (ca a0 b0 0)), .int .u64 (ad a2 b2 (ca a1 b1 (ca a0 b0 0))), .int .u64 (ad a3 b3 (ca a2 b2 (ca a1 b1 (ca a0 b0 0))))], .int .u64 (ca a3 b3 (ca a2 b2 (ca a1 b1 (ca a0 b0 0))))]) (by simp [results, Try.results30, go_sem]) rfl
    ⟨rfl, ((((((((Below.refl _ _).alloc (Nat.le_refl _) _).alloc (by simp) _).alloc (by simp; omega) _).drew).drew).drew).drew)⟩

/-- A pair: four digits and one number besides. -/
def PairP (w : World) (R : Int → Int → Int → Int → Int → Prop) (e : Ending) (w' : World) : Prop :=
  ∃ r0 r1 r2 r3 c : Int, e = .returned (.tuple #[.agg #[.int .u64 r0, .int .u64 r1, .int .u64 r2, .int .u64 r3], .int .u64 c]) ∧ R r0 r1 r2 r3 c ∧ Below w.heap.size w w'

/-- A number and how the call ended. -/
def NumP (w : World) (R : Int → Int → Int → Int → Int → Prop) (e : Ending) (w' : World) : Prop :=
  ∃ r0 r1 r2 r3 c : Int, e = .returned (.tuple #[.agg #[.int .u64 r0, .int .u64 r1, .int .u64 r2, .int .u64 r3], .int .i64 c]) ∧ R r0 r1 r2 r3 c ∧ Below w.heap.size w w'

theorem sub_any {a0 a1 a2 a3 b0 b1 b2 b3 : Int} (ha : D4 a0 a1 a2 a3) (hb : D4 b0 b1 b2 b3) (w : World) :
    Calls Try.prog 33 #[.agg #[.int .u64 a0, .int .u64 a1, .int .u64 a2, .int .u64 a3], .agg #[.int .u64 b0, .int .u64 b1, .int .u64 b2, .int .u64 b3]] w
      (PairP w fun r0 r1 r2 r3 c => D4 r0 r1 r2 r3 ∧ (c = 0 ∨ c = 1) ∧ V r0 r1 r2 r3 = V a0 a1 a2 a3 - V b0 b1 b2 b3 + M * c) :=
  (sub_raw ha hb w).mono fun _ _ ⟨he, hw⟩ => ⟨_, _, _, _, _, he, ⟨(sub4 ha hb).1, by unfold bo; split <;> omega, (sub4 ha hb).2⟩, hw⟩

theorem add_any {a0 a1 a2 a3 b0 b1 b2 b3 : Int} (ha : D4 a0 a1 a2 a3) (hb : D4 b0 b1 b2 b3) (w : World) :
    Calls Try.prog 30 #[.agg #[.int .u64 a0, .int .u64 a1, .int .u64 a2, .int .u64 a3], .agg #[.int .u64 b0, .int .u64 b1, .int .u64 b2, .int .u64 b3]] w
      (PairP w fun r0 r1 r2 r3 c => D4 r0 r1 r2 r3 ∧ (c = 0 ∨ c = 1) ∧ V r0 r1 r2 r3 = V a0 a1 a2 a3 + V b0 b1 b2 b3 - M * c) := by
  have h := add4 ha hb
  exact (add_raw ha hb w).mono fun _ _ ⟨he, hw⟩ => ⟨_, _, _, _, _, he, ⟨h.2.2.2.2.1, by have := h.2.2.2.1; omega, h.2.2.2.2.2⟩, hw⟩
end Go.Proofs.Ytnnlpiflalmmlaa
