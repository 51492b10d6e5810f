/-
  The walks of package wide: Compare, Of, Low.
-/
import Derived.Test.YtnnlpiflalmmlaaWide2
import Derived.Test.YtnnlpiflalmmlaaEq
namespace Go.Proofs.Ytnnlpiflalmmlaa
open Go.RowKit

theorem Try.wideCells : Try.prog.cellsOf 22 = 1 := by kernel_rfl

theorem eq4_true {a0 a1 a2 a3 : Int} (w : World) : (Op.equalIn 10000 24 (.agg #[.int .u64 a0, .int .u64 a1, .int .u64 a2, .int .u64 a3]) (.agg #[.int .u64 a0, .int .u64 a1, .int .u64 a2, .int .u64 a3])).run Try.prog w = .ok true w := by
  have h := run_equalIn_ints (P := Try.prog) w 9998 Try.underlying24 Try.underlying22 Try.wideCells [a0, a1, a2, a3] [a0, a1, a2, a3] rfl rfl
  simpa using h

theorem eq4_false {a0 a1 a2 a3 b0 b1 b2 b3 : Int} (hne : ¬ (a0 = b0 ∧ a1 = b1 ∧ a2 = b2 ∧ a3 = b3)) (w : World) : (Op.equalIn 10000 24 (.agg #[.int .u64 a0, .int .u64 a1, .int .u64 a2, .int .u64 a3]) (.agg #[.int .u64 b0, .int .u64 b1, .int .u64 b2, .int .u64 b3])).run Try.prog w = .ok false w := by
  have h := run_equalIn_ints (P := Try.prog) w 9998 Try.underlying24 Try.underlying22 Try.wideCells [a0, a1, a2, a3] [b0, b1, b2, b3] rfl rfl
  have e : ([a0, a1, a2, a3] == [b0, b1, b2, b3]) = false := by
    rw [beq_eq_false_iff_ne]; intro h; simp at h; exact hne h
  rw [e] at h
  simpa using h

theorem V_ne {a0 a1 a2 a3 b0 b1 b2 b3 : Int} (h : V a0 a1 a2 a3 ≠ V b0 b1 b2 b3) : ¬ (a0 = b0 ∧ a1 = b1 ∧ a2 = b2 ∧ a3 = b3) := by
  rintro ⟨rfl, rfl, rfl, rfl⟩; exact h rfl

theorem num_any (c : Int) (w : World) : Calls Try.prog 12 #[.int .i64 c] w fun e w' => e = .returned (.int .i64 c) ∧ w = w' := by
  go_enter Try.func12, Try.ntmps12
  go_wp2
  go_ret
  exact ⟨rfl, rfl⟩

theorem Of_any (c : Int) (w : World) : Calls Try.prog 15 #[.int .u64 c] w fun e w' => e = .returned (.agg #[.int .u64 c, .int .u64 0, .int .u64 0, .int .u64 0]) ∧ Below w.heap.size w w' := by
  go_enter Try.func15, Try.ntmps15
  go_wp2
  exact bodyPost_ret (v := .agg #[.int .u64 c, .int .u64 0, .int .u64 0, .int .u64 0]) (by simp [results, Try.results15, go_sem]) rfl ⟨rfl, (Below.refl _ _).alloc (Nat.le_refl _) _⟩

def cmp (x y : Int) : Int := if x < y then -1 else if x = y then 0 else 1

set_option maxHeartbeats 1000000 in
theorem Compare_any {a0 a1 a2 a3 b0 b1 b2 b3 : Int} (ha : D4 a0 a1 a2 a3) (hb : D4 b0 b1 b2 b3) (w : World) :
    Calls Try.prog 13 #[.agg #[.int .u64 a0, .int .u64 a1, .int .u64 a2, .int .u64 a3], .agg #[.int .u64 b0, .int .u64 b1, .int .u64 b2, .int .u64 b3]] w
      fun e w' => e = .returned (.int .i64 (cmp (V a0 a1 a2 a3) (V b0 b1 b2 b3))) ∧ Below w.heap.size w w' := by
  by_cases hne : V a0 a1 a2 a3 = V b0 b1 b2 b3
  · obtain ⟨rfl, rfl, rfl, rfl⟩ := V_inj ha hb hne
    have he := @eq4_true a0 a1 a2 a3
    have hr : cmp (V a0 a1 a2 a3) (V a0 a1 a2 a3) = 0 := by unfold cmp; rw [if_neg (by omega), if_pos rfl]
    rw [hr]
    clear ha hb hne hr
    go_enter Try.func13, Try.ntmps13
    go_wp2_with fail
    go_ret
    exact ⟨rfl, ((Below.refl _ _).alloc (Nat.le_refl _) _).alloc (by simp) _⟩
  · have he := eq4_false (V_ne hne)
    have hc := sub_any ha hb
    have l1 := V_lo ha
    have l2 := V_lo hb
    have u1 := V_hi ha
    have u2 := V_hi hb
    have Hr : Hid (cmp (V a0 a1 a2 a3) (V b0 b1 b2 b3) = if V a0 a1 a2 a3 < V b0 b1 b2 b3 then -1 else 1) := by unfold cmp Hid; rw [if_neg hne]
    clear ha hb hne
    go_enter Try.func13, Try.ntmps13
    go_wp2_with fail
    refine (hc _).mono ?_
    rintro e w1 ⟨r0, r1, r2, r3, c, rfl, ⟨hd, h01, hv⟩, hbw⟩
    have B1 : Below w.heap.size w w1 := Below.trans (by repeat (first | exact Below.refl _ _ | refine Below.alloc ?_ (by simp; try omega) _)) (hbw.mono (by simp; omega))
    have HB := Lib.hid B1
    have Hv := Lib.hid hv
    have v1 := V_lo hd
    have v2 := V_hi hd
    have hz : w.heap.size + 1 < w1.heap.size := by have := hbw.size; simp at this; omega
    clear hbw B1 hv hd
    rcases h01 with rfl | rfl
    · go_wp2_with fail
      go_ret
      refine ⟨?_, ?_⟩
      · rw [Hr.out, if_neg (by have := Hv.out; omega)]; rfl
      · refine Below.alloc HB.out (by omega) _
    · go_wp2_with fail
      go_ret
      refine ⟨?_, ?_⟩
      · rw [Hr.out, if_pos (by have := Hv.out; omega)]; rfl
      · refine Below.alloc HB.out (by omega) _
end Go.Proofs.Ytnnlpiflalmmlaa
