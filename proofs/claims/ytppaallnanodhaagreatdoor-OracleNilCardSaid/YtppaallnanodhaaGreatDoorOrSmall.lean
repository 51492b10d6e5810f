/-
  Package oracle: the small walks.
-/
import Derived.Test.YtppaallnanodhaaGreatDoorOrOps
import Derived.BigQuiet
import Derived.Deep.QuietTactic
import Derived.StillTailTactics
namespace Go.Proofs.YtppaallnanodhaaGreatDoor
set_option maxRecDepth 100000
open Go.RowKit

theorem made_any {w : World} {p : Nat} {o : Or} (h : OrB w p o) (hr : o.root.length = 32) (hw : 0 < o.wait) :
    Calls Tryz.prog 26 #[.pointer (some ⟨p, 0, none⟩)] w fun e w' => e = .returned (.bool true) ∧ w' = w := by
  obtain ⟨c0, -⟩ := h.facts hr
  go_enter Tryz.func26, Tryz.ntmps26
  go_wp2_with fail
  go_ret
  exact ⟨rfl, rfl⟩
theorem ready_any {w : World} {p : Nat} {o : Or} (h : OrB w p o) (hr : o.root.length = 32) (hw : 0 < o.wait) {n : Int} (h0 : 0 ≤ n) (h1 : n ≤ 1000) :
    Calls Tryz.prog 23 #[.pointer (some ⟨p, 0, none⟩), .int .i64 n] w fun e w' => e = .returned (.bool true) ∧ w' = w := by
  have d0 : decide (0 ≤ n) = true := by simp; omega
  have d1 : decide (n ≤ 1099511627776) = true := by simp; omega
  go_enter Tryz.func23, Tryz.ntmps23
  go_wp2_with fail
  refine (made_any h hr hw).mono ?_
  rintro e w1 ⟨rfl, rfl⟩
  go_wp2_with fail
  go_ret
  exact ⟨rfl, rfl⟩
theorem num_any (w : World) (n : Int) : Calls Tryz.prog 12 #[.int .i64 n] w fun e w' => e = .returned (.int .i64 n) ∧ w' = w := by
  go_enter Tryz.func12, Tryz.ntmps12
  go_wp2_with fail
  go_ret
  exact ⟨rfl, rfl⟩

theorem Bonds_any {w : World} {p : Nat} {o : Or} (h : OrB w p o) (hr : o.root.length = 32) (hw : 0 < o.wait) :
    Calls Tryz.prog 18 #[.pointer (some ⟨p, 0, none⟩)] w fun e w' => e = .returned (.int .i64 o.bonds) ∧ w' = w := by
  obtain ⟨-, -, -, -, -, -, c38⟩ := h.facts hr
  go_enter Tryz.func18, Tryz.ntmps18
  go_wp2_with fail
  refine (made_any h hr hw).mono ?_
  rintro e w1 ⟨rfl, rfl⟩
  go_wp2_with fail
  go_ret
  exact ⟨rfl, rfl⟩

theorem payBack_any {w : World} {p : Nat} {o : Or} (h : OrB w p o) (hr : o.root.length = 32) (n : Int) :
    Calls Tryz.prog 42 #[.pointer (some ⟨p, 0, none⟩), .int .i64 n] w fun e w' => e = .returned (.tuple #[]) ∧ w' = w := by
  obtain ⟨-, -, -, -, c36, -⟩ := h.facts hr
  go_enter Tryz.func42, Tryz.ntmps42
  go_wp2_with fail
  go_step3
  go_wp2_with fail
  go_step3
  go_wp2_with fail
  refine wp_loop_rounds 1 ?_
  rw [rounds_succ]
  go_wp2_with fail
  rw [Exit.noGoto_normal]
  go_end0
  exact ⟨rfl, rfl⟩

theorem Final_any {w : World} {p : Nat} {o : Or} (h : OrB w p o) (hr : o.root.length = 32) (hw : 0 < o.wait) :
    Calls Tryz.prog 8 #[.pointer (some ⟨p, 0, none⟩)] w fun e w' => e = .returned (.tuple #[.int .i64 o.num, .agg (hc o.root).toArray]) ∧ Below w.heap.size w w' := by
  have R := HashAt.new w zero32
  have h1 := h.alloc (.cells (hc zero32).toArray 24)
  have hl := hc_len o.root
  have B : Below w.heap.size w (w.alloc (.cells (hc zero32).toArray 24)) := (Below.refl _ _).alloc (Nat.le_refl _) _
  obtain ⟨-, c2, cr, -⟩ := h1.facts hr
  have zl := zero32_len
  have ct : (w.alloc (.cells (hc zero32).toArray 24)).there w.heap.size 0 32 := fun j hj => by
    refine ⟨?_, Joins.unfrozen_of_block R _⟩
    rw [cell_of_row _ _ _ _ _ _ R]
    simp [hc_len, zl, hj]
  go_enter Tryz.func8, Tryz.ntmps8
  go_wp2_with fail
  generalize hw1 : w.alloc (.cells (hc zero32).toArray 24) = wa at R h1 B c2 cr ct ⊢
  refine (made_any h1 hr hw).mono ?_
  rintro e w1 ⟨rfl, rfl⟩
  go_wp2_with fail
  go_region
  all_goals go_wp2_with fail
  all_goals (
    have cr2 : rowOf ((World.drew w1).setCells w.heap.size 0 (hc o.root)) w.heap.size 0 32 = hc o.root := by
      have := setCells_block (b := w.heap.size) (t := 24) (fr := (0, 0)) (hc o.root) (o := 0) (w := w1.drew) (pre := []) (mid := hc zero32) (post := []) (by simp only [List.nil_append, List.append_nil]; exact R) rfl (by simp only [hc_len, zl, hr])
      rw [rowOf_block this]
      simp [List.take_of_length_le (show (hc o.root).length ≤ 32 by rw [hl, hr]; exact Nat.le_refl _)]
    refine bodyPost_ret (v := .tuple #[.int .i64 o.num, .agg (hc o.root).toArray]) (by simp [results, Tryz.results8, go_sem, cr2, hr]) rfl ⟨rfl, below_setCells' _ (Nat.le_refl _) _ _ B.drew⟩)
end Go.Proofs.YtppaallnanodhaaGreatDoor
