/-
  The walks of Low and Of, the program's and the document's.
-/
import Derived.Test.YtgfdadcbendmbaaKnows
namespace Go.Proofs.Ytgfdadcbendmbaa
open Go.RowKit

theorem refOf_any (c : Int) (w : World) : Calls Try.prog 20 #[.int .u64 c] w fun e w' => e = .returned (.agg #[.int .u64 c, .int .u64 0, .int .u64 0, .int .u64 0]) ∧ Below w.heap.size w w' := by
  go_enter Try.func20, Try.ntmps20
  go_wp2
  exact bodyPost_ret (v := .agg #[.int .u64 c, .int .u64 0, .int .u64 0, .int .u64 0]) (by simp [results, Try.results20, go_sem]) rfl ⟨rfl, (Below.refl _ _).alloc (Nat.le_refl _) _⟩

theorem Low_yes (a0 : Int) (w : World) : Calls Try.prog 14 #[.agg #[.int .u64 a0, .int .u64 0, .int .u64 0, .int .u64 0]] w fun e w' => e = .returned (.tuple #[.int .u64 a0, .bool true]) ∧ Below w.heap.size w w' := by
  have heq := @eq4_true a0 0 0 0
  go_enter Try.func14, Try.ntmps14
  go_wp2_with fail
  go_ret2
  exact ⟨rfl, (Below.refl _ _).alloc (Nat.le_refl _) _⟩
theorem Low_no {a0 a1 a2 a3 : Int} (h : ¬ (a1 = 0 ∧ a2 = 0 ∧ a3 = 0)) (w : World) : Calls Try.prog 14 #[.agg #[.int .u64 a0, .int .u64 a1, .int .u64 a2, .int .u64 a3]] w fun e w' => e = .returned (.tuple #[.int .u64 0, .bool false]) ∧ Below w.heap.size w w' := by
  have heq := eq4_false (a0 := a0) (a1 := a1) (a2 := a2) (a3 := a3) (b0 := a0) (b1 := 0) (b2 := 0) (b3 := 0) (fun k => h k.2)
  clear h
  go_enter Try.func14, Try.ntmps14
  go_wp2_with fail
  go_ret2
  exact ⟨rfl, (Below.refl _ _).alloc (Nat.le_refl _) _⟩

theorem refLow_yes (a0 : Int) (w : World) : Calls Try.prog 15 #[.agg #[.int .u64 a0, .int .u64 0, .int .u64 0, .int .u64 0]] w fun e w' => e = .returned (.tuple #[.int .u64 a0, .bool true]) ∧ Below w.heap.size w w' := by
  go_enter Try.func15, Try.ntmps15
  go_wp2_with fail
  go_ret2
  exact ⟨rfl, (Below.refl _ _).alloc (Nat.le_refl _) _⟩
theorem refLow_no {a0 a1 a2 a3 : Int} (h : ¬ (a1 = 0 ∧ a2 = 0 ∧ a3 = 0)) (w : World) : Calls Try.prog 15 #[.agg #[.int .u64 a0, .int .u64 a1, .int .u64 a2, .int .u64 a3]] w fun e w' => e = .returned (.tuple #[.int .u64 0, .bool false]) ∧ Below w.heap.size w w' := by
  by_cases h1 : a1 = 0
  · subst h1
    by_cases h2 : a2 = 0
    · subst h2
      have h3 : (a3 != 0) = true := by simp at h ⊢; exact h
      clear h
      go_enter Try.func15, Try.ntmps15
      go_wp2_with fail
      go_ret2
      exact ⟨rfl, (Below.refl _ _).alloc (Nat.le_refl _) _⟩
    · have h3 : (a2 != 0) = true := by simpa using h2
      clear h h2
      go_enter Try.func15, Try.ntmps15
      go_wp2_with fail
      go_ret2
      exact ⟨rfl, (Below.refl _ _).alloc (Nat.le_refl _) _⟩
  · have h3 : (a1 != 0) = true := by simpa using h1
    clear h h1
    go_enter Try.func15, Try.ntmps15
    go_wp2_with fail
    go_ret2
    exact ⟨rfl, (Below.refl _ _).alloc (Nat.le_refl _) _⟩
end Go.Proofs.Ytgfdadcbendmbaa
