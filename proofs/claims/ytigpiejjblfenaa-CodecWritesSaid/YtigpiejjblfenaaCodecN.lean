/-
  The walks of package codec: no writer, no reader, and those that nobody made.
-/
import Derived.Test.YtigpiejjblfenaaCodecK
namespace Go.Proofs.Ytigpiejjblfenaa
set_option maxRecDepth 100000
open Go.RowKit

/-- No Writer, no Reader, or one that nobody made. -/
def Un (w : World) (a : Value) : Prop := a = .pointer none ∨ ∃ p, a = .pointer (some ⟨p, 0, none⟩) ∧ w.cell? ⟨p, 0, none⟩ = some (.bool false)
theorem Un.on {w w' : World} {a : Value} (h : Un w a) (hb : Below w.heap.size w w') : Un w' a := by
  rcases h with h | ⟨p, h, hc⟩
  · exact .inl h
  · exact .inr ⟨p, h, (hb.cell (lt_of_cell hc)).trans hc⟩

theorem WUint_nil {w : World} {a : Value} (ha : Un w a) (v : Value) : Calls Try.prog 25 #[a, v] w fun e w' => e = .returned (.int .i64 1) ∧ w = w' := by
  rcases ha with rfl | ⟨p, rfl, hc⟩
  all_goals
    go_enter Try.func25, Try.ntmps25
    go_wp2_with fail
    go_ret
    exact ⟨rfl, rfl⟩

theorem WWide_nil {w : World} {a : Value} (ha : Un w a) (v : Value) : Calls Try.prog 26 #[a, v] w fun e w' => e = .returned (.int .i64 1) ∧ w = w' := by
  rcases ha with rfl | ⟨p, rfl, hc⟩
  all_goals
    go_enter Try.func26, Try.ntmps26
    go_wp2_with fail
    go_ret
    exact ⟨rfl, rfl⟩

theorem WHash_nil {w : World} {a : Value} (ha : Un w a) (v : Value) : Calls Try.prog 27 #[a, v] w fun e w' => e = .returned (.int .i64 1) ∧ w = w' := by
  rcases ha with rfl | ⟨p, rfl, hc⟩
  all_goals
    go_enter Try.func27, Try.ntmps27
    go_wp2_with fail
    go_ret
    exact ⟨rfl, rfl⟩

theorem WBlob_nil {w : World} {a : Value} (ha : Un w a) (v : Value) : Calls Try.prog 21 #[a, v] w fun e w' => e = .returned (.int .i64 1) ∧ w = w' := by
  rcases ha with rfl | ⟨p, rfl, hc⟩
  all_goals
    go_enter Try.func21, Try.ntmps21
    go_wp2_with fail
    go_ret
    exact ⟨rfl, rfl⟩

theorem WBytes_nil {w : World} {a : Value} (ha : Un w a) : Calls Try.prog 12 #[a] w fun e w' => e = .returned (.slice none 0 0) ∧ w = w' := by
  rcases ha with rfl | ⟨p, rfl, hc⟩
  all_goals
    go_enter Try.func12, Try.ntmps12
    go_wp2_with fail
    go_ret
    exact ⟨rfl, rfl⟩

theorem ready_nil {w : World} {a : Value} (ha : Un w a) : Calls Try.prog 29 #[a] w fun e w' => e = .returned (.bool false) ∧ w = w' := by
  rcases ha with rfl | ⟨p, rfl, hc⟩
  all_goals
    go_enter Try.func29, Try.ntmps29
    go_wp2_with fail
    go_ret
    exact ⟨rfl, rfl⟩

theorem Done_nil {w : World} {a : Value} (ha : Un w a) : Calls Try.prog 13 #[a] w fun e w' => e = .returned (.int .i64 1) ∧ w = w' := by
  rcases ha with rfl | ⟨p, rfl, hc⟩
  all_goals
    go_enter Try.func13, Try.ntmps13
    go_wp2_with fail
    go_ret
    exact ⟨rfl, rfl⟩

theorem Left_nil {w : World} {a : Value} (ha : Un w a) : Calls Try.prog 19 #[a] w fun e w' => e = .returned (.int .i64 0) ∧ w = w' := by
  rcases ha with rfl | ⟨p, rfl, hc⟩
  all_goals
    go_enter Try.func19, Try.ntmps19
    go_wp2_with fail
    go_ret
    exact ⟨rfl, rfl⟩

theorem RUint_nil {w : World} {a : Value} (ha : Un w a) : Calls Try.prog 14 #[a] w fun e w' => e = .returned (.int .u64 0) ∧ w = w' := by
  have h := ready_nil ha
  clear ha
  replace h := Lib.hid h
  go_enter Try.func14, Try.ntmps14
  go_wp2_with fail
  refine (h.out).mono ?_
  rintro e w1 ⟨rfl, rfl⟩
  go_wp2_with fail
  go_ret
  exact ⟨rfl, rfl⟩

theorem RBlob_nil {w : World} {a : Value} (ha : Un w a) : Calls Try.prog 17 #[a] w fun e w' => e = .returned (.slice none 0 0) ∧ w = w' := by
  have h := ready_nil ha
  clear ha
  replace h := Lib.hid h
  go_enter Try.func17, Try.ntmps17
  go_wp2_with fail
  refine (h.out).mono ?_
  rintro e w1 ⟨rfl, rfl⟩
  go_wp2_with fail
  go_ret
  exact ⟨rfl, rfl⟩

theorem RCount_nil {w : World} {a : Value} (ha : Un w a) (v : Value) : Calls Try.prog 18 #[a, v] w fun e w' => e = .returned (.int .i64 0) ∧ w = w' := by
  have h := ready_nil ha
  clear ha
  replace h := Lib.hid h
  go_enter Try.func18, Try.ntmps18
  go_wp2_with fail
  refine (h.out).mono ?_
  rintro e w1 ⟨rfl, rfl⟩
  go_wp2_with fail
  go_ret
  exact ⟨rfl, rfl⟩
end Go.Proofs.Ytigpiejjblfenaa
