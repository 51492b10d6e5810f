/-
  Package claim, the document's side: the walk of Rounds.
-/
import Derived.Test.YtcogoncekbiacaaRounds
namespace Go.Proofs.Ytcogoncekbiacaa
open Go.RowKit

def intOf : Value → Int | .int _ q => q | _ => 0

theorem wrap_double' {k : Nat} (hk : k ≤ 61) : IntKind.i64.wrap (2 * 2 ^ k) = 2 ^ (k + 1) := by
  have : (0 : Int) < 2 ^ k := Int.pow_pos (by omega)
  have h := two_le hk
  have e : (2 : Int) ^ 61 = 2305843009213693952 := by decide
  rw [Int.pow_succ]
  generalize (2 : Int) ^ k = z at *
  simp [IntKind.wrap, IntKind.signed, IntKind.bits]
  omega

set_option maxHeartbeats 1000000 in
theorem refRounds_any {n : Int} (h1 : -9223372036854775808 ≤ n) (h2 : n < 9223372036854775808) (w : World) : Calls Try.prog 24 #[.int .i64 n] w fun e w' => ∃ r : Nat, e = .returned (.int .i64 r) ∧ Rn n r ∧ w' = w := by
  go_enter Try.func24, Try.ntmps24
  go_wp2_with fail
  go_loop [3, 4] (fun a b => ∃ k : Nat, a = .int .i64 k ∧ b = .int .i64 (2 ^ k : Int) ∧ k ≤ 62 ∧ (k = 0 ∨ 2 ^ (k - 1) < n)) (fun a _ => 62 - (intOf a).toNat)
  case atStart => exact ⟨0, rfl, rfl, by omega, Or.inl rfl⟩
  case round =>
    obtain ⟨k, rfl, rfl, hk, hj⟩ := hrel
    have hp : (0 : Int) < 2 ^ k := Int.pow_pos (by omega)
    by_cases hc : k < 62 ∧ 2 ^ k < n
    · obtain ⟨c1, c2⟩ := hc
      have e := wrap_double' (show k ≤ 61 by omega)
      go_wp2_with fail
      go_round
      case rel => exact ⟨k + 1, by simp, rfl, by omega, Or.inr c2⟩
      case measure => simp [intOf]; omega
    · by_cases hk2 : k < 62
      · have hge : n ≤ 2 ^ k := by omega
        go_wp2_with fail
        all_goals go_ret
        all_goals exact ⟨k, rfl, ⟨by omega, hge, hj⟩, rfl⟩
      · obtain rfl : k = 62 := by omega
        have e62 : (2 : Int) ^ 62 = 4611686018427387904 := by decide
        have e63 : (2 : Int) ^ 63 = 9223372036854775808 := by decide
        by_cases hl : 2 ^ 62 < n
        · go_wp2_with fail
          all_goals go_ret
          all_goals exact ⟨63, rfl, ⟨by omega, by omega, Or.inr hl⟩, rfl⟩
        · go_wp2_with fail
          all_goals go_ret
          all_goals exact ⟨62, rfl, ⟨by omega, by omega, hj⟩, rfl⟩
end Go.Proofs.Ytcogoncekbiacaa
