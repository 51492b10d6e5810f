/-
  The walk of package game: Longest, where nothing is cut.
-/
import Derived.Test.YtkdhhdbgngegfaaRounds
namespace Go.Proofs.Ytkdhhdbgngegfaa
open Go.RowKit

theorem Longest_ok {n clock : Int} (n1 : 1 ≤ n) (n2 : n ≤ 4096) (k1 : 1 ≤ clock) (k2 : clock ≤ 1048576) (w : World) : Calls Try.prog 11 #[.int .i64 n, .int .i64 clock] w
    fun e w' => (∃ r : Nat, r ≤ 63 ∧ e = .returned (.int .i64 (2 * (clock + (1 + r))))) ∧ w' = w := by
  go_enter Try.func11, Try.ntmps11
  go_wp2_with fail
  refine (Rounds_any (by omega) (by omega) _).mono ?_
  rintro e w1 ⟨r, rfl, hr, rfl⟩
  have hr' : r ≤ 63 := hr.1
  go_wp2_with fail
  go_ret
  exact ⟨⟨r, hr', rfl⟩, rfl⟩
end Go.Proofs.Ytkdhhdbgngegfaa
