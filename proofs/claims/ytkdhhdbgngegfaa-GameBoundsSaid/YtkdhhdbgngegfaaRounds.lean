/-
  The walk of package claim: Rounds.
-/
import Derived.Test.YtkdhhdbgngegfaaBuild
import Derived.ScopeJumps
import Derived.WalkMore
namespace Go.Proofs.Ytkdhhdbgngegfaa
open Go.RowKit

/-- r is the least number of doublings of 1 that reach n. -/
def Rn (n : Int) (r : Nat) : Prop := r ≤ 63 ∧ n ≤ 2 ^ r ∧ (r = 0 ∨ 2 ^ (r - 1) < n)

theorem two_le {a b : Nat} (h : a ≤ b) : (2 : Int) ^ a ≤ 2 ^ b := by
  obtain ⟨c, rfl⟩ := Nat.exists_eq_add_of_le h
  rw [Int.pow_add]
  have h1 : (1 : Int) ≤ 2 ^ c := by have : (0 : Int) < 2 ^ c := Int.pow_pos (by omega); omega
  have h2 := Int.mul_le_mul_of_nonneg_left h1 (Int.le_of_lt (Int.pow_pos (show (0 : Int) < 2 by omega) : (0 : Int) < 2 ^ a))
  rw [Int.mul_one] at h2
  exact h2

theorem Rn_unique {n : Int} {r q : Nat} (h : Rn n r) (k : Rn n q) : r = q := by
  obtain ⟨_, a1, a2⟩ := h
  obtain ⟨_, b1, b2⟩ := k
  rcases Nat.lt_trichotomy r q with c | c | c
  · rcases b2 with e | e
    · omega
    · have := two_le (show r ≤ q - 1 by omega); omega
  · exact c
  · rcases a2 with e | e
    · omega
    · have := two_le (show q ≤ r - 1 by omega); omega

theorem Rn_half {h n : Int} {r q : Nat} (hr : Rn h r) (hq : Rn n q) (h1 : 1 ≤ h) (h2 : 2 * h ≤ n + 1) (hn : 2 ≤ n) : r < q := by
  obtain ⟨_, a1, a2⟩ := hr
  obtain ⟨_, b1, b2⟩ := hq
  rcases Nat.lt_or_ge r q with c | c
  · exact c
  · have := two_le c
    rcases a2 with e | e
    · subst e; simp at this a1; omega
    · rcases Nat.eq_zero_or_pos r with z | z
      · subst z; simp at this; omega
      · obtain ⟨m, rfl⟩ : ∃ m, r = m + 1 := ⟨r - 1, by omega⟩
        simp only [Nat.add_sub_cancel] at e
        rw [Int.pow_succ] at this
        omega

/-- The slot that counts. -/
def slot3 (a : Act) : Nat := match a.tmps.getD 3 undef with
  | Value.int _ q => q.toNat
  | _ => 0

theorem wrap_double {k : Nat} {n : Int} (h2 : n < 9223372036854775808) (h : 2 ^ k < n) : IntKind.u64.wrap (2 ^ k * 2) = 2 ^ (k + 1) := by
  have : (0 : Int) < 2 ^ k := Int.pow_pos (by omega)
  rw [Int.pow_succ]
  generalize (2 : Int) ^ k = z at *
  simp [IntKind.wrap, IntKind.signed, IntKind.bits]
  omega

theorem below63 {k : Nat} {n : Int} (h2 : n < 9223372036854775808) (h : 2 ^ k < n) : k + 1 ≤ 63 := by
  rcases Nat.lt_or_ge k 63 with c | c
  · omega
  · have := two_le c
    have e : (2 : Int) ^ 63 = 9223372036854775808 := by decide
    omega

theorem Rounds_any {n : Int} (h1 : -9223372036854775808 ≤ n) (h2 : n < 9223372036854775808) (w : World) : Calls Try.prog 24 #[.int .i64 n] w fun e w' => ∃ r : Nat, e = .returned (.int .i64 r) ∧ Rn n r ∧ w' = w := by
  go_enter Try.func24, Try.ntmps24
  go_wp2_with fail
  refine wp_scope_jumps 0 (fun a wx => wx = w ∧ ∃ v5 v6 v7 v8 v9 v10 v11 v12 v13 v14 v15 : Value, ∃ k : Nat, 2 ≤ n ∧ k ≤ 63 ∧ (k = 0 ∨ 2 ^ (k - 1) < n) ∧ a = { tmps := #[.int .i64 n, undef, .int .i64 0, .int .i64 k, .int .u64 (2 ^ k : Int), v5, v6, v7, v8, v9, v10, v11, v12, v13, v14, v15], defers := [] }) (fun a _ => 64 - slot3 a) rfl ?_ ?_
  · go_wp2_with fail
    · simp only [Exit.jump]
      go_ret
      exact ⟨0, rfl, ⟨by omega, by simp; omega, Or.inl rfl⟩, rfl⟩
    · go_step3
      go_wp2_with fail
      · go_step3
        refine ⟨rfl, rfl, _, _, _, _, _, _, _, _, _, _, _, 1, by omega, by omega, Or.inr (by simp; omega), rfl⟩
  · rintro a wx ⟨rfl, v5, v6, v7, v8, v9, v10, v11, v12, v13, v14, v15, k, hn, hk, hj, rfl⟩
    go_wp2_with fail
    · rename_i hlt
      have e := wrap_double h2 hlt
      have hb := below63 h2 hlt
      rw [e, show (k : Int) + 1 = ((k + 1 : Nat) : Int) by omega]
      go_step3
      refine ⟨rfl, ⟨rfl, _, _, _, _, _, _, _, _, _, _, _, k + 1, hn, hb, Or.inr hlt, rfl⟩, ?_⟩
      simp [slot3]; omega
    · rename_i hge
      simp only [Exit.jump]
      go_ret
      exact ⟨k, rfl, ⟨hk, hge, hj⟩, rfl⟩
end Go.Proofs.Ytkdhhdbgngegfaa
