/-
  The walk of package wide: decimal.
-/
import Derived.Test.YtnnlpiflalmmlaaBytes
namespace Go.Proofs.Ytnnlpiflalmmlaa
open Go.RowKit

/-- Byte i of a string. -/
def chr (s : ByteArray) (i : Nat) : Int := ((s.data.toList.getD i 0).toNat : Int)
theorem chr_at (s : ByteArray) (i : Nat) (h : i < s.size) : (s[i].toNat : Int) = chr s i := by
  have h' : i < s.data.size := h
  have e : s.data.toList.getD i 0 = s[i] := by
    rw [List.getD_eq_getElem?_getD, Array.getElem?_toList, Array.getElem?_eq_getElem h']; rfl
  unfold chr; rw [e]
theorem chr_lo (s : ByteArray) (i : Nat) : 0 ≤ chr s i := Int.natCast_nonneg _
theorem chr_hi (s : ByteArray) (i : Nat) : chr s i < 256 := by
  have := (s.data.toList.getD i 0).toNat_lt
  unfold chr; omega

/-- A decimal. -/
def Dec (s : ByteArray) : Prop := 1 ≤ s.size ∧ s.size ≤ 80 ∧ (1 < s.size → chr s 0 ≠ 48) ∧ ∀ i, i < s.size → 48 ≤ chr s i ∧ chr s i ≤ 57

set_option maxHeartbeats 1000000 in
theorem decimal_any (s : ByteArray) (hs : s.size ≤ maxLen) (w : World) :
    Calls Try.prog 37 #[.string s] w fun e w' => ((e = .returned (.bool true) ∧ Dec s) ∨ (e = .returned (.bool false) ∧ ¬ Dec s)) ∧ w' = w := by
  unfold maxLen at hs
  by_cases h0 : s.size = 0
  · have h0' : ((s.size : Int) == 0) = true := by simp [h0]
    have H0 := Lib.hid h0
    clear h0
    go_enter Try.func37, Try.ntmps37
    go_wp2_with fail
    go_step3
    go_wp2_with fail
    try rw [Exit.noGoto_ret]
    go_ret
    exact ⟨Or.inr ⟨rfl, fun h => by have := h.1; have := H0.out; omega⟩, rfl⟩
  by_cases h80 : 80 < s.size
  · have h0' : ((s.size : Int) == 0) = false := by simp [h0]
    go_enter Try.func37, Try.ntmps37
    go_wp2_with fail
    go_step3
    go_wp2_with fail
    try rw [Exit.noGoto_ret]
    go_ret
    exact ⟨Or.inr ⟨rfl, fun h => by have := h.2.1; omega⟩, rfl⟩
  have hi0 : 0 < s.size := by omega
  have e0 := chr_at s 0 hi0
  by_cases hz : 1 < s.size ∧ chr s 0 = 48
  · obtain ⟨h1, hz⟩ := hz
    have Hz := Lib.hid hz
    have e0' : ((s[0].toNat : Int) == 48) = true := by rw [e0, hz]; rfl
    clear hz e0
    have h0' : ((s.size : Int) == 0) = false := by simp [h0]
    go_enter Try.func37, Try.ntmps37
    go_wp2_with fail
    go_step3
    go_wp2_with fail
    try rw [Exit.noGoto_ret]
    go_ret
    exact ⟨Or.inr ⟨rfl, fun h => h.2.2.1 h1 Hz.out⟩, rfl⟩
  · have hg : Hid (1 < s.size → chr s 0 ≠ 48) := Lib.hid fun h1 h2 => hz ⟨h1, h2⟩
    have h0' : ((s.size : Int) == 0) = false := by simp [h0]
    have hcase : s.size = 1 ∨ (1 < s.size ∧ ((s[0].toNat : Int) == 48) = false) := by
      rcases Nat.lt_or_ge 1 s.size with h | h
      · refine Or.inr ⟨h, ?_⟩
        rw [e0]
        have := hg.out h
        simpa using this
      · left; omega
    clear hz e0
    go_enter Try.func37, Try.ntmps37
    go_wp2_with fail
    go_step3
    go_wp2_with fail
    · exfalso
      have h : 80 < (s.size : Int) ∨ ((s[0].toNat : Int) == 48) = true := by assumption
      have h1 : 1 < (s.size : Int) := by assumption
      rcases hcase with h2 | ⟨_, h2⟩
      · omega
      · rcases h with h | h
        · omega
        · rw [h2] at h; exact Bool.noConfusion h
    all_goals
      clear hcase h0'
      go_step3
      go_wp2_with fail
      go_loop [24] (fun iv => ∃ k : Nat, iv = .int .i64 k ∧ k ≤ s.size ∧ Hid (∀ i, i < k → 48 ≤ chr s i ∧ chr s i ≤ 57)) (fun iv => s.size - (intOf iv).toNat)
      case atStart => exact ⟨0, rfl, by omega, Lib.hid fun i hi => by omega⟩
      case round =>
        obtain ⟨k, rfl, hk, hD⟩ := hrel
        by_cases hlt : k < s.size
        · have e := chr_at s k hlt
          by_cases h1 : 48 ≤ chr s k
          · by_cases h2 : chr s k ≤ 57
            · have HN : Hid (∀ i, i < k + 1 → 48 ≤ chr s i ∧ chr s i ≤ 57) := Lib.hid fun i hi => by
                rcases Nat.lt_or_ge i k with h | h
                · exact hD.out i h
                · obtain rfl : i = k := by omega
                  exact ⟨h1, h2⟩
              rw [← e] at h1 h2
              clear e
              go_wp2_with fail
              go_round
              case rel => exact ⟨k + 1, by go_num, by omega, HN⟩
              case measure => simp [intOf]; omega
            · have HN : Hid (¬ Dec s) := Lib.hid fun h => h2 (h.2.2.2 k hlt).2
              rw [← e] at h1 h2
              clear e
              go_wp2_with fail
              try rw [Exit.noGoto_ret]
              go_ret
              exact ⟨Or.inr ⟨rfl, HN.out⟩, rfl⟩
          · have HN : Hid (¬ Dec s) := Lib.hid fun h => h1 (h.2.2.2 k hlt).1
            rw [← e] at h1
            clear e
            go_wp2_with fail
            try rw [Exit.noGoto_ret]
            go_ret
            exact ⟨Or.inr ⟨rfl, HN.out⟩, rfl⟩
        · have HN : Hid (Dec s) := Lib.hid ⟨by omega, by omega, hg.out, fun i hi => hD.out i (by omega)⟩
          go_wp2_with fail
          try rw [Exit.noGoto_ret]
          go_ret
          exact ⟨Or.inl ⟨rfl, HN.out⟩, rfl⟩
end Go.Proofs.Ytnnlpiflalmmlaa
