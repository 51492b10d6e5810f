/-
  Plain facts on decimals and their numbers.
-/
import Derived.Test.YtnnlpiflalmmlaaBackNum
import Derived.Test.YtnnlpiflalmmlaaParse
namespace Go.Proofs.Ytnnlpiflalmmlaa
open Go.RowKit

theorem dgs_len (N : Int) (L : Nat) : (dgs N L).length = L := by simp [dgs]
theorem dgs_at (N : Int) (L i : Nat) (hi : i < (dgs N L).length) : (dgs N L)[i] = dj N (L - 1 - i) := by simp [dgs]
theorem dj_bd (N : Int) (j : Nat) : 48 ≤ dj N j ∧ dj N j ≤ 57 := by unfold dj; omega
theorem dgs_bd (N : Int) (L : Nat) : ∀ x ∈ dgs N L, 0 ≤ x ∧ x < 256 := by
  intro x hx
  obtain ⟨i, _, rfl⟩ := List.mem_map.1 hx
  have := dj_bd N (L - 1 - i)
  omega
theorem chr_dgs (N : Int) (L i : Nat) (hi : i < L) : chr (strOfNums (dgs N L)) i = dj N (L - 1 - i) := by
  rw [chr_str _ (dgs_bd N L) i (by rw [dgs_len]; exact hi), dgs_at]

theorem len_le {N : Int} {L : Nat} (h0 : 0 ≤ N) (hN : N < M) (h : Len10 N L) : L ≤ 78 := by
  rcases Nat.lt_or_ge 78 L with hl | hl
  · exfalso
    rcases h.2.2 with e | e
    · omega
    · apply e
      have h1 : (10 : Int) ^ 78 ≤ 10 ^ (L - 1) := pow10_le (by omega)
      have h2 : M < (10 : Int) ^ 78 := by unfold M B; decide
      exact Int.ediv_eq_zero_of_lt h0 (by omega)
  · exact hl

/-- What Print writes is a decimal. -/
theorem dec_dgs {N : Int} {L : Nat} (h0 : 0 ≤ N) (hN : N < M) (h : Len10 N L) : Dec (strOfNums (dgs N L)) := by
  have hL := len_le h0 hN h
  have hs : (strOfNums (dgs N L)).size = L := by rw [size_str, dgs_len]
  unfold Dec
  rw [hs]
  refine ⟨h.1, by omega, fun h1 => ?_, fun i hi => ?_⟩
  · rw [chr_dgs N L 0 (by omega)]
    have e := h.2.1
    have g : N / 10 ^ (L - 1) ≠ 0 := by
      rcases h.2.2 with e | e
      · omega
      · exact e
    rw [show L = L - 1 + 1 by omega, div_pow_succ] at e
    rw [show L - 1 - 0 = L - 1 by omega]
    unfold dj
    omega
  · rw [chr_dgs N L i hi]; exact dj_bd _ _

/-- What it tells is the number. -/
theorem dv_dgs {N : Int} {L : Nat} (h : N / 10 ^ L = 0) : ∀ k, k ≤ L → dv (strOfNums (dgs N L)) k = N / 10 ^ (L - k)
  | 0, _ => by rw [dv, Nat.sub_zero, h]
  | k + 1, hk => by
    rw [dv, dv_dgs h k (by omega), chr_dgs N L k (by omega), show L - k = L - (k + 1) + 1 by omega, div_pow_succ, show L - 1 - k = L - (k + 1) by omega]
    unfold dj
    omega

theorem dv_hi {s : ByteArray} (h : Dec s) : ∀ k, k ≤ s.size → dv s k < 10 ^ k
  | 0, _ => by simp [dv]
  | k + 1, hk => by
    have a := dv_hi h k (by omega)
    have b := (h.2.2.2 k (by omega)).2
    rw [dv, Int.pow_succ]
    omega
theorem dv_div {s : ByteArray} (h : Dec s) (k : Nat) : ∀ j, k + j ≤ s.size → dv s (k + j) / 10 ^ j = dv s k
  | 0, _ => by simp
  | j + 1, hj => by
    have b := h.2.2.2 (k + j) (by omega)
    rw [Int.pow_succ', ← Int.ediv_ediv_of_nonneg (by omega), show k + (j + 1) = k + j + 1 by omega, dv, ← dv_div h k j (by omega)]
    congr 1
    omega
theorem dv_len {s : ByteArray} (h : Dec s) : Len10 (dv s s.size) s.size := by
  have l := dv_lo h s.size (Nat.le_refl _)
  refine ⟨h.1, Int.ediv_eq_zero_of_lt l (dv_hi h _ (Nat.le_refl _)), ?_⟩
  rcases Nat.lt_or_ge 1 s.size with h1 | h1
  · right
    have e := dv_div h 1 (s.size - 1) (by omega)
    rw [show 1 + (s.size - 1) = s.size by omega] at e
    rw [e]
    have c := h.2.2.1 h1
    have b := h.2.2.2 0 (by omega)
    simp only [dv]
    omega
  · left
    have := h.1
    omega
/-- The text of what a decimal tells is the decimal. -/
theorem str_dv {s : ByteArray} (h : Dec s) {L : Nat} (hL : Len10 (dv s s.size) L) : strOfNums (dgs (dv s s.size) L) = s := by
  obtain rfl : L = s.size := Len10_unique (dv_lo h _ (Nat.le_refl _)) hL (dv_len h)
  refine str_ext (by rw [dgs_len]) fun i hi => ?_
  rw [dgs_len] at hi
  rw [dgs_at]
  unfold dj
  have e := dv_div h (i + 1) (s.size - 1 - i) (by omega)
  rw [show i + 1 + (s.size - 1 - i) = s.size by omega] at e
  have b := h.2.2.2 i hi
  rw [e, dv]
  omega
end Go.Proofs.Ytnnlpiflalmmlaa
