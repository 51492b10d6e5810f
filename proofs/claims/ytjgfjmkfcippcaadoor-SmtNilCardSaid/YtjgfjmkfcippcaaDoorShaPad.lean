/-
  SHA-256, plain: the padding, the blocks, the digest.
-/
import Derived.Test.YtjgfjmkfcippcaaDoorShaDef
import Derived.Test.YtjgfjmkfcippcaaDoorCopy
namespace Go.Proofs.YtjgfjmkfcippcaaDoor
open Go.RowKit

/-- How many blocks. -/
def nbk (L : Nat) : Nat := L / 64 + (if 64 < L % 64 + 9 then 2 else 1)
/-- The padded string. -/
def padF (xs : List Int) (j : Nat) : Int :=
  if j < xs.length then xs.getD j 0 else if j = xs.length then 128 else if j + 8 < 64 * nbk xs.length then 0 else (be8 (8 * (xs.length : Int))).getD (j + 8 - 64 * nbk xs.length) 0
def blkF (xs : List Int) (i j : Nat) : Int := padF xs (64 * i + j)
def iv : St8 := ⟨1779033703, 3144134277, 1013904242, 2773480762, 1359893119, 2600822924, 528734635, 1541459225⟩
def shaSt (xs : List Int) : Nat → St8
  | 0 => iv
  | i + 1 => (shaSt xs i).mix (blkF xs i)
def be4 (n : Int) : List Int := [n / 16777216 % 256, n / 65536 % 256, n / 256 % 256, n % 256]
def St8.out (s : St8) : List Int := be4 s.a ++ be4 s.b ++ be4 s.c ++ be4 s.d ++ be4 s.e ++ be4 s.f ++ be4 s.g ++ be4 s.h
/-- The digest. -/
def sha (xs : List Int) : List Int := (shaSt xs (nbk xs.length)).out
theorem sha_len (xs : List Int) : (sha xs).length = 32 := rfl
theorem be4_bytes (n : Int) : Bytes (be4 n) := by
  intro x hx
  simp only [be4, List.mem_cons, List.not_mem_nil, or_false] at hx
  omega
theorem Bytes.append {xs ys : List Int} (h : Bytes xs) (k : Bytes ys) : Bytes (xs ++ ys) := by
  intro x hx
  rcases List.mem_append.1 hx with a | a
  · exact h x a
  · exact k x a
theorem sha_bytes (xs : List Int) : Bytes (sha xs) :=
  (((((((be4_bytes _).append (be4_bytes _)).append (be4_bytes _)).append (be4_bytes _)).append (be4_bytes _)).append (be4_bytes _)).append (be4_bytes _)).append (be4_bytes _)
theorem Bytes.getD {xs : List Int} (h : Bytes xs) (j : Nat) : 0 ≤ xs.getD j 0 ∧ xs.getD j 0 < 256 := by
  by_cases hj : j < xs.length
  · have : xs.getD j 0 = xs[j] := by simp [List.getD, hj]
    rw [this]; exact h _ (List.getElem_mem hj)
  · have : xs.getD j 0 = 0 := by simp [List.getD, hj]
    rw [this]; omega
theorem padF_bytes {xs : List Int} (h : Bytes xs) (j : Nat) : 0 ≤ padF xs j ∧ padF xs j < 256 := by
  unfold padF
  split
  · exact h.getD j
  · split
    · omega
    · split
      · omega
      · exact (be8_bytes _).getD _
theorem padF_low {xs : List Int} {j : Nat} (h : j < xs.length) : padF xs j = xs.getD j 0 := if_pos h

/-- The last one or two blocks, as the program lays them. -/
def endF (rs : List Int) (L n : Nat) : Nat → Int := put8 (updK (cpf (fun _ => 0) 0 rs) rs.length 128) (n - 8) (8 * (L : Int))
theorem put8_mod (f : Nat → Int) (off : Nat) (n : Int) : put8 f off (n % 18446744073709551616) = put8 f off n := by
  unfold put8
  rw [show n % 18446744073709551616 / 4294967296 % 4294967296 = n / 4294967296 % 4294967296 by omega, show n % 18446744073709551616 % 4294967296 = n % 4294967296 by omega]
theorem endF_pad {xs rs : List Int} {q n : Nat} (hq : q = xs.length / 64) (hr : rs = xs.drop (64 * q)) (hn : n = 64 * (if 64 < xs.length % 64 + 9 then 2 else 1)) {j : Nat} (hj : j < n) :
    endF rs xs.length n j = padF xs (64 * q + j) := by
  have hl : rs.length = xs.length - 64 * q := by rw [hr]; simp
  have hP : 64 * nbk xs.length = 64 * q + n := by unfold nbk; rw [hn, hq]; omega
  have h64 : n = 64 ∨ n = 128 := by rw [hn]; split <;> omega
  have hfit : rs.length + 9 ≤ n := by rw [hn]; split <;> omega
  have hxl : xs.length = 64 * q + rs.length := by omega
  unfold endF padF
  rw [hP]
  by_cases h8 : n - 8 ≤ j
  · obtain ⟨k, rfl⟩ : ∃ k, j = n - 8 + k := ⟨j - (n - 8), by omega⟩
    rw [put8_in _ _ _ (by omega), if_neg (by omega), if_neg (by omega), if_neg (by omega)]
    congr 1
    omega
  · rw [put8_out _ (by omega)]
    by_cases e : j = rs.length
    · subst e
      rw [updK_same, if_neg (by omega), if_pos (by omega)]
    · rw [updK_ne _ _ e]
      by_cases hlt : j < rs.length
      · rw [cpf_in (by omega) (by omega), if_pos (by omega), hr]
        simp [List.getD]
      · rw [cpf_out (by omega), if_neg (by omega), if_neg (by omega), if_pos (by omega)]
end Go.Proofs.YtjgfjmkfcippcaaDoor
