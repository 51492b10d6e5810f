/-
  Plain facts on bytes, digits and numbers, there and back.
-/
import Derived.Test.YtnnlpiflalmmlaaFrom
import Derived.Test.YtnnlpiflalmmlaaDec
namespace Go.Proofs.Ytnnlpiflalmmlaa
open Go.RowKit

theorem by_div (N : Int) (o m : Nat) : by_ (N / 256 ^ o) m = by_ N (o + m) := by
  unfold by_
  rw [Int.ediv_ediv_of_nonneg (Int.le_of_lt (Int.pow_pos (by omega))), ← Int.pow_add]
theorem pd_by (N : Int) (o : Nat) : ∀ m, pd (by_ N) o m = N / 256 ^ o % 256 ^ m
  | 0 => by simp [pd, Int.emod_one]
  | m + 1 => by rw [pd, pd_by N o m, mod_succ, by_div]; omega
theorem By_by (N : Int) : By (by_ N) := fun i _ => by_lo N i

theorem pd_V {a0 a1 a2 a3 : Int} (h : D4 a0 a1 a2 a3) : pd (by_ (V a0 a1 a2 a3)) 0 8 = a0 ∧ pd (by_ (V a0 a1 a2 a3)) 8 8 = a1 ∧ pd (by_ (V a0 a1 a2 a3)) 16 8 = a2 ∧ pd (by_ (V a0 a1 a2 a3)) 24 8 = a3 := by
  rw [pd_by, pd_by, pd_by, pd_by]
  unfold D4 Dg at h
  unfold V B at *
  have e0 : (256 : Int) ^ 0 = 1 := by decide
  have e8 : (256 : Int) ^ 8 = 18446744073709551616 := by decide
  have e16 : (256 : Int) ^ 16 = 340282366920938463463374607431768211456 := by decide
  have e24 : (256 : Int) ^ 24 = 6277101735386680763835789423207666416102355444464034512896 := by decide
  rw [e0, e8, e16, e24]
  omega

theorem size_str (l : List Int) : (strOfNums l).size = l.length := by simp [strOfNums, ByteArray.size]
theorem chr_str (l : List Int) (hl : ∀ x ∈ l, 0 ≤ x ∧ x < 256) (i : Nat) (hi : i < l.length) : chr (strOfNums l) i = l[i] := by
  unfold chr strOfNums
  have b := hl l[i] (List.getElem_mem hi)
  simp [List.getD_eq_getElem?_getD, hi]
  omega
theorem str_ext {s : ByteArray} {l : List Int} (hs : s.size = l.length) (h : ∀ i (hi : i < l.length), chr s i = l[i]) : strOfNums l = s := by
  have e : (strOfNums l).data.toList = s.data.toList := by
    apply List.ext_getElem
    · have := size_str l
      simp [strOfNums] at *
      omega
    · intro i h1 h2
      have hi : i < l.length := by simpa [strOfNums] using h1
      have c := h i hi
      have e1 : s.data.toList.getD i 0 = s.data.toList[i] := by rw [List.getD_eq_getElem?_getD, List.getElem?_eq_getElem h2]; rfl
      unfold chr at c
      rw [e1] at c
      simp only [strOfNums, List.toList_toArray, List.getElem_map]
      rw [← c]
      simp
  exact ByteArray.ext (Array.toList_inj.1 e)
end Go.Proofs.Ytnnlpiflalmmlaa
