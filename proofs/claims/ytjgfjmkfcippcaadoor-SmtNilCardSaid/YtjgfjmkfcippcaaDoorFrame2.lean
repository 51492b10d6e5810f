/-
  Frames, plain.
-/
import Derived.Test.YtjgfjmkfcippcaaDoorLists
import Derived.Test.YtjgfjmkfcippcaaDoorShaSt
namespace Go.Proofs.YtjgfjmkfcippcaaDoor
open Go.RowKit
set_option maxRecDepth 100000

/-- A frame: of a tag that is not too long, and parts. -/
def frm (t : List Int) (L : List (List Int)) : List Int := ((t.length : Int) :: t) ++ blobs L
theorem frm_len (t : List Int) (L : List (List Int)) : (frm t L).length = 1 + t.length + (blobs L).length := by simp [frm]; omega
theorem blobs_split {L : List (List Int)} {i : Nat} (hi : i < L.length) : blobs L = blobs (L.take i) ++ (be8 (L.getD i []).length ++ (L.getD i [] ++ blobs (L.drop (i + 1)))) := by
  have e : L = L.take i ++ (L.getD i [] :: L.drop (i + 1)) := by
    conv => lhs; rw [← List.take_append_drop i L]
    rw [List.drop_eq_getElem_cons hi]
    simp [List.getD, hi]
  conv => lhs; rw [e, blobs, List.flatMap_append, List.flatMap_cons]
  simp only [blobs, List.append_assoc]
theorem getD_app_right {xs ys : List Int} {k : Nat} : (xs ++ ys).getD (xs.length + k) 0 = ys.getD k 0 := by
  simp only [List.getD_eq_getElem?_getD]
  rw [List.getElem?_append_right (by omega), Nat.add_sub_cancel_left]
theorem getD_app_left {xs ys : List Int} {k : Nat} (h : k < xs.length) : (xs ++ ys).getD k 0 = xs.getD k 0 := by
  simp [List.getD, List.getElem?_append_left h]
/-- How far a frame is written behind i parts. -/
def frmAt (t : List Int) (L : List (List Int)) (i : Nat) : Nat := 1 + t.length + (blobs (L.take i)).length
theorem frmAt_succ (t : List Int) {L : List (List Int)} {i : Nat} (hi : i < L.length) : frmAt t L (i + 1) = frmAt t L i + 8 + (L.getD i []).length := by
  unfold frmAt; rw [blobs_len hi]; omega
theorem frmAt_le (t : List Int) (L : List (List Int)) (i : Nat) : frmAt t L i ≤ (frm t L).length := by
  unfold frmAt; rw [frm_len]; have := blobs_le L i; omega
theorem frmAt_end (t : List Int) (L : List (List Int)) : frmAt t L L.length = (frm t L).length := by
  unfold frmAt; rw [frm_len, List.take_length]
theorem frm_get (t : List Int) {L : List (List Int)} {i : Nat} (hi : i < L.length) (k : Nat) : (frm t L).getD (frmAt t L i + k) 0 = (be8 (L.getD i []).length ++ (L.getD i [] ++ blobs (L.drop (i + 1)))).getD k 0 := by
  have e : frm t L = (((t.length : Int) :: t) ++ blobs (L.take i)) ++ (be8 (L.getD i []).length ++ (L.getD i [] ++ blobs (L.drop (i + 1)))) := by
    rw [frm, blobs_split hi, List.append_assoc]
  have hl : frmAt t L i = (((t.length : Int) :: t) ++ blobs (L.take i)).length := by unfold frmAt; simp; omega
  rw [e, hl, getD_app_right]
theorem frm_step (t : List Int) {L : List (List Int)} {i : Nat} (hi : i < L.length) {f : Nat → Int} (hf : ∀ j, j < frmAt t L i → f j = (frm t L).getD j 0) {j : Nat} (hj : j < frmAt t L (i + 1)) :
    cpf (put8 f (frmAt t L i) ((L.getD i []).length : Int)) (frmAt t L i + 8) (L.getD i []) j = (frm t L).getD j 0 := by
  rw [frmAt_succ t hi] at hj
  by_cases h1 : j < frmAt t L i
  · rw [cpf_out (by omega), put8_out _ (by omega)]; exact hf j h1
  · obtain ⟨k, rfl⟩ : ∃ k, j = frmAt t L i + k := ⟨j - frmAt t L i, by omega⟩
    rw [frm_get t hi]
    by_cases h8 : k < 8
    · rw [cpf_out (by omega), put8_in _ _ _ h8, getD_app_left (by simpa using h8)]
    · rw [cpf_in (by omega) (by omega)]
      obtain ⟨m, rfl⟩ : ∃ m, k = 8 + m := ⟨k - 8, by omega⟩
      have := getD_app_right (xs := be8 ((L.getD i []).length : Int)) (ys := L.getD i [] ++ blobs (L.drop (i + 1))) (k := m)
      rw [be8_len] at this
      rw [this, getD_app_left (by omega)]
      congr 1
      omega
theorem frm_start (t : List Int) (L : List (List Int)) (f : Nat → Int) {j : Nat} (hj : j < frmAt t L 0) : cpf (updK f 0 (t.length : Int)) 1 t j = (frm t L).getD j 0 := by
  have hl : frmAt t L 0 = 1 + t.length := by simp [frmAt, blobs]
  have e : (frm t L).getD j 0 = ((t.length : Int) :: t).getD j 0 := getD_app_left (by simp; omega)
  rw [e]
  by_cases h0 : j = 0
  · subst h0; rw [cpf_out (by omega), updK_same]; rfl
  · rw [cpf_in (by omega) (by omega)]
    obtain ⟨m, rfl⟩ : ∃ m, j = m + 1 := ⟨j - 1, by omega⟩
    rfl
theorem frm_bytes {t : List Int} {L : List (List Int)} (ht : Bytes t) (h255 : t.length ≤ 255) (hL : ∀ b ∈ L, Bytes b) : Bytes (frm t L) := by
  refine Bytes.append ?_ ?_
  · intro x hx
    rcases List.mem_cons.1 hx with rfl | hx
    · omega
    · exact ht x hx
  · intro x hx
    obtain ⟨b, hb, hx⟩ := List.mem_flatMap.1 hx
    rcases List.mem_append.1 hx with hx | hx
    · exact be8_bytes _ x hx
    · exact hL b hb x hx
end Go.Proofs.YtjgfjmkfcippcaaDoor
