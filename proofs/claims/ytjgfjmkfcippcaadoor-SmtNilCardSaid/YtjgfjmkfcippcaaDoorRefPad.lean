/-
  The walks of basculeref02: eight, pad.
-/
import Derived.Test.YtjgfjmkfcippcaaDoorShaSt
import Derived.Test.YtjgfjmkfcippcaaDoorLists
import Derived.Test.YtjgfjmkfcippcaaDoorReg
import Derived.Test.YtjgfjmkfcippcaaDoorFrameW
namespace Go.Proofs.YtjgfjmkfcippcaaDoor
open Go.RowKit
set_option maxRecDepth 100000

theorem eight_any (w : World) (n : Int) : Calls Tryd.prog 99 #[.int .u64 n] w fun e w' => e = .returned (.slice (some ⟨w.heap.size, 0, none⟩) 8 8) ∧ w'.heap[w.heap.size]? = some (.cells (bc (be8 n)).toArray 5 (0, 0)) ∧ Below w.heap.size w w' := by
  go_enter Tryd.func99, Tryd.ntmps99
  go_wp2_with fail
  go_ret
  exact ⟨rfl, heap_alloc_new w _, (Below.refl _ _).alloc (Nat.le_refl _) _⟩
/-- How long the padded string is. -/
theorem padlen (L : Nat) : L + 9 + (64 - (L + 9) % 64) % 64 = 64 * nbk L := by
  unfold nbk
  split <;> omega

set_option maxHeartbeats 4000000 in
theorem pad_any {w : World} {v : Value} {xs : List Int} (hr : Rd w v xs) (hl : xs.length ≤ 100000000000000) :
    Calls Tryd.prog 114 #[v] w fun e w' => e = .returned (.slice (some ⟨w.heap.size, 0, none⟩) (64 * nbk xs.length) (64 * nbk xs.length)) ∧ RwK .u8 w' w.heap.size (64 * nbk xs.length) 5 (padF xs) ∧ Below w.heap.size w w' := by
  obtain ⟨i0, hi, hz0, hz1, hz2⟩ := info_parts Tryd.infoU8
  replace hi := Lib.hid hi
  replace hz0 := Lib.hid hz0
  replace hz1 := Lib.hid hz1
  replace hz2 := Lib.hid hz2
  have HR := Lib.hid hr
  obtain ⟨q, c, rfl⟩ := hr.len
  clear hr
  have hp := padlen xs.length
  have HP : Hid ((xs.length : Int) + 9 + (64 - ((xs.length : Int) + 9) % 64) % 64 = ((64 * nbk xs.length : Nat) : Int)) := by rw [← hp]; show _ = _; omega
  have hN9 : xs.length + 9 ≤ 64 * nbk xs.length := by omega
  have hNle : 64 * nbk xs.length ≤ 100000000000073 := by omega
  have HPF : Hid (∀ j, j < 64 * nbk xs.length → cpf (updK (cpf (fun _ => 0) 0 xs) xs.length 128) (64 * nbk xs.length - 8) (be8 (8 * (xs.length : Int))) j = padF xs j) := by
    intro j hj
    unfold padF
    by_cases h8 : 64 * nbk xs.length - 8 ≤ j
    · rw [cpf_in h8 (by simp; omega), if_neg (by omega), if_neg (by omega), if_neg (by omega)]
      congr 1
      omega
    · rw [cpf_out (Or.inl (by omega))]
      by_cases e : j = xs.length
      · subst e; rw [updK_same, if_neg (by omega), if_pos rfl]
      · rw [updK_ne _ _ e]
        by_cases hlt : j < xs.length
        · rw [cpf_in (by omega) (by omega), if_pos hlt]; rfl
        · rw [cpf_out (Or.inr (by omega)), if_neg hlt, if_neg e, if_pos (by omega)]
  clear hp
  have hQ : ((xs.length : Int) + 9 + -(((xs.length : Int) + 9) % 64) % 64) = ((64 * nbk xs.length : Nat) : Int) := by have := HP.out; omega
  generalize 64 * nbk xs.length = N at *
  go_enter Tryd.func114, Tryd.ntmps114
  go_wp2_with (refine wpList_make_full _ rfl _ _ _ rfl 0 _ _ _ _ Tryd.underlying64 hi.out hz0.out hz1.out _ _ _ _ N rfl rfl rfl rfl ?b1 ?b2 ?b3 ?_)
  case b1 => rw [hz2.out]; omega
  case b2 => unfold maxLen; omega
  case b3 => omega
  clear hQ
  intro w1 own1 grow1
  have hr1 : RwK .u8 w1 w.heap.size N 5 (fun _ => 0) := rw_of_made own1
  have B1 := Lib.hid (show Below w.heap.size w w1 from (Below.refl _ _).grown grow1 (Nat.le_refl _) (by intro k hk; simp at hk))
  have HR1 := Lib.hid (HR.out.on B1.out)
  have HPos : Hid (0 < xs.length → (some ⟨w.heap.size, 0, none⟩ : Option Addr) = some ⟨w.heap.size, 0, none⟩ ∧ ∃ ad, q = some ad ∧ ∀ j, j < xs.length → w1.cell? (ad.add j) = some (.int .u8 (xs.getD j 0))) := by
    intro h0
    obtain ⟨q', c', e, rfl | ⟨b', o', rfl, hcc⟩⟩ := HR1.out
    · simp at h0
    · simp only [Value.slice.injEq] at e
      exact ⟨rfl, _, e.1, fun j hj => by rw [addr_add]; exact hcc j hj⟩
  have R1 := Lib.hid hr1
  clear own1 grow1 hr1 HR HR1
  go_wp2_with (with_reducible refine wpList_copy_rw rfl _ _ _ _ rfl 5 Tryd.underlying64 Tryd.size_u8 _ _ _ _ _ _ rfl rfl R1.out 0 xs (Nat.min_eq_left (by omega)).symm HPos.out (by omega) ?_)
  intro w2 h2 k2
  have c2 := h2.cell xs.length (by omega)
  have f2 := h2.free xs.length
  have H2 := Lib.hid (h2.store (j := xs.length) (by omega) 128)
  have B2 := Lib.hid ((B1.out.trans (k2.toBelow (B := w.heap.size) B1.out.size (by intro k hk; simp at hk; omega))).setCell (p := ⟨w.heap.size, xs.length, none⟩) (Nat.le_refl _) (.int .u8 128))
  clear h2 k2 B1 R1 HPos
  have hn8 : (8 : Int) ≤ (N : Int) := by omega
  have kn8 : IntKind.i64.wrap ((N : Int) - 8) = (N : Int) - 8 := IntWalk.i64_in _ (by omega)
  have en8 : ((N : Int) - 8).toNat = N - 8 := by omega
  have hle8 : (N : Int) - 8 ≤ (N : Int) := by omega
  have hne8 : ¬ N = N - 8 := by omega
  have hsb8 : N - (N - 8) = 8 := by omega
  go_wp2_with fail
  generalize w2.setCell ⟨w.heap.size, xs.length, none⟩ (.int .u8 128) = wg at H2 B2 ⊢
  refine wp_region_held_drew (S := fun W => Below w.heap.size w W) (by kernel_rfl) (B2.out.drew) (fun h0 => ?_)
  refine wpAnyH_take (i := 0) (v := ?_) (by rw [List.getElem?_toArray]; rfl) (by kernel_rfl) (by kernel_rfl) (by kernel_rfl) (by exact fun _ _ _ h => h) (Or.inl ⟨by rfl, ?_⟩) h0 ?_
  rotate_left
  · intro W hW
    go_simp
    all_goals with_reducible rfl
  try simp only [Act.put, List.setIfInBounds_toArray, List.set_cons_zero, List.set_cons_succ]
  refine wpAnyH_take (i := 1) (v := ?_) (by rw [List.getElem?_toArray]; rfl) (by kernel_rfl) (by kernel_rfl) (by kernel_rfl) (by exact fun _ _ _ h => h) (Or.inl ⟨by rfl, ?_⟩) h0 ?_
  rotate_left
  · intro W hW
    go_simp
    all_goals with_reducible rfl
  try simp only [Act.put, List.setIfInBounds_toArray, List.set_cons_zero, List.set_cons_succ]
  refine wpAnyH_take (i := 2) (v := ?_) (by rw [List.getElem?_toArray]; rfl) (by kernel_rfl) (by kernel_rfl) (by kernel_rfl) (by exact fun _ _ _ h => h) (Or.inl ⟨by rfl, ?_⟩) h0 ?_
  rotate_left
  · intro W hW
    go_simp
    all_goals with_reducible rfl
  try simp only [Act.put, List.setIfInBounds_toArray, List.set_cons_zero, List.set_cons_succ]
  refine wpAnyH_take (i := 3) (v := ?_) (by rw [List.getElem?_toArray]; rfl) (by kernel_rfl) (by kernel_rfl) (by kernel_rfl) (by exact fun _ _ _ h => h) (Or.inl ⟨by rfl, ?_⟩) h0 ?_
  rotate_left
  · intro W hW
    go_simp
    all_goals with_reducible rfl
  try simp only [Act.put, List.setIfInBounds_toArray, List.set_cons_zero, List.set_cons_succ]
  refine wpAnyH_take (i := 4) (v := ?_) (by rw [List.getElem?_toArray]; rfl) (by kernel_rfl) (by kernel_rfl) (by kernel_rfl) (by exact fun _ _ _ h => h) (Or.inl ⟨by rfl, ?_⟩) h0 ?_
  rotate_left
  · intro W hW
    go_simp
    all_goals with_reducible rfl
  try simp only [Act.put, List.setIfInBounds_toArray, List.set_cons_zero, List.set_cons_succ]
  refine wpAnyH_take (i := 5) (v := ?_) (by rw [List.getElem?_toArray]; rfl) (by kernel_rfl) (by kernel_rfl) (by kernel_rfl) (by exact fun _ _ _ h => h) (Or.inl ⟨by rfl, ?_⟩) h0 ?_
  rotate_left
  · intro W hW
    go_simp
    all_goals with_reducible rfl
  try simp only [Act.put, List.setIfInBounds_toArray, List.set_cons_zero, List.set_cons_succ]
  refine wpAnyH_take (i := 6) (v := ?_) (by rw [List.getElem?_toArray]; rfl) (by kernel_rfl) (by kernel_rfl) (by kernel_rfl) (by exact fun _ _ _ h => h) (Or.inl ⟨by rfl, ?_⟩) h0 ?_
  rotate_left
  · intro W hW
    go_simp
    all_goals with_reducible rfl
  try simp only [Act.put, List.setIfInBounds_toArray, List.set_cons_zero, List.set_cons_succ]
  refine wpAnyH_take (i := 7) (v := ?_) (by rw [List.getElem?_toArray]; rfl) (by kernel_rfl) (by kernel_rfl) (by kernel_rfl) (by exact fun _ _ _ h => h) (Or.inl ⟨by rfl, ?_⟩) h0 ?_
  rotate_left
  · intro W hW
    go_simp
    all_goals with_reducible rfl
  try simp only [Act.put, List.setIfInBounds_toArray, List.set_cons_zero, List.set_cons_succ]
  refine wpAnyH_ready (rs := [8]) (by kernel_rfl) (by simp) ?_
  refine AllReadyH.cons (by rw [List.getElem?_toArray]; rfl) (fun K hK => ?_) AllReadyH.nil
  rw [if_pos (by rfl)]
  go_wp2_with fail
  refine (eight_any _ _).mono ?_
  rintro e w8 ⟨rfl, hb8, hbl8⟩
  have R8 := Lib.hid ((H2.out.drew).on hbl8)
  have HB8 : Hid (w8.heap[wg.heap.size]? = some (.cells (bc (be8 (8 * (xs.length : Int)))).toArray 5 (0, 0))) := hb8
  go_wp2_with fail
  refine hK.out _ _ (h0.trans (hbl8.mono h0.size)) (fun h8 => ?_)
  clear hK K
  try simp only [Act.put, List.setIfInBounds_toArray, List.set_cons_zero, List.set_cons_succ]
  refine wpAnyH_ready (rs := [9]) (by kernel_rfl) (by simp) ?_
  refine AllReadyH.cons (by rw [List.getElem?_toArray]; rfl) (fun K hK => ?_) AllReadyH.nil
  rw [if_pos (by rfl)]
  refine wp_copy_rw _ _ _ _ rfl 5 Tryd.underlying64 Tryd.size_u8 _ _ _ _ _ _ rfl rfl R8.out (N - 8) (be8 (8 * (xs.length : Int))) rfl (fun _ => ⟨rfl, _, rfl, fun j hj => by rw [addr_add, Nat.zero_add, Joins.cell_of_block HB8.out]; simp only [be8_len] at hj; rcases (by omega : j = 0 ∨ j = 1 ∨ j = 2 ∨ j = 3 ∨ j = 4 ∨ j = 5 ∨ j = 6 ∨ j = 7) with e | e | e | e | e | e | e | e <;> subst e <;> rfl⟩) (by rw [be8_len]; omega) ?_
  intro w9 h9 k9
  have H9 := Lib.hid h9
  have B9 := Lib.hid (h8.trans (k9.toBelow (B := w.heap.size) h8.size (by intro k hk; simp at hk; omega)))
  refine hK.out _ _ (B9.out) (fun h9x => ?_)
  clear hK K
  try simp only [Act.put, List.setIfInBounds_toArray, List.set_cons_zero, List.set_cons_succ]
  refine wpAnyH_done (by kernel_rfl) ?_ _
  go_wp2_with fail
  go_ret
  exact ⟨rfl, H9.out.same (fun j hj => HPF.out j hj), B9.out⟩
end Go.Proofs.YtjgfjmkfcippcaaDoor
