/-
  The walks of package game: the closures that Post and Choose hand over.
-/
import Derived.Test.YtkdhhdbgngegfaaGreatDoorGmRight
import Derived.Test.YtkdhhdbgngegfaaGreatDoorChoose
import Derived.Deep.RegionHeld3
namespace Go.Proofs.YtkdhhdbgngegfaaGreatDoor
set_option maxRecDepth 100000
open Go.RowKit

theorem Seg.post_fine {s : Seg} (hs : s.ok) {F : List Int} (hF : F.length = 32) : (s.post F).1.ok := by
  unfold Seg.post
  cases s.right
  · exact seg0_ok
  cases (s.p || s.last)
  · exact ⟨hs.lo1, hs.lo2, hs.hi1, hs.hi2, hs.f, hs.t, hF⟩
  · exact seg0_ok
theorem Seg.choose_fine {s : Seg} (hs : s.ok) (agree : Bool) : (s.choose agree).1.ok := by
  unfold Seg.choose
  cases hr : s.right
  · simp; exact seg0_ok
  obtain ⟨l1, l2, l3⟩ := Seg.right_lo hr
  have e : s.middle = (s.lo + s.hi) / 2 := by simp [Seg.middle, hr]
  cases s.p
  · simp; exact seg0_ok
  cases agree
  · exact ⟨hs.lo1, hs.lo2, by show _ ≤ s.middle; omega, by show s.middle < _; omega, hs.f, hs.m, zero32_len⟩
  · exact ⟨by show _ ≤ s.middle; omega, by show s.middle < _; omega, hs.hi1, hs.hi2, hs.m, hs.t, zero32_len⟩

/-- What such a closure leaves: the game with another segment in block b, and all else as it was. -/
structure CloP (w : World) (b : Nat) (g : Gm) (s' : Seg) (c : Int) (e : Ending) (w' : World) : Prop where
  e : e = .returned (.int .i64 c)
  G : GmAt w' b 31 { g with s := s' }
  B : Below b w w'
  O : ∀ k, k ≠ b → k < w.heap.size → w'.heap[k]? = w.heap[k]?

theorem Gm.row_length {g : Gm} (hg : g.s.row.length = 99) : g.row.length = 103 := Gm.len hg

set_option maxHeartbeats 2000000 in
theorem PostClo_any {g : Gm} (hg : g.ok) {F : List Int} (hF : F.length = 32) {b m : Nat} (hne : m ≠ b) (w : World) (G : GmAt w b 31 g) (H : HashAt w m F) :
    Calls Tryz.prog 14 #[.pointer (some ⟨b, 0, none⟩), .pointer (some ⟨m, 0, none⟩)] w (CloP w b g (g.s.post F).1 (g.s.post F).2) := by
  have hl := hg.s.len
  have hsok : (g.s.post F).1.ok := Seg.post_fine hg.s hF
  have hl' := hsok.len
  go_enter Tryz.func14, Tryz.ntmps14
  go_wp2_with fail
  refine wp_region_held_drew (S := fun W => HashAt W m F) (by kernel_rfl) (H) (fun h0 => ?_)
  have cs : rowOf w.drew b 0 99 = g.s.row := G.seg hl
  have G1 := G.drew
  refine wpAnyH_take (i := 0) (v := ?_) (by rw [List.getElem?_toArray]; rfl) (by kernel_rfl) (by kernel_rfl) (by kernel_rfl) (by exact fun _ _ _ h => h) (Or.inl ⟨by rfl, ?_⟩) h0 ?_
  rotate_left
  · intro W hW
    have hH0 := hW.row hF
    go_simp
    all_goals with_reducible rfl
  simp only [Act.put, List.setIfInBounds_toArray, List.set_cons_zero, List.set_cons_succ]
  refine wpAnyH_take (i := 1) (v := ?_) (by rw [List.getElem?_toArray]; rfl) (by kernel_rfl) (by kernel_rfl) (by kernel_rfl) (by exact fun _ _ _ h => h) (Or.inl ⟨by rfl, ?_⟩) h0 ?_
  rotate_left
  · intro W hW
    have hH0 := hW.row hF
    go_simp
    all_goals with_reducible rfl
  simp only [Act.put, List.setIfInBounds_toArray, List.set_cons_zero, List.set_cons_succ]
  refine wpAnyH_take (i := 2) (v := ?_) (by rw [List.getElem?_toArray]; rfl) (by kernel_rfl) (by kernel_rfl) (by kernel_rfl) (by exact fun _ _ _ h => h) (Or.inl ⟨by rfl, ?_⟩) h0 ?_
  rotate_left
  · intro W hW
    have hH0 := hW.row hF
    go_simp
    all_goals with_reducible rfl
  simp only [Act.put, List.setIfInBounds_toArray, List.set_cons_zero, List.set_cons_succ]
  refine wpAnyH_take (i := 3) (v := ?_) (by rw [List.getElem?_toArray]; rfl) (by kernel_rfl) (by kernel_rfl) (by kernel_rfl) (by exact fun _ _ _ h => h) (Or.inl ⟨by rfl, ?_⟩) h0 ?_
  rotate_left
  · intro W hW
    have hH0 := hW.row hF
    go_simp
    all_goals with_reducible rfl
  simp only [Act.put, List.setIfInBounds_toArray, List.set_cons_zero, List.set_cons_succ]
  refine wpAnyH_take (i := 5) (v := ?_) (by rw [List.getElem?_toArray]; rfl) (by kernel_rfl) (by kernel_rfl) (by kernel_rfl) (by exact fun _ _ _ h => h) (Or.inl ⟨by rfl, ?_⟩) h0 ?_
  rotate_left
  · intro W hW
    have hH0 := hW.row hF
    go_simp
    all_goals with_reducible rfl
  simp only [Act.put, List.setIfInBounds_toArray, List.set_cons_zero, List.set_cons_succ]
  refine wpAnyH_ready (rs := [4]) (by kernel_rfl) (by simp) ?_
  refine AllReadyH.cons (by rw [List.getElem?_toArray]; rfl) (fun K hK => ?_) AllReadyH.nil
  rw [if_pos (by rfl)]
  go_wp2_with fail
  refine hK.out _ _ (h0) (fun h01 => ?_)
  clear hK K
  refine wpAnyH_ready (rs := [6]) (by kernel_rfl) (by simp) ?_
  refine AllReadyH.cons (by rw [List.getElem?_toArray]; rfl) (fun K hK => ?_) AllReadyH.nil
  go_wp2_with fail
  refine (Post_any hg.s hF _).mono ?_
  rintro e w1 ⟨rfl, hb⟩
  go_wp2_with fail
  refine hK.out _ _ (HashAt.on h01 hb) (fun h02 => ?_)
  clear hK K
  have G2 := G1.on hb
  have th := G2.there hl (o := 0) (n := 99) (by omega)
  generalize hx : (g.s.post F) = x at hl' hsok ⊢
  obtain ⟨s', c⟩ := x
  simp only at hl' hsok ⊢
  refine wpAnyH_take (i := 7) (v := ?_) (by rw [List.getElem?_toArray]; rfl) (by kernel_rfl) (by kernel_rfl) (by kernel_rfl) (by exact fun _ _ _ h => h) (Or.inl ⟨by rfl, ?_⟩) h02 ?_
  rotate_left
  · intro W hW
    have hH0 := hW.row hF
    go_simp
    all_goals with_reducible rfl
  simp only [Act.put, List.setIfInBounds_toArray, List.set_cons_zero, List.set_cons_succ]
  refine wpAnyH_take (i := 8) (v := ?_) (by rw [List.getElem?_toArray]; rfl) (by kernel_rfl) (by kernel_rfl) (by kernel_rfl) (by exact fun _ _ _ h => h) (Or.inl ⟨by rfl, ?_⟩) h02 ?_
  rotate_left
  · intro W hW
    have hH0 := hW.row hF
    go_simp
    all_goals with_reducible rfl
  simp only [Act.put, List.setIfInBounds_toArray, List.set_cons_zero, List.set_cons_succ]
  refine wpAnyH_take (i := 9) (v := ?_) (by rw [List.getElem?_toArray]; rfl) (by kernel_rfl) (by kernel_rfl) (by kernel_rfl) (by exact fun _ _ _ h => h) (Or.inl ⟨by rfl, ?_⟩) h02 ?_
  rotate_left
  · intro W hW
    have hH0 := hW.row hF
    go_simp
    all_goals with_reducible rfl
  simp only [Act.put, List.setIfInBounds_toArray, List.set_cons_zero, List.set_cons_succ]
  refine wpAnyH_take (i := 10) (v := ?_) (by rw [List.getElem?_toArray]; rfl) (by kernel_rfl) (by kernel_rfl) (by kernel_rfl) (by exact fun _ _ _ h => h) (Or.inl ⟨by rfl, ?_⟩) h02 ?_
  rotate_left
  · intro W hW
    have hH0 := hW.row hF
    go_simp
    all_goals with_reducible rfl
  simp only [Act.put, List.setIfInBounds_toArray, List.set_cons_zero, List.set_cons_succ]
  refine wpAnyH_take (i := 11) (v := ?_) (by rw [List.getElem?_toArray]; rfl) (by kernel_rfl) (by kernel_rfl) (by kernel_rfl) (by exact fun _ _ _ h => h) (Or.inl ⟨by rfl, ?_⟩) h02 ?_
  rotate_left
  · intro W hW
    have hH0 := hW.row hF
    go_simp
    all_goals with_reducible rfl
  simp only [Act.put, List.setIfInBounds_toArray, List.set_cons_zero, List.set_cons_succ]
  refine wpAnyH_ready (rs := [12]) (by kernel_rfl) (by simp) ?_
  refine AllReadyH.cons (by rw [List.getElem?_toArray]; rfl) (fun K hK => ?_) AllReadyH.nil
  rw [if_pos (by rfl)]
  refine wp_store_mid _ _ _ rfl _ _ (List.toArray s'.row) rfl rfl (by simpa [hl'] using th) (by rw [List.size_toArray, hl']; kernel_rfl) (Seg.one s') ?_
  refine hK.out _ _ ((show HashAt _ m F from by unfold HashAt; rw [setCells_other hne]; exact h02)) (fun h03 => ?_)
  clear hK K
  simp only [Act.put]
  refine wpAnyH_ready (rs := [13]) (by kernel_rfl) (by simp) ?_
  refine AllReadyH.cons (by rw [List.getElem?_toArray]; rfl) (fun K hK => ?_) AllReadyH.nil
  rw [if_pos (by rfl)]
  go_wp2_with fail
  refine hK.out _ _ (h03) (fun h04 => ?_)
  clear hK K
  refine wpAnyH_done (by kernel_rfl) ?_ _
  have G3 := G2.setSeg hl hl'
  have O3 : ∀ k, k ≠ b → k < w.heap.size → (w1.setCells b 0 s'.row).heap[k]? = w.heap[k]? := fun k hk hlt => by rw [setCells_other hk, hb.block k hlt]; rfl
  have B3 : Below b w (w1.setCells b 0 s'.row) := below_setCells' b (Nat.le_refl _) s'.row 0 (((Below.refl _ _).drew).trans (hb.mono (Nat.le_of_lt G.lt)))
  go_wp2_with fail
  go_ret
  rw [hx]
  exact ⟨rfl, G3, B3, O3⟩

set_option maxHeartbeats 2000000 in
theorem ChooseClo_any {g : Gm} (hg : g.ok) (agree : Bool) {b m : Nat} (hne : m ≠ b) (w : World) (G : GmAt w b 31 g) (H : w.cell? ⟨m, 0, none⟩ = some (.bool agree)) (hm : m < w.heap.size) :
    Calls Tryz.prog 17 #[.pointer (some ⟨b, 0, none⟩), .pointer (some ⟨m, 0, none⟩)] w (CloP w b g (g.s.choose agree).1 (g.s.choose agree).2) := by
  have hl := hg.s.len
  have hsok : (g.s.choose agree).1.ok := Seg.choose_fine hg.s agree
  have hl' := hsok.len
  go_enter Tryz.func17, Tryz.ntmps17
  go_wp2_with fail
  refine wp_region_held_drew (S := fun W => W.cell? ⟨m, 0, none⟩ = some (.bool agree) ∧ m < W.heap.size) (by kernel_rfl) (⟨H, hm⟩) (fun h0 => ?_)
  have cs : rowOf w.drew b 0 99 = g.s.row := G.seg hl
  have G1 := G.drew
  refine wpAnyH_take (i := 0) (v := ?_) (by rw [List.getElem?_toArray]; rfl) (by kernel_rfl) (by kernel_rfl) (by kernel_rfl) (by exact fun _ _ _ h => h) (Or.inl ⟨by rfl, ?_⟩) h0 ?_
  rotate_left
  · intro W hW
    obtain ⟨hH0, -⟩ := hW
    go_simp
    all_goals with_reducible rfl
  simp only [Act.put, List.setIfInBounds_toArray, List.set_cons_zero, List.set_cons_succ]
  refine wpAnyH_take (i := 1) (v := ?_) (by rw [List.getElem?_toArray]; rfl) (by kernel_rfl) (by kernel_rfl) (by kernel_rfl) (by exact fun _ _ _ h => h) (Or.inl ⟨by rfl, ?_⟩) h0 ?_
  rotate_left
  · intro W hW
    obtain ⟨hH0, -⟩ := hW
    go_simp
    all_goals with_reducible rfl
  simp only [Act.put, List.setIfInBounds_toArray, List.set_cons_zero, List.set_cons_succ]
  refine wpAnyH_take (i := 2) (v := ?_) (by rw [List.getElem?_toArray]; rfl) (by kernel_rfl) (by kernel_rfl) (by kernel_rfl) (by exact fun _ _ _ h => h) (Or.inl ⟨by rfl, ?_⟩) h0 ?_
  rotate_left
  · intro W hW
    obtain ⟨hH0, -⟩ := hW
    go_simp
    all_goals with_reducible rfl
  simp only [Act.put, List.setIfInBounds_toArray, List.set_cons_zero, List.set_cons_succ]
  refine wpAnyH_take (i := 3) (v := ?_) (by rw [List.getElem?_toArray]; rfl) (by kernel_rfl) (by kernel_rfl) (by kernel_rfl) (by exact fun _ _ _ h => h) (Or.inl ⟨by rfl, ?_⟩) h0 ?_
  rotate_left
  · intro W hW
    obtain ⟨hH0, -⟩ := hW
    go_simp
    all_goals with_reducible rfl
  simp only [Act.put, List.setIfInBounds_toArray, List.set_cons_zero, List.set_cons_succ]
  refine wpAnyH_take (i := 5) (v := ?_) (by rw [List.getElem?_toArray]; rfl) (by kernel_rfl) (by kernel_rfl) (by kernel_rfl) (by exact fun _ _ _ h => h) (Or.inl ⟨by rfl, ?_⟩) h0 ?_
  rotate_left
  · intro W hW
    obtain ⟨hH0, -⟩ := hW
    go_simp
    all_goals with_reducible rfl
  simp only [Act.put, List.setIfInBounds_toArray, List.set_cons_zero, List.set_cons_succ]
  refine wpAnyH_ready (rs := [4]) (by kernel_rfl) (by simp) ?_
  refine AllReadyH.cons (by rw [List.getElem?_toArray]; rfl) (fun K hK => ?_) AllReadyH.nil
  rw [if_pos (by rfl)]
  go_wp2_with fail
  refine hK.out _ _ (h0) (fun h01 => ?_)
  clear hK K
  refine wpAnyH_ready (rs := [6]) (by kernel_rfl) (by simp) ?_
  refine AllReadyH.cons (by rw [List.getElem?_toArray]; rfl) (fun K hK => ?_) AllReadyH.nil
  go_wp2_with fail
  refine (Choose_any hg.s agree _).mono ?_
  rintro e w1 ⟨rfl, hb⟩
  go_wp2_with fail
  refine hK.out _ _ (⟨(hb.cell h01.2).trans h01.1, by have := hb.size; have := h01.2; omega⟩) (fun h02 => ?_)
  clear hK K
  have G2 := G1.on hb
  have th := G2.there hl (o := 0) (n := 99) (by omega)
  generalize hx : (g.s.choose agree) = x at hl' hsok ⊢
  obtain ⟨s', c⟩ := x
  simp only at hl' hsok ⊢
  refine wpAnyH_take (i := 7) (v := ?_) (by rw [List.getElem?_toArray]; rfl) (by kernel_rfl) (by kernel_rfl) (by kernel_rfl) (by exact fun _ _ _ h => h) (Or.inl ⟨by rfl, ?_⟩) h02 ?_
  rotate_left
  · intro W hW
    obtain ⟨hH0, -⟩ := hW
    go_simp
    all_goals with_reducible rfl
  simp only [Act.put, List.setIfInBounds_toArray, List.set_cons_zero, List.set_cons_succ]
  refine wpAnyH_take (i := 8) (v := ?_) (by rw [List.getElem?_toArray]; rfl) (by kernel_rfl) (by kernel_rfl) (by kernel_rfl) (by exact fun _ _ _ h => h) (Or.inl ⟨by rfl, ?_⟩) h02 ?_
  rotate_left
  · intro W hW
    obtain ⟨hH0, -⟩ := hW
    go_simp
    all_goals with_reducible rfl
  simp only [Act.put, List.setIfInBounds_toArray, List.set_cons_zero, List.set_cons_succ]
  refine wpAnyH_take (i := 9) (v := ?_) (by rw [List.getElem?_toArray]; rfl) (by kernel_rfl) (by kernel_rfl) (by kernel_rfl) (by exact fun _ _ _ h => h) (Or.inl ⟨by rfl, ?_⟩) h02 ?_
  rotate_left
  · intro W hW
    obtain ⟨hH0, -⟩ := hW
    go_simp
    all_goals with_reducible rfl
  simp only [Act.put, List.setIfInBounds_toArray, List.set_cons_zero, List.set_cons_succ]
  refine wpAnyH_take (i := 10) (v := ?_) (by rw [List.getElem?_toArray]; rfl) (by kernel_rfl) (by kernel_rfl) (by kernel_rfl) (by exact fun _ _ _ h => h) (Or.inl ⟨by rfl, ?_⟩) h02 ?_
  rotate_left
  · intro W hW
    obtain ⟨hH0, -⟩ := hW
    go_simp
    all_goals with_reducible rfl
  simp only [Act.put, List.setIfInBounds_toArray, List.set_cons_zero, List.set_cons_succ]
  refine wpAnyH_take (i := 11) (v := ?_) (by rw [List.getElem?_toArray]; rfl) (by kernel_rfl) (by kernel_rfl) (by kernel_rfl) (by exact fun _ _ _ h => h) (Or.inl ⟨by rfl, ?_⟩) h02 ?_
  rotate_left
  · intro W hW
    obtain ⟨hH0, -⟩ := hW
    go_simp
    all_goals with_reducible rfl
  simp only [Act.put, List.setIfInBounds_toArray, List.set_cons_zero, List.set_cons_succ]
  refine wpAnyH_ready (rs := [12]) (by kernel_rfl) (by simp) ?_
  refine AllReadyH.cons (by rw [List.getElem?_toArray]; rfl) (fun K hK => ?_) AllReadyH.nil
  rw [if_pos (by rfl)]
  refine wp_store_mid _ _ _ rfl _ _ (List.toArray s'.row) rfl rfl (by simpa [hl'] using th) (by rw [List.size_toArray, hl']; kernel_rfl) (Seg.one s') ?_
  refine hK.out _ _ (⟨(World.cell?_of_block (setCells_other hne _ _ _)).trans h02.1, by rw [size_setCells]; exact h02.2⟩) (fun h03 => ?_)
  clear hK K
  simp only [Act.put]
  refine wpAnyH_ready (rs := [13]) (by kernel_rfl) (by simp) ?_
  refine AllReadyH.cons (by rw [List.getElem?_toArray]; rfl) (fun K hK => ?_) AllReadyH.nil
  rw [if_pos (by rfl)]
  go_wp2_with fail
  refine hK.out _ _ (h03) (fun h04 => ?_)
  clear hK K
  refine wpAnyH_done (by kernel_rfl) ?_ _
  have G3 := G2.setSeg hl hl'
  have O3 : ∀ k, k ≠ b → k < w.heap.size → (w1.setCells b 0 s'.row).heap[k]? = w.heap[k]? := fun k hk hlt => by rw [setCells_other hk, hb.block k hlt]; rfl
  have B3 : Below b w (w1.setCells b 0 s'.row) := below_setCells' b (Nat.le_refl _) s'.row 0 (((Below.refl _ _).drew).trans (hb.mono (Nat.le_of_lt G.lt)))
  go_wp2_with fail
  go_ret
  rw [hx]
  exact ⟨rfl, G3, B3, O3⟩

end Go.Proofs.YtkdhhdbgngegfaaGreatDoor
