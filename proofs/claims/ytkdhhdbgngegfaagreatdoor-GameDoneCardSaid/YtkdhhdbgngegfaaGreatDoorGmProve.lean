/-
  The walks of package game: a move that cannot be made, with whatever closure; Prove then; basculelaw17.input.
-/
import Derived.Test.YtkdhhdbgngegfaaGreatDoorGmEnd
namespace Go.Proofs.YtkdhhdbgngegfaaGreatDoor
set_option maxRecDepth 100000
open Go.RowKit

set_option maxHeartbeats 2000000 in
theorem move_early {g : Gm} (hg : g.ok) (now side : Int) (mine : Bool) (fv : Value) (c : Int) (hcr : g.ready now = c) (hr : c ≠ 0) (w : World) :
    Calls Tryz.prog 13 #[.agg g.row.toArray, .int .i64 now, .int .i64 side, .bool mine, fv] w
      fun e w' => e = .returned (.tuple #[.agg gm0.row.toArray, .int .i64 c]) ∧ Below w.heap.size w w' := by
  have Hc := Lib.hid hcr
  clear hcr
  have hl := hg.s.len
  have hz : gm0.s.row.length = 99 := seg0_len
  have G := (GmAt.new w 31 g).alloc (.cells gm0.row.toArray 31)
  have R := GmAt.new (w.alloc (.cells g.row.toArray 31)) 31 gm0
  have B : Below w.heap.size w ((w.alloc (.cells g.row.toArray 31)).alloc (.cells gm0.row.toArray 31)) := by
    repeat (first | with_reducible exact Below.refl _ _ | with_reducible refine Below.alloc ?_ (by simp; try omega) _)
  simp only [World.size_alloc] at R
  obtain ⟨-, -, -, -, -, cg, -⟩ := G.facts hg.s
  go_enter Tryz.func13, Tryz.ntmps13
  go_wp2_with fail
  generalize (w.alloc (.cells g.row.toArray 31)).alloc (.cells gm0.row.toArray 31) = wa at G R B cg ⊢
  refine (ready_any hg now _).mono ?_
  rintro e w1 ⟨rfl, hb⟩
  have R1 := R.on hb
  have B1 := B.trans (hb.mono (by have := G.lt; omega))
  clear G R B hb cg
  rw [Hc.out]
  have hb : (c != 0) = true := by simpa using hr
  clear hr
  have rt := R1.there seg0_len (o := 0) (n := 103) (by omega)
  have R9 := R1.setAll seg0_len (g' := gm0) seg0_len
  have cr := R9.whole seg0_len
  have B9 := below_setCells' (w.heap.size + 1) (by omega) gm0.row 0 B1
  clear R9
  go_wp2_with fail
  refine bodyPost_ret (v := .tuple #[.agg gm0.row.toArray, .int .i64 c]) (by simp [results, Tryz.results13, go_sem, cr, hz]) rfl ⟨rfl, B9⟩

set_option maxHeartbeats 2000000 in
theorem Prove_early {g : Gm} (hg : g.ok) (now : Int) (x y : Array Value) (c : Int) (hcr : g.ready now = c) (hr : c ≠ 0) (w : World) :
    Calls Tryz.prog 7 #[.agg g.row.toArray, .int .i64 now, .agg x, .agg y] w
      fun e w' => e = .returned (.tuple #[.agg gm0.row.toArray, .int .i64 c]) ∧ Below w.heap.size w w' := by
  have Hc := Lib.hid hcr
  clear hcr
  have hl := hg.s.len
  have hz : gm0.s.row.length = 99 := seg0_len
  have G := (((GmAt.new w 31 g).alloc (.cells x 47)).alloc (.cells y 53)).alloc (.cells gm0.row.toArray 31)
  have R := GmAt.new (((w.alloc (.cells g.row.toArray 31)).alloc (.cells x 47)).alloc (.cells y 53)) 31 gm0
  have B : Below w.heap.size w ((((w.alloc (.cells g.row.toArray 31)).alloc (.cells x 47)).alloc (.cells y 53)).alloc (.cells gm0.row.toArray 31)) := by
    repeat (first | with_reducible exact Below.refl _ _ | with_reducible refine Below.alloc ?_ (by simp; try omega) _)
  simp only [World.size_alloc] at R
  go_enter Tryz.func7, Tryz.ntmps7
  go_wp2_with fail
  generalize (((w.alloc (.cells g.row.toArray 31)).alloc (.cells x 47)).alloc (.cells y 53)).alloc (.cells gm0.row.toArray 31) = wa at G R B ⊢
  refine wp_region_held_drew (S := fun W => GmAt W w.heap.size 31 g) (by kernel_rfl) (G.drew) (fun h0 => ?_)
  refine wpAnyH_take (i := 0) (v := ?_) (by rw [List.getElem?_toArray]; rfl) (by kernel_rfl) (by kernel_rfl) (by kernel_rfl) (by exact fun _ _ _ h => h) (Or.inl ⟨by rfl, ?_⟩) h0 ?_
  rotate_left
  · intro W hW
    obtain ⟨-, -, -, -, -, cg, cs⟩ := GmAt.facts hW hg.s
    go_simp
    all_goals with_reducible rfl
  simp only [Act.put, List.setIfInBounds_toArray, List.set_cons_zero, List.set_cons_succ]
  refine wpAnyH_take (i := 1) (v := ?_) (by rw [List.getElem?_toArray]; rfl) (by kernel_rfl) (by kernel_rfl) (by kernel_rfl) (by exact fun _ _ _ h => h) (Or.inl ⟨by rfl, ?_⟩) h0 ?_
  rotate_left
  · intro W hW
    obtain ⟨-, -, -, -, -, cg, cs⟩ := GmAt.facts hW hg.s
    go_simp
    all_goals with_reducible rfl
  simp only [Act.put, List.setIfInBounds_toArray, List.set_cons_zero, List.set_cons_succ]
  refine wpAnyH_take (i := 2) (v := ?_) (by rw [List.getElem?_toArray]; rfl) (by kernel_rfl) (by kernel_rfl) (by kernel_rfl) (by exact fun _ _ _ h => h) (Or.inl ⟨by rfl, ?_⟩) h0 ?_
  rotate_left
  · intro W hW
    obtain ⟨-, -, -, -, -, cg, cs⟩ := GmAt.facts hW hg.s
    go_simp
    all_goals with_reducible rfl
  simp only [Act.put, List.setIfInBounds_toArray, List.set_cons_zero, List.set_cons_succ]
  refine wpAnyH_take (i := 3) (v := ?_) (by rw [List.getElem?_toArray]; rfl) (by kernel_rfl) (by kernel_rfl) (by kernel_rfl) (by exact fun _ _ _ h => h) (Or.inl ⟨by rfl, ?_⟩) h0 ?_
  rotate_left
  · intro W hW
    obtain ⟨-, -, -, -, -, cg, cs⟩ := GmAt.facts hW hg.s
    go_simp
    all_goals with_reducible rfl
  simp only [Act.put, List.setIfInBounds_toArray, List.set_cons_zero, List.set_cons_succ]
  refine wpAnyH_take (i := 5) (v := ?_) (by rw [List.getElem?_toArray]; rfl) (by kernel_rfl) (by kernel_rfl) (by kernel_rfl) (by exact fun _ _ _ h => h) (Or.inl ⟨by rfl, ?_⟩) h0 ?_
  rotate_left
  · intro W hW
    obtain ⟨-, -, -, -, -, cg, cs⟩ := GmAt.facts hW hg.s
    go_simp
    all_goals with_reducible rfl
  simp only [Act.put, List.setIfInBounds_toArray, List.set_cons_zero, List.set_cons_succ]
  refine wpAnyH_ready (rs := [4]) (by kernel_rfl) (by simp) ?_
  refine AllReadyH.cons (by rw [List.getElem?_toArray]; rfl) (fun K hK => ?_) AllReadyH.nil
  rw [if_pos (by rfl)]
  go_wp2_with fail
  refine (Last_any hg.s _).mono ?_
  rintro e w1 ⟨rfl, hb⟩
  go_wp2_with fail
  refine hK.out _ _ (GmAt.on h0 hb) (fun h01 => ?_)
  clear hK K
  have R1 := R.drew.on hb
  have B1 : Below w.heap.size w w1 := B.drew.trans (hb.mono B.drew.size)
  clear hb R B
  refine wpAnyH_ready (rs := [6]) (by kernel_rfl) (by simp) ?_
  refine AllReadyH.cons (by rw [List.getElem?_toArray]; rfl) (fun K hK => ?_) AllReadyH.nil
  rw [if_pos (by rfl)]
  go_wp2_with fail
  refine (move_early hg now 1 _ _ c Hc.out hr _).mono ?_
  rintro e w2 ⟨rfl, hb⟩
  go_wp2_with fail
  refine hK.out _ _ (GmAt.on h01 hb) (fun h02 => ?_)
  clear hK K
  have R2 := R1.on hb
  have B2 := B1.trans (hb.mono B1.size)
  clear hb R1 B1
  have th := R2.there seg0_len (o := 0) (n := 103) (by omega)
  have hlg := Gm.len hz
  refine wpAnyH_take (i := 7) (v := ?_) (by rw [List.getElem?_toArray]; rfl) (by kernel_rfl) (by kernel_rfl) (by kernel_rfl) (by exact fun _ _ _ h => h) (Or.inl ⟨by rfl, ?_⟩) h02 ?_
  rotate_left
  · intro W hW
    obtain ⟨-, -, -, -, -, cg, cs⟩ := GmAt.facts hW hg.s
    go_simp
    all_goals with_reducible rfl
  simp only [Act.put, List.setIfInBounds_toArray, List.set_cons_zero, List.set_cons_succ]
  refine wpAnyH_take (i := 8) (v := ?_) (by rw [List.getElem?_toArray]; rfl) (by kernel_rfl) (by kernel_rfl) (by kernel_rfl) (by exact fun _ _ _ h => h) (Or.inl ⟨by rfl, ?_⟩) h02 ?_
  rotate_left
  · intro W hW
    obtain ⟨-, -, -, -, -, cg, cs⟩ := GmAt.facts hW hg.s
    go_simp
    all_goals with_reducible rfl
  simp only [Act.put, List.setIfInBounds_toArray, List.set_cons_zero, List.set_cons_succ]
  refine wpAnyH_ready (rs := [9]) (by kernel_rfl) (by simp) ?_
  refine AllReadyH.cons (by rw [List.getElem?_toArray]; rfl) (fun K hK => ?_) AllReadyH.nil
  rw [if_pos (by rfl)]
  refine wp_store_mid _ _ _ rfl _ _ (List.toArray gm0.row) rfl rfl (by simpa [hlg] using th) (by rw [List.size_toArray, hlg]; kernel_rfl) (Gm.one gm0) ?_
  refine hK.out _ _ (GmAt.others h02 (by omega) _ _) (fun h03 => ?_)
  clear hK K
  simp only [Act.put]
  refine wpAnyH_ready (rs := [10]) (by kernel_rfl) (by simp) ?_
  refine AllReadyH.cons (by rw [List.getElem?_toArray]; rfl) (fun K hK => ?_) AllReadyH.nil
  rw [if_pos (by rfl)]
  go_wp2_with fail
  refine hK.out _ _ (h03) (fun h04 => ?_)
  clear hK K
  refine wpAnyH_done (by kernel_rfl) ?_ _
  have R3 := R2.setAll seg0_len (g' := gm0) hz
  have cr := R3.whole hz
  have B3 := below_setCells' (w.heap.size + 1 + 1 + 1) (by omega) gm0.row 0 B2
  clear R2 B2 R3 h0 h01 h02 h03 h04
  go_wp2_with fail
  refine bodyPost_ret (v := .tuple #[.agg gm0.row.toArray, .int .i64 c]) (by simp [results, Tryz.results7, go_sem, cr, hz]) rfl ⟨rfl, B3⟩

end Go.Proofs.YtkdhhdbgngegfaaGreatDoor
