/-
  The walks of package game: Post, Choose.
-/
import Derived.Test.YtkdhhdbgngegfaaGreatDoorGmMove
namespace Go.Proofs.YtkdhhdbgngegfaaGreatDoor
set_option maxRecDepth 100000
open Go.RowKit

theorem Gm.moved_fine {g : Gm} (hg : g.ok) {now : Int} {side mine : Bool} {x : Seg × Int} (hx : x.1.ok) : (g.moved now side mine x).1.ok := by
  unfold Gm.moved
  by_cases hr : g.ready now = 0
  · have L := Gm.live_of hr
    have ⟨l1, l2, l3, l4, l5, l6, l7⟩ : 0 ≤ g.at_ ∧ g.at_ ≤ now ∧ now ≤ 1099511627776 ∧ 0 ≤ g.c0 ∧ g.c0 ≤ 1048576 ∧ 0 ≤ g.c1 ∧ g.c1 ≤ 1048576 := ⟨L.t0, L.t1, L.t2, L.a0, L.a1, L.b0, L.b1⟩
    simp only [hr, bne_self_eq_false, cond_false]
    cases mine
    · exact gm0_ok
    simp only [Bool.not_true, cond_false]
    cases decide ((bif side then g.c1 else g.c0) < now - g.at_)
    · cases x.2 != 0
      · simp only [cond_false]
        refine ⟨hx, ?_, ?_, ⟨by show _ ≤ now; omega, by show now < _; omega⟩, hg.wn⟩
        · cases side
          · exact ⟨by show _ ≤ g.c0 - (now - g.at_); omega, by show g.c0 - (now - g.at_) < _; omega⟩
          · exact hg.c0
        · cases side
          · exact hg.c1
          · exact ⟨by show _ ≤ g.c1 - (now - g.at_); omega, by show g.c1 - (now - g.at_) < _; omega⟩
      · exact gm0_ok
    · exact gm0_ok
  · have hb : (g.ready now != 0) = true := by simpa using hr
    simp only [hb, cond_true]
    exact gm0_ok

def Gm.post (g : Gm) (now : Int) (F : List Int) : Gm × Int := g.moved now false (g.turn == 0) (g.s.post F)
def Gm.choose (g : Gm) (now : Int) (a : Bool) : Gm × Int := g.moved now true g.s.p (g.s.choose a)
theorem Gm.post_fine {g : Gm} (hg : g.ok) {now : Int} {F : List Int} (hF : F.length = 32) : (g.post now F).1.ok := Gm.moved_fine hg (Seg.post_fine hg.s hF)
theorem Gm.choose_fine {g : Gm} (hg : g.ok) {now : Int} {a : Bool} : (g.choose now a).1.ok := Gm.moved_fine hg (Seg.choose_fine hg.s a)

@[go_sem] theorem Tryz.run_makeFunc (fn : Fn) (first cap : Array Value) (w : World) : (Instr.makeFunc fn first cap).run Tryz.prog w = .ok (.func fn first cap) w := rfl

set_option maxHeartbeats 2000000 in
theorem GmPost_any {g : Gm} (hg : g.ok) {F : List Int} (hF : F.length = 32) (now : Int) (w : World) :
    Calls Tryz.prog 4 #[.agg g.row.toArray, .int .i64 now, .agg (hc F).toArray] w
      fun e w' => e = .returned (.tuple #[.agg (g.post now F).1.row.toArray, .int .i64 (g.post now F).2]) ∧ Below w.heap.size w w' := by
  have hl := hg.s.len
  have hx := (Gm.post_fine hg (now := now) hF).s.len
  have G := ((GmAt.new w 31 g).alloc (.cells (hc F).toArray 23)).alloc (.cells gm0.row.toArray 31)
  have H := (HashAt.new (w.alloc (.cells g.row.toArray 31)) F).alloc (.cells gm0.row.toArray 31)
  have R := GmAt.new ((w.alloc (.cells g.row.toArray 31)).alloc (.cells (hc F).toArray 23)) 31 gm0
  have B : Below w.heap.size w (((w.alloc (.cells g.row.toArray 31)).alloc (.cells (hc F).toArray 23)).alloc (.cells gm0.row.toArray 31)) := by
    repeat (first | with_reducible exact Below.refl _ _ | with_reducible refine Below.alloc ?_ (by simp; try omega) _)
  simp only [World.size_alloc] at H R
  go_enter Tryz.func4, Tryz.ntmps4
  go_wp2_with fail
  generalize ((w.alloc (.cells g.row.toArray 31)).alloc (.cells (hc F).toArray 23)).alloc (.cells gm0.row.toArray 31) = wa at G H R B ⊢
  refine wp_region_held_drew (S := fun W => GmAt W w.heap.size 31 g ∧ HashAt W (w.heap.size + 1) F) (by kernel_rfl) (⟨G.drew, H⟩) (fun h0 => ?_)
  refine wpAnyH_take (i := 0) (v := ?_) (by rw [List.getElem?_toArray]; rfl) (by kernel_rfl) (by kernel_rfl) (by kernel_rfl) (by exact fun _ _ _ h => h) (Or.inl ⟨by rfl, ?_⟩) h0 ?_
  rotate_left
  · intro W hW
    have hG0 := hW.1.whole hl
    go_simp
    all_goals with_reducible rfl
  simp only [Act.put, List.setIfInBounds_toArray, List.set_cons_zero, List.set_cons_succ]
  refine wpAnyH_take (i := 1) (v := ?_) (by rw [List.getElem?_toArray]; rfl) (by kernel_rfl) (by kernel_rfl) (by kernel_rfl) (by exact fun _ _ _ h => h) (Or.inl ⟨by rfl, ?_⟩) h0 ?_
  rotate_left
  · intro W hW
    have hG0 := hW.1.whole hl
    go_simp
    all_goals with_reducible rfl
  simp only [Act.put, List.setIfInBounds_toArray, List.set_cons_zero, List.set_cons_succ]
  refine wpAnyH_take (i := 2) (v := ?_) (by rw [List.getElem?_toArray]; rfl) (by kernel_rfl) (by kernel_rfl) (by kernel_rfl) (by exact fun _ _ _ h => h) (Or.inl ⟨by rfl, ?_⟩) h0 ?_
  rotate_left
  · intro W hW
    have hG0 := hW.1.whole hl
    go_simp
    all_goals with_reducible rfl
  simp only [Act.put, List.setIfInBounds_toArray, List.set_cons_zero, List.set_cons_succ]
  refine wpAnyH_take (i := 5) (v := ?_) (by rw [List.getElem?_toArray]; rfl) (by kernel_rfl) (by kernel_rfl) (by kernel_rfl) (by exact fun _ _ _ h => h) (Or.inl ⟨by rfl, ?_⟩) h0 ?_
  rotate_left
  · intro W hW
    have hG0 := hW.1.whole hl
    go_simp
    all_goals with_reducible rfl
  simp only [Act.put, List.setIfInBounds_toArray, List.set_cons_zero, List.set_cons_succ]
  refine wpAnyH_ready (rs := [3]) (by kernel_rfl) (by simp) ?_
  refine AllReadyH.cons (by rw [List.getElem?_toArray]; rfl) (fun K hK => ?_) AllReadyH.nil
  rw [if_pos (by rfl)]
  go_wp2_with fail
  refine (Turn_any hg _).mono ?_
  rintro e w1 ⟨rfl, hb⟩
  go_wp2_with fail
  refine hK.out _ _ (⟨h0.1.on hb, h0.2.on hb⟩) (fun h01 => ?_)
  clear hK K
  have R1 := R.drew.on hb
  have B1 : Below w.heap.size w w1 := B.drew.trans (hb.mono B.drew.size)
  clear hb R B
  refine wpAnyH_take (i := 4) (v := ?_) (by rw [List.getElem?_toArray]; rfl) (by kernel_rfl) (by kernel_rfl) (by kernel_rfl) (by exact fun _ _ _ h => h) (Or.inl ⟨by rfl, ?_⟩) h01 ?_
  rotate_left
  · intro W hW
    have hG0 := hW.1.whole hl
    go_simp
    all_goals with_reducible rfl
  simp only [Act.put, List.setIfInBounds_toArray, List.set_cons_zero, List.set_cons_succ]
  generalize hmine : (g.turn == 0) = mine
  refine wpAnyH_ready (rs := [6]) (by kernel_rfl) (by simp) ?_
  refine AllReadyH.cons (by rw [List.getElem?_toArray]; rfl) (fun K hK => ?_) AllReadyH.nil
  rw [if_pos (by rfl)]
  go_wp2_with fail
  refine (movePost_any hg hF now mine _ h01.2 h01.2.lt).mono ?_
  rintro e w2 ⟨rfl, hb⟩
  have E := Lib.hid (show g.post now F = g.moved now false mine (g.s.post F) by rw [← hmine]; rfl)
  rw [E.out] at hx
  generalize g.moved now false mine (g.s.post F) = x at hx E ⊢
  obtain ⟨g', c⟩ := x
  simp only at hx E ⊢
  go_wp2_with fail
  refine hK.out _ _ (⟨h01.1.on hb, h01.2.on hb⟩) (fun h02 => ?_)
  clear hK K
  have R2 := R1.on hb
  have B2 := B1.trans (hb.mono B1.size)
  clear hb R1 B1
  have th := R2.there seg0_len (o := 0) (n := 103) (by omega)
  have hlg := Gm.len hx
  refine wpAnyH_take (i := 7) (v := ?_) (by rw [List.getElem?_toArray]; rfl) (by kernel_rfl) (by kernel_rfl) (by kernel_rfl) (by exact fun _ _ _ h => h) (Or.inl ⟨by rfl, ?_⟩) h02 ?_
  rotate_left
  · intro W hW
    have hG0 := hW.1.whole hl
    go_simp
    all_goals with_reducible rfl
  simp only [Act.put, List.setIfInBounds_toArray, List.set_cons_zero, List.set_cons_succ]
  refine wpAnyH_take (i := 8) (v := ?_) (by rw [List.getElem?_toArray]; rfl) (by kernel_rfl) (by kernel_rfl) (by kernel_rfl) (by exact fun _ _ _ h => h) (Or.inl ⟨by rfl, ?_⟩) h02 ?_
  rotate_left
  · intro W hW
    have hG0 := hW.1.whole hl
    go_simp
    all_goals with_reducible rfl
  simp only [Act.put, List.setIfInBounds_toArray, List.set_cons_zero, List.set_cons_succ]
  refine wpAnyH_ready (rs := [9]) (by kernel_rfl) (by simp) ?_
  refine AllReadyH.cons (by rw [List.getElem?_toArray]; rfl) (fun K hK => ?_) AllReadyH.nil
  rw [if_pos (by rfl)]
  refine wp_store_mid _ _ _ rfl _ _ (List.toArray g'.row) rfl rfl (by simpa [hlg] using th) (by rw [List.size_toArray, hlg]; kernel_rfl) (Gm.one g') ?_
  refine hK.out _ _ (⟨h02.1.others (by omega) _ _, show HashAt _ _ F from by unfold HashAt; rw [setCells_other (by omega)]; exact h02.2⟩) (fun h03 => ?_)
  clear hK K
  simp only [Act.put]
  refine wpAnyH_ready (rs := [10]) (by kernel_rfl) (by simp) ?_
  refine AllReadyH.cons (by rw [List.getElem?_toArray]; rfl) (fun K hK => ?_) AllReadyH.nil
  rw [if_pos (by rfl)]
  go_wp2_with fail
  refine hK.out _ _ (h03) (fun h04 => ?_)
  clear hK K
  refine wpAnyH_done (by kernel_rfl) ?_ _
  have R3 := R2.setAll seg0_len (g' := g') hx
  have cr := R3.whole hx
  have B3 := below_setCells' (w.heap.size + 1 + 1) (by omega) g'.row 0 B2
  clear R2 B2 R3 h0 h01 h02 h03 h04
  go_wp2_with fail
  rw [E.out]
  refine bodyPost_ret (v := .tuple #[.agg g'.row.toArray, .int .i64 c]) (by simp [results, Tryz.results4, go_sem, cr, hx]) rfl ⟨rfl, B3⟩

set_option maxHeartbeats 2000000 in
theorem GmChoose_any {g : Gm} (hg : g.ok) (agree : Bool) (now : Int) (w : World) :
    Calls Tryz.prog 6 #[.agg g.row.toArray, .int .i64 now, .bool agree] w
      fun e w' => e = .returned (.tuple #[.agg (g.choose now agree).1.row.toArray, .int .i64 (g.choose now agree).2]) ∧ Below w.heap.size w w' := by
  have hl := hg.s.len
  have hx := (Gm.choose_fine hg (now := now) (a := agree)).s.len
  have hz : gm0.s.row.length = 99 := seg0_len
  have G := ((GmAt.new w 31 g).alloc (.cells #[.bool agree] 4)).alloc (.cells gm0.row.toArray 31)
  have R := GmAt.new ((w.alloc (.cells g.row.toArray 31)).alloc (.cells #[.bool agree] 4)) 31 gm0
  have B : Below w.heap.size w (((w.alloc (.cells g.row.toArray 31)).alloc (.cells #[.bool agree] 4)).alloc (.cells gm0.row.toArray 31)) := by
    repeat (first | with_reducible exact Below.refl _ _ | with_reducible refine Below.alloc ?_ (by simp; try omega) _)
  have H : (((w.alloc (.cells g.row.toArray 31)).alloc (.cells #[.bool agree] 4)).alloc (.cells gm0.row.toArray 31)).cell? ⟨w.heap.size + 1, 0, none⟩ = some (.bool agree) := by
    rw [World.cell?_of_block (w := (w.alloc (.cells g.row.toArray 31)).alloc (.cells #[.bool agree] 4)) (Below.heap_alloc _ _ _ (by simp))]
    have := heap_alloc_last (w.alloc (.cells g.row.toArray 31)) (.cells #[.bool agree] 4)
    rw [World.size_alloc] at this
    rw [cell_of_row _ _ _ _ _ _ this]; rfl
  have hm : w.heap.size + 1 < (((w.alloc (.cells g.row.toArray 31)).alloc (.cells #[.bool agree] 4)).alloc (.cells gm0.row.toArray 31)).heap.size := by simp
  simp only [World.size_alloc] at R
  obtain ⟨c98, -, -, -, -, cg, -⟩ := G.facts hg.s
  go_enter Tryz.func6, Tryz.ntmps6
  go_wp2_with fail
  generalize ((w.alloc (.cells g.row.toArray 31)).alloc (.cells #[.bool agree] 4)).alloc (.cells gm0.row.toArray 31) = wa at G R B H hm c98 cg ⊢
  refine (moveChoose_any hg agree now g.s.p _ H hm).mono ?_
  rintro e w2 ⟨rfl, hb⟩
  have R2 := R.on hb
  have B2 := B.trans (hb.mono B.size)
  clear hb R B G H hm c98 cg
  have E := Lib.hid (show g.choose now agree = g.moved now true g.s.p (g.s.choose agree) from rfl)
  rw [E.out] at hx
  generalize g.moved now true g.s.p (g.s.choose agree) = x at hx E ⊢
  obtain ⟨g', c⟩ := x
  simp only at hx E ⊢
  have rt := R2.there seg0_len (o := 0) (n := 103) (by omega)
  have R3 := R2.setAll seg0_len (g' := g') hx
  have cr := R3.whole hx
  have B3 := below_setCells' (w.heap.size + 1 + 1) (by omega) g'.row 0 B2
  clear R2 B2 R3
  go_wp2_with fail
  rw [E.out]
  refine bodyPost_ret (v := .tuple #[.agg g'.row.toArray, .int .i64 c]) (by simp [results, Tryz.results6, go_sem, cr, hx]) rfl ⟨rfl, B3⟩
end Go.Proofs.YtkdhhdbgngegfaaGreatDoor
