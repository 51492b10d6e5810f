/-
  The walk of package claim: Choose, Open.
-/
import Derived.Test.YtkdhhdbgngegfaaGreatDoorBuild
import Derived.Deep.RegionHeld3
namespace Go.Proofs.YtkdhhdbgngegfaaGreatDoor
open Go.RowKit

def Seg.choose (s : Seg) (agree : Bool) : Seg × Int :=
  bif s.right then (bif s.p then (bif agree then (⟨s.middle, s.hi, s.m, s.t, zero32, false⟩, 0) else (⟨s.lo, s.middle, s.f, s.m, zero32, false⟩, 0)) else (seg0, 52)) else (seg0, 1)

/-- What stands while a region runs: the segment in b; some segment in r. -/
abbrev ChS (w : World) (b r : Nat) (ty : TypeId) (s : Seg) (W : World) : Prop :=
  W.cell? ⟨b, 0, none⟩ = some (.int .i64 s.lo) ∧ W.cell? ⟨b, 1, none⟩ = some (.int .i64 s.hi) ∧ rowOf W b 0 99 = s.row ∧ rowOf W b 2 32 = hc s.f ∧ rowOf W b 34 32 = hc s.t ∧ rowOf W b 66 32 = hc s.m ∧ W.rangeAt b 2 (hc s.f) ∧ W.rangeAt b 34 (hc s.t) ∧ W.rangeAt b 66 (hc s.m) ∧
    SegAt W b ty s ∧ (∃ x : Seg, x.ok ∧ SegAt W r ty x) ∧ W.there r 0 99 ∧ Below w.heap.size w W

section
variable {w W W' : World} {b r : Nat} {ty : TypeId} {s : Seg}
theorem ChS_mk (hs : s.ok) (hS : SegAt W b ty s) (hR : ∃ x : Seg, x.ok ∧ SegAt W r ty x) (hB : Below w.heap.size w W) : ChS w b r ty s W := by
  obtain ⟨c0, c1, -, cw, cf, ct, cm⟩ := hS.facts hs
  have h := hR
  obtain ⟨x, hx, hX⟩ := h
  exact ⟨c0, c1, cw, cf, ct, cm, by rw [← cf]; exact range_rowOf _ _ _ _, by rw [← ct]; exact range_rowOf _ _ _ _, by rw [← cm]; exact range_rowOf _ _ _ _, hS, hR, hX.there hx (by omega), hB⟩
theorem ChS_drew (hs : s.ok) (h : ChS w b r ty s W) : ChS w b r ty s W.drew := by
  obtain ⟨-, -, -, -, -, -, -, -, -, hS, ⟨x, hx, hX⟩, -, hB⟩ := h
  exact ChS_mk hs hS.drew ⟨x, hx, hX.drew⟩ hB.drew
theorem ChS_call (hs : s.ok) (hb : w.heap.size ≤ b) (h : ChS w b r ty s W) (hW : Below W.heap.size W W') : ChS w b r ty s W' := by
  obtain ⟨-, -, -, -, -, -, -, -, -, hS, ⟨x, hx, hX⟩, -, hB⟩ := h
  exact ChS_mk hs (hS.on hW) ⟨x, hx, hX.on hW⟩ (hB.trans (hW.mono (by have := hS.lt; omega)))
theorem ChS_store (hs : s.ok) (hne : b ≠ r) (hr : w.heap.size ≤ r) (h : ChS w b r ty s W) {y : Seg} (hy : y.ok) : ChS w b r ty s (W.setCells r 0 y.row) := by
  obtain ⟨-, -, -, -, -, -, -, -, -, hS, ⟨x, hx, hX⟩, -, hB⟩ := h
  exact ChS_mk hs (hS.others hne _ _) ⟨y, hy, hX.setAll hx hy⟩ (below_setCells' r hr _ _ hB)
end

set_option maxHeartbeats 600000 in
set_option maxRecDepth 100000 in
theorem Choose_any {s : Seg} (hs : s.ok) (agree : Bool) (w : World) : Calls Tryz.prog 18 #[.agg s.row.toArray, .bool agree] w
    fun e w' => e = .returned (.tuple #[.agg (s.choose agree).1.row.toArray, .int .i64 (s.choose agree).2]) ∧ Below w.heap.size w w' := by
  have S := (SegAt.new w 29 s).alloc (.cells seg0.row.toArray 29)
  have R := SegAt.new (w.alloc (.cells s.row.toArray 29)) 29 seg0
  have B : Below w.heap.size w ((w.alloc (.cells s.row.toArray 29)).alloc (.cells seg0.row.toArray 29)) := by
    repeat (first | with_reducible exact Below.refl _ _ | with_reducible refine Below.alloc ?_ (by simp; try omega) _)
  simp only [World.size_alloc] at R
  obtain ⟨-, -, -, cw, -, -, -⟩ := S.facts hs
  have hf := hs.f
  have ht := hs.t
  have hm := hs.m
  have zf := seg0_ok.f
  have zt := seg0_ok.t
  have zm := seg0_ok.m
  go_enter Tryz.func18, Tryz.ntmps18
  go_wp2_with fail
  generalize (w.alloc (.cells s.row.toArray 29)).alloc (.cells seg0.row.toArray 29) = wa at S R B cw ⊢
  refine (Right_any hs _).mono ?_
  rintro e w1 ⟨rfl, hb⟩
  have S1 := S.on hb
  have R1 := R.on hb
  have B1 := B.trans (hb.mono (by have := S.lt; omega))
  clear S R B cw hb
  obtain ⟨c0, c1, c98, cw, cf, ct, cm⟩ := S1.facts hs
  have rt := R1.there seg0_ok (o := 0) (n := 99) (by omega)
  cases hr : s.right
  · have R2 := R1.setAll seg0_ok seg0_ok
    have B2 := below_setCells' (w.heap.size + 1) (by omega) seg0.row 0 B1
    have cr := R2.whole seg0_ok
    clear S1 R1 R2 B1
    go_wp2_with fail
    rw [show s.choose agree = (seg0, 1) by simp [Seg.choose, hr]]
    refine bodyPost_ret (v := .tuple #[.agg seg0.row.toArray, .int .i64 1]) (by simp [results, Tryz.results18, go_sem, cr, zf, zt, zm]) rfl ⟨rfl, B2⟩
  · cases hp : s.p
    · rw [hp] at c98
      have R2 := R1.setAll seg0_ok seg0_ok
      have B2 := below_setCells' (w.heap.size + 1) (by omega) seg0.row 0 B1
      have cr := R2.whole seg0_ok
      clear S1 R1 R2 B1
      go_wp2_with fail
      rw [show s.choose agree = (seg0, 52) by simp [Seg.choose, hr, hp]]
      refine bodyPost_ret (v := .tuple #[.agg seg0.row.toArray, .int .i64 52]) (by simp [results, Tryz.results18, go_sem, cr, zf, zt, zm]) rfl ⟨rfl, B2⟩
    · rw [hp] at c98
      have hmid : 0 ≤ s.middle ∧ s.middle ≤ 4096 := by
        have := Seg.right_lo hr
        simp only [Seg.middle, hr, cond_true]; omega
      cases agree
      · have E := Lib.hid (show s.choose false = (⟨s.lo, s.middle, s.f, s.m, zero32, false⟩, 0) by simp [Seg.choose, hr, hp])
        have hs' : Seg.ok ⟨s.lo, s.middle, s.f, s.m, zero32, false⟩ := ⟨hs.lo1, hs.lo2, by show _ ≤ s.middle; omega, by show s.middle < _; omega, hf, hm, zero32_len⟩
        go_wp2_with fail
        have hS0 : ChS w w.heap.size (w.heap.size + 1) 29 s w1 := ChS_mk hs S1 ⟨seg0, seg0_ok, R1⟩ B1
        have n1 : w.heap.size ≤ w.heap.size := Nat.le_refl _
        have n2 : w.heap.size ≠ w.heap.size + 1 := by omega
        have n3 : w.heap.size ≤ w.heap.size + 1 := by omega
        clear rt c98 c0 c1 cf ct cm cw S1 R1 B1
        refine wp_region_held_drew (S := ChS w w.heap.size (w.heap.size + 1) 29 s) (by kernel_rfl) (ChS_drew hs hS0) (fun hHeld => ?_)
        refine wpAnyH_take (i := 0) (v := ?_) rfl (by kernel_rfl) (by kernel_rfl) (by kernel_rfl) (fun _ _ _ h => h) (Or.inl ⟨by rfl, ?_⟩) hHeld ?_
        rotate_left
        · intro W hW
          obtain ⟨d0, d1, dw, df, dt, dm, -, -, -, -, -, th, -⟩ := hW
          go_simp
          all_goals with_reducible rfl
        refine wpAnyH_take (i := 1) (v := ?_) rfl (by kernel_rfl) (by kernel_rfl) (by kernel_rfl) (fun _ _ _ h => h) (Or.inl ⟨by rfl, ?_⟩) hHeld ?_
        rotate_left
        · intro W hW
          obtain ⟨d0, d1, dw, df, dt, dm, -, -, -, -, -, th, -⟩ := hW
          go_simp
          all_goals with_reducible rfl
        refine wpAnyH_take (i := 2) (v := ?_) rfl (by kernel_rfl) (by kernel_rfl) (by kernel_rfl) (fun _ _ _ h => h) (Or.inl ⟨by rfl, ?_⟩) hHeld ?_
        rotate_left
        · intro W hW
          obtain ⟨d0, d1, dw, df, dt, dm, -, -, -, -, -, th, -⟩ := hW
          go_simp
          all_goals with_reducible rfl
        refine wpAnyH_take (i := 4) (v := ?_) rfl (by kernel_rfl) (by kernel_rfl) (by kernel_rfl) (fun _ _ _ h => h) (Or.inl ⟨by rfl, ?_⟩) hHeld ?_
        rotate_left
        · intro W hW
          obtain ⟨d0, d1, dw, df, dt, dm, -, -, -, -, -, th, -⟩ := hW
          go_simp
          all_goals with_reducible rfl
        refine wpAnyH_take (i := 5) (v := ?_) rfl (by kernel_rfl) (by kernel_rfl) (by kernel_rfl) (fun _ _ _ h => h) (Or.inl ⟨by rfl, ?_⟩) hHeld ?_
        rotate_left
        · intro W hW
          obtain ⟨d0, d1, dw, df, dt, dm, -, -, -, -, -, th, -⟩ := hW
          go_simp
          all_goals with_reducible rfl
        refine wpAnyH_take (i := 6) (v := ?_) rfl (by kernel_rfl) (by kernel_rfl) (by kernel_rfl) (fun _ _ _ h => h) (Or.inl ⟨by rfl, ?_⟩) hHeld ?_
        rotate_left
        · intro W hW
          obtain ⟨d0, d1, dw, df, dt, dm, -, -, -, -, -, th, -⟩ := hW
          go_simp
          all_goals with_reducible rfl
        refine wpAnyH_take (i := 7) (v := ?_) rfl (by kernel_rfl) (by kernel_rfl) (by kernel_rfl) (fun _ _ _ h => h) (Or.inl ⟨by rfl, ?_⟩) hHeld ?_
        rotate_left
        · intro W hW
          obtain ⟨d0, d1, dw, df, dt, dm, -, -, -, -, -, th, -⟩ := hW
          go_simp
          all_goals with_reducible rfl
        refine wpAnyH_ready (rs := [3]) (by kernel_rfl) (by simp) ?_
        refine AllReadyH.cons rfl (fun K hK => ?_) AllReadyH.nil
        simp only [List.getElem_toArray, List.getElem_cons_succ, List.getElem_cons_zero]
        go_wp2_with fail
        refine (Middle_any hs _).mono ?_
        rintro e w2 ⟨rfl, hb2⟩
        go_wp2_with fail
        refine hK.out _ _ (ChS_call hs n1 hHeld hb2) (fun hHeld2 => ?_)
        clear hK K
        refine wpAnyH_take (i := 8) (v := ?_) rfl (by kernel_rfl) (by kernel_rfl) (by kernel_rfl) (fun _ _ _ h => h) (Or.inl ⟨by rfl, ?_⟩) hHeld2 ?_
        rotate_left
        · intro W hW
          obtain ⟨d0, d1, dw, df, dt, dm, -, -, -, -, -, th, -⟩ := hW
          go_simp
          all_goals with_reducible rfl
        refine wpAnyH_ready (rs := [9]) (by kernel_rfl) (by simp) ?_
        refine AllReadyH.cons rfl (fun K hK => ?_) AllReadyH.nil
        simp only [List.getElem_toArray, List.getElem_cons_succ, List.getElem_cons_zero]
        have hh := hHeld2
        obtain ⟨-, -, -, -, -, -, -, -, -, -, -, th, -⟩ := hh
        simp only [Act.put, List.setIfInBounds_toArray, List.set_cons_zero, List.set_cons_succ]
        generalize hg : (⟨s.lo, s.middle, s.f, s.m, zero32, false⟩ : Seg) = s' at E hs' ⊢
        have sf := hs'.f
        have st := hs'.t
        have sm := hs'.m
        rw [if_pos (by rfl)]
        refine wp_store_mid _ _ _ rfl _ _ (List.toArray s'.row) rfl rfl (by simpa [Seg.len sf st sm] using th) (by rw [List.size_toArray, Seg.len sf st sm]; kernel_rfl) (Seg.one s') ?_
        simp only [Act.put]
        refine hK.out _ _ (ChS_store hs n2 n3 hHeld2 hs') (fun hHeld3 => ?_)
        clear hK K
        refine wpAnyH_take (i := 10) (v := ?_) rfl (by kernel_rfl) (by kernel_rfl) (by kernel_rfl) (fun _ _ _ h => h) (Or.inl ⟨by rfl, ?_⟩) hHeld3 ?_
        rotate_left
        · intro W hW
          obtain ⟨d0, d1, dw, df, dt, dm, -, -, -, -, -, th, -⟩ := hW
          go_simp
          all_goals with_reducible rfl
        refine wpAnyH_done (by kernel_rfl) ?_ _
        obtain ⟨-, -, -, -, -, -, -, -, -, -, ⟨x, hx, hX⟩, -, -⟩ := hHeld2
        have cr := (hX.setAll hx hs').whole hs'
        obtain ⟨-, -, -, -, -, -, -, -, -, -, -, -, B3⟩ := hHeld3
        go_wp2_with fail
        rw [E.out]
        refine bodyPost_ret (v := .tuple #[.agg s'.row.toArray, .int .i64 0]) (by simp [results, Tryz.results18, go_sem, cr, sf, st, sm]) rfl ⟨rfl, B3⟩
      · have E := Lib.hid (show s.choose true = (⟨s.middle, s.hi, s.m, s.t, zero32, false⟩, 0) by simp [Seg.choose, hr, hp])
        have hs' : Seg.ok ⟨s.middle, s.hi, s.m, s.t, zero32, false⟩ := ⟨by show _ ≤ s.middle; omega, by show s.middle < _; omega, hs.hi1, hs.hi2, hm, ht, zero32_len⟩
        go_wp2_with fail
        have hS0 : ChS w w.heap.size (w.heap.size + 1) 29 s w1 := ChS_mk hs S1 ⟨seg0, seg0_ok, R1⟩ B1
        have n1 : w.heap.size ≤ w.heap.size := Nat.le_refl _
        have n2 : w.heap.size ≠ w.heap.size + 1 := by omega
        have n3 : w.heap.size ≤ w.heap.size + 1 := by omega
        clear rt c98 c0 c1 cf ct cm cw S1 R1 B1
        refine wp_region_held_drew (S := ChS w w.heap.size (w.heap.size + 1) 29 s) (by kernel_rfl) (ChS_drew hs hS0) (fun hHeld => ?_)
        refine wpAnyH_take (i := 0) (v := ?_) rfl (by kernel_rfl) (by kernel_rfl) (by kernel_rfl) (fun _ _ _ h => h) (Or.inl ⟨by rfl, ?_⟩) hHeld ?_
        rotate_left
        · intro W hW
          obtain ⟨d0, d1, dw, df, dt, dm, -, -, -, -, -, th, -⟩ := hW
          go_simp
          all_goals with_reducible rfl
        refine wpAnyH_take (i := 2) (v := ?_) rfl (by kernel_rfl) (by kernel_rfl) (by kernel_rfl) (fun _ _ _ h => h) (Or.inl ⟨by rfl, ?_⟩) hHeld ?_
        rotate_left
        · intro W hW
          obtain ⟨d0, d1, dw, df, dt, dm, -, -, -, -, -, th, -⟩ := hW
          go_simp
          all_goals with_reducible rfl
        refine wpAnyH_take (i := 3) (v := ?_) rfl (by kernel_rfl) (by kernel_rfl) (by kernel_rfl) (fun _ _ _ h => h) (Or.inl ⟨by rfl, ?_⟩) hHeld ?_
        rotate_left
        · intro W hW
          obtain ⟨d0, d1, dw, df, dt, dm, -, -, -, -, -, th, -⟩ := hW
          go_simp
          all_goals with_reducible rfl
        refine wpAnyH_take (i := 4) (v := ?_) rfl (by kernel_rfl) (by kernel_rfl) (by kernel_rfl) (fun _ _ _ h => h) (Or.inl ⟨by rfl, ?_⟩) hHeld ?_
        rotate_left
        · intro W hW
          obtain ⟨d0, d1, dw, df, dt, dm, -, -, -, -, -, th, -⟩ := hW
          go_simp
          all_goals with_reducible rfl
        refine wpAnyH_take (i := 5) (v := ?_) rfl (by kernel_rfl) (by kernel_rfl) (by kernel_rfl) (fun _ _ _ h => h) (Or.inl ⟨by rfl, ?_⟩) hHeld ?_
        rotate_left
        · intro W hW
          obtain ⟨d0, d1, dw, df, dt, dm, -, -, -, -, -, th, -⟩ := hW
          go_simp
          all_goals with_reducible rfl
        refine wpAnyH_take (i := 6) (v := ?_) rfl (by kernel_rfl) (by kernel_rfl) (by kernel_rfl) (fun _ _ _ h => h) (Or.inl ⟨by rfl, ?_⟩) hHeld ?_
        rotate_left
        · intro W hW
          obtain ⟨d0, d1, dw, df, dt, dm, -, -, -, -, -, th, -⟩ := hW
          go_simp
          all_goals with_reducible rfl
        refine wpAnyH_take (i := 7) (v := ?_) rfl (by kernel_rfl) (by kernel_rfl) (by kernel_rfl) (fun _ _ _ h => h) (Or.inl ⟨by rfl, ?_⟩) hHeld ?_
        rotate_left
        · intro W hW
          obtain ⟨d0, d1, dw, df, dt, dm, -, -, -, -, -, th, -⟩ := hW
          go_simp
          all_goals with_reducible rfl
        refine wpAnyH_ready (rs := [1]) (by kernel_rfl) (by simp) ?_
        refine AllReadyH.cons rfl (fun K hK => ?_) AllReadyH.nil
        simp only [List.getElem_toArray, List.getElem_cons_succ, List.getElem_cons_zero]
        go_wp2_with fail
        refine (Middle_any hs _).mono ?_
        rintro e w2 ⟨rfl, hb2⟩
        go_wp2_with fail
        refine hK.out _ _ (ChS_call hs n1 hHeld hb2) (fun hHeld2 => ?_)
        clear hK K
        refine wpAnyH_take (i := 8) (v := ?_) rfl (by kernel_rfl) (by kernel_rfl) (by kernel_rfl) (fun _ _ _ h => h) (Or.inl ⟨by rfl, ?_⟩) hHeld2 ?_
        rotate_left
        · intro W hW
          obtain ⟨d0, d1, dw, df, dt, dm, -, -, -, -, -, th, -⟩ := hW
          go_simp
          all_goals with_reducible rfl
        refine wpAnyH_ready (rs := [9]) (by kernel_rfl) (by simp) ?_
        refine AllReadyH.cons rfl (fun K hK => ?_) AllReadyH.nil
        simp only [List.getElem_toArray, List.getElem_cons_succ, List.getElem_cons_zero]
        have hh := hHeld2
        obtain ⟨-, -, -, -, -, -, -, -, -, -, -, th, -⟩ := hh
        simp only [Act.put, List.setIfInBounds_toArray, List.set_cons_zero, List.set_cons_succ]
        generalize hg : (⟨s.middle, s.hi, s.m, s.t, zero32, false⟩ : Seg) = s' at E hs' ⊢
        have sf := hs'.f
        have st := hs'.t
        have sm := hs'.m
        rw [if_pos (by rfl)]
        refine wp_store_mid _ _ _ rfl _ _ (List.toArray s'.row) rfl rfl (by simpa [Seg.len sf st sm] using th) (by rw [List.size_toArray, Seg.len sf st sm]; kernel_rfl) (Seg.one s') ?_
        simp only [Act.put]
        refine hK.out _ _ (ChS_store hs n2 n3 hHeld2 hs') (fun hHeld3 => ?_)
        clear hK K
        refine wpAnyH_take (i := 10) (v := ?_) rfl (by kernel_rfl) (by kernel_rfl) (by kernel_rfl) (fun _ _ _ h => h) (Or.inl ⟨by rfl, ?_⟩) hHeld3 ?_
        rotate_left
        · intro W hW
          obtain ⟨d0, d1, dw, df, dt, dm, -, -, -, -, -, th, -⟩ := hW
          go_simp
          all_goals with_reducible rfl
        refine wpAnyH_done (by kernel_rfl) ?_ _
        obtain ⟨-, -, -, -, -, -, -, -, -, -, ⟨x, hx, hX⟩, -, -⟩ := hHeld2
        have cr := (hX.setAll hx hs').whole hs'
        obtain ⟨-, -, -, -, -, -, -, -, -, -, -, -, B3⟩ := hHeld3
        go_wp2_with fail
        rw [E.out]
        refine bodyPost_ret (v := .tuple #[.agg s'.row.toArray, .int .i64 0]) (by simp [results, Tryz.results18, go_sem, cr, sf, st, sm]) rfl ⟨rfl, B3⟩
end Go.Proofs.YtkdhhdbgngegfaaGreatDoor
