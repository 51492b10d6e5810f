/-
  Package smt: Put and Get in a map of one pair at most.
-/
import Derived.Test.YtjgfjmkfcippcaaDoorSmRt
namespace Go.Proofs.YtjgfjmkfcippcaaDoor
open Go.RowKit
set_option maxRecDepth 100000

set_option maxHeartbeats 8000000 in
theorem Put_new {w : World} {p m : Nat} {V : List Int} (hV : V.length = 32) (hv : (V == zero32) = false) (hv2 : (zero32 == V) = false) (hM : MpS w p m #[] 0 none) :
    Calls Tryd.prog 16 #[.pointer (some ⟨p, 0, none⟩), .agg (hc K1).toArray, .agg (hc V).toArray] w fun e w' => e = .returned (.int .i64 0) ∧ Chg w w' [p, m] ∧ ∃ b, w.heap.size ≤ b ∧ MpS w' p m (M1 (.agg (hc V).toArray)) 1 (some ⟨b, 0, none⟩) ∧ NdB w' b ⟨K1, 256, none, none, zero32, false, zero32, 0, false⟩ := by
  have HK := Lib.hid (((HashAt.new w K1).alloc (.cells (hc V).toArray 23)))
  have HV := Lib.hid (HashAt.new (w.alloc (.cells (hc K1).toArray 23)) V)
  have B0 := Lib.hid (((Below.refl w.heap.size w).alloc (Nat.le_refl _) (.cells (hc K1).toArray 23)).alloc (by simp) (.cells (hc V).toArray 23))
  have M0 := Lib.hid ((hM.alloc (.cells (hc K1).toArray 23)).alloc (.cells (hc V).toArray 23))
  have hmp := hM.lp
  have hmm := hM.lm
  have hpm := hM.ne
  have c00 := M0.out.c0
  have k32 := K1_len
  have hlk := hc_len K1
  have hlv := hc_len V
  have z32 := zero32_len
  have hW0 : ((w.alloc (.cells (hc K1).toArray 23)).alloc (.cells (hc V).toArray 23)).heap.size = w.heap.size + 2 := by simp
  simp only [World.size_alloc] at HV
  clear hM
  go_enter Tryd.func16, Tryd.ntmps16
  go_wp2_with fail
  refine (made_yes c00).mono ?_
  rintro e wn ⟨rfl, h⟩
  obtain rfl := h.symm
  clear h
  go_wp2_with fail
  generalize ((w.alloc (.cells (hc K1).toArray 23)).alloc (.cells (hc V).toArray 23)) = w0 at *
  refine wp_region_held_drew (S := fun W => Below w0.drew.heap.size w0.drew W) (by kernel_rfl) (Below.refl _ _) (fun h0 => ?_)
  replace M0 := Lib.hid (M0.out.on ((Below.refl _ _).drew))
  replace HK := Lib.hid (HK.out.on ((Below.refl _ _).drew))
  replace HV := Lib.hid (HV.out.on ((Below.refl _ _).drew))
  replace B0 := Lib.hid B0.out.drew
  replace hW0 : Hid (w0.drew.heap.size = w.heap.size + 2) := hW0
  clear c00
  generalize w0.drew = w0 at *
  refine wpAnyH_take (i := 0) (v := ?_) (by rw [List.getElem?_toArray]; rfl) (by kernel_rfl) (by kernel_rfl) (by kernel_rfl) (by exact fun _ _ _ h => h) (Or.inl ⟨by rfl, ?_⟩) h0 ?_
  rotate_left
  · intro W hW
    go_simp
    all_goals with_reducible rfl
  try simp only [Act.put, List.setIfInBounds_toArray, List.set_cons_zero, List.set_cons_succ]
  refine wpAnyH_take (i := 1) (v := ?_) (by rw [List.getElem?_toArray]; rfl) (by kernel_rfl) (by kernel_rfl) (by kernel_rfl) (by exact fun _ _ _ h => h) (Or.inl ⟨by rfl, ?_⟩) h0 ?_
  rotate_left
  · intro W hW
    go_simp
    all_goals with_reducible rfl
  try simp only [Act.put, List.setIfInBounds_toArray, List.set_cons_zero, List.set_cons_succ]
  refine wpAnyH_take (i := 2) (v := ?_) (by rw [List.getElem?_toArray]; rfl) (by kernel_rfl) (by kernel_rfl) (by kernel_rfl) (by exact fun _ _ _ h => h) (Or.inl ⟨by rfl, ?_⟩) h0 ?_
  rotate_left
  · intro W hW
    go_simp
    all_goals with_reducible rfl
  try simp only [Act.put, List.setIfInBounds_toArray, List.set_cons_zero, List.set_cons_succ]
  refine wpAnyH_take (i := 3) (v := ?_) (by rw [List.getElem?_toArray]; rfl) (by kernel_rfl) (by kernel_rfl) (by kernel_rfl) (by exact fun _ _ _ h => h) (Or.inl ⟨by rfl, ?_⟩) h0 ?_
  rotate_left
  · intro W hW
    have cc := (M0.out.on hW).c0
    go_simp
    all_goals with_reducible rfl
  try simp only [Act.put, List.setIfInBounds_toArray, List.set_cons_zero, List.set_cons_succ]
  refine wpAnyH_take (i := 4) (v := ?_) (by rw [List.getElem?_toArray]; rfl) (by kernel_rfl) (by kernel_rfl) (by kernel_rfl) (by exact fun _ _ _ h => h) (Or.inl ⟨by rfl, ?_⟩) h0 ?_
  rotate_left
  · intro W hW
    have cc := (HK.out.on hW).row K1_len
    go_simp
    all_goals with_reducible rfl
  try simp only [Act.put, List.setIfInBounds_toArray, List.set_cons_zero, List.set_cons_succ]
  refine wpAnyH_take (i := 5) (v := ?_) (by rw [List.getElem?_toArray]; rfl) (by kernel_rfl) (by kernel_rfl) (by kernel_rfl) (by exact fun _ _ _ h => h) (Or.inl ⟨by rfl, ?_⟩) h0 ?_
  rotate_left
  · intro W hW
    have cc := look_m0 true (M0.out.on hW).mp
    go_simp
    all_goals with_reducible rfl
  try simp only [Act.put, List.setIfInBounds_toArray, List.set_cons_zero, List.set_cons_succ]
  refine wpAnyH_take (i := 6) (v := ?_) (by rw [List.getElem?_toArray]; rfl) (by kernel_rfl) (by kernel_rfl) (by kernel_rfl) (by exact fun _ _ _ h => h) (Or.inl ⟨by rfl, ?_⟩) h0 ?_
  rotate_left
  · intro W hW
    go_simp
    all_goals with_reducible rfl
  try simp only [Act.put, List.setIfInBounds_toArray, List.set_cons_zero, List.set_cons_succ]
  refine wpAnyH_take (i := 7) (v := ?_) (by rw [List.getElem?_toArray]; rfl) (by kernel_rfl) (by kernel_rfl) (by kernel_rfl) (by exact fun _ _ _ h => h) (Or.inl ⟨by rfl, ?_⟩) h0 ?_
  rotate_left
  · intro W hW
    go_simp
    all_goals with_reducible rfl
  try simp only [Act.put, List.setIfInBounds_toArray, List.set_cons_zero, List.set_cons_succ]
  refine wpAnyH_take (i := 8) (v := ?_) (by rw [List.getElem?_toArray]; rfl) (by kernel_rfl) (by kernel_rfl) (by kernel_rfl) (by exact fun _ _ _ h => h) (Or.inl ⟨by rfl, ?_⟩) h0 ?_
  rotate_left
  · intro W hW
    go_simp
    all_goals with_reducible rfl
  try simp only [Act.put, List.setIfInBounds_toArray, List.set_cons_zero, List.set_cons_succ]
  refine wpAnyH_ready (rs := [9]) (by kernel_rfl) (by simp) ?_
  refine AllReadyH.cons (by rw [List.getElem?_toArray]; rfl) (fun K hK => ?_) AllReadyH.nil
  rw [if_pos (by rfl)]
  have Z1 := Lib.hid (HashAt.new w0 zero32)
  go_wp2_with fail
  refine hK.out _ _ (h0.alloc h0.size _) (fun h1 => ?_)
  clear hK K
  try simp only [Act.put, List.setIfInBounds_toArray, List.set_cons_zero, List.set_cons_succ]
  refine wpAnyH_ready (rs := [10]) (by kernel_rfl) (by simp) ?_
  refine AllReadyH.cons (by rw [List.getElem?_toArray]; rfl) (fun K hK => ?_) AllReadyH.nil
  rw [if_pos (by rfl)]
  have th1 := Z1.out.there zero32_len
  have P1 := Lib.hid (Z1.out.put zero32_len zero32_len)
  have B1 : Below w0.heap.size w0 ((w0.alloc (.cells (hc zero32).toArray 23)).setCells w0.heap.size 0 (hc zero32)) := below_setCells' _ (Nat.le_refl _) _ _ h1
  have ols := hc_len zero32
  go_wp2_with fail
  refine hK.out _ _ (B1) (fun h2 => ?_)
  clear hK K
  try simp only [Act.put, List.setIfInBounds_toArray, List.set_cons_zero, List.set_cons_succ]
  refine wpAnyH_take (i := 11) (v := ?_) (by rw [List.getElem?_toArray]; rfl) (by kernel_rfl) (by kernel_rfl) (by kernel_rfl) (by exact fun _ _ _ h => h) (Or.inl ⟨by rfl, ?_⟩) h2 ?_
  rotate_left
  · intro W hW
    go_simp
    all_goals with_reducible rfl
  try simp only [Act.put, List.setIfInBounds_toArray, List.set_cons_zero, List.set_cons_succ]
  refine wpAnyH_done (by kernel_rfl) ?_ _
  have rv := (HV.out.on B1).row hV
  have ro := P1.out.row zero32_len
  have Mx := Lib.hid (M0.out.on B1)
  have HKx := Lib.hid (HK.out.on B1)
  have HVx := Lib.hid (HV.out.on B1)
  have cx := Mx.out.c0
  have hln := run_len_at (P := Tryd.prog) 3 Tryd.underlying39 Mx.out.mp
  have Bx := Lib.hid (B0.out.trans (B1.mono B0.out.size))
  have hsx := B1.size
  clear h2 h1 P1 Z1 th1 M0 HK HV
  generalize (w0.alloc (.cells (hc zero32).toArray 23)).setCells w0.heap.size 0 (hc zero32) = w2 at *
  clear B1
  go_wp2_with fail
  refine wp_region_held_drew (S := fun W => W.cell? ⟨p, 0, none⟩ = some (.map (some m)) ∧ HashAt W w.heap.size K1 ∧ HashAt W (w.heap.size + 1) V) (by kernel_rfl) (⟨(Mx.out.on ((Below.refl _ _).drew)).c0, HKx.out.on ((Below.refl _ _).drew), HVx.out.on ((Below.refl _ _).drew)⟩) (fun h0 => ?_)
  replace Mx := Lib.hid (Mx.out.on ((Below.refl _ _).drew))
  replace HKx := Lib.hid (HKx.out.on ((Below.refl _ _).drew))
  replace HVx := Lib.hid (HVx.out.on ((Below.refl _ _).drew))
  replace Bx := Lib.hid Bx.out.drew
  replace hsx : w0.heap.size ≤ w2.drew.heap.size := hsx
  clear cx hln rv ro
  generalize w2.drew = w2 at *
  refine wpAnyH_take (i := 0) (v := ?_) (by rw [List.getElem?_toArray]; rfl) (by kernel_rfl) (by kernel_rfl) (by kernel_rfl) (by exact fun _ _ _ h => h) (Or.inl ⟨by rfl, ?_⟩) h0 ?_
  rotate_left
  · intro W hW
    go_simp
    all_goals with_reducible rfl
  try simp only [Act.put, List.setIfInBounds_toArray, List.set_cons_zero, List.set_cons_succ]
  refine wpAnyH_take (i := 1) (v := ?_) (by rw [List.getElem?_toArray]; rfl) (by kernel_rfl) (by kernel_rfl) (by kernel_rfl) (by exact fun _ _ _ h => h) (Or.inl ⟨by rfl, ?_⟩) h0 ?_
  rotate_left
  · intro W hW
    go_simp
    all_goals with_reducible rfl
  try simp only [Act.put, List.setIfInBounds_toArray, List.set_cons_zero, List.set_cons_succ]
  refine wpAnyH_take (i := 2) (v := ?_) (by rw [List.getElem?_toArray]; rfl) (by kernel_rfl) (by kernel_rfl) (by kernel_rfl) (by exact fun _ _ _ h => h) (Or.inl ⟨by rfl, ?_⟩) h0 ?_
  rotate_left
  · intro W hW
    go_simp
    all_goals with_reducible rfl
  try simp only [Act.put, List.setIfInBounds_toArray, List.set_cons_zero, List.set_cons_succ]
  refine wpAnyH_take (i := 3) (v := ?_) (by rw [List.getElem?_toArray]; rfl) (by kernel_rfl) (by kernel_rfl) (by kernel_rfl) (by exact fun _ _ _ h => h) (Or.inl ⟨by rfl, ?_⟩) h0 ?_
  rotate_left
  · intro W hW
    have cc := hW.1
    go_simp
    all_goals with_reducible rfl
  try simp only [Act.put, List.setIfInBounds_toArray, List.set_cons_zero, List.set_cons_succ]
  refine wpAnyH_take (i := 4) (v := ?_) (by rw [List.getElem?_toArray]; rfl) (by kernel_rfl) (by kernel_rfl) (by kernel_rfl) (by exact fun _ _ _ h => h) (Or.inl ⟨by rfl, ?_⟩) h0 ?_
  rotate_left
  · intro W hW
    have cc := hW.2.1.row K1_len
    go_simp
    all_goals with_reducible rfl
  try simp only [Act.put, List.setIfInBounds_toArray, List.set_cons_zero, List.set_cons_succ]
  refine wpAnyH_take (i := 5) (v := ?_) (by rw [List.getElem?_toArray]; rfl) (by kernel_rfl) (by kernel_rfl) (by kernel_rfl) (by exact fun _ _ _ h => h) (Or.inl ⟨by rfl, ?_⟩) h0 ?_
  rotate_left
  · intro W hW
    have cc := hW.2.2.row hV
    go_simp
    all_goals with_reducible rfl
  try simp only [Act.put, List.setIfInBounds_toArray, List.set_cons_zero, List.set_cons_succ]
  refine wpAnyH_ready (rs := [6]) (by kernel_rfl) (by simp) ?_
  refine AllReadyH.cons (by rw [List.getElem?_toArray]; rfl) (fun K hK => ?_) AllReadyH.nil
  rw [if_pos (by rfl)]
  have hup := upd_m0 (v := .agg (hc V).toArray) Mx.out.mp
  have M3 := Lib.hid (Mx.out.putMap (M1 (.agg (hc V).toArray)) 1)
  have K3 : Hid (HashAt (putMap w2 m (M1 (.agg (hc V).toArray)) 1) w.heap.size K1) := by
    show _ = _
    rw [putMap_other (by omega)]; exact HKx.out
  have V3 : Hid (HashAt (putMap w2 m (M1 (.agg (hc V).toArray)) 1) (w.heap.size + 1) V) := by
    show _ = _
    rw [putMap_other (by omega)]; exact HVx.out
  have C3 := Lib.hid ((Chg.below Bx.out (Nat.le_refl _) [p, m]).putMap (b := m) (.inl (by simp)) (M1 (.agg (hc V).toArray)) 1)
  have c3 := M3.out.c0
  go_wp2_with fail
  refine hK.out _ _ (⟨c3, K3.out, V3.out⟩) (fun h3 => ?_)
  clear hK K
  try simp only [Act.put, List.setIfInBounds_toArray, List.set_cons_zero, List.set_cons_succ]
  refine wpAnyH_done (by kernel_rfl) ?_ _
  have hs3 := putMap_size w2 m (M1 (.agg (hc V).toArray)) 1
  clear h3 h0 c3 hup V3 Mx HKx HVx Bx
  have hs4 : w.heap.size + 2 ≤ (putMap w2 m (M1 (.agg (hc V).toArray)) 1).heap.size := by rw [hs3]; have := hW0.out; omega
  clear hs3
  generalize putMap w2 m (M1 (.agg (hc V).toArray)) 1 = w3 at *
  go_wp2_with fail
  refine wp_region_held_drew (S := fun W => HashAt W w.heap.size K1) (by kernel_rfl) (K3.out.on ((Below.refl _ _).drew)) (fun h0 => ?_)
  replace M3 := Lib.hid (M3.out.on ((Below.refl _ _).drew))
  replace K3 := Lib.hid (K3.out.on ((Below.refl _ _).drew))
  replace C3 := Lib.hid C3.out.drew
  replace hs4 : w.heap.size + 2 ≤ w3.drew.heap.size := hs4
  generalize w3.drew = w3 at *
  refine wpAnyH_take (i := 0) (v := ?_) (by rw [List.getElem?_toArray]; rfl) (by kernel_rfl) (by kernel_rfl) (by kernel_rfl) (by exact fun _ _ _ h => h) (Or.inl ⟨by rfl, ?_⟩) h0 ?_
  rotate_left
  · intro W hW
    go_simp
    all_goals with_reducible rfl
  try simp only [Act.put, List.setIfInBounds_toArray, List.set_cons_zero, List.set_cons_succ]
  refine wpAnyH_take (i := 1) (v := ?_) (by rw [List.getElem?_toArray]; rfl) (by kernel_rfl) (by kernel_rfl) (by kernel_rfl) (by exact fun _ _ _ h => h) (Or.inl ⟨by rfl, ?_⟩) h0 ?_
  rotate_left
  · intro W hW
    go_simp
    all_goals with_reducible rfl
  try simp only [Act.put, List.setIfInBounds_toArray, List.set_cons_zero, List.set_cons_succ]
  refine wpAnyH_take (i := 2) (v := ?_) (by rw [List.getElem?_toArray]; rfl) (by kernel_rfl) (by kernel_rfl) (by kernel_rfl) (by exact fun _ _ _ h => h) (Or.inl ⟨by rfl, ?_⟩) h0 ?_
  rotate_left
  · intro W hW
    go_simp
    all_goals with_reducible rfl
  try simp only [Act.put, List.setIfInBounds_toArray, List.set_cons_zero, List.set_cons_succ]
  refine wpAnyH_take (i := 3) (v := ?_) (by rw [List.getElem?_toArray]; rfl) (by kernel_rfl) (by kernel_rfl) (by kernel_rfl) (by exact fun _ _ _ h => h) (Or.inl ⟨by rfl, ?_⟩) h0 ?_
  rotate_left
  · intro W hW
    go_simp
    all_goals with_reducible rfl
  try simp only [Act.put, List.setIfInBounds_toArray, List.set_cons_zero, List.set_cons_succ]
  refine wpAnyH_take (i := 5) (v := ?_) (by rw [List.getElem?_toArray]; rfl) (by kernel_rfl) (by kernel_rfl) (by kernel_rfl) (by exact fun _ _ _ h => h) (Or.inl ⟨by rfl, ?_⟩) h0 ?_
  rotate_left
  · intro W hW
    have cc := hW.row K1_len
    go_simp
    all_goals with_reducible rfl
  try simp only [Act.put, List.setIfInBounds_toArray, List.set_cons_zero, List.set_cons_succ]
  refine wpAnyH_ready (rs := [4]) (by kernel_rfl) (by simp) ?_
  refine AllReadyH.cons (by rw [List.getElem?_toArray]; rfl) (fun K hK => ?_) AllReadyH.nil
  rw [if_pos (by rfl)]
  have ct := M3.out.c1
  go_wp2_with fail
  refine hK.out _ _ (h0) (fun h4 => ?_)
  clear hK K
  try simp only [Act.put, List.setIfInBounds_toArray, List.set_cons_zero, List.set_cons_succ]
  refine wpAnyH_ready (rs := [6]) (by kernel_rfl) (by simp) ?_
  refine AllReadyH.cons (by rw [List.getElem?_toArray]; rfl) (fun K hK => ?_) AllReadyH.nil
  rw [if_pos (by rfl)]
  go_wp2_with fail
  refine (with_nil K1_len).mono ?_
  rintro e w4 ⟨rfl, hb4, hn4⟩
  have M4 := Lib.hid (M3.out.on hb4)
  have C4 := Lib.hid (C3.out.trans (T := []) (Chg.below hb4 (Nat.le_refl _) []) (by simp))
  have K4 := Lib.hid (K3.out.on hb4)
  have N4 := Lib.hid hn4
  go_wp2_with fail
  refine hK.out _ _ (K4.out) (fun h5 => ?_)
  clear hK K
  try simp only [Act.put, List.setIfInBounds_toArray, List.set_cons_zero, List.set_cons_succ]
  refine wpAnyH_take (i := 7) (v := ?_) (by rw [List.getElem?_toArray]; rfl) (by kernel_rfl) (by kernel_rfl) (by kernel_rfl) (by exact fun _ _ _ h => h) (Or.inl ⟨by rfl, ?_⟩) h5 ?_
  rotate_left
  · intro W hW
    go_simp
    all_goals with_reducible rfl
  try simp only [Act.put, List.setIfInBounds_toArray, List.set_cons_zero, List.set_cons_succ]
  refine wpAnyH_take (i := 8) (v := ?_) (by rw [List.getElem?_toArray]; rfl) (by kernel_rfl) (by kernel_rfl) (by kernel_rfl) (by exact fun _ _ _ h => h) (Or.inl ⟨by rfl, ?_⟩) h5 ?_
  rotate_left
  · intro W hW
    go_simp
    all_goals with_reducible rfl
  try simp only [Act.put, List.setIfInBounds_toArray, List.set_cons_zero, List.set_cons_succ]
  refine wpAnyH_ready (rs := [9]) (by kernel_rfl) (by simp) ?_
  refine AllReadyH.cons (by rw [List.getElem?_toArray]; rfl) (fun K hK => ?_) AllReadyH.nil
  rw [if_pos (by rfl)]
  have ct2 := M4.out.c1
  have cf2 : w4.frozen? ⟨p, 1, none⟩ = false := Joins.unfrozen_of_block M4.out.blk 1
  have M5 := Lib.hid (M4.out.setTop (some ⟨w3.heap.size + 1, 0, none⟩))
  have C5 := Lib.hid (C4.out.setCell (p := ⟨p, 1, none⟩) (.inl (by simp)) (.pointer (some ⟨w3.heap.size + 1, 0, none⟩)))
  have K5 := Lib.hid (K4.out.other (a := ⟨p, 1, none⟩) (by simp; omega) (.pointer (some ⟨w3.heap.size + 1, 0, none⟩)))
  have hlp3 := M3.out.lp
  have N5 : Hid (NdB (w4.setCell ⟨p, 1, none⟩ (.pointer (some ⟨w3.heap.size + 1, 0, none⟩))) (w3.heap.size + 1) ⟨K1, 256, none, none, zero32, false, zero32, 0, false⟩) := by
    show _ = _
    rw [Below.heap_setCell _ _ _ _ (by simp; omega)]
    exact N4.out
  go_wp2_with fail
  refine hK.out _ _ (K5.out) (fun h6 => ?_)
  clear hK K
  try simp only [Act.put, List.setIfInBounds_toArray, List.set_cons_zero, List.set_cons_succ]
  refine wpAnyH_done (by kernel_rfl) ?_ _
  go_wp2_with fail
  go_ret
  exact ⟨rfl, C5.out, _, by omega, M5.out, N5.out⟩
end Go.Proofs.YtjgfjmkfcippcaaDoor
