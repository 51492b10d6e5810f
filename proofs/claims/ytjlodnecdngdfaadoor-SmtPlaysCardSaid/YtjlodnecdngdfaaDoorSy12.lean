/-
  Package smt: Put and Get in a map of one pair at most.; Package smt: what is taken away again; Get.; The way up from the leaf of one pair, reckoned: part 0.; The way up from the leaf of one pair, reckoned: part 1.; The way up from the leaf of one pair, reckoned: part 2.; The way up from the leaf of one pair, reckoned: part 3.; The root of one pair is not zero.; basculelaw05.knows answers true.; Package smt: no map, and one that nobody made; a proof's cells.
-/
import Derived.Test.YtjlodnecdngdfaaDoorSy5
import Derived.Test.YtjlodnecdngdfaaDoorSy6
import Derived.Test.YtjlodnecdngdfaaDoorSy9
namespace Go.Proofs.YtjlodnecdngdfaaDoor
open Go.RowKit
set_option maxRecDepth 100000

set_option maxHeartbeats 8000000 in
theorem Put_new {w : World} {p m : Nat} {V : List Int} (hV : V.length = 32) (hv : (V == zero32) = false) (hv2 : (zero32 == V) = false) (hM : MpS w p m #[] 0 none) :
    Calls Tryd.prog 13 #[.pointer (some ⟨p, 0, none⟩), .agg (hc K1).toArray, .agg (hc V).toArray] w fun e w' => e = .returned (.int .i64 0) ∧ Chg w w' [p, m] ∧ ∃ b, w.heap.size ≤ b ∧ MpS w' p m (M1 (.agg (hc V).toArray)) 1 (some ⟨b, 0, none⟩) ∧ NdB w' b ⟨K1, 256, none, none, zero32, false, zero32, 0, false⟩ := by
  have HK := Lib.hid (((HashAt.new w K1).alloc (.cells (hc V).toArray 24)))
  have HV := Lib.hid (HashAt.new (w.alloc (.cells (hc K1).toArray 24)) V)
  have B0 := Lib.hid (((Below.refl w.heap.size w).alloc (Nat.le_refl _) (.cells (hc K1).toArray 24)).alloc (by simp) (.cells (hc V).toArray 24))
  have M0 := Lib.hid ((hM.alloc (.cells (hc K1).toArray 24)).alloc (.cells (hc V).toArray 24))
  have hmp := hM.lp
  have hmm := hM.lm
  have hpm := hM.ne
  have c00 := M0.out.c0
  have k32 := K1_len
  have hlk := hc_len K1
  have hlv := hc_len V
  have z32 := zero32_len
  have hW0 : ((w.alloc (.cells (hc K1).toArray 24)).alloc (.cells (hc V).toArray 24)).heap.size = w.heap.size + 2 := by simp
  simp only [World.size_alloc] at HV
  clear hM
  go_enter Tryd.func13, Tryd.ntmps13
  go_wp2_with fail
  refine (made_yes c00).mono ?_
  rintro e wn ⟨rfl, h⟩
  obtain rfl := h.symm
  clear h
  go_wp2_with fail
  generalize ((w.alloc (.cells (hc K1).toArray 24)).alloc (.cells (hc V).toArray 24)) = w0 at *
  refine wp_region_held_drew (S := fun W => Below w0.drew.heap.size w0.drew W) (by kernel_rfl) (Below.refl _ _) (fun h0 => ?_)
  replace M0 := Lib.hid (M0.out.on ((Below.refl _ _).drew))
  replace HK := Lib.hid (HK.out.on ((Below.refl _ _).drew))
  replace HV := Lib.hid (HV.out.on ((Below.refl _ _).drew))
  replace B0 := Lib.hid B0.out.drew
  replace hW0 : Hid (w0.drew.heap.size = w.heap.size + 2) := hW0
  clear c00
  generalize w0.drew = w0 at *
  refine wpAnyH_take (i := 0) (v := ?_) (by rw [List.getElem?_toArray]; rfl) (by kernel_rfl) (by kernel_rfl) (by kernel_rfl) (by exact fun _ _ _ h => h) (Or.inl ⟨by rfl, ?_⟩) h0 ?_
  rotate_left
  · intro W hW
    go_simp
    all_goals with_reducible rfl
  try simp only [Act.put, List.setIfInBounds_toArray, List.set_cons_zero, List.set_cons_succ]
  refine wpAnyH_take (i := 1) (v := ?_) (by rw [List.getElem?_toArray]; rfl) (by kernel_rfl) (by kernel_rfl) (by kernel_rfl) (by exact fun _ _ _ h => h) (Or.inl ⟨by rfl, ?_⟩) h0 ?_
  rotate_left
  · intro W hW
    go_simp
    all_goals with_reducible rfl
  try simp only [Act.put, List.setIfInBounds_toArray, List.set_cons_zero, List.set_cons_succ]
  refine wpAnyH_take (i := 2) (v := ?_) (by rw [List.getElem?_toArray]; rfl) (by kernel_rfl) (by kernel_rfl) (by kernel_rfl) (by exact fun _ _ _ h => h) (Or.inl ⟨by rfl, ?_⟩) h0 ?_
  rotate_left
  · intro W hW
    go_simp
    all_goals with_reducible rfl
  try simp only [Act.put, List.setIfInBounds_toArray, List.set_cons_zero, List.set_cons_succ]
  refine wpAnyH_take (i := 3) (v := ?_) (by rw [List.getElem?_toArray]; rfl) (by kernel_rfl) (by kernel_rfl) (by kernel_rfl) (by exact fun _ _ _ h => h) (Or.inl ⟨by rfl, ?_⟩) h0 ?_
  rotate_left
  · intro W hW
    have cc := (M0.out.on hW).c0
    go_simp
    all_goals with_reducible rfl
  try simp only [Act.put, List.setIfInBounds_toArray, List.set_cons_zero, List.set_cons_succ]
  refine wpAnyH_take (i := 4) (v := ?_) (by rw [List.getElem?_toArray]; rfl) (by kernel_rfl) (by kernel_rfl) (by kernel_rfl) (by exact fun _ _ _ h => h) (Or.inl ⟨by rfl, ?_⟩) h0 ?_
  rotate_left
  · intro W hW
    have cc := (HK.out.on hW).row K1_len
    go_simp
    all_goals with_reducible rfl
  try simp only [Act.put, List.setIfInBounds_toArray, List.set_cons_zero, List.set_cons_succ]
  refine wpAnyH_take (i := 5) (v := ?_) (by rw [List.getElem?_toArray]; rfl) (by kernel_rfl) (by kernel_rfl) (by kernel_rfl) (by exact fun _ _ _ h => h) (Or.inl ⟨by rfl, ?_⟩) h0 ?_
  rotate_left
  · intro W hW
    have cc := look_m0 true (M0.out.on hW).mp
    go_simp
    all_goals with_reducible rfl
  try simp only [Act.put, List.setIfInBounds_toArray, List.set_cons_zero, List.set_cons_succ]
  refine wpAnyH_take (i := 6) (v := ?_) (by rw [List.getElem?_toArray]; rfl) (by kernel_rfl) (by kernel_rfl) (by kernel_rfl) (by exact fun _ _ _ h => h) (Or.inl ⟨by rfl, ?_⟩) h0 ?_
  rotate_left
  · intro W hW
    go_simp
    all_goals with_reducible rfl
  try simp only [Act.put, List.setIfInBounds_toArray, List.set_cons_zero, List.set_cons_succ]
  refine wpAnyH_take (i := 7) (v := ?_) (by rw [List.getElem?_toArray]; rfl) (by kernel_rfl) (by kernel_rfl) (by kernel_rfl) (by exact fun _ _ _ h => h) (Or.inl ⟨by rfl, ?_⟩) h0 ?_
  rotate_left
  · intro W hW
    go_simp
    all_goals with_reducible rfl
  try simp only [Act.put, List.setIfInBounds_toArray, List.set_cons_zero, List.set_cons_succ]
  refine wpAnyH_take (i := 8) (v := ?_) (by rw [List.getElem?_toArray]; rfl) (by kernel_rfl) (by kernel_rfl) (by kernel_rfl) (by exact fun _ _ _ h => h) (Or.inl ⟨by rfl, ?_⟩) h0 ?_
  rotate_left
  · intro W hW
    go_simp
    all_goals with_reducible rfl
  try simp only [Act.put, List.setIfInBounds_toArray, List.set_cons_zero, List.set_cons_succ]
  refine wpAnyH_ready (rs := [9]) (by kernel_rfl) (by simp) ?_
  refine AllReadyH.cons (by rw [List.getElem?_toArray]; rfl) (fun K hK => ?_) AllReadyH.nil
  rw [if_pos (by rfl)]
  have Z1 := Lib.hid (HashAt.new w0 zero32)
  go_wp2_with fail
  refine hK.out _ _ (h0.alloc h0.size _) (fun h1 => ?_)
  clear hK K
  try simp only [Act.put, List.setIfInBounds_toArray, List.set_cons_zero, List.set_cons_succ]
  refine wpAnyH_ready (rs := [10]) (by kernel_rfl) (by simp) ?_
  refine AllReadyH.cons (by rw [List.getElem?_toArray]; rfl) (fun K hK => ?_) AllReadyH.nil
  rw [if_pos (by rfl)]
  have th1 := Z1.out.there zero32_len
  have P1 := Lib.hid (Z1.out.put zero32_len zero32_len)
  have B1 : Below w0.heap.size w0 ((w0.alloc (.cells (hc zero32).toArray 24)).setCells w0.heap.size 0 (hc zero32)) := below_setCells' _ (Nat.le_refl _) _ _ h1
  have ols := hc_len zero32
  go_wp2_with fail
  refine hK.out _ _ (B1) (fun h2 => ?_)
  clear hK K
  try simp only [Act.put, List.setIfInBounds_toArray, List.set_cons_zero, List.set_cons_succ]
  refine wpAnyH_take (i := 11) (v := ?_) (by rw [List.getElem?_toArray]; rfl) (by kernel_rfl) (by kernel_rfl) (by kernel_rfl) (by exact fun _ _ _ h => h) (Or.inl ⟨by rfl, ?_⟩) h2 ?_
  rotate_left
  · intro W hW
    go_simp
    all_goals with_reducible rfl
  try simp only [Act.put, List.setIfInBounds_toArray, List.set_cons_zero, List.set_cons_succ]
  refine wpAnyH_done (by kernel_rfl) ?_ _
  have rv := (HV.out.on B1).row hV
  have ro := P1.out.row zero32_len
  have Mx := Lib.hid (M0.out.on B1)
  have HKx := Lib.hid (HK.out.on B1)
  have HVx := Lib.hid (HV.out.on B1)
  have cx := Mx.out.c0
  have hln := run_len_at (P := Tryd.prog) 3 Tryd.underlying53 Mx.out.mp
  have Bx := Lib.hid (B0.out.trans (B1.mono B0.out.size))
  have hsx := B1.size
  clear h2 h1 P1 Z1 th1 M0 HK HV
  generalize (w0.alloc (.cells (hc zero32).toArray 24)).setCells w0.heap.size 0 (hc zero32) = w2 at *
  clear B1
  go_wp2_with fail
  refine wp_region_held_drew (S := fun W => W.cell? ⟨p, 0, none⟩ = some (.map (some m)) ∧ HashAt W w.heap.size K1 ∧ HashAt W (w.heap.size + 1) V) (by kernel_rfl) (⟨(Mx.out.on ((Below.refl _ _).drew)).c0, HKx.out.on ((Below.refl _ _).drew), HVx.out.on ((Below.refl _ _).drew)⟩) (fun h0 => ?_)
  replace Mx := Lib.hid (Mx.out.on ((Below.refl _ _).drew))
  replace HKx := Lib.hid (HKx.out.on ((Below.refl _ _).drew))
  replace HVx := Lib.hid (HVx.out.on ((Below.refl _ _).drew))
  replace Bx := Lib.hid Bx.out.drew
  replace hsx : w0.heap.size ≤ w2.drew.heap.size := hsx
  clear cx hln rv ro
  generalize w2.drew = w2 at *
  refine wpAnyH_take (i := 0) (v := ?_) (by rw [List.getElem?_toArray]; rfl) (by kernel_rfl) (by kernel_rfl) (by kernel_rfl) (by exact fun _ _ _ h => h) (Or.inl ⟨by rfl, ?_⟩) h0 ?_
  rotate_left
  · intro W hW
    go_simp
    all_goals with_reducible rfl
  try simp only [Act.put, List.setIfInBounds_toArray, List.set_cons_zero, List.set_cons_succ]
  refine wpAnyH_take (i := 1) (v := ?_) (by rw [List.getElem?_toArray]; rfl) (by kernel_rfl) (by kernel_rfl) (by kernel_rfl) (by exact fun _ _ _ h => h) (Or.inl ⟨by rfl, ?_⟩) h0 ?_
  rotate_left
  · intro W hW
    go_simp
    all_goals with_reducible rfl
  try simp only [Act.put, List.setIfInBounds_toArray, List.set_cons_zero, List.set_cons_succ]
  refine wpAnyH_take (i := 2) (v := ?_) (by rw [List.getElem?_toArray]; rfl) (by kernel_rfl) (by kernel_rfl) (by kernel_rfl) (by exact fun _ _ _ h => h) (Or.inl ⟨by rfl, ?_⟩) h0 ?_
  rotate_left
  · intro W hW
    go_simp
    all_goals with_reducible rfl
  try simp only [Act.put, List.setIfInBounds_toArray, List.set_cons_zero, List.set_cons_succ]
  refine wpAnyH_take (i := 3) (v := ?_) (by rw [List.getElem?_toArray]; rfl) (by kernel_rfl) (by kernel_rfl) (by kernel_rfl) (by exact fun _ _ _ h => h) (Or.inl ⟨by rfl, ?_⟩) h0 ?_
  rotate_left
  · intro W hW
    have cc := hW.1
    go_simp
    all_goals with_reducible rfl
  try simp only [Act.put, List.setIfInBounds_toArray, List.set_cons_zero, List.set_cons_succ]
  refine wpAnyH_take (i := 4) (v := ?_) (by rw [List.getElem?_toArray]; rfl) (by kernel_rfl) (by kernel_rfl) (by kernel_rfl) (by exact fun _ _ _ h => h) (Or.inl ⟨by rfl, ?_⟩) h0 ?_
  rotate_left
  · intro W hW
    have cc := hW.2.1.row K1_len
    go_simp
    all_goals with_reducible rfl
  try simp only [Act.put, List.setIfInBounds_toArray, List.set_cons_zero, List.set_cons_succ]
  refine wpAnyH_take (i := 5) (v := ?_) (by rw [List.getElem?_toArray]; rfl) (by kernel_rfl) (by kernel_rfl) (by kernel_rfl) (by exact fun _ _ _ h => h) (Or.inl ⟨by rfl, ?_⟩) h0 ?_
  rotate_left
  · intro W hW
    have cc := hW.2.2.row hV
    go_simp
    all_goals with_reducible rfl
  try simp only [Act.put, List.setIfInBounds_toArray, List.set_cons_zero, List.set_cons_succ]
  refine wpAnyH_ready (rs := [6]) (by kernel_rfl) (by simp) ?_
  refine AllReadyH.cons (by rw [List.getElem?_toArray]; rfl) (fun K hK => ?_) AllReadyH.nil
  rw [if_pos (by rfl)]
  have hup := upd_m0 (v := .agg (hc V).toArray) Mx.out.mp
  have M3 := Lib.hid (Mx.out.putMap (M1 (.agg (hc V).toArray)) 1)
  have K3 : Hid (HashAt (putMap w2 m (M1 (.agg (hc V).toArray)) 1) w.heap.size K1) := by
    show _ = _
    rw [putMap_other (by omega)]; exact HKx.out
  have V3 : Hid (HashAt (putMap w2 m (M1 (.agg (hc V).toArray)) 1) (w.heap.size + 1) V) := by
    show _ = _
    rw [putMap_other (by omega)]; exact HVx.out
  have C3 := Lib.hid ((Chg.below Bx.out (Nat.le_refl _) [p, m]).putMap (b := m) (.inl (by simp)) (M1 (.agg (hc V).toArray)) 1)
  have c3 := M3.out.c0
  go_wp2_with fail
  refine hK.out _ _ (⟨c3, K3.out, V3.out⟩) (fun h3 => ?_)
  clear hK K
  try simp only [Act.put, List.setIfInBounds_toArray, List.set_cons_zero, List.set_cons_succ]
  refine wpAnyH_done (by kernel_rfl) ?_ _
  have hs3 := putMap_size w2 m (M1 (.agg (hc V).toArray)) 1
  clear h3 h0 c3 hup V3 Mx HKx HVx Bx
  have hs4 : w.heap.size + 2 ≤ (putMap w2 m (M1 (.agg (hc V).toArray)) 1).heap.size := by rw [hs3]; have := hW0.out; omega
  clear hs3
  generalize putMap w2 m (M1 (.agg (hc V).toArray)) 1 = w3 at *
  go_wp2_with fail
  refine wp_region_held_drew (S := fun W => HashAt W w.heap.size K1) (by kernel_rfl) (K3.out.on ((Below.refl _ _).drew)) (fun h0 => ?_)
  replace M3 := Lib.hid (M3.out.on ((Below.refl _ _).drew))
  replace K3 := Lib.hid (K3.out.on ((Below.refl _ _).drew))
  replace C3 := Lib.hid C3.out.drew
  replace hs4 : w.heap.size + 2 ≤ w3.drew.heap.size := hs4
  generalize w3.drew = w3 at *
  refine wpAnyH_take (i := 0) (v := ?_) (by rw [List.getElem?_toArray]; rfl) (by kernel_rfl) (by kernel_rfl) (by kernel_rfl) (by exact fun _ _ _ h => h) (Or.inl ⟨by rfl, ?_⟩) h0 ?_
  rotate_left
  · intro W hW
    go_simp
    all_goals with_reducible rfl
  try simp only [Act.put, List.setIfInBounds_toArray, List.set_cons_zero, List.set_cons_succ]
  refine wpAnyH_take (i := 1) (v := ?_) (by rw [List.getElem?_toArray]; rfl) (by kernel_rfl) (by kernel_rfl) (by kernel_rfl) (by exact fun _ _ _ h => h) (Or.inl ⟨by rfl, ?_⟩) h0 ?_
  rotate_left
  · intro W hW
    go_simp
    all_goals with_reducible rfl
  try simp only [Act.put, List.setIfInBounds_toArray, List.set_cons_zero, List.set_cons_succ]
  refine wpAnyH_take (i := 2) (v := ?_) (by rw [List.getElem?_toArray]; rfl) (by kernel_rfl) (by kernel_rfl) (by kernel_rfl) (by exact fun _ _ _ h => h) (Or.inl ⟨by rfl, ?_⟩) h0 ?_
  rotate_left
  · intro W hW
    go_simp
    all_goals with_reducible rfl
  try simp only [Act.put, List.setIfInBounds_toArray, List.set_cons_zero, List.set_cons_succ]
  refine wpAnyH_take (i := 3) (v := ?_) (by rw [List.getElem?_toArray]; rfl) (by kernel_rfl) (by kernel_rfl) (by kernel_rfl) (by exact fun _ _ _ h => h) (Or.inl ⟨by rfl, ?_⟩) h0 ?_
  rotate_left
  · intro W hW
    go_simp
    all_goals with_reducible rfl
  try simp only [Act.put, List.setIfInBounds_toArray, List.set_cons_zero, List.set_cons_succ]
  refine wpAnyH_take (i := 5) (v := ?_) (by rw [List.getElem?_toArray]; rfl) (by kernel_rfl) (by kernel_rfl) (by kernel_rfl) (by exact fun _ _ _ h => h) (Or.inl ⟨by rfl, ?_⟩) h0 ?_
  rotate_left
  · intro W hW
    have cc := hW.row K1_len
    go_simp
    all_goals with_reducible rfl
  try simp only [Act.put, List.setIfInBounds_toArray, List.set_cons_zero, List.set_cons_succ]
  refine wpAnyH_ready (rs := [4]) (by kernel_rfl) (by simp) ?_
  refine AllReadyH.cons (by rw [List.getElem?_toArray]; rfl) (fun K hK => ?_) AllReadyH.nil
  rw [if_pos (by rfl)]
  have ct := M3.out.c1
  go_wp2_with fail
  refine hK.out _ _ (h0) (fun h4 => ?_)
  clear hK K
  try simp only [Act.put, List.setIfInBounds_toArray, List.set_cons_zero, List.set_cons_succ]
  refine wpAnyH_ready (rs := [6]) (by kernel_rfl) (by simp) ?_
  refine AllReadyH.cons (by rw [List.getElem?_toArray]; rfl) (fun K hK => ?_) AllReadyH.nil
  rw [if_pos (by rfl)]
  go_wp2_with fail
  refine (with_nil K1_len).mono ?_
  rintro e w4 ⟨rfl, hb4, hn4⟩
  have M4 := Lib.hid (M3.out.on hb4)
  have C4 := Lib.hid (C3.out.trans (T := []) (Chg.below hb4 (Nat.le_refl _) []) (by simp))
  have K4 := Lib.hid (K3.out.on hb4)
  have N4 := Lib.hid hn4
  go_wp2_with fail
  refine hK.out _ _ (K4.out) (fun h5 => ?_)
  clear hK K
  try simp only [Act.put, List.setIfInBounds_toArray, List.set_cons_zero, List.set_cons_succ]
  refine wpAnyH_take (i := 7) (v := ?_) (by rw [List.getElem?_toArray]; rfl) (by kernel_rfl) (by kernel_rfl) (by kernel_rfl) (by exact fun _ _ _ h => h) (Or.inl ⟨by rfl, ?_⟩) h5 ?_
  rotate_left
  · intro W hW
    go_simp
    all_goals with_reducible rfl
  try simp only [Act.put, List.setIfInBounds_toArray, List.set_cons_zero, List.set_cons_succ]
  refine wpAnyH_take (i := 8) (v := ?_) (by rw [List.getElem?_toArray]; rfl) (by kernel_rfl) (by kernel_rfl) (by kernel_rfl) (by exact fun _ _ _ h => h) (Or.inl ⟨by rfl, ?_⟩) h5 ?_
  rotate_left
  · intro W hW
    go_simp
    all_goals with_reducible rfl
  try simp only [Act.put, List.setIfInBounds_toArray, List.set_cons_zero, List.set_cons_succ]
  refine wpAnyH_ready (rs := [9]) (by kernel_rfl) (by simp) ?_
  refine AllReadyH.cons (by rw [List.getElem?_toArray]; rfl) (fun K hK => ?_) AllReadyH.nil
  rw [if_pos (by rfl)]
  have ct2 := M4.out.c1
  have cf2 : w4.frozen? ⟨p, 1, none⟩ = false := Joins.unfrozen_of_block M4.out.blk 1
  have M5 := Lib.hid (M4.out.setTop (some ⟨w3.heap.size + 1, 0, none⟩))
  have C5 := Lib.hid (C4.out.setCell (p := ⟨p, 1, none⟩) (.inl (by simp)) (.pointer (some ⟨w3.heap.size + 1, 0, none⟩)))
  have K5 := Lib.hid (K4.out.other (a := ⟨p, 1, none⟩) (by simp; omega) (.pointer (some ⟨w3.heap.size + 1, 0, none⟩)))
  have hlp3 := M3.out.lp
  have N5 : Hid (NdB (w4.setCell ⟨p, 1, none⟩ (.pointer (some ⟨w3.heap.size + 1, 0, none⟩))) (w3.heap.size + 1) ⟨K1, 256, none, none, zero32, false, zero32, 0, false⟩) := by
    show _ = _
    rw [Below.heap_setCell _ _ _ _ (by simp; omega)]
    exact N4.out
  go_wp2_with fail
  refine hK.out _ _ (K5.out) (fun h6 => ?_)
  clear hK K
  try simp only [Act.put, List.setIfInBounds_toArray, List.set_cons_zero, List.set_cons_succ]
  refine wpAnyH_done (by kernel_rfl) ?_ _
  go_wp2_with fail
  go_ret
  exact ⟨rfl, C5.out, _, by omega, M5.out, N5.out⟩
end Go.Proofs.YtjlodnecdngdfaaDoor
namespace Go.Proofs.YtjlodnecdngdfaaDoor
open Go.RowKit
set_option maxRecDepth 100000


set_option maxHeartbeats 8000000 in
theorem Put_gone {w : World} {p m b : Nat} {n : Nd} {U : List Int} (hU : U.length = 32) (hv : (U == zero32) = false) (hM : MpS w p m (M1 (.agg (hc U).toArray)) 1 (some ⟨b, 0, none⟩)) (hn : NdB w b n) (ok : n.ok) (hf : n.fork = 256) (_hpb : p ≠ b) (hmb : m ≠ b) :
    Calls Tryd.prog 13 #[.pointer (some ⟨p, 0, none⟩), .agg (hc K1).toArray, .agg (hc zero32).toArray] w fun e w' => e = .returned (.int .i64 0) ∧ Chg w w' [p, m] ∧ MpS w' p m #[] 1 none := by
  have N0 := Lib.hid ((hn.alloc (.cells (hc K1).toArray 24)).alloc (.cells (hc zero32).toArray 24))
  have OK := Lib.hid ok
  have HF := Lib.hid hf
  have hzz : (zero32 == zero32) = true := beq_self_eq_true _
  clear hn ok hf
  have HK := Lib.hid (((HashAt.new w K1).alloc (.cells (hc zero32).toArray 24)))
  have HV := Lib.hid (HashAt.new (w.alloc (.cells (hc K1).toArray 24)) zero32)
  have B0 := Lib.hid (((Below.refl w.heap.size w).alloc (Nat.le_refl _) (.cells (hc K1).toArray 24)).alloc (by simp) (.cells (hc zero32).toArray 24))
  have M0 := Lib.hid ((hM.alloc (.cells (hc K1).toArray 24)).alloc (.cells (hc zero32).toArray 24))
  have hmp := hM.lp
  have hmm := hM.lm
  have hpm := hM.ne
  have c00 := M0.out.c0
  have k32 := K1_len
  have hlk := hc_len K1
  have hlv := hc_len zero32
  have z32 := zero32_len
  have hW0 : ((w.alloc (.cells (hc K1).toArray 24)).alloc (.cells (hc zero32).toArray 24)).heap.size = w.heap.size + 2 := by simp
  simp only [World.size_alloc] at HV
  clear hM
  go_enter Tryd.func13, Tryd.ntmps13
  go_wp2_with fail
  refine (made_yes c00).mono ?_
  rintro e wn ⟨rfl, h⟩
  obtain rfl := h.symm
  clear h
  go_wp2_with fail
  generalize ((w.alloc (.cells (hc K1).toArray 24)).alloc (.cells (hc zero32).toArray 24)) = w0 at *
  refine wp_region_held_drew (S := fun W => Below w0.drew.heap.size w0.drew W) (by kernel_rfl) (Below.refl _ _) (fun h0 => ?_)
  replace N0 := Lib.hid (N0.out.on ((Below.refl _ _).drew))
  replace M0 := Lib.hid (M0.out.on ((Below.refl _ _).drew))
  replace HK := Lib.hid (HK.out.on ((Below.refl _ _).drew))
  replace HV := Lib.hid (HV.out.on ((Below.refl _ _).drew))
  replace B0 := Lib.hid B0.out.drew
  replace hW0 : Hid (w0.drew.heap.size = w.heap.size + 2) := hW0
  clear c00
  generalize w0.drew = w0 at *
  refine wpAnyH_take (i := 0) (v := ?_) (by rw [List.getElem?_toArray]; rfl) (by kernel_rfl) (by kernel_rfl) (by kernel_rfl) (by exact fun _ _ _ h => h) (Or.inl ⟨by rfl, ?_⟩) h0 ?_
  rotate_left
  · intro W hW
    go_simp
    all_goals with_reducible rfl
  try simp only [Act.put, List.setIfInBounds_toArray, List.set_cons_zero, List.set_cons_succ]
  refine wpAnyH_take (i := 1) (v := ?_) (by rw [List.getElem?_toArray]; rfl) (by kernel_rfl) (by kernel_rfl) (by kernel_rfl) (by exact fun _ _ _ h => h) (Or.inl ⟨by rfl, ?_⟩) h0 ?_
  rotate_left
  · intro W hW
    go_simp
    all_goals with_reducible rfl
  try simp only [Act.put, List.setIfInBounds_toArray, List.set_cons_zero, List.set_cons_succ]
  refine wpAnyH_take (i := 2) (v := ?_) (by rw [List.getElem?_toArray]; rfl) (by kernel_rfl) (by kernel_rfl) (by kernel_rfl) (by exact fun _ _ _ h => h) (Or.inl ⟨by rfl, ?_⟩) h0 ?_
  rotate_left
  · intro W hW
    go_simp
    all_goals with_reducible rfl
  try simp only [Act.put, List.setIfInBounds_toArray, List.set_cons_zero, List.set_cons_succ]
  refine wpAnyH_take (i := 3) (v := ?_) (by rw [List.getElem?_toArray]; rfl) (by kernel_rfl) (by kernel_rfl) (by kernel_rfl) (by exact fun _ _ _ h => h) (Or.inl ⟨by rfl, ?_⟩) h0 ?_
  rotate_left
  · intro W hW
    have cc := (M0.out.on hW).c0
    go_simp
    all_goals with_reducible rfl
  try simp only [Act.put, List.setIfInBounds_toArray, List.set_cons_zero, List.set_cons_succ]
  refine wpAnyH_take (i := 4) (v := ?_) (by rw [List.getElem?_toArray]; rfl) (by kernel_rfl) (by kernel_rfl) (by kernel_rfl) (by exact fun _ _ _ h => h) (Or.inl ⟨by rfl, ?_⟩) h0 ?_
  rotate_left
  · intro W hW
    have cc := (HK.out.on hW).row K1_len
    go_simp
    all_goals with_reducible rfl
  try simp only [Act.put, List.setIfInBounds_toArray, List.set_cons_zero, List.set_cons_succ]
  refine wpAnyH_take (i := 5) (v := ?_) (by rw [List.getElem?_toArray]; rfl) (by kernel_rfl) (by kernel_rfl) (by kernel_rfl) (by exact fun _ _ _ h => h) (Or.inl ⟨by rfl, ?_⟩) h0 ?_
  rotate_left
  · intro W hW
    have cc := look_m1 true (M0.out.on hW).mp
    go_simp
    all_goals with_reducible rfl
  try simp only [Act.put, List.setIfInBounds_toArray, List.set_cons_zero, List.set_cons_succ]
  refine wpAnyH_take (i := 6) (v := ?_) (by rw [List.getElem?_toArray]; rfl) (by kernel_rfl) (by kernel_rfl) (by kernel_rfl) (by exact fun _ _ _ h => h) (Or.inl ⟨by rfl, ?_⟩) h0 ?_
  rotate_left
  · intro W hW
    go_simp
    all_goals with_reducible rfl
  try simp only [Act.put, List.setIfInBounds_toArray, List.set_cons_zero, List.set_cons_succ]
  refine wpAnyH_take (i := 7) (v := ?_) (by rw [List.getElem?_toArray]; rfl) (by kernel_rfl) (by kernel_rfl) (by kernel_rfl) (by exact fun _ _ _ h => h) (Or.inl ⟨by rfl, ?_⟩) h0 ?_
  rotate_left
  · intro W hW
    go_simp
    all_goals with_reducible rfl
  try simp only [Act.put, List.setIfInBounds_toArray, List.set_cons_zero, List.set_cons_succ]
  refine wpAnyH_take (i := 8) (v := ?_) (by rw [List.getElem?_toArray]; rfl) (by kernel_rfl) (by kernel_rfl) (by kernel_rfl) (by exact fun _ _ _ h => h) (Or.inl ⟨by rfl, ?_⟩) h0 ?_
  rotate_left
  · intro W hW
    go_simp
    all_goals with_reducible rfl
  try simp only [Act.put, List.setIfInBounds_toArray, List.set_cons_zero, List.set_cons_succ]
  refine wpAnyH_ready (rs := [9]) (by kernel_rfl) (by simp) ?_
  refine AllReadyH.cons (by rw [List.getElem?_toArray]; rfl) (fun K hK => ?_) AllReadyH.nil
  rw [if_pos (by rfl)]
  have Z1 := Lib.hid (HashAt.new w0 zero32)
  go_wp2_with fail
  refine hK.out _ _ (h0.alloc h0.size _) (fun h1 => ?_)
  clear hK K
  try simp only [Act.put, List.setIfInBounds_toArray, List.set_cons_zero, List.set_cons_succ]
  refine wpAnyH_ready (rs := [10]) (by kernel_rfl) (by simp) ?_
  refine AllReadyH.cons (by rw [List.getElem?_toArray]; rfl) (fun K hK => ?_) AllReadyH.nil
  rw [if_pos (by rfl)]
  have th1 := Z1.out.there zero32_len
  have P1 := Lib.hid (Z1.out.put zero32_len hU)
  have B1 : Below w0.heap.size w0 ((w0.alloc (.cells (hc zero32).toArray 24)).setCells w0.heap.size 0 (hc U)) := below_setCells' _ (Nat.le_refl _) _ _ h1
  have ols := hc_len U
  go_wp2_with fail
  refine hK.out _ _ (B1) (fun h2 => ?_)
  clear hK K
  try simp only [Act.put, List.setIfInBounds_toArray, List.set_cons_zero, List.set_cons_succ]
  refine wpAnyH_take (i := 11) (v := ?_) (by rw [List.getElem?_toArray]; rfl) (by kernel_rfl) (by kernel_rfl) (by kernel_rfl) (by exact fun _ _ _ h => h) (Or.inl ⟨by rfl, ?_⟩) h2 ?_
  rotate_left
  · intro W hW
    go_simp
    all_goals with_reducible rfl
  try simp only [Act.put, List.setIfInBounds_toArray, List.set_cons_zero, List.set_cons_succ]
  refine wpAnyH_done (by kernel_rfl) ?_ _
  have rv := (HV.out.on B1).row zero32_len
  have ro := P1.out.row hU
  have Mx := Lib.hid (M0.out.on B1)
  have Nx := Lib.hid (N0.out.on B1)
  have HKx := Lib.hid (HK.out.on B1)
  have Bx := Lib.hid (B0.out.trans (B1.mono B0.out.size))
  have hsx := B1.size
  have hlu := hc_len U
  clear h2 h1 P1 Z1 th1 M0 HK HV N0
  generalize (w0.alloc (.cells (hc zero32).toArray 24)).setCells w0.heap.size 0 (hc U) = w2 at *
  clear B1
  go_wp2_with fail
  refine wp_region_held_drew (S := fun W => W.cell? ⟨p, 0, none⟩ = some (.map (some m)) ∧ HashAt W w.heap.size K1) (by kernel_rfl) (⟨(Mx.out.on ((Below.refl _ _).drew)).c0, HKx.out.on ((Below.refl _ _).drew)⟩) (fun h0 => ?_)
  replace Mx := Lib.hid (Mx.out.on ((Below.refl _ _).drew))
  replace Nx := Lib.hid (Nx.out.on ((Below.refl _ _).drew))
  replace HKx := Lib.hid (HKx.out.on ((Below.refl _ _).drew))
  replace Bx := Lib.hid Bx.out.drew
  replace hsx : w0.heap.size ≤ w2.drew.heap.size := hsx
  clear rv ro
  generalize w2.drew = w2 at *
  refine wpAnyH_take (i := 0) (v := ?_) (by rw [List.getElem?_toArray]; rfl) (by kernel_rfl) (by kernel_rfl) (by kernel_rfl) (by exact fun _ _ _ h => h) (Or.inl ⟨by rfl, ?_⟩) h0 ?_
  rotate_left
  · intro W hW
    go_simp
    all_goals with_reducible rfl
  try simp only [Act.put, List.setIfInBounds_toArray, List.set_cons_zero, List.set_cons_succ]
  refine wpAnyH_take (i := 1) (v := ?_) (by rw [List.getElem?_toArray]; rfl) (by kernel_rfl) (by kernel_rfl) (by kernel_rfl) (by exact fun _ _ _ h => h) (Or.inl ⟨by rfl, ?_⟩) h0 ?_
  rotate_left
  · intro W hW
    go_simp
    all_goals with_reducible rfl
  try simp only [Act.put, List.setIfInBounds_toArray, List.set_cons_zero, List.set_cons_succ]
  refine wpAnyH_take (i := 2) (v := ?_) (by rw [List.getElem?_toArray]; rfl) (by kernel_rfl) (by kernel_rfl) (by kernel_rfl) (by exact fun _ _ _ h => h) (Or.inl ⟨by rfl, ?_⟩) h0 ?_
  rotate_left
  · intro W hW
    go_simp
    all_goals with_reducible rfl
  try simp only [Act.put, List.setIfInBounds_toArray, List.set_cons_zero, List.set_cons_succ]
  refine wpAnyH_take (i := 3) (v := ?_) (by rw [List.getElem?_toArray]; rfl) (by kernel_rfl) (by kernel_rfl) (by kernel_rfl) (by exact fun _ _ _ h => h) (Or.inl ⟨by rfl, ?_⟩) h0 ?_
  rotate_left
  · intro W hW
    have cc := hW.1
    go_simp
    all_goals with_reducible rfl
  try simp only [Act.put, List.setIfInBounds_toArray, List.set_cons_zero, List.set_cons_succ]
  refine wpAnyH_take (i := 4) (v := ?_) (by rw [List.getElem?_toArray]; rfl) (by kernel_rfl) (by kernel_rfl) (by kernel_rfl) (by exact fun _ _ _ h => h) (Or.inl ⟨by rfl, ?_⟩) h0 ?_
  rotate_left
  · intro W hW
    have cc := hW.2.row K1_len
    go_simp
    all_goals with_reducible rfl
  try simp only [Act.put, List.setIfInBounds_toArray, List.set_cons_zero, List.set_cons_succ]
  refine wpAnyH_ready (rs := [5]) (by kernel_rfl) (by simp) ?_
  refine AllReadyH.cons (by rw [List.getElem?_toArray]; rfl) (fun K hK => ?_) AllReadyH.nil
  rw [if_pos (by rfl)]
  have hdl := fun ty => del_m1 (v := .agg (hc U).toArray) ty Mx.out.mp
  have M3 := Lib.hid (Mx.out.putMap #[] 1)
  have K3 : Hid (HashAt (putMap w2 m #[] 1) w.heap.size K1) := by
    show _ = _
    rw [putMap_other (by omega)]; exact HKx.out
  have N3 : Hid (NdB (putMap w2 m #[] 1) b n) := by
    show _ = _
    rw [putMap_other (by omega)]; exact Nx.out
  have C3 := Lib.hid ((Chg.below Bx.out (Nat.le_refl _) [p, m]).putMap (b := m) (.inl (by simp)) #[] 1)
  have c3 := M3.out.c0
  go_wp2_with fail
  refine hK.out _ _ (⟨c3, K3.out⟩) (fun h3 => ?_)
  clear hK K
  try simp only [Act.put, List.setIfInBounds_toArray, List.set_cons_zero, List.set_cons_succ]
  refine wpAnyH_done (by kernel_rfl) ?_ _
  have hs3 := putMap_size w2 m #[] 1
  clear h3 h0 c3 hdl Mx HKx Bx Nx
  have hs4 : w.heap.size + 2 ≤ (putMap w2 m #[] 1).heap.size := by rw [hs3]; have := hW0.out; omega
  clear hs3
  generalize putMap w2 m #[] 1 = w3 at *
  go_wp2_with fail
  refine wp_region_held_drew (S := fun W => HashAt W w.heap.size K1) (by kernel_rfl) (K3.out.on ((Below.refl _ _).drew)) (fun h0 => ?_)
  replace M3 := Lib.hid (M3.out.on ((Below.refl _ _).drew))
  replace K3 := Lib.hid (K3.out.on ((Below.refl _ _).drew))
  replace N3 := Lib.hid (N3.out.on ((Below.refl _ _).drew))
  replace C3 := Lib.hid C3.out.drew
  replace hs4 : w.heap.size + 2 ≤ w3.drew.heap.size := hs4
  generalize w3.drew = w3 at *
  refine wpAnyH_take (i := 0) (v := ?_) (by rw [List.getElem?_toArray]; rfl) (by kernel_rfl) (by kernel_rfl) (by kernel_rfl) (by exact fun _ _ _ h => h) (Or.inl ⟨by rfl, ?_⟩) h0 ?_
  rotate_left
  · intro W hW
    go_simp
    all_goals with_reducible rfl
  try simp only [Act.put, List.setIfInBounds_toArray, List.set_cons_zero, List.set_cons_succ]
  refine wpAnyH_take (i := 1) (v := ?_) (by rw [List.getElem?_toArray]; rfl) (by kernel_rfl) (by kernel_rfl) (by kernel_rfl) (by exact fun _ _ _ h => h) (Or.inl ⟨by rfl, ?_⟩) h0 ?_
  rotate_left
  · intro W hW
    go_simp
    all_goals with_reducible rfl
  try simp only [Act.put, List.setIfInBounds_toArray, List.set_cons_zero, List.set_cons_succ]
  refine wpAnyH_take (i := 2) (v := ?_) (by rw [List.getElem?_toArray]; rfl) (by kernel_rfl) (by kernel_rfl) (by kernel_rfl) (by exact fun _ _ _ h => h) (Or.inl ⟨by rfl, ?_⟩) h0 ?_
  rotate_left
  · intro W hW
    go_simp
    all_goals with_reducible rfl
  try simp only [Act.put, List.setIfInBounds_toArray, List.set_cons_zero, List.set_cons_succ]
  refine wpAnyH_take (i := 3) (v := ?_) (by rw [List.getElem?_toArray]; rfl) (by kernel_rfl) (by kernel_rfl) (by kernel_rfl) (by exact fun _ _ _ h => h) (Or.inl ⟨by rfl, ?_⟩) h0 ?_
  rotate_left
  · intro W hW
    go_simp
    all_goals with_reducible rfl
  try simp only [Act.put, List.setIfInBounds_toArray, List.set_cons_zero, List.set_cons_succ]
  refine wpAnyH_take (i := 5) (v := ?_) (by rw [List.getElem?_toArray]; rfl) (by kernel_rfl) (by kernel_rfl) (by kernel_rfl) (by exact fun _ _ _ h => h) (Or.inl ⟨by rfl, ?_⟩) h0 ?_
  rotate_left
  · intro W hW
    have cc := hW.row K1_len
    go_simp
    all_goals with_reducible rfl
  try simp only [Act.put, List.setIfInBounds_toArray, List.set_cons_zero, List.set_cons_succ]
  refine wpAnyH_ready (rs := [4]) (by kernel_rfl) (by simp) ?_
  refine AllReadyH.cons (by rw [List.getElem?_toArray]; rfl) (fun K hK => ?_) AllReadyH.nil
  rw [if_pos (by rfl)]
  have ct := M3.out.c1
  go_wp2_with fail
  refine hK.out _ _ (h0) (fun h4 => ?_)
  clear hK K
  try simp only [Act.put, List.setIfInBounds_toArray, List.set_cons_zero, List.set_cons_succ]
  refine wpAnyH_ready (rs := [6]) (by kernel_rfl) (by simp) ?_
  refine AllReadyH.cons (by rw [List.getElem?_toArray]; rfl) (fun K hK => ?_) AllReadyH.nil
  rw [if_pos (by rfl)]
  go_wp2_with fail
  refine (without_leaf OK.out HF.out N3.out).mono ?_
  rintro e w4 ⟨rfl, hb4⟩
  have M4 := Lib.hid (M3.out.on hb4)
  have C4 := Lib.hid (C3.out.trans (T := []) (Chg.below hb4 (Nat.le_refl _) []) (by simp))
  have K4 := Lib.hid (K3.out.on hb4)
  go_wp2_with fail
  refine hK.out _ _ (K4.out) (fun h5 => ?_)
  clear hK K
  try simp only [Act.put, List.setIfInBounds_toArray, List.set_cons_zero, List.set_cons_succ]
  refine wpAnyH_take (i := 7) (v := ?_) (by rw [List.getElem?_toArray]; rfl) (by kernel_rfl) (by kernel_rfl) (by kernel_rfl) (by exact fun _ _ _ h => h) (Or.inl ⟨by rfl, ?_⟩) h5 ?_
  rotate_left
  · intro W hW
    go_simp
    all_goals with_reducible rfl
  try simp only [Act.put, List.setIfInBounds_toArray, List.set_cons_zero, List.set_cons_succ]
  refine wpAnyH_take (i := 8) (v := ?_) (by rw [List.getElem?_toArray]; rfl) (by kernel_rfl) (by kernel_rfl) (by kernel_rfl) (by exact fun _ _ _ h => h) (Or.inl ⟨by rfl, ?_⟩) h5 ?_
  rotate_left
  · intro W hW
    go_simp
    all_goals with_reducible rfl
  try simp only [Act.put, List.setIfInBounds_toArray, List.set_cons_zero, List.set_cons_succ]
  refine wpAnyH_ready (rs := [9]) (by kernel_rfl) (by simp) ?_
  refine AllReadyH.cons (by rw [List.getElem?_toArray]; rfl) (fun K hK => ?_) AllReadyH.nil
  rw [if_pos (by rfl)]
  have ct2 := M4.out.c1
  have cf2 : w4.frozen? ⟨p, 1, none⟩ = false := Joins.unfrozen_of_block M4.out.blk 1
  have M5 := Lib.hid (M4.out.setTop none)
  have C5 := Lib.hid (C4.out.setCell (p := ⟨p, 1, none⟩) (.inl (by simp)) (.pointer none))
  have K5 := Lib.hid (K4.out.other (a := ⟨p, 1, none⟩) (by simp; omega) (.pointer none))
  go_wp2_with fail
  refine hK.out _ _ (K5.out) (fun h6 => ?_)
  clear hK K
  try simp only [Act.put, List.setIfInBounds_toArray, List.set_cons_zero, List.set_cons_succ]
  refine wpAnyH_done (by kernel_rfl) ?_ _
  go_wp2_with fail
  go_ret
  exact ⟨rfl, C5.out, M5.out⟩

set_option maxHeartbeats 8000000 in
theorem Get_none {w : World} {p m c : Nat} {top : Option Addr} (hM : MpS w p m #[] c top) :
    Calls Tryd.prog 15 #[.pointer (some ⟨p, 0, none⟩), .agg (hc K1).toArray] w fun e w' => e = .returned (.agg (hc zero32).toArray) ∧ Below w.heap.size w w' := by
  have hmp := hM.lp
  have hmm := hM.lm
  have HK := Lib.hid (((HashAt.new w K1).alloc (.cells (hc zero32).toArray 24)))
  have HZ := Lib.hid (HashAt.new (w.alloc (.cells (hc K1).toArray 24)) zero32)
  have B0 := Lib.hid (((Below.refl w.heap.size w).alloc (Nat.le_refl _) (.cells (hc K1).toArray 24)).alloc (by simp) (.cells (hc zero32).toArray 24))
  have M0 := Lib.hid ((hM.alloc (.cells (hc K1).toArray 24)).alloc (.cells (hc zero32).toArray 24))
  have c00 := M0.out.c0
  have k32 := K1_len
  have hlk := hc_len K1
  have z32 := zero32_len
  simp only [World.size_alloc] at HZ
  clear hM
  go_enter Tryd.func15, Tryd.ntmps15
  go_wp2_with fail
  refine (made_yes c00).mono ?_
  rintro e wn ⟨rfl, h⟩
  obtain rfl := h.symm
  clear h
  go_wp2_with fail
  generalize ((w.alloc (.cells (hc K1).toArray 24)).alloc (.cells (hc zero32).toArray 24)) = w0 at *
  refine wp_region_held_drew (S := fun W => HashAt W w.heap.size K1 ∧ MpS W p m #[] c top) (by kernel_rfl) (⟨HK.out.on ((Below.refl _ _).drew), M0.out.on ((Below.refl _ _).drew)⟩) (fun h0 => ?_)
  replace M0 := Lib.hid (M0.out.on ((Below.refl _ _).drew))
  replace HK := Lib.hid (HK.out.on ((Below.refl _ _).drew))
  replace HZ := Lib.hid (HZ.out.on ((Below.refl _ _).drew))
  replace B0 := Lib.hid B0.out.drew
  clear c00
  generalize w0.drew = w0 at *
  refine wpAnyH_take (i := 0) (v := ?_) (by rw [List.getElem?_toArray]; rfl) (by kernel_rfl) (by kernel_rfl) (by kernel_rfl) (by exact fun _ _ _ h => h) (Or.inl ⟨by rfl, ?_⟩) h0 ?_
  rotate_left
  · intro W hW
    go_simp
    all_goals with_reducible rfl
  try simp only [Act.put, List.setIfInBounds_toArray, List.set_cons_zero, List.set_cons_succ]
  refine wpAnyH_take (i := 1) (v := ?_) (by rw [List.getElem?_toArray]; rfl) (by kernel_rfl) (by kernel_rfl) (by kernel_rfl) (by exact fun _ _ _ h => h) (Or.inl ⟨by rfl, ?_⟩) h0 ?_
  rotate_left
  · intro W hW
    go_simp
    all_goals with_reducible rfl
  try simp only [Act.put, List.setIfInBounds_toArray, List.set_cons_zero, List.set_cons_succ]
  refine wpAnyH_take (i := 2) (v := ?_) (by rw [List.getElem?_toArray]; rfl) (by kernel_rfl) (by kernel_rfl) (by kernel_rfl) (by exact fun _ _ _ h => h) (Or.inl ⟨by rfl, ?_⟩) h0 ?_
  rotate_left
  · intro W hW
    go_simp
    all_goals with_reducible rfl
  try simp only [Act.put, List.setIfInBounds_toArray, List.set_cons_zero, List.set_cons_succ]
  refine wpAnyH_take (i := 3) (v := ?_) (by rw [List.getElem?_toArray]; rfl) (by kernel_rfl) (by kernel_rfl) (by kernel_rfl) (by exact fun _ _ _ h => h) (Or.inl ⟨by rfl, ?_⟩) h0 ?_
  rotate_left
  · intro W hW
    have cc := hW.2.c0
    go_simp
    all_goals with_reducible rfl
  try simp only [Act.put, List.setIfInBounds_toArray, List.set_cons_zero, List.set_cons_succ]
  refine wpAnyH_take (i := 4) (v := ?_) (by rw [List.getElem?_toArray]; rfl) (by kernel_rfl) (by kernel_rfl) (by kernel_rfl) (by exact fun _ _ _ h => h) (Or.inl ⟨by rfl, ?_⟩) h0 ?_
  rotate_left
  · intro W hW
    have cc := hW.1.row K1_len
    go_simp
    all_goals with_reducible rfl
  try simp only [Act.put, List.setIfInBounds_toArray, List.set_cons_zero, List.set_cons_succ]
  refine wpAnyH_take (i := 5) (v := ?_) (by rw [List.getElem?_toArray]; rfl) (by kernel_rfl) (by kernel_rfl) (by kernel_rfl) (by exact fun _ _ _ h => h) (Or.inl ⟨by rfl, ?_⟩) h0 ?_
  rotate_left
  · intro W hW
    have cc := look_m0 false hW.2.mp
    go_simp
    all_goals with_reducible rfl
  try simp only [Act.put, List.setIfInBounds_toArray, List.set_cons_zero, List.set_cons_succ]
  refine wpAnyH_ready (rs := [6]) (by kernel_rfl) (by simp) ?_
  refine AllReadyH.cons (by rw [List.getElem?_toArray]; rfl) (fun K hK => ?_) AllReadyH.nil
  rw [if_pos (by rfl)]
  have th := HZ.out.there zero32_len
  have hput := (HZ.out.put zero32_len zero32_len).row zero32_len
  have HX := Lib.hid (below_setCells' (B := w.heap.size) (w.heap.size + 1) (by omega) (hc zero32) 0 B0.out)
  have HM9 : MpS (w0.setCells (w.heap.size + 1) 0 (hc zero32)) p m #[] c top := ⟨by rw [setCells_other (by have := M0.out.lp; omega)]; exact M0.out.blk, by rw [setCells_other (by omega)]; exact M0.out.mp⟩
  go_wp2_with fail
  refine hK.out _ _ (⟨(HK.out.others (k := w.heap.size + 1) (by omega) 0 (hc zero32)), HM9⟩) (fun h1 => ?_)
  clear hK K
  try simp only [Act.put, List.setIfInBounds_toArray, List.set_cons_zero, List.set_cons_succ]
  refine wpAnyH_done (by kernel_rfl) ?_ _
  go_wp2_with fail
  refine bodyPost_ret (v := .agg (hc zero32).toArray) (by simp [results, Tryd.results15, go_sem, hput, z32]) rfl ⟨rfl, HX.out⟩
end Go.Proofs.YtjlodnecdngdfaaDoor
namespace Go.Proofs.YtjlodnecdngdfaaDoor
open Go.RowKit
set_option maxRecDepth 100000
theorem seg_leaf : eqN (lfN k1N v2N) rd0 = true := by decide +kernel
theorem seg_0 : eqN (upN k1N 256 0 16 rd0) rd1 = true := by decide +kernel
theorem seg_1 : eqN (upN k1N 256 16 16 rd1) rd2 = true := by decide +kernel
theorem seg_2 : eqN (upN k1N 256 32 16 rd2) rd3 = true := by decide +kernel
theorem seg_3 : eqN (upN k1N 256 48 16 rd3) rd4 = true := by decide +kernel
end Go.Proofs.YtjlodnecdngdfaaDoor
namespace Go.Proofs.YtjlodnecdngdfaaDoor
open Go.RowKit
set_option maxRecDepth 100000
theorem seg_4 : eqN (upN k1N 256 64 16 rd4) rd5 = true := by decide +kernel
theorem seg_5 : eqN (upN k1N 256 80 16 rd5) rd6 = true := by decide +kernel
theorem seg_6 : eqN (upN k1N 256 96 16 rd6) rd7 = true := by decide +kernel
theorem seg_7 : eqN (upN k1N 256 112 16 rd7) rd8 = true := by decide +kernel
end Go.Proofs.YtjlodnecdngdfaaDoor
namespace Go.Proofs.YtjlodnecdngdfaaDoor
open Go.RowKit
set_option maxRecDepth 100000
theorem seg_8 : eqN (upN k1N 256 128 16 rd8) rd9 = true := by decide +kernel
theorem seg_9 : eqN (upN k1N 256 144 16 rd9) rd10 = true := by decide +kernel
theorem seg_10 : eqN (upN k1N 256 160 16 rd10) rd11 = true := by decide +kernel
theorem seg_11 : eqN (upN k1N 256 176 16 rd11) rd12 = true := by decide +kernel
end Go.Proofs.YtjlodnecdngdfaaDoor
namespace Go.Proofs.YtjlodnecdngdfaaDoor
open Go.RowKit
set_option maxRecDepth 100000
theorem seg_12 : eqN (upN k1N 256 192 16 rd12) rd13 = true := by decide +kernel
theorem seg_13 : eqN (upN k1N 256 208 16 rd13) rd14 = true := by decide +kernel
theorem seg_14 : eqN (upN k1N 256 224 16 rd14) rd15 = true := by decide +kernel
theorem seg_15 : eqN (upN k1N 256 240 16 rd15) rd16 = true := by decide +kernel
end Go.Proofs.YtjlodnecdngdfaaDoor
namespace Go.Proofs.YtjlodnecdngdfaaDoor
open Go.RowKit
set_option maxRecDepth 100000
theorem k1N_to : castL k1N = K1 := by rfl
theorem v2N_to : castL v2N = V2 := by rfl
theorem k1N_by : ByN k1N := by
  intro x hx
  simp only [k1N, List.mem_cons, List.not_mem_nil, or_false, or_self] at hx
  omega
theorem v2N_by : ByN v2N := by
  intro x hx
  simp only [v2N, List.mem_cons, List.not_mem_nil, or_false, or_self] at hx
  omega
theorem K1_bytes : Bytes K1 := by
  intro x hx
  simp only [K1, List.mem_cons, List.not_mem_nil, or_false, or_self] at hx
  omega
theorem V2_bytes : Bytes V2 := by
  intro x hx
  simp only [V2, List.mem_cons, List.not_mem_nil, or_false, or_self] at hx
  omega
theorem rd_leaf : lfH K1 V2 = castL rd0 ∧ ByN rd0 := by
  have h := lfN_to k1N_by v2N_by
  have b := lfN_by k1N v2N
  rw [eqN_iff.1 seg_leaf] at h b
  rw [← k1N_to, ← v2N_to]
  exact ⟨h, b⟩
/-- The root of the pair K1, V2. -/
def rtK : List Int := upH K1 256 (lfH K1 V2) 256
theorem rd_root : rtK = castL rd16 := by
  have h0 : upH (castL k1N) 256 (lfH K1 V2) 0 = castL rd0 ∧ ByN rd0 := rd_leaf
  have h := up_more h0 seg_0
  have h := up_more (k := 16) h seg_1
  have h := up_more (k := 32) h seg_2
  have h := up_more (k := 48) h seg_3
  have h := up_more (k := 64) h seg_4
  have h := up_more (k := 80) h seg_5
  have h := up_more (k := 96) h seg_6
  have h := up_more (k := 112) h seg_7
  have h := up_more (k := 128) h seg_8
  have h := up_more (k := 144) h seg_9
  have h := up_more (k := 160) h seg_10
  have h := up_more (k := 176) h seg_11
  have h := up_more (k := 192) h seg_12
  have h := up_more (k := 208) h seg_13
  have h := up_more (k := 224) h seg_14
  have h := up_more (k := 240) h seg_15
  have h1 := h.1
  rw [k1N_to] at h1
  exact h1
theorem rtK_len : rtK.length = 32 := upH_len _ _ (lfH_len _ _) _
theorem rtK_some : (rtK == zero32) = false := by
  rw [rd_root, ← z32N_to]
  simp only [beq_eq_false_iff_ne, ne_eq]
  intro h
  have := castL_inj h
  simp [rd16, z32N] at this
end Go.Proofs.YtjlodnecdngdfaaDoor
namespace Go.Proofs.YtjlodnecdngdfaaDoor
open Go.RowKit
set_option maxRecDepth 100000

theorem num5_any (n : Int) (w : World) : Calls Tryd.prog 12 #[.int .i64 n] w fun e w' => e = .returned (.int .i64 n) ∧ w' = w := by
  go_enter Tryd.func12, Tryd.ntmps12
  go_wp2_with fail
  go_ret
  exact ⟨rfl, rfl⟩

theorem V2_zero : (V2 == zero32) = false := by simp [V2, zero32]
theorem zero_V2 : (zero32 == V2) = false := by simp [V2, zero32]
set_option maxHeartbeats 8000000 in
theorem knows5_any {w : World} (hT : Tbl w) : Calls Tryd.prog 8 #[] w fun e w' => e = .returned (.bool true) ∧ Below w.heap.size w w' := by
  have HT := Lib.hid hT
  have hpos := hT.pos
  have z32 := zero32_len
  have k32 := K1_len
  have v32 := V2_len
  have hlz := hc_len zero32
  clear hT
  go_enter Tryd.func8, Tryd.ntmps8
  go_wp2_with fail
  refine New_nil.mono ?_
  rintro e w1 ⟨p, m, rfl, hp, hm, hb1, hM1⟩
  go_wp2_with fail
  refine (Root_nil hM1).mono ?_
  rintro e w2 ⟨rfl, hb2⟩
  have M2 := hM1.on hb2
  have B2 := hb1.trans (hb2.mono hb1.size)
  have lp2 := M2.lp
  have lm2 := M2.lm
  have H2 := HashAt.new w2 zero32
  have th2 := H2.there zero32_len
  have H3 := Lib.hid (H2.put zero32_len zero32_len)
  have B3' : Below w2.heap.size w2 ((w2.alloc (.cells (hc zero32).toArray 24)).setCells w2.heap.size 0 (hc zero32)) := below_setCells' _ (Nat.le_refl _) _ _ ((Below.refl _ _).alloc (Nat.le_refl _) _)
  have M3 := Lib.hid (M2.on B3')
  have B3 := Lib.hid (B2.trans (B3'.mono B2.size))
  have hs3 := B3'.size
  have hs2 := B2.size
  have hq3 : w2.heap.size < ((w2.alloc (.cells (hc zero32).toArray 24)).setCells w2.heap.size 0 (hc zero32)).heap.size := H3.out.lt
  clear hb1 hM1 hb2 M2 B2 H2 B3'
  go_wp2_with fail
  clear th2
  obtain ⟨q3, hq⟩ : ∃ q, q = w2.heap.size := ⟨_, rfl⟩
  rw [← hq] at H3 M3 B3 lp2 lm2 hs3 hs2 hq3 ⊢
  generalize (w2.alloc (.cells (hc zero32).toArray 24)).setCells q3 0 (hc zero32) = w3 at *
  clear hq
  refine (Put_new V2_len V2_zero zero_V2 M3.out).mono ?_
  rintro e w4 ⟨rfl, hc4, b, hb4, hM4, hN4⟩
  have M4 := Lib.hid hM4
  have N4 := Lib.hid hN4
  have B4 := Lib.hid (B3.out.trans (hc4.toBelow B3.out.size (by intro k hk; simp at hk; rcases hk with rfl | rfl <;> assumption)))
  have H4 := Lib.hid (H3.out.chg hc4 (by simp; omega))
  have hs4 := hc4.size
  clear hc4 hM4 hN4 H3 M3 B3
  go_wp2_with fail
  refine (Root_leaf (n := ⟨K1, 256, none, none, zero32, false, zero32, 0, false⟩) (V := V2) (HT.out.on B4.out hpos) ⟨K1_len, zero32_len, zero32_len⟩ rfl K1_bytes V2_len V2_bytes rfl rfl rfl N4.out M4.out (by omega) (by omega) (by simp; omega)).mono ?_
  rintro e w5 ⟨rfl, hc5, n5, ok5, hf5, hn5⟩
  have M5 := M4.out.chg hc5 (by simp; omega) (by simp; omega)
  obtain ⟨R, hR⟩ : ∃ R, upH K1 256 (lfH K1 V2) 256 = R := ⟨_, rfl⟩
  have lR : R.length = 32 := hR ▸ rtK_len
  have dR : (R == zero32) = false := hR ▸ rtK_some
  rw [hR]
  clear hR
  have H5 := HashAt.new w5 zero32
  have th5 := H5.there zero32_len
  have R5 := Lib.hid (H5.put zero32_len lR)
  have B5' : Below w5.heap.size w5 ((w5.alloc (.cells (hc zero32).toArray 24)).setCells w5.heap.size 0 (hc R)) := below_setCells' _ (Nat.le_refl _) _ _ ((Below.refl _ _).alloc (Nat.le_refl _) _)
  have B5 := B4.out.trans (hc5.toBelow B4.out.size (by intro k hk; simp at hk; subst hk; omega))
  have M6 := Lib.hid (M5.on B5')
  have N6 := Lib.hid (hn5.on B5')
  have H6 := Lib.hid ((H4.out.chg hc5 (by simp; omega)).on B5')
  have B6 := Lib.hid (B5.trans (B5'.mono B5.size))
  have hlR := hc_len R
  have hs5 := hc5.size
  have hs6 := B5'.size
  have OK5 := Lib.hid ok5
  have HF5 := Lib.hid hf5
  have DR := Lib.hid dR
  clear hc5 hn5 M5 H5 B5' B5 M4 N4 B4 H4 ok5 hf5 dR
  go_wp2_with fail
  clear th5
  obtain ⟨q5, hq⟩ : ∃ q, q = w5.heap.size := ⟨_, rfl⟩
  rw [← hq] at R5 M6 N6 H6 B6 hs5 hs6 ⊢
  generalize (w5.alloc (.cells (hc zero32).toArray 24)).setCells q5 0 (hc R) = w6 at *
  clear hq
  refine (Put_gone V2_len V2_zero M6.out N6.out OK5.out HF5.out (by omega) (by omega)).mono ?_
  rintro e w7 ⟨rfl, hc7, hM7⟩
  have M7 := Lib.hid hM7
  have B7 := Lib.hid (B6.out.trans (hc7.toBelow B6.out.size (by intro k hk; simp at hk; rcases hk with rfl | rfl <;> assumption)))
  have H7 := Lib.hid (H6.out.chg hc7 (by simp; omega))
  have R7 := Lib.hid (R5.out.chg hc7 (by simp; omega))
  clear hc7 hM7 H6 R5 B6 M6 N6
  go_wp2_with fail
  have hzz : (zero32 == zero32) = true := beq_self_eq_true _
  have dR := DR.out
  refine wp_region_held_drew (S := fun W => Below w.heap.size w W ∧ HashAt W q3 zero32 ∧ HashAt W q5 R ∧ MpS W p m #[] 1 none) (by kernel_rfl) (⟨B7.out.drew, H7.out.on ((Below.refl _ _).drew), R7.out.on ((Below.refl _ _).drew), M7.out.on ((Below.refl _ _).drew)⟩) (fun h0 => ?_)
  refine wpAnyH_take (i := 0) (v := ?_) (by rw [List.getElem?_toArray]; rfl) (by kernel_rfl) (by kernel_rfl) (by kernel_rfl) (by exact fun _ _ _ h => h) (Or.inl ⟨by rfl, ?_⟩) h0 ?_
  rotate_left
  · intro W hW
    go_simp
    all_goals with_reducible rfl
  try simp only [Act.put, List.setIfInBounds_toArray, List.set_cons_zero, List.set_cons_succ]
  refine wpAnyH_take (i := 2) (v := ?_) (by rw [List.getElem?_toArray]; rfl) (by kernel_rfl) (by kernel_rfl) (by kernel_rfl) (by exact fun _ _ _ h => h) (Or.inl ⟨by rfl, ?_⟩) h0 ?_
  rotate_left
  · intro W hW
    go_simp
    all_goals with_reducible rfl
  try simp only [Act.put, List.setIfInBounds_toArray, List.set_cons_zero, List.set_cons_succ]
  refine wpAnyH_take (i := 5) (v := ?_) (by rw [List.getElem?_toArray]; rfl) (by kernel_rfl) (by kernel_rfl) (by kernel_rfl) (by exact fun _ _ _ h => h) (Or.inl ⟨by rfl, ?_⟩) h0 ?_
  rotate_left
  · intro W hW
    go_simp
    all_goals with_reducible rfl
  try simp only [Act.put, List.setIfInBounds_toArray, List.set_cons_zero, List.set_cons_succ]
  refine wpAnyH_ready (rs := [1]) (by kernel_rfl) (by simp) ?_
  refine AllReadyH.cons (by rw [List.getElem?_toArray]; rfl) (fun K hK => ?_) AllReadyH.nil
  rw [if_pos (by rfl)]
  go_wp2_with fail
  refine (num5_any 0 _).mono ?_
  rintro e wx ⟨rfl, hwx⟩
  obtain rfl := hwx.symm
  clear hwx
  go_wp2_with fail
  refine hK.out _ _ (h0) (fun hn1 => ?_)
  clear hK K
  try simp only [Act.put, List.setIfInBounds_toArray, List.set_cons_zero, List.set_cons_succ]
  refine wpAnyH_ready (rs := [3]) (by kernel_rfl) (by simp) ?_
  refine AllReadyH.cons (by rw [List.getElem?_toArray]; rfl) (fun K hK => ?_) AllReadyH.nil
  rw [if_pos (by rfl)]
  go_wp2_with fail
  refine (num5_any 0 _).mono ?_
  rintro e wx ⟨rfl, hwx⟩
  obtain rfl := hwx.symm
  clear hwx
  go_wp2_with fail
  refine hK.out _ _ (hn1) (fun hn3 => ?_)
  clear hK K
  try simp only [Act.put, List.setIfInBounds_toArray, List.set_cons_zero, List.set_cons_succ]
  refine wpAnyH_take (i := 4) (v := ?_) (by rw [List.getElem?_toArray]; rfl) (by kernel_rfl) (by kernel_rfl) (by kernel_rfl) (by exact fun _ _ _ h => h) (Or.inl ⟨by rfl, ?_⟩) hn3 ?_
  rotate_left
  · intro W hW
    go_simp
    all_goals with_reducible rfl
  try simp only [Act.put, List.setIfInBounds_toArray, List.set_cons_zero, List.set_cons_succ]
  refine wpAnyH_ready (rs := [6]) (by kernel_rfl) (by simp) ?_
  refine AllReadyH.cons (by rw [List.getElem?_toArray]; rfl) (fun K hK => ?_) AllReadyH.nil
  rw [if_pos (by rfl)]
  go_wp2_with fail
  refine (num5_any 0 _).mono ?_
  rintro e wx ⟨rfl, hwx⟩
  obtain rfl := hwx.symm
  clear hwx
  go_wp2_with fail
  refine hK.out _ _ (hn3) (fun hn6 => ?_)
  clear hK K
  try simp only [Act.put, List.setIfInBounds_toArray, List.set_cons_zero, List.set_cons_succ]
  refine wpAnyH_take (i := 7) (v := ?_) (by rw [List.getElem?_toArray]; rfl) (by kernel_rfl) (by kernel_rfl) (by kernel_rfl) (by exact fun _ _ _ h => h) (Or.inl ⟨by rfl, ?_⟩) hn6 ?_
  rotate_left
  · intro W hW
    go_simp
    all_goals with_reducible rfl
  try simp only [Act.put, List.setIfInBounds_toArray, List.set_cons_zero, List.set_cons_succ]
  refine wpAnyH_take (i := 8) (v := ?_) (by rw [List.getElem?_toArray]; rfl) (by kernel_rfl) (by kernel_rfl) (by kernel_rfl) (by exact fun _ _ _ h => h) (Or.inl ⟨by rfl, ?_⟩) hn6 ?_
  rotate_left
  · intro W hW
    go_simp
    all_goals with_reducible rfl
  try simp only [Act.put, List.setIfInBounds_toArray, List.set_cons_zero, List.set_cons_succ]
  refine wpAnyH_take (i := 9) (v := ?_) (by rw [List.getElem?_toArray]; rfl) (by kernel_rfl) (by kernel_rfl) (by kernel_rfl) (by exact fun _ _ _ h => h) (Or.inl ⟨by rfl, ?_⟩) hn6 ?_
  rotate_left
  · intro W hW
    go_simp
    all_goals with_reducible rfl
  try simp only [Act.put, List.setIfInBounds_toArray, List.set_cons_zero, List.set_cons_succ]
  refine wpAnyH_take (i := 10) (v := ?_) (by rw [List.getElem?_toArray]; rfl) (by kernel_rfl) (by kernel_rfl) (by kernel_rfl) (by exact fun _ _ _ h => h) (Or.inl ⟨by rfl, ?_⟩) hn6 ?_
  rotate_left
  · intro W hW
    have ca := hW.2.1.row zero32_len
    go_simp
    all_goals with_reducible rfl
  try simp only [Act.put, List.setIfInBounds_toArray, List.set_cons_zero, List.set_cons_succ]
  refine wpAnyH_take (i := 11) (v := ?_) (by rw [List.getElem?_toArray]; rfl) (by kernel_rfl) (by kernel_rfl) (by kernel_rfl) (by exact fun _ _ _ h => h) (Or.inl ⟨by rfl, ?_⟩) hn6 ?_
  rotate_left
  · intro W hW
    go_simp
    all_goals with_reducible rfl
  try simp only [Act.put, List.setIfInBounds_toArray, List.set_cons_zero, List.set_cons_succ]
  refine wpAnyH_take (i := 12) (v := ?_) (by rw [List.getElem?_toArray]; rfl) (by kernel_rfl) (by kernel_rfl) (by kernel_rfl) (by exact fun _ _ _ h => h) (Or.inl ⟨by rfl, ?_⟩) hn6 ?_
  rotate_left
  · intro W hW
    go_simp
    all_goals with_reducible rfl
  try simp only [Act.put, List.setIfInBounds_toArray, List.set_cons_zero, List.set_cons_succ]
  refine wpAnyH_take (i := 13) (v := ?_) (by rw [List.getElem?_toArray]; rfl) (by kernel_rfl) (by kernel_rfl) (by kernel_rfl) (by exact fun _ _ _ h => h) (Or.inl ⟨by rfl, ?_⟩) hn6 ?_
  rotate_left
  · intro W hW
    go_simp
    all_goals with_reducible rfl
  try simp only [Act.put, List.setIfInBounds_toArray, List.set_cons_zero, List.set_cons_succ]
  refine wpAnyH_take (i := 14) (v := ?_) (by rw [List.getElem?_toArray]; rfl) (by kernel_rfl) (by kernel_rfl) (by kernel_rfl) (by exact fun _ _ _ h => h) (Or.inl ⟨by rfl, ?_⟩) hn6 ?_
  rotate_left
  · intro W hW
    go_simp
    all_goals with_reducible rfl
  try simp only [Act.put, List.setIfInBounds_toArray, List.set_cons_zero, List.set_cons_succ]
  refine wpAnyH_take (i := 15) (v := ?_) (by rw [List.getElem?_toArray]; rfl) (by kernel_rfl) (by kernel_rfl) (by kernel_rfl) (by exact fun _ _ _ h => h) (Or.inl ⟨by rfl, ?_⟩) hn6 ?_
  rotate_left
  · intro W hW
    have cb := hW.2.2.1.row lR
    go_simp
    all_goals with_reducible rfl
  try simp only [Act.put, List.setIfInBounds_toArray, List.set_cons_zero, List.set_cons_succ]
  refine wpAnyH_take (i := 16) (v := ?_) (by rw [List.getElem?_toArray]; rfl) (by kernel_rfl) (by kernel_rfl) (by kernel_rfl) (by exact fun _ _ _ h => h) (Or.inl ⟨by rfl, ?_⟩) hn6 ?_
  rotate_left
  · intro W hW
    have ca := hW.2.1.row zero32_len
    go_simp
    all_goals with_reducible rfl
  try simp only [Act.put, List.setIfInBounds_toArray, List.set_cons_zero, List.set_cons_succ]
  refine wpAnyH_take (i := 17) (v := ?_) (by rw [List.getElem?_toArray]; rfl) (by kernel_rfl) (by kernel_rfl) (by kernel_rfl) (by exact fun _ _ _ h => h) (Or.inl ⟨by rfl, ?_⟩) hn6 ?_
  rotate_left
  · intro W hW
    go_simp
    all_goals with_reducible rfl
  try simp only [Act.put, List.setIfInBounds_toArray, List.set_cons_zero, List.set_cons_succ]
  refine wpAnyH_take (i := 18) (v := ?_) (by rw [List.getElem?_toArray]; rfl) (by kernel_rfl) (by kernel_rfl) (by kernel_rfl) (by exact fun _ _ _ h => h) (Or.inl ⟨by rfl, ?_⟩) hn6 ?_
  rotate_left
  · intro W hW
    go_simp
    all_goals with_reducible rfl
  try simp only [Act.put, List.setIfInBounds_toArray, List.set_cons_zero, List.set_cons_succ]
  refine wpAnyH_take (i := 19) (v := ?_) (by rw [List.getElem?_toArray]; rfl) (by kernel_rfl) (by kernel_rfl) (by kernel_rfl) (by exact fun _ _ _ h => h) (Or.inl ⟨by rfl, ?_⟩) hn6 ?_
  rotate_left
  · intro W hW
    go_simp
    all_goals with_reducible rfl
  try simp only [Act.put, List.setIfInBounds_toArray, List.set_cons_zero, List.set_cons_succ]
  refine wpAnyH_take (i := 20) (v := ?_) (by rw [List.getElem?_toArray]; rfl) (by kernel_rfl) (by kernel_rfl) (by kernel_rfl) (by exact fun _ _ _ h => h) (Or.inl ⟨by rfl, ?_⟩) hn6 ?_
  rotate_left
  · intro W hW
    go_simp
    all_goals with_reducible rfl
  try simp only [Act.put, List.setIfInBounds_toArray, List.set_cons_zero, List.set_cons_succ]
  refine wpAnyH_take (i := 22) (v := ?_) (by rw [List.getElem?_toArray]; rfl) (by kernel_rfl) (by kernel_rfl) (by kernel_rfl) (by exact fun _ _ _ h => h) (Or.inl ⟨by rfl, ?_⟩) hn6 ?_
  rotate_left
  · intro W hW
    have ca := hW.2.1.row zero32_len
    go_simp
    all_goals with_reducible rfl
  try simp only [Act.put, List.setIfInBounds_toArray, List.set_cons_zero, List.set_cons_succ]
  refine wpAnyH_ready (rs := [21]) (by kernel_rfl) (by simp) ?_
  refine AllReadyH.cons (by rw [List.getElem?_toArray]; rfl) (fun K hK => ?_) AllReadyH.nil
  rw [if_pos (by rfl)]
  go_wp2_with fail
  refine (Root_nil hn6.2.2.2).mono ?_
  rintro e w8 ⟨rfl, hb8⟩
  go_wp2_with fail
  refine hK.out _ _ (⟨hn6.1.trans (hb8.mono hn6.1.size), hn6.2.1.on hb8, hn6.2.2.1.on hb8, hn6.2.2.2.on hb8⟩) (fun hr => ?_)
  clear hK K
  try simp only [Act.put, List.setIfInBounds_toArray, List.set_cons_zero, List.set_cons_succ]
  refine wpAnyH_take (i := 23) (v := ?_) (by rw [List.getElem?_toArray]; rfl) (by kernel_rfl) (by kernel_rfl) (by kernel_rfl) (by exact fun _ _ _ h => h) (Or.inl ⟨by rfl, ?_⟩) hr ?_
  rotate_left
  · intro W hW
    go_simp
    all_goals with_reducible rfl
  try simp only [Act.put, List.setIfInBounds_toArray, List.set_cons_zero, List.set_cons_succ]
  refine wpAnyH_take (i := 24) (v := ?_) (by rw [List.getElem?_toArray]; rfl) (by kernel_rfl) (by kernel_rfl) (by kernel_rfl) (by exact fun _ _ _ h => h) (Or.inl ⟨by rfl, ?_⟩) hr ?_
  rotate_left
  · intro W hW
    go_simp
    all_goals with_reducible rfl
  try simp only [Act.put, List.setIfInBounds_toArray, List.set_cons_zero, List.set_cons_succ]
  refine wpAnyH_take (i := 25) (v := ?_) (by rw [List.getElem?_toArray]; rfl) (by kernel_rfl) (by kernel_rfl) (by kernel_rfl) (by exact fun _ _ _ h => h) (Or.inl ⟨by rfl, ?_⟩) hr ?_
  rotate_left
  · intro W hW
    go_simp
    all_goals with_reducible rfl
  try simp only [Act.put, List.setIfInBounds_toArray, List.set_cons_zero, List.set_cons_succ]
  refine wpAnyH_take (i := 26) (v := ?_) (by rw [List.getElem?_toArray]; rfl) (by kernel_rfl) (by kernel_rfl) (by kernel_rfl) (by exact fun _ _ _ h => h) (Or.inl ⟨by rfl, ?_⟩) hr ?_
  rotate_left
  · intro W hW
    go_simp
    all_goals with_reducible rfl
  try simp only [Act.put, List.setIfInBounds_toArray, List.set_cons_zero, List.set_cons_succ]
  refine wpAnyH_take (i := 27) (v := ?_) (by rw [List.getElem?_toArray]; rfl) (by kernel_rfl) (by kernel_rfl) (by kernel_rfl) (by exact fun _ _ _ h => h) (Or.inl ⟨by rfl, ?_⟩) hr ?_
  rotate_left
  · intro W hW
    go_simp
    all_goals with_reducible rfl
  try simp only [Act.put, List.setIfInBounds_toArray, List.set_cons_zero, List.set_cons_succ]
  refine wpAnyH_take (i := 29) (v := ?_) (by rw [List.getElem?_toArray]; rfl) (by kernel_rfl) (by kernel_rfl) (by kernel_rfl) (by exact fun _ _ _ h => h) (Or.inl ⟨by rfl, ?_⟩) hr ?_
  rotate_left
  · intro W hW
    have ca := hW.2.1.row zero32_len
    go_simp
    all_goals with_reducible rfl
  try simp only [Act.put, List.setIfInBounds_toArray, List.set_cons_zero, List.set_cons_succ]
  refine wpAnyH_ready (rs := [28]) (by kernel_rfl) (by simp) ?_
  refine AllReadyH.cons (by rw [List.getElem?_toArray]; rfl) (fun K hK => ?_) AllReadyH.nil
  rw [if_pos (by rfl)]
  go_wp2_with fail
  refine (Get_none hr.2.2.2).mono ?_
  rintro e w9 ⟨rfl, hb9⟩
  go_wp2_with fail
  refine hK.out _ _ (⟨hr.1.trans (hb9.mono hr.1.size), hr.2.1.on hb9, hr.2.2.1.on hb9, hr.2.2.2.on hb9⟩) (fun hg => ?_)
  clear hK K
  try simp only [Act.put, List.setIfInBounds_toArray, List.set_cons_zero, List.set_cons_succ]
  refine wpAnyH_take (i := 30) (v := ?_) (by rw [List.getElem?_toArray]; rfl) (by kernel_rfl) (by kernel_rfl) (by kernel_rfl) (by exact fun _ _ _ h => h) (Or.inl ⟨by rfl, ?_⟩) hg ?_
  rotate_left
  · intro W hW
    go_simp
    all_goals with_reducible rfl
  try simp only [Act.put, List.setIfInBounds_toArray, List.set_cons_zero, List.set_cons_succ]
  refine wpAnyH_take (i := 31) (v := ?_) (by rw [List.getElem?_toArray]; rfl) (by kernel_rfl) (by kernel_rfl) (by kernel_rfl) (by exact fun _ _ _ h => h) (Or.inl ⟨by rfl, ?_⟩) hg ?_
  rotate_left
  · intro W hW
    go_simp
    all_goals with_reducible rfl
  try simp only [Act.put, List.setIfInBounds_toArray, List.set_cons_zero, List.set_cons_succ]
  refine wpAnyH_take (i := 32) (v := ?_) (by rw [List.getElem?_toArray]; rfl) (by kernel_rfl) (by kernel_rfl) (by kernel_rfl) (by exact fun _ _ _ h => h) (Or.inl ⟨by rfl, ?_⟩) hg ?_
  rotate_left
  · intro W hW
    go_simp
    all_goals with_reducible rfl
  try simp only [Act.put, List.setIfInBounds_toArray, List.set_cons_zero]
  refine wpAnyH_done (by kernel_rfl) ?_ _
  have BE := Lib.hid hg.1
  go_wp2_with fail
  go_ret
  exact ⟨rfl, BE.out⟩
end Go.Proofs.YtjlodnecdngdfaaDoor
namespace Go.Proofs.YtjlodnecdngdfaaDoor
open Go.RowKit
set_option maxRecDepth 100000

/-- No map, or one that nobody made. -/
def Nm (w : World) (v : Value) : Prop := v = .pointer none ∨ ∃ p, v = .pointer (some ⟨p, 0, none⟩) ∧ w.cell? ⟨p, 0, none⟩ = some (.map none)
theorem Nm.on {w w' : World} {v : Value} (h : Nm w v) (hb : Below w.heap.size w w') : Nm w' v := by
  rcases h with h | ⟨p, h, c⟩
  · exact .inl h
  · exact .inr ⟨p, h, by rw [hb.cell (World.block_lt_of_cell? w _ c)]; exact c⟩
theorem Nm.alloc {w : World} {v : Value} (h : Nm w v) (o : Obj) : Nm (w.alloc o) v := h.on ((Below.refl _ _).alloc (Nat.le_refl _) o)
/-! ### A proof's cells -/
def pfRow (F : List Int) (v : Value) : List Value := hc F ++ [v]
theorem pfRow_len {F : List Int} (h : F.length = 32) (v : Value) : (pfRow F v).length = 33 := by simp [pfRow, hc_len, h]
def PfB (t : TypeId) (w : World) (b : Nat) (F : List Int) (v : Value) : Prop := w.heap[b]? = some (.cells (pfRow F v).toArray t (0, 0))
section
variable {t : TypeId} {w w' : World} {b : Nat} {F : List Int} {v : Value}
theorem PfB.lt (h : PfB t w b F v) : b < w.heap.size := (Array.getElem?_eq_some_iff.1 h).1
theorem PfB.new (w : World) (F : List Int) (v : Value) : PfB t (w.alloc (.cells (pfRow F v).toArray t)) w.heap.size F v := heap_alloc_new w _
theorem PfB.chg {S : List Nat} (h : PfB t w b F v) (hc : Chg w w' S) (hS : b ∉ S) : PfB t w' b F v := by
  unfold PfB
  rw [hc.block b h.lt hS]; exact h
theorem PfB.on (h : PfB t w b F v) (hb : Below w.heap.size w w') : PfB t w' b F v := h.chg (S := []) (Chg.below hb (Nat.le_refl _) []) (by simp)
theorem PfB.alloc (h : PfB t w b F v) (o : Obj) : PfB t (w.alloc o) b F v := h.on ((Below.refl _ _).alloc (Nat.le_refl _) o)
theorem PfB.mask (h : PfB t w b F v) (hF : F.length = 32) : rowOf w b 0 32 = hc F := by
  rw [rowOf_block h]
  simp [pfRow, hc_len, hF]
theorem PfB.whole (h : PfB t w b F v) (hF : F.length = 32) : rowOf w b 0 33 = pfRow F v := by
  rw [rowOf_block h]
  have := pfRow_len hF v
  simp [List.take_of_length_le (Nat.le_of_eq this)]
theorem PfB.sides (h : PfB t w b F v) (hF : F.length = 32) : w.cell? ⟨b, 32, none⟩ = some v := by
  rw [cell_of_row _ _ _ _ _ _ h]
  simp [pfRow, hc_len, hF]
theorem PfB.there (h : PfB t w b F v) (hF : F.length = 32) : w.there b 0 33 := fun j hj => by
  refine ⟨?_, Joins.unfrozen_of_block h _⟩
  rw [cell_of_row _ _ _ _ _ _ h]
  have := pfRow_len hF v
  simp [this]; omega
theorem PfB.put (h : PfB t w b F v) (hF : F.length = 32) {G : List Int} (hG : G.length = 32) (u : Value) : PfB t (w.setCells b 0 (pfRow G u)) b G u := by
  have := setCells_block (b := b) (t := t) (fr := (0, 0)) (pfRow G u) (o := 0) (w := w) (pre := []) (mid := pfRow F v) (post := []) (by simpa [PfB] using h) rfl (by rw [pfRow_len hF, pfRow_len hG])
  simpa [PfB] using this
theorem PfB.others (h : PfB t w b F v) {k : Nat} (hk : b ≠ k) (o : Nat) (vs : List Value) : PfB t (w.setCells k o vs) b F v := by
  unfold PfB
  rw [setCells_other hk]; exact h
end
theorem pf_one (F : List Int) {v : Value} (hv : v.oneCell' = true) : (pfRow F v).toArray.all (·.oneCell') = true := by
  refine all_oneCell_toArray fun u hu => ?_
  simp only [pfRow, List.mem_append, List.mem_cons, List.not_mem_nil, or_false] at hu
  rcases hu with hu | rfl
  · exact (Array.all_eq_true_iff_forall_mem.1 (hc_one _)) u (by simpa using hu)
  · exact hv
@[go_sem ↓] theorem load33 (a : Addr) : loadCellsFrom a 0 33 #[] = rowLoad a 33 := rfl
theorem run_storeCells_pf {P : Program} (w : World) (b : Nat) (F : List Int) (v : Value) (hF : F.length = 32) (hv : v.oneCell' = true) (ht : w.there b 0 33) : (storeCells ⟨b, 0, none⟩ (pfRow F v) 0).run P w = .ok () (w.setCells b 0 (pfRow F v)) := by
  have e := pfRow_len hF v
  have := run_storeCells_cells (P := P) b 0 (pfRow F v) 0 w (fun j hj => by rw [e] at hj; simpa using (ht j hj).1) (fun j hj => by rw [e] at hj; simpa using (ht j hj).2) (fun u hu => (Array.all_eq_true_iff_forall_mem.1 (pf_one F hv)) u (by simpa using hu))
  simpa using this
@[go_sem] theorem run_storeCells_pf0 {P : Program} (w : World) (b : Nat) (F : List Int) (q : Option Addr) (n k : Nat) (hF : F.length = 32) (ht : w.there b 0 33) : (storeCells ⟨b, 0, none⟩ (pfRow F (.slice q n k)) 0).run P w = .ok () (w.setCells b 0 (pfRow F (.slice q n k))) :=
  run_storeCells_pf w b F _ hF rfl ht
@[go_sem ↓] theorem Tryd.zero_pf (w : World) : (zeroValue 48).run Tryd.prog w = .ok (.agg (pfRow zero32 (.slice none 0 0)).toArray) w := by kernel_rfl
end Go.Proofs.YtjlodnecdngdfaaDoor
