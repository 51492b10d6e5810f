/-
  Package smt: what stands at a leaf's own depth, in a map of one pair.
-/
import Derived.Test.YtjgfjmkfcippcaaDoorSmW1
namespace Go.Proofs.YtjgfjmkfcippcaaDoor
open Go.RowKit
set_option maxRecDepth 100000

/-- A map of the pair K1, V, whose node is n: what its reckoning may have changed. -/
structure HrS (w W : World) (p m b c : Nat) (n : Nd) (V : List Int) : Prop where
  chg : Chg w W [b]
  cell : W.cell? ⟨p, 0, none⟩ = some (.map (some m))
  mp : W.heap[m]? = some (.map (M1 (.agg (hc V).toArray)) c)
  nd : ∃ F, F.length = 32 ∧ NdB W b { n with own := F }
section
variable {w W W' : World} {p m b c : Nat} {n : Nd} {V : List Int}
theorem HrS.on (h : HrS w W p m b c n V) (hb : Below W.heap.size W W') : HrS w W' p m b c n V := by
  refine ⟨h.chg.trans (T := []) (Chg.below hb (Nat.le_refl _) []) (by simp), ?_, ?_, ?_⟩
  · rw [hb.cell (World.block_lt_of_cell? W _ h.cell)]; exact h.cell
  · rw [hb.block m (Array.getElem?_eq_some_iff.1 h.mp).1]; exact h.mp
  · obtain ⟨F, hF, hN⟩ := h.nd
    exact ⟨F, hF, hN.on hb⟩
theorem HrS.drew (h : HrS w W p m b c n V) : HrS w W.drew p m b c n V := h.on ((Below.refl _ _).drew)
theorem HrS.alloc (h : HrS w W p m b c n V) (o : Obj) : HrS w (W.alloc o) p m b c n V := h.on ((Below.refl _ _).alloc (Nat.le_refl _) o)
theorem HrS.key (h : HrS w W p m b c n V) (ok : n.ok) : rowOf W b 0 32 = hc n.key := by
  obtain ⟨F, hF, hN⟩ := h.nd
  exact (hN.facts ⟨ok.key, hF, ok.high⟩).2.2.2.2.2.2.1
theorem HrS.fork (h : HrS w W p m b c n V) (ok : n.ok) : W.cell? ⟨b, 32, none⟩ = some (.int .i64 n.fork) := by
  obtain ⟨F, hF, hN⟩ := h.nd
  exact (hN.facts ⟨ok.key, hF, ok.high⟩).1
theorem HrS.there (h : HrS w W p m b c n V) (ok : n.ok) {i k : Nat} (hi : i + k ≤ 102) : W.there b i k := by
  obtain ⟨F, hF, hN⟩ := h.nd
  exact hN.there ⟨ok.key, hF, ok.high⟩ hi
theorem HrS.setOwn (h : HrS w W p m b c n V) (ok : n.ok) (hp : p ≠ b) (hm : m ≠ b) {G : List Int} (hG : G.length = 32) : HrS w (W.setCells b 35 (hc G)) p m b c n V ∧ NdB (W.setCells b 35 (hc G)) b { n with own := G } := by
  obtain ⟨F, hF, hN⟩ := h.nd
  have hN2 := hN.setOwn ⟨ok.key, hF, ok.high⟩ hG
  have hcg : Chg W (W.setCells b 35 (hc G)) [b] := by
    have hsz := size_setCells b (hc G) 35 W
    have hbw := below_setCells' (B := b) b (Nat.le_refl _) (hc G) 35 (Below.refl b W)
    exact ⟨hbw.os, hbw.tape, hbw.output, by rw [hsz]; exact Nat.le_refl _, fun k _ hk => setCells_other (fun e => hk (by simp [e])) _ _ _⟩
  refine ⟨⟨h.chg.trans hcg (fun x hx _ => hx), ?_, ?_, G, hG, hN2⟩, hN2⟩
  · rw [World.cell?_of_block (w := W) (setCells_other hp _ _ _)]; exact h.cell
  · rw [setCells_other hm]; exact h.mp
end

theorem Chg.setCells {a w : World} {S : List Nat} (h : Chg a w S) {b : Nat} (hp : b ∈ S ∨ a.heap.size ≤ b) (vs : List Value) (o : Nat) : Chg a (w.setCells b o vs) S := by
  have hbw := below_setCells' (B := b) b (Nat.le_refl _) vs o (Below.refl b w)
  have hsz := size_setCells b vs o w
  refine h.trans (T := [b]) ⟨hbw.os, hbw.tape, hbw.output, by rw [hsz]; exact Nat.le_refl _, fun k _ hk => setCells_other (fun e => hk (by simp [e])) _ _ _⟩ ?_
  intro x hx hl
  obtain rfl := List.mem_singleton.1 hx
  rcases hp with hp | hp
  · exact hp
  · omega

set_option maxHeartbeats 8000000 in
theorem here_leaf {w : World} {p m b c : Nat} {n : Nd} {V : List Int} (hT : Tbl w) (ok : n.ok) (hk : n.key = K1) (bK : Bytes K1) (hV : V.length = 32) (bV : Bytes V) (hf : n.fork = 256) (ht : n.told = false) (hn : NdB w b n) (hp : w.cell? ⟨p, 0, none⟩ = some (.map (some m))) (hm : w.heap[m]? = some (.map (M1 (.agg (hc V).toArray)) c)) (hpb : p ≠ b) (hmb : m ≠ b) (hgb : 1 ∉ [b]) :
    Calls Tryd.prog 80 #[.pointer (some ⟨p, 0, none⟩), .pointer (some ⟨b, 0, none⟩)] w fun e w' => e = .returned (.agg (hc (lfH K1 V)).toArray) ∧ Chg w w' [b] ∧ NdB w' b { n with own := lfH K1 V, told := true } := by
  have hp1 : (w.alloc (.cells (hc zero32).toArray 23)).cell? ⟨p, 0, none⟩ = some (.map (some m)) := by
    rw [World.cell?_of_block (w := w) (Below.heap_alloc _ _ _ (World.block_lt_of_cell? w _ hp))]; exact hp
  have hm1 : (w.alloc (.cells (hc zero32).toArray 23)).heap[m]? = some (.map (M1 (.agg (hc V).toArray)) c) := by
    rw [Below.heap_alloc _ _ _ (Array.getElem?_eq_some_iff.1 hm).1]; exact hm
  have H0 : HrS (w.alloc (.cells (hc zero32).toArray 23)) (w.alloc (.cells (hc zero32).toArray 23)) p m b c n V := ⟨Chg.refl _ _, hp1, hm1, n.own, ok.own, hn.alloc _⟩
  have HH := Lib.hid H0
  have HZ := Lib.hid (HashAt.new w zero32)
  have B0 := Lib.hid ((Below.refl w.heap.size w).alloc (Nat.le_refl _) (.cells (hc zero32).toArray 23))
  have fk := HH.out.fork ok
  rw [hf] at fk
  have tl : (w.alloc (.cells (hc zero32).toArray 23)).cell? ⟨b, 67, none⟩ = some (.bool false) := by
    have h := ((hn.alloc (.cells (hc zero32).toArray 23)).facts ok).2.2.2.1
    rw [ht] at h; exact h
  have HT := Lib.hid (hT.on B0.out hT.pos)
  have OK := Lib.hid ok
  have HK := Lib.hid hk
  have BV := Lib.hid bV
  have BK := Lib.hid bK
  have HV := Lib.hid hV
  have hbw : b < w.heap.size := hn.lt
  clear hT hk bV bK hV hn hp hm H0 hf ht hp1 hm1
  go_enter Tryd.func80, Tryd.ntmps80
  go_wp2_with fail
  generalize w.alloc (.cells (hc zero32).toArray 23) = w1 at *
  refine wp_region_held_drew (S := fun W => HrS w1 W p m b c n V) (by kernel_rfl) (HH.out.drew) (fun h0 => ?_)
  refine wpAnyH_take (i := 0) (v := ?_) (by rw [List.getElem?_toArray]; rfl) (by kernel_rfl) (by kernel_rfl) (by kernel_rfl) (by exact fun _ _ _ h => h) (Or.inl ⟨by rfl, ?_⟩) h0 ?_
  rotate_left
  · intro W hW
    go_simp
    all_goals with_reducible rfl
  try simp only [Act.put, List.setIfInBounds_toArray, List.set_cons_zero, List.set_cons_succ]
  refine wpAnyH_take (i := 1) (v := ?_) (by rw [List.getElem?_toArray]; rfl) (by kernel_rfl) (by kernel_rfl) (by kernel_rfl) (by exact fun _ _ _ h => h) (Or.inl ⟨by rfl, ?_⟩) h0 ?_
  rotate_left
  · intro W hW
    go_simp
    all_goals with_reducible rfl
  try simp only [Act.put, List.setIfInBounds_toArray, List.set_cons_zero, List.set_cons_succ]
  refine wpAnyH_take (i := 2) (v := ?_) (by rw [List.getElem?_toArray]; rfl) (by kernel_rfl) (by kernel_rfl) (by kernel_rfl) (by exact fun _ _ _ h => h) (Or.inl ⟨by rfl, ?_⟩) h0 ?_
  rotate_left
  · intro W hW
    go_simp
    all_goals with_reducible rfl
  try simp only [Act.put, List.setIfInBounds_toArray, List.set_cons_zero, List.set_cons_succ]
  refine wpAnyH_take (i := 3) (v := ?_) (by rw [List.getElem?_toArray]; rfl) (by kernel_rfl) (by kernel_rfl) (by kernel_rfl) (by exact fun _ _ _ h => h) (Or.inl ⟨by rfl, ?_⟩) h0 ?_
  rotate_left
  · intro W hW
    go_simp
    all_goals with_reducible rfl
  try simp only [Act.put, List.setIfInBounds_toArray, List.set_cons_zero, List.set_cons_succ]
  refine wpAnyH_take (i := 4) (v := ?_) (by rw [List.getElem?_toArray]; rfl) (by kernel_rfl) (by kernel_rfl) (by kernel_rfl) (by exact fun _ _ _ h => h) (Or.inl ⟨by rfl, ?_⟩) h0 ?_
  rotate_left
  · intro W hW
    have hky := (hW.key OK.out)
    rw [HK.out] at hky
    have hlk := hc_len K1
    have k32 := K1_len
    go_simp
    all_goals with_reducible rfl
  try simp only [Act.put, List.setIfInBounds_toArray, List.set_cons_zero, List.set_cons_succ]
  refine wpAnyH_take (i := 5) (v := ?_) (by rw [List.getElem?_toArray]; rfl) (by kernel_rfl) (by kernel_rfl) (by kernel_rfl) (by exact fun _ _ _ h => h) (Or.inl ⟨by rfl, ?_⟩) h0 ?_
  rotate_left
  · intro W hW
    go_simp
    all_goals with_reducible rfl
  try simp only [Act.put, List.setIfInBounds_toArray, List.set_cons_zero, List.set_cons_succ]
  refine wpAnyH_take (i := 6) (v := ?_) (by rw [List.getElem?_toArray]; rfl) (by kernel_rfl) (by kernel_rfl) (by kernel_rfl) (by exact fun _ _ _ h => h) (Or.inl ⟨by rfl, ?_⟩) h0 ?_
  rotate_left
  · intro W hW
    go_simp
    all_goals with_reducible rfl
  try simp only [Act.put, List.setIfInBounds_toArray, List.set_cons_zero, List.set_cons_succ]
  refine wpAnyH_take (i := 7) (v := ?_) (by rw [List.getElem?_toArray]; rfl) (by kernel_rfl) (by kernel_rfl) (by kernel_rfl) (by exact fun _ _ _ h => h) (Or.inl ⟨by rfl, ?_⟩) h0 ?_
  rotate_left
  · intro W hW
    go_simp
    all_goals with_reducible rfl
  try simp only [Act.put, List.setIfInBounds_toArray, List.set_cons_zero, List.set_cons_succ]
  refine wpAnyH_take (i := 8) (v := ?_) (by rw [List.getElem?_toArray]; rfl) (by kernel_rfl) (by kernel_rfl) (by kernel_rfl) (by exact fun _ _ _ h => h) (Or.inl ⟨by rfl, ?_⟩) h0 ?_
  rotate_left
  · intro W hW
    have hcl := hW.cell
    go_simp
    all_goals with_reducible rfl
  try simp only [Act.put, List.setIfInBounds_toArray, List.set_cons_zero, List.set_cons_succ]
  refine wpAnyH_take (i := 9) (v := ?_) (by rw [List.getElem?_toArray]; rfl) (by kernel_rfl) (by kernel_rfl) (by kernel_rfl) (by exact fun _ _ _ h => h) (Or.inl ⟨by rfl, ?_⟩) h0 ?_
  rotate_left
  · intro W hW
    go_simp
    all_goals with_reducible rfl
  try simp only [Act.put, List.setIfInBounds_toArray, List.set_cons_zero, List.set_cons_succ]
  refine wpAnyH_take (i := 10) (v := ?_) (by rw [List.getElem?_toArray]; rfl) (by kernel_rfl) (by kernel_rfl) (by kernel_rfl) (by exact fun _ _ _ h => h) (Or.inl ⟨by rfl, ?_⟩) h0 ?_
  rotate_left
  · intro W hW
    go_simp
    all_goals with_reducible rfl
  try simp only [Act.put, List.setIfInBounds_toArray, List.set_cons_zero, List.set_cons_succ]
  refine wpAnyH_take (i := 11) (v := ?_) (by rw [List.getElem?_toArray]; rfl) (by kernel_rfl) (by kernel_rfl) (by kernel_rfl) (by exact fun _ _ _ h => h) (Or.inl ⟨by rfl, ?_⟩) h0 ?_
  rotate_left
  · intro W hW
    go_simp
    all_goals with_reducible rfl
  try simp only [Act.put, List.setIfInBounds_toArray, List.set_cons_zero, List.set_cons_succ]
  refine wpAnyH_take (i := 12) (v := ?_) (by rw [List.getElem?_toArray]; rfl) (by kernel_rfl) (by kernel_rfl) (by kernel_rfl) (by exact fun _ _ _ h => h) (Or.inl ⟨by rfl, ?_⟩) h0 ?_
  rotate_left
  · intro W hW
    have hky := (hW.key OK.out)
    rw [HK.out] at hky
    have hlk := hc_len K1
    have k32 := K1_len
    go_simp
    all_goals with_reducible rfl
  try simp only [Act.put, List.setIfInBounds_toArray, List.set_cons_zero, List.set_cons_succ]
  refine wpAnyH_take (i := 13) (v := ?_) (by rw [List.getElem?_toArray]; rfl) (by kernel_rfl) (by kernel_rfl) (by kernel_rfl) (by exact fun _ _ _ h => h) (Or.inl ⟨by rfl, ?_⟩) h0 ?_
  rotate_left
  · intro W hW
    have hlo := look_m1 false hW.mp
    go_simp
    all_goals with_reducible rfl
  try simp only [Act.put, List.setIfInBounds_toArray, List.set_cons_zero, List.set_cons_succ]
  refine wpAnyH_ready (rs := [14]) (by kernel_rfl) (by simp) ?_
  refine AllReadyH.cons (by rw [List.getElem?_toArray]; rfl) (fun K hK => ?_) AllReadyH.nil
  rw [if_pos (by rfl)]
  go_wp2_with fail
  refine (Leaf_any (HT.out.chg h0.chg hgb) K1_len HV.out BK.out BV.out).mono ?_
  rintro e w3 ⟨rfl, hb3⟩
  have H3 := Lib.hid (h0.on hb3)
  have hlF := lfH_len K1 V
  generalize hF : lfH K1 V = F at *
  go_wp2_with fail
  refine hK.out _ _ (H3.out) (fun h3 => ?_)
  clear hK K
  try simp only [Act.put, List.setIfInBounds_toArray, List.set_cons_zero, List.set_cons_succ]
  refine wpAnyH_take (i := 15) (v := ?_) (by rw [List.getElem?_toArray]; rfl) (by kernel_rfl) (by kernel_rfl) (by kernel_rfl) (by exact fun _ _ _ h => h) (Or.inl ⟨by rfl, ?_⟩) h3 ?_
  rotate_left
  · intro W hW
    go_simp
    all_goals with_reducible rfl
  try simp only [Act.put, List.setIfInBounds_toArray, List.set_cons_zero, List.set_cons_succ]
  refine wpAnyH_take (i := 16) (v := ?_) (by rw [List.getElem?_toArray]; rfl) (by kernel_rfl) (by kernel_rfl) (by kernel_rfl) (by exact fun _ _ _ h => h) (Or.inl ⟨by rfl, ?_⟩) h3 ?_
  rotate_left
  · intro W hW
    go_simp
    all_goals with_reducible rfl
  try simp only [Act.put, List.setIfInBounds_toArray, List.set_cons_zero, List.set_cons_succ]
  refine wpAnyH_ready (rs := [17]) (by kernel_rfl) (by simp) ?_
  refine AllReadyH.cons (by rw [List.getElem?_toArray]; rfl) (fun K hK => ?_) AllReadyH.nil
  rw [if_pos (by rfl)]
  have hth3 := h3.there OK.out (i := 35) (k := 32) (by omega)
  obtain ⟨H5, N5⟩ := h3.setOwn OK.out hpb hmb hlF
  have H5 := Lib.hid H5
  have N5 := Lib.hid N5
  go_wp2_with fail
  refine hK.out _ _ (H5.out) (fun h5 => ?_)
  clear hK K
  try simp only [Act.put, List.setIfInBounds_toArray, List.set_cons_zero, List.set_cons_succ]
  refine wpAnyH_done (by kernel_rfl) ?_ _
  have Z5 := Lib.hid (HZ.out.chg H5.out.chg (by simp; omega))
  have C5 := Lib.hid ((Chg.below B0.out (Nat.le_refl _) [b]).trans H5.out.chg (fun x hx _ => hx))
  have ok5 : Nd.ok { n with own := F } := ⟨OK.out.key, hlF, OK.out.high⟩
  have t5 := (N5.out.facts ok5).2.2.2.1
  have u5 := N5.out.free 67
  have N6 := Lib.hid (N5.out.setTold ok5 true)
  have C6 := Lib.hid (C5.out.setCell (p := ⟨b, 67, none⟩) (.inl (by simp)) (.bool true))
  have Z6 := Lib.hid (Z5.out.other (a := ⟨b, 67, none⟩) (by simp; omega) (.bool true))
  have ok6 : Nd.ok { n with own := F, told := true } := ⟨OK.out.key, hlF, OK.out.high⟩
  have r6 := (N6.out.facts ok6).2.2.2.2.2.2.2.1
  have z6 := Z6.out.there zero32_len
  have hput := (Z6.out.put zero32_len hlF).row hlF
  have C7 := Lib.hid (C6.out.setCells (b := w.heap.size) (.inr (Nat.le_refl _)) (hc F) 0)
  have N7 : Hid (NdB (((w3.setCells b 35 (hc F)).setCell ⟨b, 67, none⟩ (.bool true)).setCells w.heap.size 0 (hc F)) b { n with own := F, told := true }) := by
    show _ = _
    rw [setCells_other (by omega)]
    exact N6.out
  have hcF := hc_len F
  clear hb3 H3 HH HT B0 HZ h0 h3 h5 ok5 ok6 Z5 C5 N5 H5 Z6 C6 N6
  go_wp2_with fail
  refine bodyPost_ret (v := .agg (hc F).toArray) (by simp [results, Tryd.results80, go_sem, hput, hlF]) rfl ⟨rfl, C7.out, N7.out⟩
end Go.Proofs.YtjgfjmkfcippcaaDoor
