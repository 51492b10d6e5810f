/-
  The walk of basculeref02.Sum.; Tagged, in the program and in the reference.; Pair, in the program and in the reference.
-/
import Derived.Test.YtjgfjmkfcippcaaDoorMc3
import Derived.Test.YtjgfjmkfcippcaaDoorMc4
namespace Go.Proofs.YtjgfjmkfcippcaaDoor
open Go.RowKit
set_option maxRecDepth 100000

set_option maxHeartbeats 4000000 in
theorem refSum_any {w : World} {v : Value} {xs : List Int} (hr : Rd w v xs) (hx : Bytes xs) (hl : xs.length ≤ 100000000000000) :
    Calls Tryd.prog 77 #[v] w fun e w' => e = .returned (.agg (hc (sha xs)).toArray) ∧ Below w.heap.size w w' := by
  have HR := Lib.hid hr
  have HX := Lib.hid hx
  have H0 := Lib.hid (HashAt.new w zero32)
  have B0 := Lib.hid ((Below.refl w.heap.size w).alloc (Nat.le_refl _) (.cells (hc zero32).toArray 23))
  clear hr hx
  go_enter Tryd.func77, Tryd.ntmps77
  go_wp2_with fail
  refine (Table_any _).mono ?_
  rintro e w1 ⟨rfl, hb1⟩
  have H1 := Lib.hid (H0.out.on hb1)
  have B1 := Lib.hid (B0.out.trans (hb1.mono B0.out.size))
  clear hb1 H0 B0
  have hTn := TabAt.new (w1.alloc (.cells #[.int .u32 1779033703, .int .u32 3144134277, .int .u32 1013904242, .int .u32 2773480762, .int .u32 1359893119, .int .u32 2600822924, .int .u32 528734635, .int .u32 1541459225] 148)) zero64
  simp only [World.size_alloc] at hTn
  have hth := hTn.there zero64_len
  have hrow := (hTn.put zero64_len rootsZ_len).row rootsZ_len
  have h8 : ((((w1.alloc (.cells #[.int .u32 1779033703, .int .u32 3144134277, .int .u32 1013904242, .int .u32 2773480762, .int .u32 1359893119, .int .u32 2600822924, .int .u32 528734635, .int .u32 1541459225] 148)).alloc (.cells (uc zero64).toArray 155)).setCells (w1.heap.size + 1) 0 (uc rootsZ))).heap[w1.heap.size]? = some (.cells #[.int .u32 1779033703, .int .u32 3144134277, .int .u32 1013904242, .int .u32 2773480762, .int .u32 1359893119, .int .u32 2600822924, .int .u32 528734635, .int .u32 1541459225] 148 (0, 0)) := by
    rw [setCells_other (by omega), Below.heap_alloc _ _ _ (by simp)]
    exact heap_alloc_new w1 _
  have hb2 : Below w1.heap.size w1 (((w1.alloc (.cells #[.int .u32 1779033703, .int .u32 3144134277, .int .u32 1013904242, .int .u32 2773480762, .int .u32 1359893119, .int .u32 2600822924, .int .u32 528734635, .int .u32 1541459225] 148)).alloc (.cells (uc zero64).toArray 155)).setCells (w1.heap.size + 1) 0 (uc rootsZ)) :=
    below_setCells' _ (by omega) _ _ (((Below.refl _ _).alloc (Nat.le_refl _) _).alloc (by simp) _)
  have H2 := Lib.hid (H1.out.on hb2)
  have B2 := Lib.hid (B1.out.trans (hb2.mono B1.out.size))
  have c0 := Joins.cell_of_block h8 0
  have c1 := Joins.cell_of_block h8 1
  have c2 := Joins.cell_of_block h8 2
  have c3 := Joins.cell_of_block h8 3
  have c4 := Joins.cell_of_block h8 4
  have c5 := Joins.cell_of_block h8 5
  have c6 := Joins.cell_of_block h8 6
  have c7 := Joins.cell_of_block h8 7
  simp only [List.getElem?_toArray, List.getElem?_cons_zero, List.getElem?_cons_succ] at c0 c1 c2 c3 c4 c5 c6 c7
  have KS := Lib.hid (rsum_any (HR.out.on B2.out) HX.out hl)
  clear hTn hb2 H1 B1 h8
  go_wp2_with fail
  refine KS.out.mono ?_
  rintro e w3 ⟨rfl, hb3⟩
  have H3 := H2.out.on hb3
  have B3 := B2.out.trans (hb3.mono B2.out.size)
  have hth3 := H3.there zero32_len
  have hlen := sha_len xs
  have hput := (H3.put zero32_len hlen).row hlen
  have HB := Lib.hid (below_setCells' (B := w.heap.size) w.heap.size (Nat.le_refl _) (hc (sha xs)) 0 B3)
  generalize hF : sha xs = F at *
  have HF := Lib.hid hF
  clear hF
  clear hb3 H3 B3 KS H2 B2 hth hrow c0 c1 c2 c3 c4 c5 c6 c7
  go_wp2_with fail
  refine bodyPost_ret (v := .agg (hc F).toArray) (by simp [results, Tryd.results77, go_sem, hput, hlen]) rfl ⟨by rw [HF.out], HB.out⟩
end Go.Proofs.YtjgfjmkfcippcaaDoor
namespace Go.Proofs.YtjgfjmkfcippcaaDoor
open Go.RowKit
set_option maxRecDepth 100000

set_option maxHeartbeats 4000000 in
theorem Tagged_any {w : World} {s t : ByteArray} {v : Value} {L : List (List Int)} (hL : RdL w v L []) (hT : Tbl w) (hs : s.size ≤ maxLen) (hst : cut255 s = t) (hn : (frm (sn t) L).length ≤ 140737488355328) (hx : Bytes (frm (sn t) L)) :
    Calls Tryd.prog 42 #[.string s, v] w fun e w' => e = .returned (.agg (hc (sha (frm (sn t) L))).toArray) ∧ Below w.heap.size w w' := by
  have H0 := Lib.hid (HashAt.new w zero32)
  have B0 := Lib.hid ((Below.refl w.heap.size w).alloc (Nat.le_refl _) (.cells (hc zero32).toArray 23))
  have KF := Lib.hid (Frame_cut (hL.chg (Chg.below B0.out (Nat.le_refl _) [])) hs hst hn)
  have HX := Lib.hid hx
  clear hL hx
  go_enter Tryd.func42, Tryd.ntmps42
  go_wp2_with fail
  refine KF.out.mono ?_
  rintro e w1 ⟨rfl, hr1, hb1⟩
  simp only [World.size_alloc] at hr1
  have H1 := Lib.hid (H0.out.on hb1)
  have B1 := Lib.hid (B0.out.trans (hb1.mono B0.out.size))
  have KS := Lib.hid (Sum_any (rdc_of_rw hr1) HX.out (hT.on B1.out hT.pos))
  clear hr1
  clear KF H0 hn hs hst HX hT
  generalize hX : frm (sn t) L = X at *
  have HXX := Lib.hid hX
  clear hX
  go_wp2_with fail
  refine KS.out.mono ?_
  rintro e w3 ⟨rfl, hb3⟩
  have H3 := H1.out.on hb3
  have B3 := B1.out.trans (hb3.mono B1.out.size)
  have hth3 := H3.there zero32_len
  have hlen := sha_len X
  have hput := (H3.put zero32_len hlen).row hlen
  have HB := Lib.hid (below_setCells' (B := w.heap.size) w.heap.size (Nat.le_refl _) (hc (sha X)) 0 B3)
  generalize hF : sha X = F at *
  have HF := Lib.hid hF
  clear hF
  clear hb3 H3 B3 KS H1 B1 hb1
  go_wp2_with fail
  refine bodyPost_ret (v := .agg (hc F).toArray) (by simp [results, Tryd.results42, go_sem, hput, hlen]) rfl ⟨by rw [HXX.out, HF.out], HB.out⟩

set_option maxHeartbeats 4000000 in
theorem refTagged_any {w : World} {s t : ByteArray} {v : Value} {L : List (List Int)} (hL : RdL w v L []) (hs : s.size ≤ maxLen) (hst : cut255 s = t) (hn : (frm (sn t) L).length ≤ 100000000000000) (hx : Bytes (frm (sn t) L)) :
    Calls Tryd.prog 43 #[.string s, v] w fun e w' => e = .returned (.agg (hc (sha (frm (sn t) L))).toArray) ∧ Below w.heap.size w w' := by
  have H0 := Lib.hid (HashAt.new w zero32)
  have B0 := Lib.hid ((Below.refl w.heap.size w).alloc (Nat.le_refl _) (.cells (hc zero32).toArray 23))
  have KF := Lib.hid (refFrame_any (hL.chg (Chg.below B0.out (Nat.le_refl _) [])) hs hst hn)
  have HX := Lib.hid hx
  clear hL hx
  go_enter Tryd.func43, Tryd.ntmps43
  go_wp2_with fail
  refine KF.out.mono ?_
  rintro e w1 ⟨q, n, c, rfl, hf1⟩
  have hb1 := hf1.below
  have H1 := Lib.hid (H0.out.on hb1)
  have B1 := Lib.hid (B0.out.trans (hb1.mono B0.out.size))
  have KS := Lib.hid (refSum_any hf1.rd HX.out hn)
  clear hf1
  clear KF H0 hn hs hst HX
  generalize hX : frm (sn t) L = X at *
  have HXX := Lib.hid hX
  clear hX
  go_wp2_with fail
  refine KS.out.mono ?_
  rintro e w3 ⟨rfl, hb3⟩
  have H3 := H1.out.on hb3
  have B3 := B1.out.trans (hb3.mono B1.out.size)
  have hth3 := H3.there zero32_len
  have hlen := sha_len X
  have hput := (H3.put zero32_len hlen).row hlen
  have HB := Lib.hid (below_setCells' (B := w.heap.size) w.heap.size (Nat.le_refl _) (hc (sha X)) 0 B3)
  generalize hF : sha X = F at *
  have HF := Lib.hid hF
  clear hF
  clear hb3 H3 B3 KS H1 B1 hb1
  go_wp2_with fail
  refine bodyPost_ret (v := .agg (hc F).toArray) (by simp [results, Tryd.results43, go_sem, hput, hlen]) rfl ⟨by rw [HXX.out, HF.out], HB.out⟩
end Go.Proofs.YtjgfjmkfcippcaaDoor
namespace Go.Proofs.YtjgfjmkfcippcaaDoor
open Go.RowKit
set_option maxRecDepth 100000

def pairS : ByteArray := ⟨#[112, 97, 105, 114]⟩
theorem pair_sn : sn pairS = [112, 97, 105, 114] := by rfl
theorem HashAt.rd {w : World} {b : Nat} {A : List Int} (h : HashAt w b A) (hA : A.length = 32) : Rd w (.slice (some ⟨b, 0, none⟩) 32 32) A :=
  ⟨_, 32, by rw [hA], .inr ⟨b, 0, rfl, fun i hi => by rw [Nat.zero_add]; exact h.cell hi⟩⟩
theorem two_rdl {W : World} {v v' : Value} {A B : List Int} (h : Rd W v A) (h' : Rd W v' B) : RdL (W.alloc (.cells #[v, v'] 64)) (.slice (some ⟨W.heap.size, 0, none⟩) 2 2) [A, B] [] := by
  refine ⟨_, 2, rfl, .inr ⟨W.heap.size, 0, rfl, by simp, fun i hi => ?_⟩⟩
  have hb := heap_alloc_new W (.cells #[v, v'] 64)
  rw [Nat.zero_add, Joins.cell_of_block hb]
  have e : i = 0 ∨ i = 1 := by simp at hi; omega
  rcases e with rfl | rfl
  · exact ⟨v, rfl, h.alloc _, by simp⟩
  · exact ⟨v', rfl, h'.alloc _, by simp⟩
theorem pair_len {A B : List Int} (hA : A.length = 32) (hB : B.length = 32) : (frm (sn pairS) [A, B]).length = 85 := by
  rw [frm_len, pair_sn]; simp [blobs, hA, hB]
theorem pair_bytes {A B : List Int} (bA : Bytes A) (bB : Bytes B) : Bytes (frm (sn pairS) [A, B]) :=
  frm_bytes (sn_bytes _) (by rw [pair_sn]; decide) (fun b hb => by simp only [List.mem_cons, List.not_mem_nil, or_false] at hb; rcases hb with rfl | rfl <;> assumption)

/-! ### Two rows of the call's own -/
theorem FrS.born {W0 W : World} (hb : Below W0.heap.size W0 W) {k : Nat} (hk : W.heap.size = k) : FrS W0 (W.alloc (.cells #[] 5)) (.slice (some ⟨k, 0, none⟩) 0 0) [] 0 := by
  subst hk
  exact ⟨own_empty W _ 1, (fun g hg => by have := hb.size; simp [Value.ownBlock] at hg; omega), hb.alloc hb.size _⟩
structure Two (W0 W : World) (v v' : Value) (xs ys : List Int) (n m : Nat) : Prop where
  a : FrS W0 W v xs n
  b : FrS W0 W v' ys m
  ne : ∀ g, v.ownBlock = some g → v'.ownBlock ≠ some g
theorem Two.symm {W0 W : World} {v v' : Value} {xs ys : List Int} {n m : Nat} (h : Two W0 W v v' xs ys n m) : Two W0 W v' v ys xs m n := ⟨h.b, h.a, fun g e e' => h.ne g e' e⟩
theorem Two.ofA {W0 W : World} {v : Value} {xs : List Int} {n : Nat} (h : FrS W0 W v xs n) {k : Nat} (hk : W.heap.size = k) : Two W0 (W.alloc (.cells #[] 5)) v (.slice (some ⟨k, 0, none⟩) 0 0) xs [] n 0 := by
  subst hk
  exact ⟨h.on ((Below.refl _ _).alloc (Nat.le_refl _) _), FrS.born h.below rfl, fun g e e' => by have := own_lt h.own e; simp [Value.ownBlock] at e'; omega⟩
theorem Two.growA {W0 W w2 : World} {v v' v2 : Value} {xs ys zs : List Int} {n m k : Nat} (h : Two W0 W v v' xs ys n m) (own : w2.ownsRow 0 5 1 v2 (n + k) (bc xs ++ bc zs)) (grow : W.grownBy w2 v.ownBlock) (fr : v2.ownBlock = v.ownBlock ∨ v2.ownBlock = some W.heap.size) : Two W0 w2 v2 v' (xs ++ zs) ys (n + k) m := by
  have ha := h.a.grow own grow fr
  refine ⟨ha, ⟨own_chg2 h.b.own (Chg.grown grow (S := v.ownBlock.toList) (fun g hg => Option.mem_toList.2 hg)) (fun g hg hm => h.ne g (Option.mem_toList.1 hm) hg), h.b.fresh, ha.below⟩, fun g e e' => ?_⟩
  rcases fr with e1 | e1
  · rw [e1] at e; exact h.ne g e e'
  · rw [e1] at e; have := own_lt h.b.own e'; simp at e; omega

set_option maxHeartbeats 4000000 in
theorem Pair_any {w : World} {A B : List Int} (hT : Tbl w) (hA : A.length = 32) (hB : B.length = 32) (bA : Bytes A) (bB : Bytes B) :
    Calls Tryd.prog 44 #[.agg (hc A).toArray, .agg (hc B).toArray] w fun e w' => e = .returned (.agg (hc (sha (frm (sn pairS) [A, B]))).toArray) ∧ Below w.heap.size w w' := by
  have LL := Lib.hid (pair_len hA hB)
  have BX := Lib.hid (pair_bytes bA bB)
  have HA := Lib.hid ((HashAt.new w A).alloc (.cells (hc B).toArray 23) |>.alloc (.cells (hc zero32).toArray 23))
  have HB := Lib.hid ((HashAt.new (w.alloc (.cells (hc A).toArray 23)) B).alloc (.cells (hc zero32).toArray 23))
  have HZ := Lib.hid (HashAt.new ((w.alloc (.cells (hc A).toArray 23)).alloc (.cells (hc B).toArray 23)) zero32)
  have B0 := Lib.hid ((((Below.refl w.heap.size w).alloc (Nat.le_refl _) (.cells (hc A).toArray 23)).alloc (by simp) (.cells (hc B).toArray 23)).alloc (by simp; omega) (.cells (hc zero32).toArray 23))
  have hlA : (hc A).length = 32 := by rw [hc_len, hA]
  have hlB : (hc B).length = 32 := by rw [hc_len, hB]
  obtain ⟨i0, hi, hz0, hz1, hz2⟩ := info_parts Tryd.infoU8
  replace hi := Lib.hid hi
  replace hz0 := Lib.hid hz0
  replace hz1 := Lib.hid hz1
  replace hz2 := Lib.hid hz2
  replace hA := Lib.hid hA
  replace hB := Lib.hid hB
  clear bA bB
  go_enter Tryd.func44, Tryd.ntmps44
  go_wp2_with fail
  simp only [World.size_alloc] at HB HZ
  generalize ((w.alloc (.cells (hc A).toArray 23)).alloc (.cells (hc B).toArray 23)).alloc (.cells (hc zero32).toArray 23) = W0 at *
  refine wp_region_held_drew (S := fun W => Below w.heap.size w W) (by kernel_rfl) (B0.out.drew) (fun h0 => ?_)
  refine wpAnyH_take (i := 0) (v := ?_) (by rw [List.getElem?_toArray]; rfl) (by kernel_rfl) (by kernel_rfl) (by kernel_rfl) (by exact fun _ _ _ h => h) (Or.inl ⟨by rfl, ?_⟩) h0 ?_
  rotate_left
  · intro W hW
    go_simp
    all_goals with_reducible rfl
  try simp only [Act.put, List.setIfInBounds_toArray, List.set_cons_zero, List.set_cons_succ]
  refine wpAnyH_take (i := 1) (v := ?_) (by rw [List.getElem?_toArray]; rfl) (by kernel_rfl) (by kernel_rfl) (by kernel_rfl) (by exact fun _ _ _ h => h) (Or.inl ⟨by rfl, ?_⟩) h0 ?_
  rotate_left
  · intro W hW
    go_simp
    all_goals with_reducible rfl
  try simp only [Act.put, List.setIfInBounds_toArray, List.set_cons_zero, List.set_cons_succ]
  refine wpAnyH_ready (rs := [2]) (by kernel_rfl) (by simp) ?_
  refine AllReadyH.cons (by rw [List.getElem?_toArray]; rfl) (fun K hK => ?_) AllReadyH.nil
  rw [if_pos (by rfl)]
  have G0 : Below W0.heap.size W0 W0.drew := (Below.refl _ _).drew
  go_wp2_with fail
  refine hK.out _ _ (h0.alloc h0.size _) (fun h2 => ?_)
  clear hK K
  try simp only [Act.put, List.setIfInBounds_toArray, List.set_cons_zero, List.set_cons_succ]
  have RL := two_rdl ((HA.out.on G0).rd hA.out) ((HB.out.on G0).rd hB.out)
  have RL2 := Lib.hid RL
  have G2 := G0.alloc G0.size (.cells #[.slice (some ⟨w.heap.size, 0, none⟩) 32 32, .slice (some ⟨w.heap.size + 1, 0, none⟩) 32 32] 64)
  clear RL
  refine wpAnyH_ready (rs := [3]) (by kernel_rfl) (by simp) ?_
  refine AllReadyH.cons (by rw [List.getElem?_toArray]; rfl) (fun K hK => ?_) AllReadyH.nil
  rw [if_pos (by rfl)]
  go_wp2_with fail
  refine (Tagged_any (s := pairS) RL2.out (hT.on h2 hT.pos) (by decide) (cut_small (by decide)) (by rw [LL.out]; omega) BX.out).mono ?_
  rintro e w8 ⟨rfl, hb8⟩
  have hB8 : Below W0.heap.size W0 w8 := G2.trans (hb8.mono G2.size)
  go_wp2_with fail
  refine hK.out _ _ (h2.trans (hb8.mono h2.size)) (fun h3 => ?_)
  clear hK K
  try simp only [Act.put, List.setIfInBounds_toArray, List.set_cons_zero, List.set_cons_succ]
  refine wpAnyH_ready (rs := [4]) (by kernel_rfl) (by simp) ?_
  refine AllReadyH.cons (by rw [List.getElem?_toArray]; rfl) (fun K hK => ?_) AllReadyH.nil
  rw [if_pos (by rfl)]
  have H3 := HZ.out.on hB8
  have B3 := B0.out.trans (hB8.mono B0.out.size)
  have hth3 := H3.there zero32_len
  have hlen := sha_len (frm (sn pairS) [A, B])
  have hput := (H3.put zero32_len hlen).row hlen
  have HX := Lib.hid (below_setCells' (B := w.heap.size) (w.heap.size + 1 + 1) (by omega) (hc (sha (frm (sn pairS) [A, B]))) 0 B3)
  generalize hF : sha (frm (sn pairS) [A, B]) = F at *
  have HF := Lib.hid hF
  clear hF hb8 H3 B3
  go_wp2_with fail
  refine hK.out _ _ (HX.out) (fun _ => ?_)
  clear hK K
  try simp only [Act.put, List.setIfInBounds_toArray, List.set_cons_zero, List.set_cons_succ]
  refine wpAnyH_done (by kernel_rfl) ?_ _
  go_wp2_with fail
  refine bodyPost_ret (v := .agg (hc F).toArray) (by simp [results, Tryd.results44, go_sem, hput, hlen]) rfl ⟨by rw [HF.out], HX.out⟩

set_option maxHeartbeats 4000000 in
theorem refPair_any {w : World} {A B : List Int} (hA : A.length = 32) (hB : B.length = 32) (bA : Bytes A) (bB : Bytes B) :
    Calls Tryd.prog 45 #[.agg (hc A).toArray, .agg (hc B).toArray] w fun e w' => e = .returned (.agg (hc (sha (frm (sn pairS) [A, B]))).toArray) ∧ Below w.heap.size w w' := by
  have LL := Lib.hid (pair_len hA hB)
  have BX := Lib.hid (pair_bytes bA bB)
  have HA := Lib.hid ((HashAt.new w A).alloc (.cells (hc B).toArray 23) |>.alloc (.cells (hc zero32).toArray 23))
  have HB := Lib.hid ((HashAt.new (w.alloc (.cells (hc A).toArray 23)) B).alloc (.cells (hc zero32).toArray 23))
  have HZ := Lib.hid (HashAt.new ((w.alloc (.cells (hc A).toArray 23)).alloc (.cells (hc B).toArray 23)) zero32)
  have B0 := Lib.hid ((((Below.refl w.heap.size w).alloc (Nat.le_refl _) (.cells (hc A).toArray 23)).alloc (by simp) (.cells (hc B).toArray 23)).alloc (by simp; omega) (.cells (hc zero32).toArray 23))
  have hlA : (hc A).length = 32 := by rw [hc_len, hA]
  have hlB : (hc B).length = 32 := by rw [hc_len, hB]
  obtain ⟨i0, hi, hz0, hz1, hz2⟩ := info_parts Tryd.infoU8
  replace hi := Lib.hid hi
  replace hz0 := Lib.hid hz0
  replace hz1 := Lib.hid hz1
  replace hz2 := Lib.hid hz2
  replace hA := Lib.hid hA
  replace hB := Lib.hid hB
  clear bA bB
  go_enter Tryd.func45, Tryd.ntmps45
  go_wp2_with fail
  simp only [World.size_alloc] at HB HZ
  generalize ((w.alloc (.cells (hc A).toArray 23)).alloc (.cells (hc B).toArray 23)).alloc (.cells (hc zero32).toArray 23) = W0 at *
  refine wp_region_held_drew (S := fun W => Below w.heap.size w W) (by kernel_rfl) (B0.out.drew) (fun h0 => ?_)
  have G0 : Below W0.heap.size W0 W0.drew := (Below.refl _ _).drew
  refine wpAnyH_take (i := 1) (v := ?_) (by rw [List.getElem?_toArray]; rfl) (by kernel_rfl) (by kernel_rfl) (by kernel_rfl) (by exact fun _ _ _ h => h) (Or.inl ⟨by rfl, ?_⟩) h0 ?_
  rotate_left
  · intro W hW
    go_simp
    all_goals with_reducible rfl
  try simp only [Act.put, List.setIfInBounds_toArray, List.set_cons_zero, List.set_cons_succ]
  refine wpAnyH_take (i := 4) (v := ?_) (by rw [List.getElem?_toArray]; rfl) (by kernel_rfl) (by kernel_rfl) (by kernel_rfl) (by exact fun _ _ _ h => h) (Or.inl ⟨by rfl, ?_⟩) h0 ?_
  rotate_left
  · intro W hW
    go_simp
    all_goals with_reducible rfl
  try simp only [Act.put, List.setIfInBounds_toArray, List.set_cons_zero, List.set_cons_succ]
  refine wpAnyH_ready (rs := [0, 3]) (by kernel_rfl) (by simp) ?_
  refine AllReadyH.cons (by rw [List.getElem?_toArray]; rfl) (fun K hK => ?_) (AllReadyH.cons (by rw [List.getElem?_toArray]; rfl) (fun K hK => ?_) AllReadyH.nil)
  · rw [if_pos (by rfl)]
    go_wp2_with fail
    have R1 := Lib.hid (FrS.born G0 (k := W0.heap.size) rfl)
    have G1 := G0.alloc G0.size (.cells #[] 5)
    refine hK.out _ _ (h0.alloc h0.size _) (fun h1 => ?_)
    clear hK K
    try simp only [Act.put, List.setIfInBounds_toArray, List.set_cons_zero, List.set_cons_succ]
    refine wpAnyH_ready (rs := [2, 3]) (by kernel_rfl) (by simp) ?_
    refine AllReadyH.cons (by rw [List.getElem?_toArray]; rfl) (fun K hK => ?_) (AllReadyH.cons (by rw [List.getElem?_toArray]; rfl) (fun K hK => ?_) AllReadyH.nil)
    · rw [if_pos (by rfl)]
      refine wp_append_row _ _ rfl Tryd.underlying64 hi.out hz0.out hz1.out hz2.out rfl R1.out.own (((HA.out.on G1).rd hA.out).src Tryd.underlying64) (by rw [hA.out]; unfold maxLen; omega) (by rw [hA.out]; omega) ?_
      intro q2 k2 w2 own2 grow2 fr2
      have R2 := Lib.hid (R1.out.grow own2 grow2 fr2)
      have G2 := R2.out.below
      clear own2 grow2 fr2
      refine hK.out _ _ (B0.out.trans (G2.mono B0.out.size)) (fun h2 => ?_)
      clear hK K
      try simp only [Act.put, List.setIfInBounds_toArray, List.set_cons_zero, List.set_cons_succ]
      refine wpAnyH_ready (rs := [3]) (by kernel_rfl) (by simp) ?_
      refine AllReadyH.cons (by rw [List.getElem?_toArray]; rfl) (fun K hK => ?_) AllReadyH.nil
      · rw [if_pos (by rfl)]
        go_wp2_with fail
        have R3 := Lib.hid (Two.ofA R2.out (k := w2.heap.size) rfl)
        have G3 := G2.alloc G2.size (.cells #[] 5)
        refine hK.out _ _ (h2.alloc h2.size _) (fun h3 => ?_)
        clear hK K
        try simp only [Act.put, List.setIfInBounds_toArray, List.set_cons_zero, List.set_cons_succ]
        refine wpAnyH_ready (rs := [5]) (by kernel_rfl) (by simp) ?_
        refine AllReadyH.cons (by rw [List.getElem?_toArray]; rfl) (fun K hK => ?_) AllReadyH.nil
        · rw [if_pos (by rfl)]
          refine wp_append_row _ _ rfl Tryd.underlying64 hi.out hz0.out hz1.out hz2.out rfl R3.out.b.own (((HB.out.on G3).rd hB.out).src Tryd.underlying64) (by rw [hB.out]; unfold maxLen; omega) (by rw [hB.out]; omega) ?_
          intro q4 k4 w4 own4 grow4 fr4
          have R4 := Lib.hid (R3.out.symm.growA own4 grow4 fr4).symm
          have G4 := R4.out.a.below
          clear own4 grow4 fr4
          refine hK.out _ _ (B0.out.trans (G4.mono B0.out.size)) (fun h4 => ?_)
          clear hK K
          try simp only [Act.put, List.setIfInBounds_toArray, List.set_cons_zero, List.set_cons_succ]
          refine wpAnyH_ready (rs := [6]) (by kernel_rfl) (by simp) ?_
          refine AllReadyH.cons (by rw [List.getElem?_toArray]; rfl) (fun K hK => ?_) AllReadyH.nil
          · rw [if_pos (by rfl)]
            go_wp2_with fail
            have RL := two_rdl R4.out.a.rd R4.out.b.rd
            simp only [List.nil_append, Nat.zero_add] at RL
            have RL2 := Lib.hid RL
            clear RL
            have G5 := G4.alloc G4.size (.cells #[.slice q2 A.length k2, .slice q4 B.length k4] 64)
            refine hK.out _ _ (h4.alloc h4.size _) (fun h5 => ?_)
            clear hK K
            try simp only [Act.put, List.setIfInBounds_toArray, List.set_cons_zero, List.set_cons_succ]
            refine wpAnyH_ready (rs := [7]) (by kernel_rfl) (by simp) ?_
            refine AllReadyH.cons (by rw [List.getElem?_toArray]; rfl) (fun K hK => ?_) AllReadyH.nil
            · rw [if_pos (by rfl)]
              go_wp2_with fail
              refine (refTagged_any (s := pairS) RL2.out (by decide) (cut_small (by decide)) (by rw [LL.out]; omega) BX.out).mono ?_
              rintro e w8 ⟨rfl, hb8⟩
              have hB8 : Below W0.heap.size W0 w8 := G5.trans (hb8.mono G5.size)
              go_wp2_with fail
              have G6 := hB8
              refine hK.out _ _ (h5.trans (hb8.mono h5.size)) (fun h6 => ?_)
              clear hK K
              try simp only [Act.put, List.setIfInBounds_toArray, List.set_cons_zero, List.set_cons_succ]
              refine wpAnyH_ready (rs := [8]) (by kernel_rfl) (by simp) ?_
              refine AllReadyH.cons (by rw [List.getElem?_toArray]; rfl) (fun K hK => ?_) AllReadyH.nil
              · rw [if_pos (by rfl)]
                have H3 := HZ.out.on hB8
                have B3 := B0.out.trans (hB8.mono B0.out.size)
                have hth3 := H3.there zero32_len
                have hlen := sha_len (frm (sn pairS) [A, B])
                have hput := (H3.put zero32_len hlen).row hlen
                have HX := Lib.hid (below_setCells' (B := w.heap.size) (w.heap.size + 1 + 1) (by omega) (hc (sha (frm (sn pairS) [A, B]))) 0 B3)
                generalize hF : sha (frm (sn pairS) [A, B]) = F at *
                have HF := Lib.hid hF
                clear hF hb8 H3 B3
                go_wp2_with fail
                refine hK.out _ _ (HX.out) (fun h7 => ?_)
                clear hK K
                try simp only [Act.put, List.setIfInBounds_toArray, List.set_cons_zero, List.set_cons_succ]
                refine wpAnyH_done (by kernel_rfl) ?_ _
                go_wp2_with fail
                refine bodyPost_ret (v := .agg (hc F).toArray) (by simp [results, Tryd.results45, go_sem, hput, hlen]) rfl ⟨by rw [HF.out], HX.out⟩
    · rw [if_pos (by rfl)]
      go_wp2_with fail
      have R2 := Lib.hid (Two.ofA R1.out (k := W0.heap.size + 1) (by simp))
      have G2 := G1.alloc G1.size (.cells #[] 5)
      refine hK.out _ _ (h1.alloc h1.size _) (fun h2 => ?_)
      clear hK K
      try simp only [Act.put, List.setIfInBounds_toArray, List.set_cons_zero, List.set_cons_succ]
      refine wpAnyH_ready (rs := [2]) (by kernel_rfl) (by simp) ?_
      refine AllReadyH.cons (by rw [List.getElem?_toArray]; rfl) (fun K hK => ?_) AllReadyH.nil
      · rw [if_pos (by rfl)]
        refine wp_append_row _ _ rfl Tryd.underlying64 hi.out hz0.out hz1.out hz2.out rfl R2.out.a.own (((HA.out.on G2).rd hA.out).src Tryd.underlying64) (by rw [hA.out]; unfold maxLen; omega) (by rw [hA.out]; omega) ?_
        intro q3 k3 w3 own3 grow3 fr3
        have R3 := Lib.hid (R2.out.growA own3 grow3 fr3)
        have G3 := R3.out.a.below
        clear own3 grow3 fr3
        refine hK.out _ _ (B0.out.trans (G3.mono B0.out.size)) (fun h3 => ?_)
        clear hK K
        try simp only [Act.put, List.setIfInBounds_toArray, List.set_cons_zero, List.set_cons_succ]
        refine wpAnyH_ready (rs := [5]) (by kernel_rfl) (by simp) ?_
        refine AllReadyH.cons (by rw [List.getElem?_toArray]; rfl) (fun K hK => ?_) AllReadyH.nil
        · rw [if_pos (by rfl)]
          refine wp_append_row _ _ rfl Tryd.underlying64 hi.out hz0.out hz1.out hz2.out rfl R3.out.b.own (((HB.out.on G3).rd hB.out).src Tryd.underlying64) (by rw [hB.out]; unfold maxLen; omega) (by rw [hB.out]; omega) ?_
          intro q4 k4 w4 own4 grow4 fr4
          have R4 := Lib.hid (R3.out.symm.growA own4 grow4 fr4).symm
          have G4 := R4.out.a.below
          clear own4 grow4 fr4
          refine hK.out _ _ (B0.out.trans (G4.mono B0.out.size)) (fun h4 => ?_)
          clear hK K
          try simp only [Act.put, List.setIfInBounds_toArray, List.set_cons_zero, List.set_cons_succ]
          refine wpAnyH_ready (rs := [6]) (by kernel_rfl) (by simp) ?_
          refine AllReadyH.cons (by rw [List.getElem?_toArray]; rfl) (fun K hK => ?_) AllReadyH.nil
          · rw [if_pos (by rfl)]
            go_wp2_with fail
            have RL := two_rdl R4.out.a.rd R4.out.b.rd
            simp only [List.nil_append, Nat.zero_add] at RL
            have RL2 := Lib.hid RL
            clear RL
            have G5 := G4.alloc G4.size (.cells #[.slice q3 A.length k3, .slice q4 B.length k4] 64)
            refine hK.out _ _ (h4.alloc h4.size _) (fun h5 => ?_)
            clear hK K
            try simp only [Act.put, List.setIfInBounds_toArray, List.set_cons_zero, List.set_cons_succ]
            refine wpAnyH_ready (rs := [7]) (by kernel_rfl) (by simp) ?_
            refine AllReadyH.cons (by rw [List.getElem?_toArray]; rfl) (fun K hK => ?_) AllReadyH.nil
            · rw [if_pos (by rfl)]
              go_wp2_with fail
              refine (refTagged_any (s := pairS) RL2.out (by decide) (cut_small (by decide)) (by rw [LL.out]; omega) BX.out).mono ?_
              rintro e w8 ⟨rfl, hb8⟩
              have hB8 : Below W0.heap.size W0 w8 := G5.trans (hb8.mono G5.size)
              go_wp2_with fail
              have G6 := hB8
              refine hK.out _ _ (h5.trans (hb8.mono h5.size)) (fun h6 => ?_)
              clear hK K
              try simp only [Act.put, List.setIfInBounds_toArray, List.set_cons_zero, List.set_cons_succ]
              refine wpAnyH_ready (rs := [8]) (by kernel_rfl) (by simp) ?_
              refine AllReadyH.cons (by rw [List.getElem?_toArray]; rfl) (fun K hK => ?_) AllReadyH.nil
              · rw [if_pos (by rfl)]
                have H3 := HZ.out.on hB8
                have B3 := B0.out.trans (hB8.mono B0.out.size)
                have hth3 := H3.there zero32_len
                have hlen := sha_len (frm (sn pairS) [A, B])
                have hput := (H3.put zero32_len hlen).row hlen
                have HX := Lib.hid (below_setCells' (B := w.heap.size) (w.heap.size + 1 + 1) (by omega) (hc (sha (frm (sn pairS) [A, B]))) 0 B3)
                generalize hF : sha (frm (sn pairS) [A, B]) = F at *
                have HF := Lib.hid hF
                clear hF hb8 H3 B3
                go_wp2_with fail
                refine hK.out _ _ (HX.out) (fun h7 => ?_)
                clear hK K
                try simp only [Act.put, List.setIfInBounds_toArray, List.set_cons_zero, List.set_cons_succ]
                refine wpAnyH_done (by kernel_rfl) ?_ _
                go_wp2_with fail
                refine bodyPost_ret (v := .agg (hc F).toArray) (by simp [results, Tryd.results45, go_sem, hput, hlen]) rfl ⟨by rw [HF.out], HX.out⟩
  · rw [if_pos (by rfl)]
    go_wp2_with fail
    have R1 := Lib.hid (FrS.born G0 (k := W0.heap.size) rfl)
    have G1 := G0.alloc G0.size (.cells #[] 5)
    refine hK.out _ _ (h0.alloc h0.size _) (fun h1 => ?_)
    clear hK K
    try simp only [Act.put, List.setIfInBounds_toArray, List.set_cons_zero, List.set_cons_succ]
    refine wpAnyH_ready (rs := [0]) (by kernel_rfl) (by simp) ?_
    refine AllReadyH.cons (by rw [List.getElem?_toArray]; rfl) (fun K hK => ?_) AllReadyH.nil
    · rw [if_pos (by rfl)]
      go_wp2_with fail
      have R2 := Lib.hid (Two.ofA R1.out (k := W0.heap.size + 1) (by simp)).symm
      have G2 := G1.alloc G1.size (.cells #[] 5)
      refine hK.out _ _ (h1.alloc h1.size _) (fun h2 => ?_)
      clear hK K
      try simp only [Act.put, List.setIfInBounds_toArray, List.set_cons_zero, List.set_cons_succ]
      refine wpAnyH_ready (rs := [2]) (by kernel_rfl) (by simp) ?_
      refine AllReadyH.cons (by rw [List.getElem?_toArray]; rfl) (fun K hK => ?_) AllReadyH.nil
      · rw [if_pos (by rfl)]
        refine wp_append_row _ _ rfl Tryd.underlying64 hi.out hz0.out hz1.out hz2.out rfl R2.out.a.own (((HA.out.on G2).rd hA.out).src Tryd.underlying64) (by rw [hA.out]; unfold maxLen; omega) (by rw [hA.out]; omega) ?_
        intro q3 k3 w3 own3 grow3 fr3
        have R3 := Lib.hid (R2.out.growA own3 grow3 fr3)
        have G3 := R3.out.a.below
        clear own3 grow3 fr3
        refine hK.out _ _ (B0.out.trans (G3.mono B0.out.size)) (fun h3 => ?_)
        clear hK K
        try simp only [Act.put, List.setIfInBounds_toArray, List.set_cons_zero, List.set_cons_succ]
        refine wpAnyH_ready (rs := [5]) (by kernel_rfl) (by simp) ?_
        refine AllReadyH.cons (by rw [List.getElem?_toArray]; rfl) (fun K hK => ?_) AllReadyH.nil
        · rw [if_pos (by rfl)]
          refine wp_append_row _ _ rfl Tryd.underlying64 hi.out hz0.out hz1.out hz2.out rfl R3.out.b.own (((HB.out.on G3).rd hB.out).src Tryd.underlying64) (by rw [hB.out]; unfold maxLen; omega) (by rw [hB.out]; omega) ?_
          intro q4 k4 w4 own4 grow4 fr4
          have R4 := Lib.hid (R3.out.symm.growA own4 grow4 fr4).symm
          have G4 := R4.out.a.below
          clear own4 grow4 fr4
          refine hK.out _ _ (B0.out.trans (G4.mono B0.out.size)) (fun h4 => ?_)
          clear hK K
          try simp only [Act.put, List.setIfInBounds_toArray, List.set_cons_zero, List.set_cons_succ]
          refine wpAnyH_ready (rs := [6]) (by kernel_rfl) (by simp) ?_
          refine AllReadyH.cons (by rw [List.getElem?_toArray]; rfl) (fun K hK => ?_) AllReadyH.nil
          · rw [if_pos (by rfl)]
            go_wp2_with fail
            have RL := two_rdl R4.out.a.rd R4.out.b.rd
            simp only [List.nil_append, Nat.zero_add] at RL
            have RL2 := Lib.hid RL
            clear RL
            have G5 := G4.alloc G4.size (.cells #[.slice q3 A.length k3, .slice q4 B.length k4] 64)
            refine hK.out _ _ (h4.alloc h4.size _) (fun h5 => ?_)
            clear hK K
            try simp only [Act.put, List.setIfInBounds_toArray, List.set_cons_zero, List.set_cons_succ]
            refine wpAnyH_ready (rs := [7]) (by kernel_rfl) (by simp) ?_
            refine AllReadyH.cons (by rw [List.getElem?_toArray]; rfl) (fun K hK => ?_) AllReadyH.nil
            · rw [if_pos (by rfl)]
              go_wp2_with fail
              refine (refTagged_any (s := pairS) RL2.out (by decide) (cut_small (by decide)) (by rw [LL.out]; omega) BX.out).mono ?_
              rintro e w8 ⟨rfl, hb8⟩
              have hB8 : Below W0.heap.size W0 w8 := G5.trans (hb8.mono G5.size)
              go_wp2_with fail
              have G6 := hB8
              refine hK.out _ _ (h5.trans (hb8.mono h5.size)) (fun h6 => ?_)
              clear hK K
              try simp only [Act.put, List.setIfInBounds_toArray, List.set_cons_zero, List.set_cons_succ]
              refine wpAnyH_ready (rs := [8]) (by kernel_rfl) (by simp) ?_
              refine AllReadyH.cons (by rw [List.getElem?_toArray]; rfl) (fun K hK => ?_) AllReadyH.nil
              · rw [if_pos (by rfl)]
                have H3 := HZ.out.on hB8
                have B3 := B0.out.trans (hB8.mono B0.out.size)
                have hth3 := H3.there zero32_len
                have hlen := sha_len (frm (sn pairS) [A, B])
                have hput := (H3.put zero32_len hlen).row hlen
                have HX := Lib.hid (below_setCells' (B := w.heap.size) (w.heap.size + 1 + 1) (by omega) (hc (sha (frm (sn pairS) [A, B]))) 0 B3)
                generalize hF : sha (frm (sn pairS) [A, B]) = F at *
                have HF := Lib.hid hF
                clear hF hb8 H3 B3
                go_wp2_with fail
                refine hK.out _ _ (HX.out) (fun h7 => ?_)
                clear hK K
                try simp only [Act.put, List.setIfInBounds_toArray, List.set_cons_zero, List.set_cons_succ]
                refine wpAnyH_done (by kernel_rfl) ?_ _
                go_wp2_with fail
                refine bodyPost_ret (v := .agg (hc F).toArray) (by simp [results, Tryd.results45, go_sem, hput, hlen]) rfl ⟨by rw [HF.out], HX.out⟩
end Go.Proofs.YtjgfjmkfcippcaaDoor
