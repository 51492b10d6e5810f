/-
  Pair, in the program and in the reference.; Package lane: a number's bytes, an item's digest; the document's.; Package lane: an item's digest, in the program and in the reference.; Package lane: a list's digest.; The document's top of a list.
-/
import Derived.Test.YtebeacejlkiglaaDoorMa5
import Derived.Test.YtebeacejlkiglaaDoorMa7
namespace Go.Proofs.YtebeacejlkiglaaDoor
open Go.RowKit
set_option maxRecDepth 100000

def pairS : ByteArray := ⟨#[112, 97, 105, 114]⟩
theorem pair_sn : sn pairS = [112, 97, 105, 114] := by rfl
theorem HashAt.rd {w : World} {b : Nat} {A : List Int} (h : HashAt w b A) (hA : A.length = 32) : Rd w (.slice (some ⟨b, 0, none⟩) 32 32) A :=
  ⟨_, 32, by rw [hA], .inr ⟨b, 0, rfl, fun i hi => by rw [Nat.zero_add]; exact h.cell hi⟩⟩
theorem two_rdl {W : World} {v v' : Value} {A B : List Int} (h : Rd W v A) (h' : Rd W v' B) : RdL (W.alloc (.cells #[v, v'] 42)) (.slice (some ⟨W.heap.size, 0, none⟩) 2 2) [A, B] [] := by
  refine ⟨_, 2, rfl, .inr ⟨W.heap.size, 0, rfl, by simp, fun i hi => ?_⟩⟩
  have hb := heap_alloc_new W (.cells #[v, v'] 42)
  rw [Nat.zero_add, Joins.cell_of_block hb]
  have e : i = 0 ∨ i = 1 := by simp at hi; omega
  rcases e with rfl | rfl
  · exact ⟨v, rfl, h.alloc _, by simp⟩
  · exact ⟨v', rfl, h'.alloc _, by simp⟩
theorem pair_len {A B : List Int} (hA : A.length = 32) (hB : B.length = 32) : (frm (sn pairS) [A, B]).length = 85 := by
  rw [frm_len, pair_sn]; simp [blobs, hA, hB]
theorem pair_bytes {A B : List Int} (bA : Bytes A) (bB : Bytes B) : Bytes (frm (sn pairS) [A, B]) :=
  frm_bytes (sn_bytes _) (by rw [pair_sn]; decide) (fun b hb => by simp only [List.mem_cons, List.not_mem_nil, or_false] at hb; rcases hb with rfl | rfl <;> assumption)

/-! ### Two rows of the call's own -/
theorem FrS.born {W0 W : World} (hb : Below W0.heap.size W0 W) {k : Nat} (hk : W.heap.size = k) : FrS W0 (W.alloc (.cells #[] 5)) (.slice (some ⟨k, 0, none⟩) 0 0) [] 0 := by
  subst hk
  exact ⟨own_empty W _ 1, (fun g hg => by have := hb.size; simp [Value.ownBlock] at hg; omega), hb.alloc hb.size _⟩
structure Two (W0 W : World) (v v' : Value) (xs ys : List Int) (n m : Nat) : Prop where
  a : FrS W0 W v xs n
  b : FrS W0 W v' ys m
  ne : ∀ g, v.ownBlock = some g → v'.ownBlock ≠ some g
theorem Two.symm {W0 W : World} {v v' : Value} {xs ys : List Int} {n m : Nat} (h : Two W0 W v v' xs ys n m) : Two W0 W v' v ys xs m n := ⟨h.b, h.a, fun g e e' => h.ne g e' e⟩
theorem Two.ofA {W0 W : World} {v : Value} {xs : List Int} {n : Nat} (h : FrS W0 W v xs n) {k : Nat} (hk : W.heap.size = k) : Two W0 (W.alloc (.cells #[] 5)) v (.slice (some ⟨k, 0, none⟩) 0 0) xs [] n 0 := by
  subst hk
  exact ⟨h.on ((Below.refl _ _).alloc (Nat.le_refl _) _), FrS.born h.below rfl, fun g e e' => by have := own_lt h.own e; simp [Value.ownBlock] at e'; omega⟩
theorem Two.growA {W0 W w2 : World} {v v' v2 : Value} {xs ys zs : List Int} {n m k : Nat} (h : Two W0 W v v' xs ys n m) (own : w2.ownsRow 0 5 1 v2 (n + k) (bc xs ++ bc zs)) (grow : W.grownBy w2 v.ownBlock) (fr : v2.ownBlock = v.ownBlock ∨ v2.ownBlock = some W.heap.size) : Two W0 w2 v2 v' (xs ++ zs) ys (n + k) m := by
  have ha := h.a.grow own grow fr
  refine ⟨ha, ⟨own_chg2 h.b.own (Chg.grown grow (S := v.ownBlock.toList) (fun g hg => Option.mem_toList.2 hg)) (fun g hg hm => h.ne g (Option.mem_toList.1 hm) hg), h.b.fresh, ha.below⟩, fun g e e' => ?_⟩
  rcases fr with e1 | e1
  · rw [e1] at e; exact h.ne g e e'
  · rw [e1] at e; have := own_lt h.b.own e'; simp at e; omega

set_option maxHeartbeats 4000000 in
theorem Pair_any {w : World} {A B : List Int} (hT : Tbl w) (hA : A.length = 32) (hB : B.length = 32) (bA : Bytes A) (bB : Bytes B) :
    Calls Tryd.prog 37 #[.agg (hc A).toArray, .agg (hc B).toArray] w fun e w' => e = .returned (.agg (hc (sha (frm (sn pairS) [A, B]))).toArray) ∧ Below w.heap.size w w' := by
  have LL := Lib.hid (pair_len hA hB)
  have BX := Lib.hid (pair_bytes bA bB)
  have HA := Lib.hid ((HashAt.new w A).alloc (.cells (hc B).toArray 36) |>.alloc (.cells (hc zero32).toArray 36))
  have HB := Lib.hid ((HashAt.new (w.alloc (.cells (hc A).toArray 36)) B).alloc (.cells (hc zero32).toArray 36))
  have HZ := Lib.hid (HashAt.new ((w.alloc (.cells (hc A).toArray 36)).alloc (.cells (hc B).toArray 36)) zero32)
  have B0 := Lib.hid ((((Below.refl w.heap.size w).alloc (Nat.le_refl _) (.cells (hc A).toArray 36)).alloc (by simp) (.cells (hc B).toArray 36)).alloc (by simp; omega) (.cells (hc zero32).toArray 36))
  have hlA : (hc A).length = 32 := by rw [hc_len, hA]
  have hlB : (hc B).length = 32 := by rw [hc_len, hB]
  obtain ⟨i0, hi, hz0, hz1, hz2⟩ := info_parts Tryd.infoU8
  replace hi := Lib.hid hi
  replace hz0 := Lib.hid hz0
  replace hz1 := Lib.hid hz1
  replace hz2 := Lib.hid hz2
  replace hA := Lib.hid hA
  replace hB := Lib.hid hB
  clear bA bB
  go_enter Tryd.func37, Tryd.ntmps37
  go_wp2_with fail
  simp only [World.size_alloc] at HB HZ
  generalize ((w.alloc (.cells (hc A).toArray 36)).alloc (.cells (hc B).toArray 36)).alloc (.cells (hc zero32).toArray 36) = W0 at *
  refine wp_region_held_drew (S := fun W => Below w.heap.size w W) (by kernel_rfl) (B0.out.drew) (fun h0 => ?_)
  refine wpAnyH_take (i := 0) (v := ?_) (by rw [List.getElem?_toArray]; rfl) (by kernel_rfl) (by kernel_rfl) (by kernel_rfl) (by exact fun _ _ _ h => h) (Or.inl ⟨by rfl, ?_⟩) h0 ?_
  rotate_left
  · intro W hW
    go_simp
    all_goals with_reducible rfl
  try simp only [Act.put, List.setIfInBounds_toArray, List.set_cons_zero, List.set_cons_succ]
  refine wpAnyH_take (i := 1) (v := ?_) (by rw [List.getElem?_toArray]; rfl) (by kernel_rfl) (by kernel_rfl) (by kernel_rfl) (by exact fun _ _ _ h => h) (Or.inl ⟨by rfl, ?_⟩) h0 ?_
  rotate_left
  · intro W hW
    go_simp
    all_goals with_reducible rfl
  try simp only [Act.put, List.setIfInBounds_toArray, List.set_cons_zero, List.set_cons_succ]
  refine wpAnyH_ready (rs := [2]) (by kernel_rfl) (by simp) ?_
  refine AllReadyH.cons (by rw [List.getElem?_toArray]; rfl) (fun K hK => ?_) AllReadyH.nil
  rw [if_pos (by rfl)]
  have G0 : Below W0.heap.size W0 W0.drew := (Below.refl _ _).drew
  go_wp2_with fail
  refine hK.out _ _ (h0.alloc h0.size _) (fun h2 => ?_)
  clear hK K
  try simp only [Act.put, List.setIfInBounds_toArray, List.set_cons_zero, List.set_cons_succ]
  have RL := two_rdl ((HA.out.on G0).rd hA.out) ((HB.out.on G0).rd hB.out)
  have RL2 := Lib.hid RL
  have G2 := G0.alloc G0.size (.cells #[.slice (some ⟨w.heap.size, 0, none⟩) 32 32, .slice (some ⟨w.heap.size + 1, 0, none⟩) 32 32] 42)
  clear RL
  refine wpAnyH_ready (rs := [3]) (by kernel_rfl) (by simp) ?_
  refine AllReadyH.cons (by rw [List.getElem?_toArray]; rfl) (fun K hK => ?_) AllReadyH.nil
  rw [if_pos (by rfl)]
  go_wp2_with fail
  refine (Tagged_any (s := pairS) RL2.out (hT.on h2 hT.pos) (by decide) (cut_small (by decide)) (by rw [LL.out]; omega) BX.out).mono ?_
  rintro e w8 ⟨rfl, hb8⟩
  have hB8 : Below W0.heap.size W0 w8 := G2.trans (hb8.mono G2.size)
  go_wp2_with fail
  refine hK.out _ _ (h2.trans (hb8.mono h2.size)) (fun h3 => ?_)
  clear hK K
  try simp only [Act.put, List.setIfInBounds_toArray, List.set_cons_zero, List.set_cons_succ]
  refine wpAnyH_ready (rs := [4]) (by kernel_rfl) (by simp) ?_
  refine AllReadyH.cons (by rw [List.getElem?_toArray]; rfl) (fun K hK => ?_) AllReadyH.nil
  rw [if_pos (by rfl)]
  have H3 := HZ.out.on hB8
  have B3 := B0.out.trans (hB8.mono B0.out.size)
  have hth3 := H3.there zero32_len
  have hlen := sha_len (frm (sn pairS) [A, B])
  have hput := (H3.put zero32_len hlen).row hlen
  have HX := Lib.hid (below_setCells' (B := w.heap.size) (w.heap.size + 1 + 1) (by omega) (hc (sha (frm (sn pairS) [A, B]))) 0 B3)
  generalize hF : sha (frm (sn pairS) [A, B]) = F at *
  have HF := Lib.hid hF
  clear hF hb8 H3 B3
  go_wp2_with fail
  refine hK.out _ _ (HX.out) (fun _ => ?_)
  clear hK K
  try simp only [Act.put, List.setIfInBounds_toArray, List.set_cons_zero, List.set_cons_succ]
  refine wpAnyH_done (by kernel_rfl) ?_ _
  go_wp2_with fail
  refine bodyPost_ret (v := .agg (hc F).toArray) (by simp [results, Tryd.results37, go_sem, hput, hlen]) rfl ⟨by rw [HF.out], HX.out⟩

set_option maxHeartbeats 4000000 in
theorem refPair_any {w : World} {A B : List Int} (hA : A.length = 32) (hB : B.length = 32) (bA : Bytes A) (bB : Bytes B) :
    Calls Tryd.prog 40 #[.agg (hc A).toArray, .agg (hc B).toArray] w fun e w' => e = .returned (.agg (hc (sha (frm (sn pairS) [A, B]))).toArray) ∧ Below w.heap.size w w' := by
  have LL := Lib.hid (pair_len hA hB)
  have BX := Lib.hid (pair_bytes bA bB)
  have HA := Lib.hid ((HashAt.new w A).alloc (.cells (hc B).toArray 36) |>.alloc (.cells (hc zero32).toArray 36))
  have HB := Lib.hid ((HashAt.new (w.alloc (.cells (hc A).toArray 36)) B).alloc (.cells (hc zero32).toArray 36))
  have HZ := Lib.hid (HashAt.new ((w.alloc (.cells (hc A).toArray 36)).alloc (.cells (hc B).toArray 36)) zero32)
  have B0 := Lib.hid ((((Below.refl w.heap.size w).alloc (Nat.le_refl _) (.cells (hc A).toArray 36)).alloc (by simp) (.cells (hc B).toArray 36)).alloc (by simp; omega) (.cells (hc zero32).toArray 36))
  have hlA : (hc A).length = 32 := by rw [hc_len, hA]
  have hlB : (hc B).length = 32 := by rw [hc_len, hB]
  obtain ⟨i0, hi, hz0, hz1, hz2⟩ := info_parts Tryd.infoU8
  replace hi := Lib.hid hi
  replace hz0 := Lib.hid hz0
  replace hz1 := Lib.hid hz1
  replace hz2 := Lib.hid hz2
  replace hA := Lib.hid hA
  replace hB := Lib.hid hB
  clear bA bB
  go_enter Tryd.func40, Tryd.ntmps40
  go_wp2_with fail
  simp only [World.size_alloc] at HB HZ
  generalize ((w.alloc (.cells (hc A).toArray 36)).alloc (.cells (hc B).toArray 36)).alloc (.cells (hc zero32).toArray 36) = W0 at *
  refine wp_region_held_drew (S := fun W => Below w.heap.size w W) (by kernel_rfl) (B0.out.drew) (fun h0 => ?_)
  have G0 : Below W0.heap.size W0 W0.drew := (Below.refl _ _).drew
  refine wpAnyH_take (i := 1) (v := ?_) (by rw [List.getElem?_toArray]; rfl) (by kernel_rfl) (by kernel_rfl) (by kernel_rfl) (by exact fun _ _ _ h => h) (Or.inl ⟨by rfl, ?_⟩) h0 ?_
  rotate_left
  · intro W hW
    go_simp
    all_goals with_reducible rfl
  try simp only [Act.put, List.setIfInBounds_toArray, List.set_cons_zero, List.set_cons_succ]
  refine wpAnyH_take (i := 4) (v := ?_) (by rw [List.getElem?_toArray]; rfl) (by kernel_rfl) (by kernel_rfl) (by kernel_rfl) (by exact fun _ _ _ h => h) (Or.inl ⟨by rfl, ?_⟩) h0 ?_
  rotate_left
  · intro W hW
    go_simp
    all_goals with_reducible rfl
  try simp only [Act.put, List.setIfInBounds_toArray, List.set_cons_zero, List.set_cons_succ]
  refine wpAnyH_ready (rs := [0, 3]) (by kernel_rfl) (by simp) ?_
  refine AllReadyH.cons (by rw [List.getElem?_toArray]; rfl) (fun K hK => ?_) (AllReadyH.cons (by rw [List.getElem?_toArray]; rfl) (fun K hK => ?_) AllReadyH.nil)
  · rw [if_pos (by rfl)]
    go_wp2_with fail
    have R1 := Lib.hid (FrS.born G0 (k := W0.heap.size) rfl)
    have G1 := G0.alloc G0.size (.cells #[] 5)
    refine hK.out _ _ (h0.alloc h0.size _) (fun h1 => ?_)
    clear hK K
    try simp only [Act.put, List.setIfInBounds_toArray, List.set_cons_zero, List.set_cons_succ]
    refine wpAnyH_ready (rs := [2, 3]) (by kernel_rfl) (by simp) ?_
    refine AllReadyH.cons (by rw [List.getElem?_toArray]; rfl) (fun K hK => ?_) (AllReadyH.cons (by rw [List.getElem?_toArray]; rfl) (fun K hK => ?_) AllReadyH.nil)
    · rw [if_pos (by rfl)]
      refine wp_append_row _ _ rfl Tryd.underlying42 hi.out hz0.out hz1.out hz2.out rfl R1.out.own (((HA.out.on G1).rd hA.out).src Tryd.underlying42) (by rw [hA.out]; unfold maxLen; omega) (by rw [hA.out]; omega) ?_
      intro q2 k2 w2 own2 grow2 fr2
      have R2 := Lib.hid (R1.out.grow own2 grow2 fr2)
      have G2 := R2.out.below
      clear own2 grow2 fr2
      refine hK.out _ _ (B0.out.trans (G2.mono B0.out.size)) (fun h2 => ?_)
      clear hK K
      try simp only [Act.put, List.setIfInBounds_toArray, List.set_cons_zero, List.set_cons_succ]
      refine wpAnyH_ready (rs := [3]) (by kernel_rfl) (by simp) ?_
      refine AllReadyH.cons (by rw [List.getElem?_toArray]; rfl) (fun K hK => ?_) AllReadyH.nil
      · rw [if_pos (by rfl)]
        go_wp2_with fail
        have R3 := Lib.hid (Two.ofA R2.out (k := w2.heap.size) rfl)
        have G3 := G2.alloc G2.size (.cells #[] 5)
        refine hK.out _ _ (h2.alloc h2.size _) (fun h3 => ?_)
        clear hK K
        try simp only [Act.put, List.setIfInBounds_toArray, List.set_cons_zero, List.set_cons_succ]
        refine wpAnyH_ready (rs := [5]) (by kernel_rfl) (by simp) ?_
        refine AllReadyH.cons (by rw [List.getElem?_toArray]; rfl) (fun K hK => ?_) AllReadyH.nil
        · rw [if_pos (by rfl)]
          refine wp_append_row _ _ rfl Tryd.underlying42 hi.out hz0.out hz1.out hz2.out rfl R3.out.b.own (((HB.out.on G3).rd hB.out).src Tryd.underlying42) (by rw [hB.out]; unfold maxLen; omega) (by rw [hB.out]; omega) ?_
          intro q4 k4 w4 own4 grow4 fr4
          have R4 := Lib.hid (R3.out.symm.growA own4 grow4 fr4).symm
          have G4 := R4.out.a.below
          clear own4 grow4 fr4
          refine hK.out _ _ (B0.out.trans (G4.mono B0.out.size)) (fun h4 => ?_)
          clear hK K
          try simp only [Act.put, List.setIfInBounds_toArray, List.set_cons_zero, List.set_cons_succ]
          refine wpAnyH_ready (rs := [6]) (by kernel_rfl) (by simp) ?_
          refine AllReadyH.cons (by rw [List.getElem?_toArray]; rfl) (fun K hK => ?_) AllReadyH.nil
          · rw [if_pos (by rfl)]
            go_wp2_with fail
            have RL := two_rdl R4.out.a.rd R4.out.b.rd
            simp only [List.nil_append, Nat.zero_add] at RL
            have RL2 := Lib.hid RL
            clear RL
            have G5 := G4.alloc G4.size (.cells #[.slice q2 A.length k2, .slice q4 B.length k4] 42)
            refine hK.out _ _ (h4.alloc h4.size _) (fun h5 => ?_)
            clear hK K
            try simp only [Act.put, List.setIfInBounds_toArray, List.set_cons_zero, List.set_cons_succ]
            refine wpAnyH_ready (rs := [7]) (by kernel_rfl) (by simp) ?_
            refine AllReadyH.cons (by rw [List.getElem?_toArray]; rfl) (fun K hK => ?_) AllReadyH.nil
            · rw [if_pos (by rfl)]
              go_wp2_with fail
              refine (refTagged_any (s := pairS) RL2.out (by decide) (cut_small (by decide)) (by rw [LL.out]; omega) BX.out).mono ?_
              rintro e w8 ⟨rfl, hb8⟩
              have hB8 : Below W0.heap.size W0 w8 := G5.trans (hb8.mono G5.size)
              go_wp2_with fail
              have G6 := hB8
              refine hK.out _ _ (h5.trans (hb8.mono h5.size)) (fun h6 => ?_)
              clear hK K
              try simp only [Act.put, List.setIfInBounds_toArray, List.set_cons_zero, List.set_cons_succ]
              refine wpAnyH_ready (rs := [8]) (by kernel_rfl) (by simp) ?_
              refine AllReadyH.cons (by rw [List.getElem?_toArray]; rfl) (fun K hK => ?_) AllReadyH.nil
              · rw [if_pos (by rfl)]
                have H3 := HZ.out.on hB8
                have B3 := B0.out.trans (hB8.mono B0.out.size)
                have hth3 := H3.there zero32_len
                have hlen := sha_len (frm (sn pairS) [A, B])
                have hput := (H3.put zero32_len hlen).row hlen
                have HX := Lib.hid (below_setCells' (B := w.heap.size) (w.heap.size + 1 + 1) (by omega) (hc (sha (frm (sn pairS) [A, B]))) 0 B3)
                generalize hF : sha (frm (sn pairS) [A, B]) = F at *
                have HF := Lib.hid hF
                clear hF hb8 H3 B3
                go_wp2_with fail
                refine hK.out _ _ (HX.out) (fun h7 => ?_)
                clear hK K
                try simp only [Act.put, List.setIfInBounds_toArray, List.set_cons_zero, List.set_cons_succ]
                refine wpAnyH_done (by kernel_rfl) ?_ _
                go_wp2_with fail
                refine bodyPost_ret (v := .agg (hc F).toArray) (by simp [results, Tryd.results40, go_sem, hput, hlen]) rfl ⟨by rw [HF.out], HX.out⟩
    · rw [if_pos (by rfl)]
      go_wp2_with fail
      have R2 := Lib.hid (Two.ofA R1.out (k := W0.heap.size + 1) (by simp))
      have G2 := G1.alloc G1.size (.cells #[] 5)
      refine hK.out _ _ (h1.alloc h1.size _) (fun h2 => ?_)
      clear hK K
      try simp only [Act.put, List.setIfInBounds_toArray, List.set_cons_zero, List.set_cons_succ]
      refine wpAnyH_ready (rs := [2]) (by kernel_rfl) (by simp) ?_
      refine AllReadyH.cons (by rw [List.getElem?_toArray]; rfl) (fun K hK => ?_) AllReadyH.nil
      · rw [if_pos (by rfl)]
        refine wp_append_row _ _ rfl Tryd.underlying42 hi.out hz0.out hz1.out hz2.out rfl R2.out.a.own (((HA.out.on G2).rd hA.out).src Tryd.underlying42) (by rw [hA.out]; unfold maxLen; omega) (by rw [hA.out]; omega) ?_
        intro q3 k3 w3 own3 grow3 fr3
        have R3 := Lib.hid (R2.out.growA own3 grow3 fr3)
        have G3 := R3.out.a.below
        clear own3 grow3 fr3
        refine hK.out _ _ (B0.out.trans (G3.mono B0.out.size)) (fun h3 => ?_)
        clear hK K
        try simp only [Act.put, List.setIfInBounds_toArray, List.set_cons_zero, List.set_cons_succ]
        refine wpAnyH_ready (rs := [5]) (by kernel_rfl) (by simp) ?_
        refine AllReadyH.cons (by rw [List.getElem?_toArray]; rfl) (fun K hK => ?_) AllReadyH.nil
        · rw [if_pos (by rfl)]
          refine wp_append_row _ _ rfl Tryd.underlying42 hi.out hz0.out hz1.out hz2.out rfl R3.out.b.own (((HB.out.on G3).rd hB.out).src Tryd.underlying42) (by rw [hB.out]; unfold maxLen; omega) (by rw [hB.out]; omega) ?_
          intro q4 k4 w4 own4 grow4 fr4
          have R4 := Lib.hid (R3.out.symm.growA own4 grow4 fr4).symm
          have G4 := R4.out.a.below
          clear own4 grow4 fr4
          refine hK.out _ _ (B0.out.trans (G4.mono B0.out.size)) (fun h4 => ?_)
          clear hK K
          try simp only [Act.put, List.setIfInBounds_toArray, List.set_cons_zero, List.set_cons_succ]
          refine wpAnyH_ready (rs := [6]) (by kernel_rfl) (by simp) ?_
          refine AllReadyH.cons (by rw [List.getElem?_toArray]; rfl) (fun K hK => ?_) AllReadyH.nil
          · rw [if_pos (by rfl)]
            go_wp2_with fail
            have RL := two_rdl R4.out.a.rd R4.out.b.rd
            simp only [List.nil_append, Nat.zero_add] at RL
            have RL2 := Lib.hid RL
            clear RL
            have G5 := G4.alloc G4.size (.cells #[.slice q3 A.length k3, .slice q4 B.length k4] 42)
            refine hK.out _ _ (h4.alloc h4.size _) (fun h5 => ?_)
            clear hK K
            try simp only [Act.put, List.setIfInBounds_toArray, List.set_cons_zero, List.set_cons_succ]
            refine wpAnyH_ready (rs := [7]) (by kernel_rfl) (by simp) ?_
            refine AllReadyH.cons (by rw [List.getElem?_toArray]; rfl) (fun K hK => ?_) AllReadyH.nil
            · rw [if_pos (by rfl)]
              go_wp2_with fail
              refine (refTagged_any (s := pairS) RL2.out (by decide) (cut_small (by decide)) (by rw [LL.out]; omega) BX.out).mono ?_
              rintro e w8 ⟨rfl, hb8⟩
              have hB8 : Below W0.heap.size W0 w8 := G5.trans (hb8.mono G5.size)
              go_wp2_with fail
              have G6 := hB8
              refine hK.out _ _ (h5.trans (hb8.mono h5.size)) (fun h6 => ?_)
              clear hK K
              try simp only [Act.put, List.setIfInBounds_toArray, List.set_cons_zero, List.set_cons_succ]
              refine wpAnyH_ready (rs := [8]) (by kernel_rfl) (by simp) ?_
              refine AllReadyH.cons (by rw [List.getElem?_toArray]; rfl) (fun K hK => ?_) AllReadyH.nil
              · rw [if_pos (by rfl)]
                have H3 := HZ.out.on hB8
                have B3 := B0.out.trans (hB8.mono B0.out.size)
                have hth3 := H3.there zero32_len
                have hlen := sha_len (frm (sn pairS) [A, B])
                have hput := (H3.put zero32_len hlen).row hlen
                have HX := Lib.hid (below_setCells' (B := w.heap.size) (w.heap.size + 1 + 1) (by omega) (hc (sha (frm (sn pairS) [A, B]))) 0 B3)
                generalize hF : sha (frm (sn pairS) [A, B]) = F at *
                have HF := Lib.hid hF
                clear hF hb8 H3 B3
                go_wp2_with fail
                refine hK.out _ _ (HX.out) (fun h7 => ?_)
                clear hK K
                try simp only [Act.put, List.setIfInBounds_toArray, List.set_cons_zero, List.set_cons_succ]
                refine wpAnyH_done (by kernel_rfl) ?_ _
                go_wp2_with fail
                refine bodyPost_ret (v := .agg (hc F).toArray) (by simp [results, Tryd.results40, go_sem, hput, hlen]) rfl ⟨by rw [HF.out], HX.out⟩
  · rw [if_pos (by rfl)]
    go_wp2_with fail
    have R1 := Lib.hid (FrS.born G0 (k := W0.heap.size) rfl)
    have G1 := G0.alloc G0.size (.cells #[] 5)
    refine hK.out _ _ (h0.alloc h0.size _) (fun h1 => ?_)
    clear hK K
    try simp only [Act.put, List.setIfInBounds_toArray, List.set_cons_zero, List.set_cons_succ]
    refine wpAnyH_ready (rs := [0]) (by kernel_rfl) (by simp) ?_
    refine AllReadyH.cons (by rw [List.getElem?_toArray]; rfl) (fun K hK => ?_) AllReadyH.nil
    · rw [if_pos (by rfl)]
      go_wp2_with fail
      have R2 := Lib.hid (Two.ofA R1.out (k := W0.heap.size + 1) (by simp)).symm
      have G2 := G1.alloc G1.size (.cells #[] 5)
      refine hK.out _ _ (h1.alloc h1.size _) (fun h2 => ?_)
      clear hK K
      try simp only [Act.put, List.setIfInBounds_toArray, List.set_cons_zero, List.set_cons_succ]
      refine wpAnyH_ready (rs := [2]) (by kernel_rfl) (by simp) ?_
      refine AllReadyH.cons (by rw [List.getElem?_toArray]; rfl) (fun K hK => ?_) AllReadyH.nil
      · rw [if_pos (by rfl)]
        refine wp_append_row _ _ rfl Tryd.underlying42 hi.out hz0.out hz1.out hz2.out rfl R2.out.a.own (((HA.out.on G2).rd hA.out).src Tryd.underlying42) (by rw [hA.out]; unfold maxLen; omega) (by rw [hA.out]; omega) ?_
        intro q3 k3 w3 own3 grow3 fr3
        have R3 := Lib.hid (R2.out.growA own3 grow3 fr3)
        have G3 := R3.out.a.below
        clear own3 grow3 fr3
        refine hK.out _ _ (B0.out.trans (G3.mono B0.out.size)) (fun h3 => ?_)
        clear hK K
        try simp only [Act.put, List.setIfInBounds_toArray, List.set_cons_zero, List.set_cons_succ]
        refine wpAnyH_ready (rs := [5]) (by kernel_rfl) (by simp) ?_
        refine AllReadyH.cons (by rw [List.getElem?_toArray]; rfl) (fun K hK => ?_) AllReadyH.nil
        · rw [if_pos (by rfl)]
          refine wp_append_row _ _ rfl Tryd.underlying42 hi.out hz0.out hz1.out hz2.out rfl R3.out.b.own (((HB.out.on G3).rd hB.out).src Tryd.underlying42) (by rw [hB.out]; unfold maxLen; omega) (by rw [hB.out]; omega) ?_
          intro q4 k4 w4 own4 grow4 fr4
          have R4 := Lib.hid (R3.out.symm.growA own4 grow4 fr4).symm
          have G4 := R4.out.a.below
          clear own4 grow4 fr4
          refine hK.out _ _ (B0.out.trans (G4.mono B0.out.size)) (fun h4 => ?_)
          clear hK K
          try simp only [Act.put, List.setIfInBounds_toArray, List.set_cons_zero, List.set_cons_succ]
          refine wpAnyH_ready (rs := [6]) (by kernel_rfl) (by simp) ?_
          refine AllReadyH.cons (by rw [List.getElem?_toArray]; rfl) (fun K hK => ?_) AllReadyH.nil
          · rw [if_pos (by rfl)]
            go_wp2_with fail
            have RL := two_rdl R4.out.a.rd R4.out.b.rd
            simp only [List.nil_append, Nat.zero_add] at RL
            have RL2 := Lib.hid RL
            clear RL
            have G5 := G4.alloc G4.size (.cells #[.slice q3 A.length k3, .slice q4 B.length k4] 42)
            refine hK.out _ _ (h4.alloc h4.size _) (fun h5 => ?_)
            clear hK K
            try simp only [Act.put, List.setIfInBounds_toArray, List.set_cons_zero, List.set_cons_succ]
            refine wpAnyH_ready (rs := [7]) (by kernel_rfl) (by simp) ?_
            refine AllReadyH.cons (by rw [List.getElem?_toArray]; rfl) (fun K hK => ?_) AllReadyH.nil
            · rw [if_pos (by rfl)]
              go_wp2_with fail
              refine (refTagged_any (s := pairS) RL2.out (by decide) (cut_small (by decide)) (by rw [LL.out]; omega) BX.out).mono ?_
              rintro e w8 ⟨rfl, hb8⟩
              have hB8 : Below W0.heap.size W0 w8 := G5.trans (hb8.mono G5.size)
              go_wp2_with fail
              have G6 := hB8
              refine hK.out _ _ (h5.trans (hb8.mono h5.size)) (fun h6 => ?_)
              clear hK K
              try simp only [Act.put, List.setIfInBounds_toArray, List.set_cons_zero, List.set_cons_succ]
              refine wpAnyH_ready (rs := [8]) (by kernel_rfl) (by simp) ?_
              refine AllReadyH.cons (by rw [List.getElem?_toArray]; rfl) (fun K hK => ?_) AllReadyH.nil
              · rw [if_pos (by rfl)]
                have H3 := HZ.out.on hB8
                have B3 := B0.out.trans (hB8.mono B0.out.size)
                have hth3 := H3.there zero32_len
                have hlen := sha_len (frm (sn pairS) [A, B])
                have hput := (H3.put zero32_len hlen).row hlen
                have HX := Lib.hid (below_setCells' (B := w.heap.size) (w.heap.size + 1 + 1) (by omega) (hc (sha (frm (sn pairS) [A, B]))) 0 B3)
                generalize hF : sha (frm (sn pairS) [A, B]) = F at *
                have HF := Lib.hid hF
                clear hF hb8 H3 B3
                go_wp2_with fail
                refine hK.out _ _ (HX.out) (fun h7 => ?_)
                clear hK K
                try simp only [Act.put, List.setIfInBounds_toArray, List.set_cons_zero, List.set_cons_succ]
                refine wpAnyH_done (by kernel_rfl) ?_ _
                go_wp2_with fail
                refine bodyPost_ret (v := .agg (hc F).toArray) (by simp [results, Tryd.results40, go_sem, hput, hlen]) rfl ⟨by rw [HF.out], HX.out⟩
end Go.Proofs.YtebeacejlkiglaaDoor
namespace Go.Proofs.YtebeacejlkiglaaDoor
set_option maxRecDepth 100000
open Go.RowKit

/-- A row of bytes that the call lays. -/
structure BuS (w wr : World) (v : Value) (xs : List Int) : Prop where
  own : wr.ownsRow 0 5 1 v xs.length (bc xs)
  fresh : ∀ g, v.ownBlock = some g → w.heap.size ≤ g
  below : Below w.heap.size w wr
theorem BuS.start (w : World) : BuS w w (.slice none 0 0) [] := ⟨World.ownsRow_nil w 0 _ 1, by simp [Value.ownBlock], Below.refl _ _⟩
theorem BuS.on {w wr w1 : World} {v : Value} {xs : List Int} (h : BuS w wr v xs) (hb : Below wr.heap.size wr w1) : BuS w w1 v xs :=
  ⟨own_on h.own hb, h.fresh, h.below.trans (hb.mono h.below.size)⟩
theorem BuS.grow {w wr w2 : World} {v v' : Value} {xs ys : List Int} {m : Nat} (h : BuS w wr v xs) (hm : ys.length = m) (own : w2.ownsRow 0 5 1 v' (xs.length + m) (bc xs ++ bc ys)) (grow : wr.grownBy w2 v.ownBlock) (fr : v'.ownBlock = v.ownBlock ∨ v'.ownBlock = some wr.heap.size) : BuS w w2 v' (xs ++ ys) := by
  subst hm
  refine ⟨by rw [List.length_append, bc_append]; exact own, fun g hg => ?_, h.below.grown grow h.below.size (fun k hk => h.fresh k hk)⟩
  rcases fr with e | e
  · rw [e] at hg; exact h.fresh g hg
  · rw [e] at hg; have := h.below.size; simp at hg; omega
theorem BuS.rd {w wr : World} {v : Value} {xs : List Int} (h : BuS w wr v xs) : Rd wr v xs := rd_of_row h.own
theorem BuS.of_eq {w wr : World} {v : Value} {xs ys : List Int} (h : BuS w wr v xs) (e : xs = ys) : BuS w wr v ys := e ▸ h
theorem one_rd {w : World} {x : Int} : Rd (w.alloc (.cells #[.int .u8 x] 5)) (.slice (some ⟨w.heap.size, 0, none⟩) 1 1) [x] :=
  ⟨_, 1, rfl, .inr ⟨w.heap.size, 0, rfl, fun j hj => by obtain rfl : j = 0 := (by simpa using hj); exact (Joins.cell_of_block (heap_alloc_new w _) 0).trans rfl⟩⟩

set_option maxHeartbeats 2000000 in
theorem refUint_any (n : Int) (w : World) :
    Calls Tryd.prog 45 #[.int .u64 n] w fun e w' => ∃ v, e = .returned v ∧ BuS w w' v (be8 n) := by
  obtain ⟨i0, hi, hz0, hz1, hz2⟩ := info_parts Tryd.infoU8
  replace hi := Lib.hid hi
  replace hz0 := Lib.hid hz0
  replace hz1 := Lib.hid hz1
  replace hz2 := Lib.hid hz2
  have H0 : Hid (BuS w w (.slice none 0 0) ((be8 n).take 0)) := BuS.start w
  go_enter Tryd.func45, Tryd.ntmps45
  go_wp2_with fail
  go_loopw [3, 4] (fun ov sv wr => ∃ k : Nat, sv = .int .i64 (56 - 8 * (k : Int)) ∧ k ≤ 8 ∧ (∃ q c, ov = .slice q k c) ∧ Hid (BuS w wr ov ((be8 n).take k))) (fun _ sv _ => (intOf sv + 8).toNat)
  case atStart => exact ⟨0, by simp, by omega, ⟨_, _, rfl⟩, H0⟩
  case round =>
    clear H0
    obtain ⟨k, rfl, hk, ⟨q, c, rfl⟩, hS⟩ := hrel
    by_cases hlt : k < 8
    · have hd : (0 : Int) ≤ 56 - 8 * (k : Int) := by omega
      have hl8 : ((be8 n).take k).length = k := by simp; omega
      have OW : (wr.alloc (.cells #[.int .u8 (n / 2 ^ (56 - 8 * k) % 256)] 5)).ownsRow 0 5 1 (.slice q k c) k (bc ((be8 n).take k)) := by
        have := own_on hS.out.own ((Below.refl _ wr).alloc (Nat.le_refl _) (.cells #[.int .u8 (n / 2 ^ (56 - 8 * k) % 256)] 5))
        rw [hl8] at this; exact this
      go_wp2_with (at_builtin; refine wpList_append_row rfl _ _ rfl Tryd.underlying42 hi.out hz0.out hz1.out hz2.out rfl OW (Rd.src (P := Tryd.prog) (xs := [n / 2 ^ (56 - 8 * k) % 256]) Tryd.underlying42 ?rd) ?b1 ?b2 ?_)
      case rd => exact one_rd
      case b1 => simp; unfold maxLen; omega
      case b2 => simp; omega
      intro q2 k2 w2 own2 grow2 fr2
      have HN : Hid (BuS w w2 (.slice q2 (k + 1) k2) ((be8 n).take (k + 1))) := by
        have h := (hS.out.on ((Below.refl _ wr).alloc (Nat.le_refl _) (.cells #[.int .u8 (n / 2 ^ (56 - 8 * k) % 256)] 5))).grow (ys := [n / 2 ^ (56 - 8 * k) % 256]) rfl (by rw [hl8]; exact own2) grow2 (fr2.imp id fun e => by rw [e]; simp)
        exact h.of_eq (be8_get n hlt).symm
      clear own2 grow2 fr2 hS
      go_wp2_with fail
      go_roundw
      case rel => exact ⟨k + 1, by go_num, by omega, ⟨_, _, rfl⟩, HN⟩
      case measure => simp [intOf]; omega
    · obtain rfl : k = 8 := by omega
      have HN := Lib.hid (hS.out.of_eq (List.take_of_length_le (by simp)))
      clear hS
      go_wp2_with fail
      go_ret
      exact ⟨_, rfl, HN.out⟩


set_option maxHeartbeats 2000000 in
theorem number_any {n : Int} (h0 : 0 ≤ n) (h1 : n < 9223372036854775808) (w : World) :
    Calls Tryd.prog 58 #[.int .i64 n] w fun e w' => ∃ u, e = .returned u ∧ NewRow w (be8 n) u w' := by
  have b1 : Below w.heap.size w (w.alloc (.cells #[.bool true, .slice none 0 0] 95)) := (Below.refl _ _).alloc (Nat.le_refl _) _
  have b2 : Below (w.alloc (.cells #[.bool true, .slice none 0 0] 95)).heap.size (w.alloc (.cells #[.bool true, .slice none 0 0] 95)) ((w.alloc (.cells #[.bool true, .slice none 0 0] 95)).alloc (.cells #[.int .u64 n] 69)) := (Below.refl _ _).alloc (Nat.le_refl _) _
  have HW := Lib.hid ((WrV.new w).on b2)
  have hz : (w.alloc (.cells #[.bool true, .slice none 0 0] 95)).heap.size = w.heap.size + 1 := by simp
  have HR : Hid (RdN ((w.alloc (.cells #[.bool true, .slice none 0 0] 95)).alloc (.cells #[.int .u64 n] 69)) (.slice (some ⟨w.heap.size + 1, 0, none⟩) 1 1) [n] (w.heap.size :: (Value.slice none 0 0).ownBlock.toList)) := by
    refine ⟨_, 1, rfl, .inr ⟨w.heap.size + 1, 0, rfl, by simp [Value.ownBlock], fun i hi => ?_⟩⟩
    obtain rfl : i = 0 := (by simpa using hi)
    have := heap_alloc_new (w.alloc (.cells #[.bool true, .slice none 0 0] 95)) (.cells #[.int .u64 n] 69)
    rw [hz] at this
    exact (Joins.cell_of_block this 0).trans rfl
  have B2 := Lib.hid (b1.trans (b2.mono b1.size))
  have hu : IntKind.u64.wrap n = n := by rw [IntKind.wrap_u64]; omega
  clear b1 b2 hz
  go_enter Tryd.func58, Tryd.ntmps58
  go_wp2_with fail
  refine (NewWriter_any w).mono ?_
  rintro e w1 ⟨rfl, rfl⟩
  go_wp2_with fail
  refine (WUint_fits HW.out HR.out (by simp)).mono ?_
  rintro e w2 ⟨rfl, hS⟩
  obtain ⟨q, c, hW2, hC, hF⟩ := hS.own
  have hx : ([] ++ nums [n]) = be8 n := by simp [nums]
  simp only [hx] at hW2 hF
  have HW2 := Lib.hid hW2
  have B3 := Lib.hid (B2.out.trans (hC.toBelow B2.out.size (fun k hk => by simp [Value.ownBlock] at hk; omega)))
  clear hS hW2 hC hF hx HW HR
  go_wp2_with fail
  refine (WBytes_any HW2.out (by rw [be8_len]; omega)).mono ?_
  rintro e w3 ⟨u, rfl, hN⟩
  have HN : Hid (NewRow w (be8 n) u w3) := ⟨hN.1, hN.2.1, B3.out.trans (hN.2.2.1.mono B3.out.size), fun k hk => Nat.le_trans B3.out.size (hN.2.2.2 k hk)⟩
  clear hN
  go_wp2_with fail
  go_ret
  exact ⟨u, rfl, HN.out⟩
end Go.Proofs.YtebeacejlkiglaaDoor
namespace Go.Proofs.YtebeacejlkiglaaDoor
set_option maxRecDepth 100000
open Go.RowKit

def itemS : ByteArray := ⟨#[105, 116, 101, 109]⟩
def listS : ByteArray := ⟨#[108, 105, 115, 116]⟩
theorem cut_item : cut255 itemS = itemS := if_pos (by decide)
theorem cut_list : cut255 listS = listS := if_pos (by decide)
theorem item_max : itemS.size ≤ maxLen := by decide
theorem list_max : listS.size ≤ maxLen := by decide
def hItem (n : Int) (xs : List Int) : List Int := sha (frm (sn itemS) [be8 n, xs])
def hList (n : Int) (F : List Int) : List Int := sha (frm (sn listS) [be8 n, F])
theorem item_len (n : Int) (xs : List Int) : (frm (sn itemS) [be8 n, xs]).length = 29 + xs.length := by
  rw [frm_len, show (sn itemS).length = 4 from rfl]
  simp [blobs]
  omega
theorem item_bytes (n : Int) {xs : List Int} (bx : Bytes xs) : Bytes (frm (sn itemS) [be8 n, xs]) :=
  frm_bytes (sn_bytes _) (by decide) (fun b hb => by
    rcases List.mem_cons.1 hb with rfl | hb
    · exact be8_bytes n
    · obtain rfl := List.mem_singleton.1 hb; exact bx)

set_option maxHeartbeats 2000000 in
theorem item_any {w : World} {n : Int} {v : Value} {xs : List Int} (h0 : 0 ≤ n) (h1 : n < 9223372036854775808) (hr : Rd w v xs) (bx : Bytes xs) (hx : xs.length ≤ 1000000) (hT : Tbl w) :
    Calls Tryd.prog 36 #[.int .i64 n, v] w fun e w' => e = .returned (.agg (hc (hItem n xs)).toArray) ∧ Below w.heap.size w w' := by
  obtain ⟨qv, cv, rfl⟩ := hr.len
  have b1 : Below w.heap.size w (w.alloc (.cells (hc zero32).toArray 36)) := (Below.refl _ _).alloc (Nat.le_refl _) _
  have Z1 := Lib.hid (HashAt.new w zero32)
  have R1 := Lib.hid (hr.on b1)
  have T1 := Lib.hid (hT.on b1 hT.pos)
  have B1 := Lib.hid b1
  have HB := Lib.hid (item_bytes n bx)
  have hu : IntKind.u64.wrap n = n := by rw [IntKind.wrap_u64]; omega
  clear hr b1 bx hT
  go_enter Tryd.func36, Tryd.ntmps36
  go_wp2_with fail
  refine (number_any h0 h1 _).mono ?_
  rintro e w2 ⟨u, rfl, hu2⟩
  have ru := hu2.rd
  have hb2 := hu2.2.2.1
  obtain ⟨qu, cu, rfl⟩ := ru.len
  have ru' : Rd w2 (.slice qu 8 cu) (be8 n) := ru
  have HL0 := two_rdl ru' (R1.out.on hb2)
  have HL := Lib.hid HL0
  clear HL0 ru'
  simp only [be8_len]
  have b3 := hb2.trans (((Below.refl w2.heap.size w2).alloc (Nat.le_refl _) (.cells #[.slice qu 8 cu, .slice qv xs.length cv] 42)).mono hb2.size)
  have Z3 := Lib.hid (Z1.out.on b3)
  have HT3 := Lib.hid (T1.out.on b3 T1.out.pos)
  have B3 := Lib.hid (B1.out.trans (b3.mono B1.out.size))
  clear hu2 ru hb2 b3 Z1 R1 B1 T1
  go_wp2_with fail
  refine (Tagged_any (s := itemS) (t := itemS) HL.out HT3.out item_max cut_item (by rw [item_len]; omega) HB.out).mono ?_
  rintro e w4 ⟨rfl, hb4⟩
  have Z4 := Lib.hid (Z3.out.on hb4)
  have B4 := Lib.hid (B3.out.trans (hb4.mono B3.out.size))
  clear hb4 Z3 B3 HL HB HT3
  have hlF : (hItem n xs).length = 32 := sha_len _
  rw [show sha (frm (sn itemS) [be8 n, xs]) = hItem n xs from rfl]
  obtain ⟨F, hF⟩ : ∃ F, hItem n xs = F := ⟨_, rfl⟩
  rw [hF] at hlF ⊢
  have HF := Lib.hid hF
  clear hF
  have lF := hc_len F
  have ct := Z4.out.there zero32_len
  have cf := (Z4.out.put zero32_len hlF).row hlF
  go_wp2_with fail
  refine bodyPost_ret (v := .agg (hc F).toArray) (by simp [results, Tryd.results36, go_sem, cf, hlF]) rfl ⟨by rw [HF.out], below_setCells' _ (Nat.le_refl _) _ _ B4.out⟩

set_option maxHeartbeats 2000000 in
theorem refItem_any {w : World} {n : Int} {v : Value} {xs : List Int} (h0 : 0 ≤ n) (h1 : n < 9223372036854775808) (hr : Rd w v xs) (bx : Bytes xs) (hx : xs.length ≤ 1000000) :
    Calls Tryd.prog 39 #[.int .i64 n, v] w fun e w' => e = .returned (.agg (hc (hItem n xs)).toArray) ∧ Below w.heap.size w w' := by
  obtain ⟨qv, cv, rfl⟩ := hr.len
  have b1 : Below w.heap.size w (w.alloc (.cells (hc zero32).toArray 36)) := (Below.refl _ _).alloc (Nat.le_refl _) _
  have Z1 := Lib.hid (HashAt.new w zero32)
  have R1 := Lib.hid (hr.on b1)

  have B1 := Lib.hid b1
  have HB := Lib.hid (item_bytes n bx)
  have hu : IntKind.u64.wrap n = n := by rw [IntKind.wrap_u64]; omega
  clear hr b1 bx
  go_enter Tryd.func39, Tryd.ntmps39
  go_wp2_with fail
  refine (refUint_any n _).mono ?_
  rintro e w2 ⟨u, rfl, hu2⟩
  have ru := hu2.rd
  have hb2 := hu2.below
  obtain ⟨qu, cu, rfl⟩ := ru.len
  have ru' : Rd w2 (.slice qu 8 cu) (be8 n) := ru
  have HL0 := two_rdl ru' (R1.out.on hb2)
  have HL := Lib.hid HL0
  clear HL0 ru'
  simp only [be8_len]
  have b3 := hb2.trans (((Below.refl w2.heap.size w2).alloc (Nat.le_refl _) (.cells #[.slice qu 8 cu, .slice qv xs.length cv] 42)).mono hb2.size)
  have Z3 := Lib.hid (Z1.out.on b3)

  have B3 := Lib.hid (B1.out.trans (b3.mono B1.out.size))
  clear hu2 ru hb2 b3 Z1 R1 B1
  go_wp2_with fail
  refine (refTagged_any (s := itemS) (t := itemS) HL.out item_max cut_item (by rw [item_len]; omega) HB.out).mono ?_
  rintro e w4 ⟨rfl, hb4⟩
  have Z4 := Lib.hid (Z3.out.on hb4)
  have B4 := Lib.hid (B3.out.trans (hb4.mono B3.out.size))
  clear hb4 Z3 B3 HL HB
  have hlF : (hItem n xs).length = 32 := sha_len _
  rw [show sha (frm (sn itemS) [be8 n, xs]) = hItem n xs from rfl]
  obtain ⟨F, hF⟩ : ∃ F, hItem n xs = F := ⟨_, rfl⟩
  rw [hF] at hlF ⊢
  have HF := Lib.hid hF
  clear hF
  have lF := hc_len F
  have ct := Z4.out.there zero32_len
  have cf := (Z4.out.put zero32_len hlF).row hlF
  go_wp2_with fail
  refine bodyPost_ret (v := .agg (hc F).toArray) (by simp [results, Tryd.results39, go_sem, cf, hlF]) rfl ⟨by rw [HF.out], below_setCells' _ (Nat.le_refl _) _ _ B4.out⟩

end Go.Proofs.YtebeacejlkiglaaDoor
namespace Go.Proofs.YtebeacejlkiglaaDoor
set_option maxRecDepth 100000
open Go.RowKit

theorem list_len (n : Int) (xs : List Int) : (frm (sn listS) [be8 n, xs]).length = 29 + xs.length := by
  rw [frm_len, show (sn listS).length = 4 from rfl]
  simp [blobs]
  omega
theorem list_bytes (n : Int) {xs : List Int} (bx : Bytes xs) : Bytes (frm (sn listS) [be8 n, xs]) :=
  frm_bytes (sn_bytes _) (by decide) (fun b hb => by
    rcases List.mem_cons.1 hb with rfl | hb
    · exact be8_bytes n
    · obtain rfl := List.mem_singleton.1 hb; exact bx)

set_option maxHeartbeats 4000000 in
theorem list_any {w : World} {n : Int} {F : List Int} (n0 : 0 ≤ n) (n1 : n < 9223372036854775808) (hF : F.length = 32) (bF : Bytes F) (hT : Tbl w) :
    Calls Tryd.prog 33 #[.int .i64 n, .agg (hc F).toArray] w fun e w' => e = .returned (.agg (hc (hList n F)).toArray) ∧ Below w.heap.size w w' := by
  have b1 : Below w.heap.size w (w.alloc (.cells (hc F).toArray 36)) := (Below.refl _ _).alloc (Nat.le_refl _) _
  have b2 : Below (w.alloc (.cells (hc F).toArray 36)).heap.size (w.alloc (.cells (hc F).toArray 36)) ((w.alloc (.cells (hc F).toArray 36)).alloc (.cells (hc zero32).toArray 36)) := (Below.refl _ _).alloc (Nat.le_refl _) _
  have HA := Lib.hid ((HashAt.new w F).on b2)
  have HZ := Lib.hid (HashAt.new (w.alloc (.cells (hc F).toArray 36)) zero32)
  rw [show (w.alloc (.cells (hc F).toArray 36)).heap.size = w.heap.size + 1 by simp] at HZ
  have B0 := Lib.hid (b1.trans (b2.mono b1.size))
  have HT := Lib.hid (hT.on B0.out hT.pos)
  have HB := Lib.hid (list_bytes n bF)
  have HF := Lib.hid hF
  have hlY : (hList n F).length = 32 := sha_len _
  obtain ⟨Y, hY⟩ : ∃ Y, hList n F = Y := ⟨_, rfl⟩
  rw [hY] at hlY
  have HY := Lib.hid hY
  have lY := hc_len Y
  rw [hY]
  clear hT bF b1 b2 hY hF
  go_enter Tryd.func33, Tryd.ntmps33
  go_wp2_with fail
  generalize (w.alloc (.cells (hc F).toArray 36)).alloc (.cells (hc zero32).toArray 36) = W0 at *
  generalize hbz : w.heap.size + 1 = bZ at *
  have HBZ : Hid (w.heap.size ≤ bZ) := by show _ ≤ _; omega
  clear hbz
  refine wp_region_held_drew (S := fun W => Below w.heap.size w W) (by kernel_rfl) (B0.out.drew) (fun h0 => ?_)
  refine wpAnyH_take (i := 0) (v := ?_) (by rw [List.getElem?_toArray]; rfl) (by kernel_rfl) (by kernel_rfl) (by kernel_rfl) (by exact fun _ _ _ h => h) (Or.inl ⟨by rfl, ?_⟩) h0 ?_
  rotate_left
  · intro W hW
    go_simp
    all_goals with_reducible rfl
  try simp only [Act.put, List.setIfInBounds_toArray, List.set_cons_zero, List.set_cons_succ]
  refine wpAnyH_take (i := 2) (v := ?_) (by rw [List.getElem?_toArray]; rfl) (by kernel_rfl) (by kernel_rfl) (by kernel_rfl) (by exact fun _ _ _ h => h) (Or.inl ⟨by rfl, ?_⟩) h0 ?_
  rotate_left
  · intro W hW
    go_simp
    all_goals with_reducible rfl
  try simp only [Act.put, List.setIfInBounds_toArray, List.set_cons_zero, List.set_cons_succ]
  refine wpAnyH_ready (rs := [1]) (by kernel_rfl) (by simp) ?_
  refine AllReadyH.cons (by rw [List.getElem?_toArray]; rfl) (fun K hK => ?_) AllReadyH.nil
  rw [if_pos (by rfl)]
  go_wp2_with fail
  refine (number_any n0 n1 W0.drew).mono ?_
  rintro e w3 ⟨u, rfl, hN⟩
  have ru := hN.rd
  have hb3 := hN.2.2.1
  clear hN
  obtain ⟨qu, cu, rfl⟩ := ru.len
  have ru' : Rd w3 (.slice qu 8 cu) (be8 n) := ru
  have RU := Lib.hid ru'
  have G3 : Hid (Below W0.heap.size W0 w3) := (Below.refl W0.heap.size W0).drew.trans hb3
  clear ru ru'
  simp only [be8_len]
  go_wp2_with fail
  refine hK.out _ _ (h0.trans (hb3.mono h0.size)) (fun h1 => ?_)
  clear hK K
  try simp only [Act.put, List.setIfInBounds_toArray, List.set_cons_zero, List.set_cons_succ]
  clear hb3
  refine wpAnyH_ready (rs := [3]) (by kernel_rfl) (by simp) ?_
  refine AllReadyH.cons (by rw [List.getElem?_toArray]; rfl) (fun K hK => ?_) AllReadyH.nil
  rw [if_pos (by rfl)]
  have HL := Lib.hid (two_rdl RU.out ((HA.out.on G3.out).rd HF.out))
  have b4 : Below w3.heap.size w3 (w3.alloc (.cells #[.slice qu 8 cu, .slice (some ⟨w.heap.size, 0, none⟩) 32 32] 42)) := (Below.refl _ _).alloc (Nat.le_refl _) _
  have G4 := Lib.hid (G3.out.trans (b4.mono G3.out.size))
  go_wp2_with fail
  refine hK.out _ _ (h1.trans (b4.mono h1.size)) (fun h3 => ?_)
  clear hK K
  try simp only [Act.put, List.setIfInBounds_toArray, List.set_cons_zero, List.set_cons_succ]
  clear b4 RU G3
  refine wpAnyH_ready (rs := [4]) (by kernel_rfl) (by simp) ?_
  refine AllReadyH.cons (by rw [List.getElem?_toArray]; rfl) (fun K hK => ?_) AllReadyH.nil
  rw [if_pos (by rfl)]
  go_wp2_with fail
  refine (Tagged_any (s := listS) (t := listS) HL.out (HT.out.on G4.out HT.out.pos) list_max cut_list (by rw [list_len, HF.out]; omega) HB.out).mono ?_
  rintro e w5 ⟨rfl, hb5⟩
  rw [show sha (frm (sn listS) [be8 n, F]) = hList n F from rfl, HY.out]
  go_wp2_with fail
  refine hK.out _ _ (h3.trans (hb5.mono h3.size)) (fun h4 => ?_)
  clear hK K
  try simp only [Act.put, List.setIfInBounds_toArray, List.set_cons_zero, List.set_cons_succ]
  clear HL
  have G5 := Lib.hid (G4.out.trans (hb5.mono G4.out.size))
  have Z5 := Lib.hid (HZ.out.on G5.out)
  have ct := Z5.out.there zero32_len
  have BE := Lib.hid h4
  clear hb5 G4
  refine wpAnyH_ready (rs := [5]) (by kernel_rfl) (by simp) ?_
  refine AllReadyH.cons (by rw [List.getElem?_toArray]; rfl) (fun K hK => ?_) AllReadyH.nil
  rw [if_pos (by rfl)]
  go_wp2_with fail
  refine hK.out _ _ (below_setCells' _ HBZ.out _ _ h4) (fun h5 => ?_)
  clear hK K
  try simp only [Act.put, List.setIfInBounds_toArray, List.set_cons_zero, List.set_cons_succ]
  refine wpAnyH_done (by kernel_rfl) ?_ _
  have cf := (Z5.out.put zero32_len hlY).row hlY
  go_wp2_with fail
  refine bodyPost_ret (v := .agg (hc Y).toArray) (by simp [results, Tryd.results33, go_sem, cf, hlY]) rfl ⟨rfl, h5⟩
end Go.Proofs.YtebeacejlkiglaaDoor
namespace Go.Proofs.YtebeacejlkiglaaDoor
set_option maxRecDepth 100000
open Go.RowKit

set_option maxHeartbeats 8000000 in
theorem refTop_any {w : World} {n : Int} {F : List Int} (n0 : 0 ≤ n) (n1 : n < 9223372036854775808) (hF : F.length = 32) (bF : Bytes F) :
    Calls Tryd.prog 34 #[.int .i64 n, .agg (hc F).toArray] w fun e w' => e = .returned (.agg (hc (hList n F)).toArray) ∧ Below w.heap.size w w' := by
  obtain ⟨i0, hi, hz0, hz1, hz2⟩ := info_parts Tryd.infoU8
  replace hi := Lib.hid hi
  replace hz0 := Lib.hid hz0
  replace hz1 := Lib.hid hz1
  replace hz2 := Lib.hid hz2
  have b1 : Below w.heap.size w (w.alloc (.cells (hc F).toArray 36)) := (Below.refl _ _).alloc (Nat.le_refl _) _
  have b2 : Below (w.alloc (.cells (hc F).toArray 36)).heap.size (w.alloc (.cells (hc F).toArray 36)) ((w.alloc (.cells (hc F).toArray 36)).alloc (.cells (hc zero32).toArray 36)) := (Below.refl _ _).alloc (Nat.le_refl _) _
  have HA := Lib.hid ((HashAt.new w F).on b2)
  have HZ := Lib.hid (HashAt.new (w.alloc (.cells (hc F).toArray 36)) zero32)
  rw [show (w.alloc (.cells (hc F).toArray 36)).heap.size = w.heap.size + 1 by simp] at HZ
  have B0 := Lib.hid (b1.trans (b2.mono b1.size))
  have HB := Lib.hid (list_bytes n bF)
  have HF := Lib.hid hF
  have hu : IntKind.u64.wrap n = n := by rw [IntKind.wrap_u64]; omega
  have hlY : (hList n F).length = 32 := sha_len _
  obtain ⟨Y, hY⟩ : ∃ Y, hList n F = Y := ⟨_, rfl⟩
  rw [hY] at hlY
  have HY := Lib.hid hY
  have lY := hc_len Y
  rw [hY]
  clear bF b1 b2 hY hF
  go_enter Tryd.func34, Tryd.ntmps34
  go_wp2_with fail
  generalize (w.alloc (.cells (hc F).toArray 36)).alloc (.cells (hc zero32).toArray 36) = W0 at *
  generalize hbz : w.heap.size + 1 = bZ at *
  have HBZ : Hid (w.heap.size ≤ bZ) := by show _ ≤ _; omega
  clear hbz
  refine wp_region_held_drew (S := fun W => Below w.heap.size w W) (by kernel_rfl) (B0.out.drew) (fun h0 => ?_)
  refine wpAnyH_take (i := 0) (v := ?_) (by rw [List.getElem?_toArray]; rfl) (by kernel_rfl) (by kernel_rfl) (by kernel_rfl) (by exact fun _ _ _ h => h) (Or.inl ⟨by rfl, ?_⟩) h0 ?_
  rotate_left
  · intro W hW
    go_simp
    all_goals with_reducible rfl
  try simp only [Act.put, List.setIfInBounds_toArray, List.set_cons_zero, List.set_cons_succ]
  refine wpAnyH_take (i := 1) (v := ?_) (by rw [List.getElem?_toArray]; rfl) (by kernel_rfl) (by kernel_rfl) (by kernel_rfl) (by exact fun _ _ _ h => h) (Or.inl ⟨by rfl, ?_⟩) h0 ?_
  rotate_left
  · intro W hW
    have hu2 := hu
    go_simp
    all_goals with_reducible rfl
  try simp only [Act.put, List.setIfInBounds_toArray, List.set_cons_zero, List.set_cons_succ]
  refine wpAnyH_take (i := 4) (v := ?_) (by rw [List.getElem?_toArray]; rfl) (by kernel_rfl) (by kernel_rfl) (by kernel_rfl) (by exact fun _ _ _ h => h) (Or.inl ⟨by rfl, ?_⟩) h0 ?_
  rotate_left
  · intro W hW
    go_simp
    all_goals with_reducible rfl
  try simp only [Act.put, List.setIfInBounds_toArray, List.set_cons_zero, List.set_cons_succ]
  refine wpAnyH_ready (rs := [2, 3]) (by kernel_rfl) (by simp) ?_
  refine AllReadyH.cons (by rw [List.getElem?_toArray]; rfl) (fun K hK => ?_) (AllReadyH.cons (by rw [List.getElem?_toArray]; rfl) (fun K hK => ?_) AllReadyH.nil)
  · rw [if_pos (by rfl)]
    go_wp2_with fail
    refine (refUint_any n W0.drew).mono ?_
    rintro e w3 ⟨u, rfl, hN⟩
    have ru := hN.rd
    have hb3 := hN.below
    obtain ⟨qu, cu, rfl⟩ := ru.len
    have ru' : Rd w3 (.slice qu 8 cu) (be8 n) := ru
    have G3 : Hid (Below W0.heap.size W0 w3) := (Below.refl W0.heap.size W0).drew.trans hb3
    clear ru hN
    simp only [be8_len]
    go_wp2_with fail
    refine hK.out _ _ (B0.out.trans (G3.out.mono B0.out.size)) (fun h3 => ?_)
    clear hK K
    try simp only [Act.put, List.setIfInBounds_toArray, List.set_cons_zero, List.set_cons_succ]
    refine wpAnyH_ready (rs := [3]) (by kernel_rfl) (by simp) ?_
    refine AllReadyH.cons (by rw [List.getElem?_toArray]; rfl) (fun K hK => ?_) AllReadyH.nil
    rw [if_pos (by rfl)]
    have b5 : Below w3.heap.size w3 (w3.alloc (.cells #[] 5)) := (Below.refl _ _).alloc (Nat.le_refl _) _
    have RU := Lib.hid (ru'.on b5)
    have G5 := Lib.hid (G3.out.trans (b5.mono G3.out.size))
    have OW := Lib.hid (own_empty w3 5 1)
    have EB : Hid (W0.heap.size ≤ w3.heap.size) := G3.out.size
    have NE : Hid (∀ k, (Value.slice qu 8 cu).ownBlock = some k → k ≠ w3.heap.size) := fun k hk e => by
      have := ru'.lt (by simp [be8]) hk
      omega
    clear ru' b5
    go_wp2_with fail
    refine hK.out _ _ (B0.out.trans (G5.out.mono B0.out.size)) (fun h5 => ?_)
    clear hK K
    try simp only [Act.put, List.setIfInBounds_toArray, List.set_cons_zero, List.set_cons_succ]
    clear hb3 G3
    generalize hW5 : w3.alloc (.cells #[] 5) = w5 at *
    clear hW5
    generalize w3.heap.size = be at *
    refine wpAnyH_ready (rs := [5]) (by kernel_rfl) (by simp) ?_
    refine AllReadyH.cons (by rw [List.getElem?_toArray]; rfl) (fun K hK => ?_) AllReadyH.nil
    rw [if_pos (by rfl)]
    refine wp_append_row _ _ rfl Tryd.underlying42 hi.out hz0.out hz1.out hz2.out rfl OW.out (Rd.src (P := Tryd.prog) Tryd.underlying42 ((HA.out.on G5.out).rd HF.out)) ?b1 ?b2 ?_
    case b1 => rw [HF.out]; unfold maxLen; omega
    case b2 => rw [HF.out]; omega
    intro q6 k6 w6 own6' grow6' fr6
    have own6 : w6.ownsRow 0 5 1 (.slice q6 32 k6) 32 (bc F) := by have := own6'; simp only [HF.out, Nat.zero_add, List.nil_append] at this; exact this
    have grow6 : w5.grownBy w6 (Value.slice (some ⟨be, 0, none⟩) 0 0).ownBlock := grow6'
    simp only [HF.out, Nat.zero_add]
    have G6 : Hid (Below W0.heap.size W0 w6) := G5.out.grown grow6 G5.out.size (fun g hg => by simp [Value.ownBlock] at hg; have := EB.out; omega)
    have B6 : Hid (Below w.heap.size w w6) := Lib.hid (B0.out.trans (G6.out.mono B0.out.size))
    have RU6 : Hid (Rd w6 (.slice qu 8 cu) (be8 n)) := RU.out.chg (Chg.grown grow6 (S := [be]) (fun k hk => by simp [Value.ownBlock] at hk; simp [hk])) (fun _ k hk _ hm => by simp at hm; exact NE.out k hk hm)
    have RF6 := Lib.hid (rd_of_row own6)
    clear own6 own6' grow6 grow6' fr6
    refine hK.out _ _ (B6.out) (fun h6 => ?_)
    clear hK K
    try simp only [Act.put, List.setIfInBounds_toArray, List.set_cons_zero, List.set_cons_succ]
    refine wpAnyH_ready (rs := [6]) (by kernel_rfl) (by simp) ?_
    refine AllReadyH.cons (by rw [List.getElem?_toArray]; rfl) (fun K hK => ?_) AllReadyH.nil
    rw [if_pos (by rfl)]
    have HL0 := two_rdl RU6.out RF6.out
    have HL := Lib.hid HL0
    have b7 : Below w6.heap.size w6 (w6.alloc (.cells #[.slice qu 8 cu, .slice q6 32 k6] 42)) := (Below.refl _ _).alloc (Nat.le_refl _) _
    have G7 := Lib.hid (G6.out.trans (b7.mono G6.out.size))
    have B7 := Lib.hid (B6.out.trans (b7.mono B6.out.size))
    clear HL0 b7
    go_wp2_with fail
    refine hK.out _ _ (B7.out) (fun h7 => ?_)
    clear hK K
    try simp only [Act.put, List.setIfInBounds_toArray, List.set_cons_zero, List.set_cons_succ]
    refine wpAnyH_ready (rs := [7]) (by kernel_rfl) (by simp) ?_
    refine AllReadyH.cons (by rw [List.getElem?_toArray]; rfl) (fun K hK => ?_) AllReadyH.nil
    rw [if_pos (by rfl)]
    go_wp2_with fail
    refine (refTagged_any (s := listS) (t := listS) HL.out list_max cut_list (by rw [list_len, HF.out]; omega) HB.out).mono ?_
    rintro e w8 ⟨rfl, hb8⟩
    rw [show sha (frm (sn listS) [be8 n, F]) = hList n F from rfl, HY.out]
    have Z8 := Lib.hid (HZ.out.on (G7.out.trans (hb8.mono G7.out.size)))
    have B8 := Lib.hid (B7.out.trans (hb8.mono B7.out.size))
    have ct := Z8.out.there zero32_len
    clear hb8
    go_wp2_with fail
    refine hK.out _ _ (B8.out) (fun h8 => ?_)
    clear hK K
    try simp only [Act.put, List.setIfInBounds_toArray, List.set_cons_zero, List.set_cons_succ]
    refine wpAnyH_ready (rs := [8]) (by kernel_rfl) (by simp) ?_
    refine AllReadyH.cons (by rw [List.getElem?_toArray]; rfl) (fun K hK => ?_) AllReadyH.nil
    rw [if_pos (by rfl)]
    go_wp2_with fail
    refine hK.out _ _ (below_setCells' _ HBZ.out _ _ B8.out) (fun h9 => ?_)
    clear hK K
    try simp only [Act.put, List.setIfInBounds_toArray, List.set_cons_zero, List.set_cons_succ]
    refine wpAnyH_done (by kernel_rfl) ?_ _
    have cf := (Z8.out.put zero32_len hlY).row hlY
    go_wp2_with fail
    refine bodyPost_ret (v := .agg (hc Y).toArray) (by simp [results, Tryd.results34, go_sem, cf, hlY]) rfl ⟨rfl, h9⟩
  · rw [if_pos (by rfl)]
    have b3 : Below W0.heap.size W0 (W0.alloc (.cells #[] 5)).drew := ((Below.refl W0.heap.size W0).alloc (Nat.le_refl _) _).drew
    have G3 := Lib.hid b3
    clear b3
    go_wp2_with fail
    refine hK.out _ _ (B0.out.trans (G3.out.mono B0.out.size)) (fun h3 => ?_)
    clear hK K
    try simp only [Act.put, List.setIfInBounds_toArray, List.set_cons_zero, List.set_cons_succ]
    refine wpAnyH_ready (rs := [2]) (by kernel_rfl) (by simp) ?_
    refine AllReadyH.cons (by rw [List.getElem?_toArray]; rfl) (fun K hK => ?_) AllReadyH.nil
    rw [if_pos (by rfl)]
    go_wp2_with fail
    refine (refUint_any n (W0.alloc (.cells #[] 5)).drew).mono ?_
    rintro e w5 ⟨u, rfl, hN⟩
    have ru := hN.rd
    have hb5 := hN.below
    obtain ⟨qu, cu, rfl⟩ := ru.len
    have ru' : Rd w5 (.slice qu 8 cu) (be8 n) := ru
    have RU := Lib.hid ru'
    have G5 := Lib.hid (G3.out.trans (hb5.mono G3.out.size))
    have OW0 : (W0.alloc (.cells #[] 5)).drew.ownsRow 0 5 1 (.slice (some ⟨W0.heap.size, 0, none⟩) 0 0) 0 [] := own_empty W0 5 1
    have OW := Lib.hid (own_on OW0 hb5)
    have EB : Hid (W0.heap.size ≤ W0.heap.size) := Nat.le_refl _
    have NE : Hid (∀ k, (Value.slice qu 8 cu).ownBlock = some k → k ≠ W0.heap.size) := fun k hk e => by
      have := hN.fresh k hk
      simp at this
      omega
    clear ru ru' hN hb5 OW0
    simp only [be8_len]
    go_wp2_with fail
    refine hK.out _ _ (B0.out.trans (G5.out.mono B0.out.size)) (fun h5 => ?_)
    clear hK K
    try simp only [Act.put, List.setIfInBounds_toArray, List.set_cons_zero, List.set_cons_succ]
    clear G3
    refine wpAnyH_ready (rs := [5]) (by kernel_rfl) (by simp) ?_
    refine AllReadyH.cons (by rw [List.getElem?_toArray]; rfl) (fun K hK => ?_) AllReadyH.nil
    rw [if_pos (by rfl)]
    refine wp_append_row _ _ rfl Tryd.underlying42 hi.out hz0.out hz1.out hz2.out rfl OW.out (Rd.src (P := Tryd.prog) Tryd.underlying42 ((HA.out.on G5.out).rd HF.out)) ?b1 ?b2 ?_
    case b1 => rw [HF.out]; unfold maxLen; omega
    case b2 => rw [HF.out]; omega
    intro q6 k6 w6 own6' grow6' fr6
    have own6 : w6.ownsRow 0 5 1 (.slice q6 32 k6) 32 (bc F) := by have := own6'; simp only [HF.out, Nat.zero_add, List.nil_append] at this; exact this
    have grow6 : w5.grownBy w6 (Value.slice (some ⟨W0.heap.size, 0, none⟩) 0 0).ownBlock := grow6'
    simp only [HF.out, Nat.zero_add]
    have G6 : Hid (Below W0.heap.size W0 w6) := G5.out.grown grow6 G5.out.size (fun g hg => by simp [Value.ownBlock] at hg; have := EB.out; omega)
    have B6 : Hid (Below w.heap.size w w6) := Lib.hid (B0.out.trans (G6.out.mono B0.out.size))
    have RU6 : Hid (Rd w6 (.slice qu 8 cu) (be8 n)) := RU.out.chg (Chg.grown grow6 (S := [W0.heap.size]) (fun k hk => by simp [Value.ownBlock] at hk; simp [hk])) (fun _ k hk _ hm => by simp at hm; exact NE.out k hk hm)
    have RF6 := Lib.hid (rd_of_row own6)
    clear own6 own6' grow6 grow6' fr6
    refine hK.out _ _ (B6.out) (fun h6 => ?_)
    clear hK K
    try simp only [Act.put, List.setIfInBounds_toArray, List.set_cons_zero, List.set_cons_succ]
    refine wpAnyH_ready (rs := [6]) (by kernel_rfl) (by simp) ?_
    refine AllReadyH.cons (by rw [List.getElem?_toArray]; rfl) (fun K hK => ?_) AllReadyH.nil
    rw [if_pos (by rfl)]
    have HL0 := two_rdl RU6.out RF6.out
    have HL := Lib.hid HL0
    have b7 : Below w6.heap.size w6 (w6.alloc (.cells #[.slice qu 8 cu, .slice q6 32 k6] 42)) := (Below.refl _ _).alloc (Nat.le_refl _) _
    have G7 := Lib.hid (G6.out.trans (b7.mono G6.out.size))
    have B7 := Lib.hid (B6.out.trans (b7.mono B6.out.size))
    clear HL0 b7
    go_wp2_with fail
    refine hK.out _ _ (B7.out) (fun h7 => ?_)
    clear hK K
    try simp only [Act.put, List.setIfInBounds_toArray, List.set_cons_zero, List.set_cons_succ]
    refine wpAnyH_ready (rs := [7]) (by kernel_rfl) (by simp) ?_
    refine AllReadyH.cons (by rw [List.getElem?_toArray]; rfl) (fun K hK => ?_) AllReadyH.nil
    rw [if_pos (by rfl)]
    go_wp2_with fail
    refine (refTagged_any (s := listS) (t := listS) HL.out list_max cut_list (by rw [list_len, HF.out]; omega) HB.out).mono ?_
    rintro e w8 ⟨rfl, hb8⟩
    rw [show sha (frm (sn listS) [be8 n, F]) = hList n F from rfl, HY.out]
    have Z8 := Lib.hid (HZ.out.on (G7.out.trans (hb8.mono G7.out.size)))
    have B8 := Lib.hid (B7.out.trans (hb8.mono B7.out.size))
    have ct := Z8.out.there zero32_len
    clear hb8
    go_wp2_with fail
    refine hK.out _ _ (B8.out) (fun h8 => ?_)
    clear hK K
    try simp only [Act.put, List.setIfInBounds_toArray, List.set_cons_zero, List.set_cons_succ]
    refine wpAnyH_ready (rs := [8]) (by kernel_rfl) (by simp) ?_
    refine AllReadyH.cons (by rw [List.getElem?_toArray]; rfl) (fun K hK => ?_) AllReadyH.nil
    rw [if_pos (by rfl)]
    go_wp2_with fail
    refine hK.out _ _ (below_setCells' _ HBZ.out _ _ B8.out) (fun h9 => ?_)
    clear hK K
    try simp only [Act.put, List.setIfInBounds_toArray, List.set_cons_zero, List.set_cons_succ]
    refine wpAnyH_done (by kernel_rfl) ?_ _
    have cf := (Z8.out.put zero32_len hlY).row hlY
    go_wp2_with fail
    refine bodyPost_ret (v := .agg (hc Y).toArray) (by simp [results, Tryd.results34, go_sem, cf, hlY]) rfl ⟨rfl, h9⟩
end Go.Proofs.YtebeacejlkiglaaDoor
