/-
  The nodes of a sparse tree: what stands at a leaf, and above two nodes, plain and in the program and in the document.; Package smt: a node of a tree, and a map's own cells, in memory.
-/
import Derived.MapKept
import Derived.Test.YtjgfjmkfcippcaaDoorMc3
import Derived.Test.YtjgfjmkfcippcaaDoorMc5
namespace Go.Proofs.YtjgfjmkfcippcaaDoor
open Go.RowKit
set_option maxRecDepth 100000

def leafS : ByteArray := ⟨#[108, 101, 97, 102]⟩
theorem leaf_sn : sn leafS = [108, 101, 97, 102] := by rfl
theorem leaf_len {A B : List Int} (hA : A.length = 32) (hB : B.length = 32) : (frm (sn leafS) [A, B]).length = 85 := by
  rw [frm_len, leaf_sn]; simp [blobs, hA, hB]
theorem leaf_bytes {A B : List Int} (bA : Bytes A) (bB : Bytes B) : Bytes (frm (sn leafS) [A, B]) :=
  frm_bytes (sn_bytes _) (by rw [leaf_sn]; decide) (fun b hb => by simp only [List.mem_cons, List.not_mem_nil, or_false] at hb; rcases hb with rfl | rfl <;> assumption)
theorem zero32_bytes : Bytes zero32 := by
  intro x hx
  simp only [zero32, List.mem_cons, List.not_mem_nil, or_false, or_self] at hx
  omega
/-- A leaf. -/
def lfH (K V : List Int) : List Int := if V = zero32 then zero32 else sha (frm (sn leafS) [K, V])
/-- What stands above two nodes. -/
def abH (A B : List Int) : List Int := if A = zero32 ∧ B = zero32 then zero32 else sha (frm (sn pairS) [A, B])
theorem lfH_len (K V : List Int) : (lfH K V).length = 32 := by unfold lfH; split; exact zero32_len; exact sha_len _
theorem lfH_bytes (K V : List Int) : Bytes (lfH K V) := by unfold lfH; split; exact zero32_bytes; exact sha_bytes _
theorem abH_len (A B : List Int) : (abH A B).length = 32 := by unfold abH; split; exact zero32_len; exact sha_len _
theorem abH_bytes (A B : List Int) : Bytes (abH A B) := by unfold abH; split; exact zero32_bytes; exact sha_bytes _
theorem lfH_zero (K : List Int) : lfH K zero32 = zero32 := if_pos rfl
theorem lfH_some (K : List Int) {V : List Int} (h : ¬ V = zero32) : lfH K V = sha (frm (sn leafS) [K, V]) := if_neg h
theorem abH_zero : abH zero32 zero32 = zero32 := if_pos ⟨rfl, rfl⟩
theorem abH_some {A B : List Int} (h : ¬ (A = zero32 ∧ B = zero32)) : abH A B = sha (frm (sn pairS) [A, B]) := if_neg h

set_option maxHeartbeats 4000000 in
theorem Leaf_any {w : World} {A B : List Int} (hT : Tbl w) (hA : A.length = 32) (hB : B.length = 32) (bA : Bytes A) (bB : Bytes B) :
    Calls Tryd.prog 9 #[.agg (hc A).toArray, .agg (hc B).toArray] w fun e w' => e = .returned (.agg (hc (lfH A B)).toArray) ∧ Below w.heap.size w w' := by
  have LL := Lib.hid (leaf_len hA hB)
  have BX := Lib.hid (leaf_bytes bA bB)
  have HA := Lib.hid ((HashAt.new w A).alloc (.cells (hc B).toArray 23) |>.alloc (.cells (hc zero32).toArray 23))
  have HB := Lib.hid ((HashAt.new (w.alloc (.cells (hc A).toArray 23)) B).alloc (.cells (hc zero32).toArray 23))
  have HZ := Lib.hid (HashAt.new ((w.alloc (.cells (hc A).toArray 23)).alloc (.cells (hc B).toArray 23)) zero32)
  have B0 := Lib.hid ((((Below.refl w.heap.size w).alloc (Nat.le_refl _) (.cells (hc A).toArray 23)).alloc (by simp) (.cells (hc B).toArray 23)).alloc (by simp; omega) (.cells (hc zero32).toArray 23))
  have hlA : (hc A).length = 32 := by rw [hc_len, hA]
  have hlB : (hc B).length = 32 := by rw [hc_len, hB]
  obtain ⟨i0, hi, hz0, hz1, hz2⟩ := info_parts Tryd.infoU8
  replace hi := Lib.hid hi
  replace hz0 := Lib.hid hz0
  replace hz1 := Lib.hid hz1
  replace hz2 := Lib.hid hz2
  replace hA := Lib.hid hA
  replace hB := Lib.hid hB
  clear bA bB
  simp only [World.size_alloc] at HB HZ
  have r1 := HB.out.row hB.out
  have lB : B.length = 32 := hB.out
  have z32 := zero32_len
  by_cases hz : B = zero32
  · have dz : (B == zero32) = true := by rw [hz]; exact beq_self_eq_true _
    have HE := Lib.hid (show lfH A B = zero32 by rw [hz]; exact lfH_zero A)
    have hth := HZ.out.there zero32_len
    have hput := (HZ.out.put zero32_len zero32_len).row zero32_len
    have HX := Lib.hid (below_setCells' (B := w.heap.size) (w.heap.size + 1 + 1) (by omega) (hc zero32) 0 B0.out)
    clear hz
    go_enter Tryd.func9, Tryd.ntmps9
    go_wp2_with fail
    refine bodyPost_ret (v := .agg (hc zero32).toArray) (by simp [results, Tryd.results9, go_sem, hput, z32]) rfl ⟨by rw [HE.out], HX.out⟩
  have dz : (B == zero32) = false := by simpa using hz
  have HE := Lib.hid (lfH_some A hz)
  clear hz
  go_enter Tryd.func9, Tryd.ntmps9
  go_wp2_with fail
  clear dz r1 lB z32
  generalize ((w.alloc (.cells (hc A).toArray 23)).alloc (.cells (hc B).toArray 23)).alloc (.cells (hc zero32).toArray 23) = W0 at *
  refine wp_region_held_drew (S := fun W => Below w.heap.size w W) (by kernel_rfl) (B0.out.drew) (fun h0 => ?_)
  refine wpAnyH_take (i := 0) (v := ?_) (by rw [List.getElem?_toArray]; rfl) (by kernel_rfl) (by kernel_rfl) (by kernel_rfl) (by exact fun _ _ _ h => h) (Or.inl ⟨by rfl, ?_⟩) h0 ?_
  rotate_left
  · intro W hW
    go_simp
    all_goals with_reducible rfl
  try simp only [Act.put, List.setIfInBounds_toArray, List.set_cons_zero, List.set_cons_succ]
  refine wpAnyH_take (i := 1) (v := ?_) (by rw [List.getElem?_toArray]; rfl) (by kernel_rfl) (by kernel_rfl) (by kernel_rfl) (by exact fun _ _ _ h => h) (Or.inl ⟨by rfl, ?_⟩) h0 ?_
  rotate_left
  · intro W hW
    go_simp
    all_goals with_reducible rfl
  try simp only [Act.put, List.setIfInBounds_toArray, List.set_cons_zero, List.set_cons_succ]
  refine wpAnyH_ready (rs := [2]) (by kernel_rfl) (by simp) ?_
  refine AllReadyH.cons (by rw [List.getElem?_toArray]; rfl) (fun K hK => ?_) AllReadyH.nil
  rw [if_pos (by rfl)]
  have G0 : Below W0.heap.size W0 W0.drew := (Below.refl _ _).drew
  go_wp2_with fail
  refine hK.out _ _ (h0.alloc h0.size _) (fun h2 => ?_)
  clear hK K
  try simp only [Act.put, List.setIfInBounds_toArray, List.set_cons_zero, List.set_cons_succ]
  have RL := two_rdl ((HA.out.on G0).rd hA.out) ((HB.out.on G0).rd hB.out)
  have RL2 := Lib.hid RL
  have G2 := G0.alloc G0.size (.cells #[.slice (some ⟨w.heap.size, 0, none⟩) 32 32, .slice (some ⟨w.heap.size + 1, 0, none⟩) 32 32] 64)
  clear RL
  refine wpAnyH_ready (rs := [3]) (by kernel_rfl) (by simp) ?_
  refine AllReadyH.cons (by rw [List.getElem?_toArray]; rfl) (fun K hK => ?_) AllReadyH.nil
  rw [if_pos (by rfl)]
  go_wp2_with fail
  refine (Tagged_any (s := leafS) RL2.out (hT.on h2 hT.pos) (by decide) (cut_small (by decide)) (by rw [LL.out]; omega) BX.out).mono ?_
  rintro e w8 ⟨rfl, hb8⟩
  have hB8 : Below W0.heap.size W0 w8 := G2.trans (hb8.mono G2.size)
  go_wp2_with fail
  refine hK.out _ _ (h2.trans (hb8.mono h2.size)) (fun h3 => ?_)
  clear hK K
  try simp only [Act.put, List.setIfInBounds_toArray, List.set_cons_zero, List.set_cons_succ]
  refine wpAnyH_ready (rs := [4]) (by kernel_rfl) (by simp) ?_
  refine AllReadyH.cons (by rw [List.getElem?_toArray]; rfl) (fun K hK => ?_) AllReadyH.nil
  rw [if_pos (by rfl)]
  have H3 := HZ.out.on hB8
  have B3 := B0.out.trans (hB8.mono B0.out.size)
  have hth3 := H3.there zero32_len
  have hlen := sha_len (frm (sn leafS) [A, B])
  have hput := (H3.put zero32_len hlen).row hlen
  have HX := Lib.hid (below_setCells' (B := w.heap.size) (w.heap.size + 1 + 1) (by omega) (hc (sha (frm (sn leafS) [A, B]))) 0 B3)
  generalize hF : sha (frm (sn leafS) [A, B]) = F at *
  have HF := Lib.hid hF
  clear hF hb8 H3 B3
  go_wp2_with fail
  refine hK.out _ _ (HX.out) (fun _ => ?_)
  clear hK K
  try simp only [Act.put, List.setIfInBounds_toArray, List.set_cons_zero, List.set_cons_succ]
  refine wpAnyH_done (by kernel_rfl) ?_ _
  go_wp2_with fail
  refine bodyPost_ret (v := .agg (hc F).toArray) (by simp [results, Tryd.results9, go_sem, hput, hlen]) rfl ⟨by rw [HE.out], HX.out⟩

set_option maxHeartbeats 4000000 in
theorem refLeaf_any {w : World} {A B : List Int} (hA : A.length = 32) (hB : B.length = 32) (bA : Bytes A) (bB : Bytes B) :
    Calls Tryd.prog 10 #[.agg (hc A).toArray, .agg (hc B).toArray] w fun e w' => e = .returned (.agg (hc (lfH A B)).toArray) ∧ Below w.heap.size w w' := by
  have LL := Lib.hid (leaf_len hA hB)
  have BX := Lib.hid (leaf_bytes bA bB)
  have HA := Lib.hid ((HashAt.new w A).alloc (.cells (hc B).toArray 23) |>.alloc (.cells (hc zero32).toArray 23))
  have HB := Lib.hid ((HashAt.new (w.alloc (.cells (hc A).toArray 23)) B).alloc (.cells (hc zero32).toArray 23))
  have HZ := Lib.hid (HashAt.new ((w.alloc (.cells (hc A).toArray 23)).alloc (.cells (hc B).toArray 23)) zero32)
  have B0 := Lib.hid ((((Below.refl w.heap.size w).alloc (Nat.le_refl _) (.cells (hc A).toArray 23)).alloc (by simp) (.cells (hc B).toArray 23)).alloc (by simp; omega) (.cells (hc zero32).toArray 23))
  have hlA : (hc A).length = 32 := by rw [hc_len, hA]
  have hlB : (hc B).length = 32 := by rw [hc_len, hB]
  obtain ⟨i0, hi, hz0, hz1, hz2⟩ := info_parts Tryd.infoU8
  replace hi := Lib.hid hi
  replace hz0 := Lib.hid hz0
  replace hz1 := Lib.hid hz1
  replace hz2 := Lib.hid hz2
  replace hA := Lib.hid hA
  replace hB := Lib.hid hB
  clear bA bB
  simp only [World.size_alloc] at HB HZ
  have r1 := HB.out.row hB.out
  have lB : B.length = 32 := hB.out
  have z32 := zero32_len
  by_cases hz : B = zero32
  · have dz : (B == zero32) = true := by rw [hz]; exact beq_self_eq_true _
    have HE := Lib.hid (show lfH A B = zero32 by rw [hz]; exact lfH_zero A)
    have hth := HZ.out.there zero32_len
    have hput := (HZ.out.put zero32_len zero32_len).row zero32_len
    have HX := Lib.hid (below_setCells' (B := w.heap.size) (w.heap.size + 1 + 1) (by omega) (hc zero32) 0 B0.out)
    clear hz
    go_enter Tryd.func10, Tryd.ntmps10
    go_wp2_with fail
    refine bodyPost_ret (v := .agg (hc zero32).toArray) (by simp [results, Tryd.results10, go_sem, hput, z32]) rfl ⟨by rw [HE.out], HX.out⟩
  have dz : (B == zero32) = false := by simpa using hz
  have HE := Lib.hid (lfH_some A hz)
  clear hz
  go_enter Tryd.func10, Tryd.ntmps10
  go_wp2_with fail
  clear dz r1 lB z32
  generalize ((w.alloc (.cells (hc A).toArray 23)).alloc (.cells (hc B).toArray 23)).alloc (.cells (hc zero32).toArray 23) = W0 at *
  refine wp_region_held_drew (S := fun W => Below w.heap.size w W) (by kernel_rfl) (B0.out.drew) (fun h0 => ?_)
  have G0 : Below W0.heap.size W0 W0.drew := (Below.refl _ _).drew
  refine wpAnyH_take (i := 1) (v := ?_) (by rw [List.getElem?_toArray]; rfl) (by kernel_rfl) (by kernel_rfl) (by kernel_rfl) (by exact fun _ _ _ h => h) (Or.inl ⟨by rfl, ?_⟩) h0 ?_
  rotate_left
  · intro W hW
    go_simp
    all_goals with_reducible rfl
  try simp only [Act.put, List.setIfInBounds_toArray, List.set_cons_zero, List.set_cons_succ]
  refine wpAnyH_take (i := 4) (v := ?_) (by rw [List.getElem?_toArray]; rfl) (by kernel_rfl) (by kernel_rfl) (by kernel_rfl) (by exact fun _ _ _ h => h) (Or.inl ⟨by rfl, ?_⟩) h0 ?_
  rotate_left
  · intro W hW
    go_simp
    all_goals with_reducible rfl
  try simp only [Act.put, List.setIfInBounds_toArray, List.set_cons_zero, List.set_cons_succ]
  refine wpAnyH_ready (rs := [0, 3]) (by kernel_rfl) (by simp) ?_
  refine AllReadyH.cons (by rw [List.getElem?_toArray]; rfl) (fun K hK => ?_) (AllReadyH.cons (by rw [List.getElem?_toArray]; rfl) (fun K hK => ?_) AllReadyH.nil)
  · rw [if_pos (by rfl)]
    go_wp2_with fail
    have R1 := Lib.hid (FrS.born G0 (k := W0.heap.size) rfl)
    have G1 := G0.alloc G0.size (.cells #[] 5)
    refine hK.out _ _ (h0.alloc h0.size _) (fun h1 => ?_)
    clear hK K
    try simp only [Act.put, List.setIfInBounds_toArray, List.set_cons_zero, List.set_cons_succ]
    refine wpAnyH_ready (rs := [2, 3]) (by kernel_rfl) (by simp) ?_
    refine AllReadyH.cons (by rw [List.getElem?_toArray]; rfl) (fun K hK => ?_) (AllReadyH.cons (by rw [List.getElem?_toArray]; rfl) (fun K hK => ?_) AllReadyH.nil)
    · rw [if_pos (by rfl)]
      refine wp_append_row _ _ rfl Tryd.underlying64 hi.out hz0.out hz1.out hz2.out rfl R1.out.own (((HA.out.on G1).rd hA.out).src Tryd.underlying64) (by rw [hA.out]; unfold maxLen; omega) (by rw [hA.out]; omega) ?_
      intro q2 k2 w2 own2 grow2 fr2
      have R2 := Lib.hid (R1.out.grow own2 grow2 fr2)
      have G2 := R2.out.below
      clear own2 grow2 fr2
      refine hK.out _ _ (B0.out.trans (G2.mono B0.out.size)) (fun h2 => ?_)
      clear hK K
      try simp only [Act.put, List.setIfInBounds_toArray, List.set_cons_zero, List.set_cons_succ]
      refine wpAnyH_ready (rs := [3]) (by kernel_rfl) (by simp) ?_
      refine AllReadyH.cons (by rw [List.getElem?_toArray]; rfl) (fun K hK => ?_) AllReadyH.nil
      · rw [if_pos (by rfl)]
        go_wp2_with fail
        have R3 := Lib.hid (Two.ofA R2.out (k := w2.heap.size) rfl)
        have G3 := G2.alloc G2.size (.cells #[] 5)
        refine hK.out _ _ (h2.alloc h2.size _) (fun h3 => ?_)
        clear hK K
        try simp only [Act.put, List.setIfInBounds_toArray, List.set_cons_zero, List.set_cons_succ]
        refine wpAnyH_ready (rs := [5]) (by kernel_rfl) (by simp) ?_
        refine AllReadyH.cons (by rw [List.getElem?_toArray]; rfl) (fun K hK => ?_) AllReadyH.nil
        · rw [if_pos (by rfl)]
          refine wp_append_row _ _ rfl Tryd.underlying64 hi.out hz0.out hz1.out hz2.out rfl R3.out.b.own (((HB.out.on G3).rd hB.out).src Tryd.underlying64) (by rw [hB.out]; unfold maxLen; omega) (by rw [hB.out]; omega) ?_
          intro q4 k4 w4 own4 grow4 fr4
          have R4 := Lib.hid (R3.out.symm.growA own4 grow4 fr4).symm
          have G4 := R4.out.a.below
          clear own4 grow4 fr4
          refine hK.out _ _ (B0.out.trans (G4.mono B0.out.size)) (fun h4 => ?_)
          clear hK K
          try simp only [Act.put, List.setIfInBounds_toArray, List.set_cons_zero, List.set_cons_succ]
          refine wpAnyH_ready (rs := [6]) (by kernel_rfl) (by simp) ?_
          refine AllReadyH.cons (by rw [List.getElem?_toArray]; rfl) (fun K hK => ?_) AllReadyH.nil
          · rw [if_pos (by rfl)]
            go_wp2_with fail
            have RL := two_rdl R4.out.a.rd R4.out.b.rd
            simp only [List.nil_append, Nat.zero_add] at RL
            have RL2 := Lib.hid RL
            clear RL
            have G5 := G4.alloc G4.size (.cells #[.slice q2 A.length k2, .slice q4 B.length k4] 64)
            refine hK.out _ _ (h4.alloc h4.size _) (fun h5 => ?_)
            clear hK K
            try simp only [Act.put, List.setIfInBounds_toArray, List.set_cons_zero, List.set_cons_succ]
            refine wpAnyH_ready (rs := [7]) (by kernel_rfl) (by simp) ?_
            refine AllReadyH.cons (by rw [List.getElem?_toArray]; rfl) (fun K hK => ?_) AllReadyH.nil
            · rw [if_pos (by rfl)]
              go_wp2_with fail
              refine (refTagged_any (s := leafS) RL2.out (by decide) (cut_small (by decide)) (by rw [LL.out]; omega) BX.out).mono ?_
              rintro e w8 ⟨rfl, hb8⟩
              have hB8 : Below W0.heap.size W0 w8 := G5.trans (hb8.mono G5.size)
              go_wp2_with fail
              have G6 := hB8
              refine hK.out _ _ (h5.trans (hb8.mono h5.size)) (fun h6 => ?_)
              clear hK K
              try simp only [Act.put, List.setIfInBounds_toArray, List.set_cons_zero, List.set_cons_succ]
              refine wpAnyH_ready (rs := [8]) (by kernel_rfl) (by simp) ?_
              refine AllReadyH.cons (by rw [List.getElem?_toArray]; rfl) (fun K hK => ?_) AllReadyH.nil
              · rw [if_pos (by rfl)]
                have H3 := HZ.out.on hB8
                have B3 := B0.out.trans (hB8.mono B0.out.size)
                have hth3 := H3.there zero32_len
                have hlen := sha_len (frm (sn leafS) [A, B])
                have hput := (H3.put zero32_len hlen).row hlen
                have HX := Lib.hid (below_setCells' (B := w.heap.size) (w.heap.size + 1 + 1) (by omega) (hc (sha (frm (sn leafS) [A, B]))) 0 B3)
                generalize hF : sha (frm (sn leafS) [A, B]) = F at *
                have HF := Lib.hid hF
                clear hF hb8 H3 B3
                go_wp2_with fail
                refine hK.out _ _ (HX.out) (fun h7 => ?_)
                clear hK K
                try simp only [Act.put, List.setIfInBounds_toArray, List.set_cons_zero, List.set_cons_succ]
                refine wpAnyH_done (by kernel_rfl) ?_ _
                go_wp2_with fail
                refine bodyPost_ret (v := .agg (hc F).toArray) (by simp [results, Tryd.results10, go_sem, hput, hlen]) rfl ⟨by rw [HE.out], HX.out⟩
    · rw [if_pos (by rfl)]
      go_wp2_with fail
      have R2 := Lib.hid (Two.ofA R1.out (k := W0.heap.size + 1) (by simp))
      have G2 := G1.alloc G1.size (.cells #[] 5)
      refine hK.out _ _ (h1.alloc h1.size _) (fun h2 => ?_)
      clear hK K
      try simp only [Act.put, List.setIfInBounds_toArray, List.set_cons_zero, List.set_cons_succ]
      refine wpAnyH_ready (rs := [2]) (by kernel_rfl) (by simp) ?_
      refine AllReadyH.cons (by rw [List.getElem?_toArray]; rfl) (fun K hK => ?_) AllReadyH.nil
      · rw [if_pos (by rfl)]
        refine wp_append_row _ _ rfl Tryd.underlying64 hi.out hz0.out hz1.out hz2.out rfl R2.out.a.own (((HA.out.on G2).rd hA.out).src Tryd.underlying64) (by rw [hA.out]; unfold maxLen; omega) (by rw [hA.out]; omega) ?_
        intro q3 k3 w3 own3 grow3 fr3
        have R3 := Lib.hid (R2.out.growA own3 grow3 fr3)
        have G3 := R3.out.a.below
        clear own3 grow3 fr3
        refine hK.out _ _ (B0.out.trans (G3.mono B0.out.size)) (fun h3 => ?_)
        clear hK K
        try simp only [Act.put, List.setIfInBounds_toArray, List.set_cons_zero, List.set_cons_succ]
        refine wpAnyH_ready (rs := [5]) (by kernel_rfl) (by simp) ?_
        refine AllReadyH.cons (by rw [List.getElem?_toArray]; rfl) (fun K hK => ?_) AllReadyH.nil
        · rw [if_pos (by rfl)]
          refine wp_append_row _ _ rfl Tryd.underlying64 hi.out hz0.out hz1.out hz2.out rfl R3.out.b.own (((HB.out.on G3).rd hB.out).src Tryd.underlying64) (by rw [hB.out]; unfold maxLen; omega) (by rw [hB.out]; omega) ?_
          intro q4 k4 w4 own4 grow4 fr4
          have R4 := Lib.hid (R3.out.symm.growA own4 grow4 fr4).symm
          have G4 := R4.out.a.below
          clear own4 grow4 fr4
          refine hK.out _ _ (B0.out.trans (G4.mono B0.out.size)) (fun h4 => ?_)
          clear hK K
          try simp only [Act.put, List.setIfInBounds_toArray, List.set_cons_zero, List.set_cons_succ]
          refine wpAnyH_ready (rs := [6]) (by kernel_rfl) (by simp) ?_
          refine AllReadyH.cons (by rw [List.getElem?_toArray]; rfl) (fun K hK => ?_) AllReadyH.nil
          · rw [if_pos (by rfl)]
            go_wp2_with fail
            have RL := two_rdl R4.out.a.rd R4.out.b.rd
            simp only [List.nil_append, Nat.zero_add] at RL
            have RL2 := Lib.hid RL
            clear RL
            have G5 := G4.alloc G4.size (.cells #[.slice q3 A.length k3, .slice q4 B.length k4] 64)
            refine hK.out _ _ (h4.alloc h4.size _) (fun h5 => ?_)
            clear hK K
            try simp only [Act.put, List.setIfInBounds_toArray, List.set_cons_zero, List.set_cons_succ]
            refine wpAnyH_ready (rs := [7]) (by kernel_rfl) (by simp) ?_
            refine AllReadyH.cons (by rw [List.getElem?_toArray]; rfl) (fun K hK => ?_) AllReadyH.nil
            · rw [if_pos (by rfl)]
              go_wp2_with fail
              refine (refTagged_any (s := leafS) RL2.out (by decide) (cut_small (by decide)) (by rw [LL.out]; omega) BX.out).mono ?_
              rintro e w8 ⟨rfl, hb8⟩
              have hB8 : Below W0.heap.size W0 w8 := G5.trans (hb8.mono G5.size)
              go_wp2_with fail
              have G6 := hB8
              refine hK.out _ _ (h5.trans (hb8.mono h5.size)) (fun h6 => ?_)
              clear hK K
              try simp only [Act.put, List.setIfInBounds_toArray, List.set_cons_zero, List.set_cons_succ]
              refine wpAnyH_ready (rs := [8]) (by kernel_rfl) (by simp) ?_
              refine AllReadyH.cons (by rw [List.getElem?_toArray]; rfl) (fun K hK => ?_) AllReadyH.nil
              · rw [if_pos (by rfl)]
                have H3 := HZ.out.on hB8
                have B3 := B0.out.trans (hB8.mono B0.out.size)
                have hth3 := H3.there zero32_len
                have hlen := sha_len (frm (sn leafS) [A, B])
                have hput := (H3.put zero32_len hlen).row hlen
                have HX := Lib.hid (below_setCells' (B := w.heap.size) (w.heap.size + 1 + 1) (by omega) (hc (sha (frm (sn leafS) [A, B]))) 0 B3)
                generalize hF : sha (frm (sn leafS) [A, B]) = F at *
                have HF := Lib.hid hF
                clear hF hb8 H3 B3
                go_wp2_with fail
                refine hK.out _ _ (HX.out) (fun h7 => ?_)
                clear hK K
                try simp only [Act.put, List.setIfInBounds_toArray, List.set_cons_zero, List.set_cons_succ]
                refine wpAnyH_done (by kernel_rfl) ?_ _
                go_wp2_with fail
                refine bodyPost_ret (v := .agg (hc F).toArray) (by simp [results, Tryd.results10, go_sem, hput, hlen]) rfl ⟨by rw [HE.out], HX.out⟩
  · rw [if_pos (by rfl)]
    go_wp2_with fail
    have R1 := Lib.hid (FrS.born G0 (k := W0.heap.size) rfl)
    have G1 := G0.alloc G0.size (.cells #[] 5)
    refine hK.out _ _ (h0.alloc h0.size _) (fun h1 => ?_)
    clear hK K
    try simp only [Act.put, List.setIfInBounds_toArray, List.set_cons_zero, List.set_cons_succ]
    refine wpAnyH_ready (rs := [0]) (by kernel_rfl) (by simp) ?_
    refine AllReadyH.cons (by rw [List.getElem?_toArray]; rfl) (fun K hK => ?_) AllReadyH.nil
    · rw [if_pos (by rfl)]
      go_wp2_with fail
      have R2 := Lib.hid (Two.ofA R1.out (k := W0.heap.size + 1) (by simp)).symm
      have G2 := G1.alloc G1.size (.cells #[] 5)
      refine hK.out _ _ (h1.alloc h1.size _) (fun h2 => ?_)
      clear hK K
      try simp only [Act.put, List.setIfInBounds_toArray, List.set_cons_zero, List.set_cons_succ]
      refine wpAnyH_ready (rs := [2]) (by kernel_rfl) (by simp) ?_
      refine AllReadyH.cons (by rw [List.getElem?_toArray]; rfl) (fun K hK => ?_) AllReadyH.nil
      · rw [if_pos (by rfl)]
        refine wp_append_row _ _ rfl Tryd.underlying64 hi.out hz0.out hz1.out hz2.out rfl R2.out.a.own (((HA.out.on G2).rd hA.out).src Tryd.underlying64) (by rw [hA.out]; unfold maxLen; omega) (by rw [hA.out]; omega) ?_
        intro q3 k3 w3 own3 grow3 fr3
        have R3 := Lib.hid (R2.out.growA own3 grow3 fr3)
        have G3 := R3.out.a.below
        clear own3 grow3 fr3
        refine hK.out _ _ (B0.out.trans (G3.mono B0.out.size)) (fun h3 => ?_)
        clear hK K
        try simp only [Act.put, List.setIfInBounds_toArray, List.set_cons_zero, List.set_cons_succ]
        refine wpAnyH_ready (rs := [5]) (by kernel_rfl) (by simp) ?_
        refine AllReadyH.cons (by rw [List.getElem?_toArray]; rfl) (fun K hK => ?_) AllReadyH.nil
        · rw [if_pos (by rfl)]
          refine wp_append_row _ _ rfl Tryd.underlying64 hi.out hz0.out hz1.out hz2.out rfl R3.out.b.own (((HB.out.on G3).rd hB.out).src Tryd.underlying64) (by rw [hB.out]; unfold maxLen; omega) (by rw [hB.out]; omega) ?_
          intro q4 k4 w4 own4 grow4 fr4
          have R4 := Lib.hid (R3.out.symm.growA own4 grow4 fr4).symm
          have G4 := R4.out.a.below
          clear own4 grow4 fr4
          refine hK.out _ _ (B0.out.trans (G4.mono B0.out.size)) (fun h4 => ?_)
          clear hK K
          try simp only [Act.put, List.setIfInBounds_toArray, List.set_cons_zero, List.set_cons_succ]
          refine wpAnyH_ready (rs := [6]) (by kernel_rfl) (by simp) ?_
          refine AllReadyH.cons (by rw [List.getElem?_toArray]; rfl) (fun K hK => ?_) AllReadyH.nil
          · rw [if_pos (by rfl)]
            go_wp2_with fail
            have RL := two_rdl R4.out.a.rd R4.out.b.rd
            simp only [List.nil_append, Nat.zero_add] at RL
            have RL2 := Lib.hid RL
            clear RL
            have G5 := G4.alloc G4.size (.cells #[.slice q3 A.length k3, .slice q4 B.length k4] 64)
            refine hK.out _ _ (h4.alloc h4.size _) (fun h5 => ?_)
            clear hK K
            try simp only [Act.put, List.setIfInBounds_toArray, List.set_cons_zero, List.set_cons_succ]
            refine wpAnyH_ready (rs := [7]) (by kernel_rfl) (by simp) ?_
            refine AllReadyH.cons (by rw [List.getElem?_toArray]; rfl) (fun K hK => ?_) AllReadyH.nil
            · rw [if_pos (by rfl)]
              go_wp2_with fail
              refine (refTagged_any (s := leafS) RL2.out (by decide) (cut_small (by decide)) (by rw [LL.out]; omega) BX.out).mono ?_
              rintro e w8 ⟨rfl, hb8⟩
              have hB8 : Below W0.heap.size W0 w8 := G5.trans (hb8.mono G5.size)
              go_wp2_with fail
              have G6 := hB8
              refine hK.out _ _ (h5.trans (hb8.mono h5.size)) (fun h6 => ?_)
              clear hK K
              try simp only [Act.put, List.setIfInBounds_toArray, List.set_cons_zero, List.set_cons_succ]
              refine wpAnyH_ready (rs := [8]) (by kernel_rfl) (by simp) ?_
              refine AllReadyH.cons (by rw [List.getElem?_toArray]; rfl) (fun K hK => ?_) AllReadyH.nil
              · rw [if_pos (by rfl)]
                have H3 := HZ.out.on hB8
                have B3 := B0.out.trans (hB8.mono B0.out.size)
                have hth3 := H3.there zero32_len
                have hlen := sha_len (frm (sn leafS) [A, B])
                have hput := (H3.put zero32_len hlen).row hlen
                have HX := Lib.hid (below_setCells' (B := w.heap.size) (w.heap.size + 1 + 1) (by omega) (hc (sha (frm (sn leafS) [A, B]))) 0 B3)
                generalize hF : sha (frm (sn leafS) [A, B]) = F at *
                have HF := Lib.hid hF
                clear hF hb8 H3 B3
                go_wp2_with fail
                refine hK.out _ _ (HX.out) (fun h7 => ?_)
                clear hK K
                try simp only [Act.put, List.setIfInBounds_toArray, List.set_cons_zero, List.set_cons_succ]
                refine wpAnyH_done (by kernel_rfl) ?_ _
                go_wp2_with fail
                refine bodyPost_ret (v := .agg (hc F).toArray) (by simp [results, Tryd.results10, go_sem, hput, hlen]) rfl ⟨by rw [HE.out], HX.out⟩

set_option maxHeartbeats 4000000 in
theorem Above_any {w : World} {A B : List Int} (hT : Tbl w) (hA : A.length = 32) (hB : B.length = 32) (bA : Bytes A) (bB : Bytes B) :
    Calls Tryd.prog 11 #[.agg (hc A).toArray, .agg (hc B).toArray] w fun e w' => e = .returned (.agg (hc (abH A B)).toArray) ∧ Below w.heap.size w w' := by
  have HA := Lib.hid ((HashAt.new w A).alloc (.cells (hc B).toArray 23) |>.alloc (.cells (hc zero32).toArray 23))
  have HB := Lib.hid ((HashAt.new (w.alloc (.cells (hc A).toArray 23)) B).alloc (.cells (hc zero32).toArray 23))
  have HZ := Lib.hid (HashAt.new ((w.alloc (.cells (hc A).toArray 23)).alloc (.cells (hc B).toArray 23)) zero32)
  have B0 := Lib.hid ((((Below.refl w.heap.size w).alloc (Nat.le_refl _) (.cells (hc A).toArray 23)).alloc (by simp) (.cells (hc B).toArray 23)).alloc (by simp; omega) (.cells (hc zero32).toArray 23))
  have hlA : (hc A).length = 32 := by rw [hc_len, hA]
  have hlB : (hc B).length = 32 := by rw [hc_len, hB]
  simp only [World.size_alloc] at HB HZ
  have r0 := HA.out.row hA
  have r1 := HB.out.row hB
  have z32 := zero32_len
  have P := fun (W : World) (h : Below w.heap.size w W) => Pair_any (w := W) (hT.on h hT.pos) hA hB bA bB
  have HP := Lib.hid P
  clear P bA bB
  by_cases hz : A = zero32 ∧ B = zero32
  · have da : (A == zero32) = true := by rw [hz.1]; exact beq_self_eq_true _
    have db : (B == zero32) = true := by rw [hz.2]; exact beq_self_eq_true _
    have HE := Lib.hid (show abH A B = zero32 by rw [hz.1, hz.2]; exact abH_zero)
    have hth := HZ.out.there zero32_len
    have hput := (HZ.out.put zero32_len zero32_len).row zero32_len
    have HX := Lib.hid (below_setCells' (B := w.heap.size) (w.heap.size + 1 + 1) (by omega) (hc zero32) 0 B0.out)
    clear hz
    go_enter Tryd.func11, Tryd.ntmps11
    go_wp2_with fail
    refine bodyPost_ret (v := .agg (hc zero32).toArray) (by simp [results, Tryd.results11, go_sem, hput, z32]) rfl ⟨by rw [HE.out], HX.out⟩
  have HE := Lib.hid (abH_some hz)
  have hd : (A == zero32) = false ∨ ((A == zero32) = true ∧ (B == zero32) = false) := by
    by_cases ha : A = zero32
    · right
      exact ⟨by rw [ha]; exact beq_self_eq_true _, by simpa using fun hb => hz ⟨ha, hb⟩⟩
    · left; simpa using ha
  clear hz
  have hlen := sha_len (frm (sn pairS) [A, B])
  rcases hd with da | ⟨da, db⟩
  all_goals
    go_enter Tryd.func11, Tryd.ntmps11
    go_wp2_with fail
    refine (HP.out _ B0.out).mono ?_
    rintro e w3 ⟨rfl, hb3⟩
    have H3 := HZ.out.on hb3
    have B3 := B0.out.trans (hb3.mono B0.out.size)
    have hth3 := H3.there zero32_len
    have hput := (H3.put zero32_len hlen).row hlen
    have HX := Lib.hid (below_setCells' (B := w.heap.size) (w.heap.size + 1 + 1) (by omega) (hc (sha (frm (sn pairS) [A, B]))) 0 B3)
    generalize hF : sha (frm (sn pairS) [A, B]) = F at *
    have HF := Lib.hid hF
    clear hF hb3 H3 B3 r0 r1
    go_wp2_with fail
    refine bodyPost_ret (v := .agg (hc F).toArray) (by simp [results, Tryd.results11, go_sem, hput, hlen]) rfl ⟨by rw [HE.out], HX.out⟩

set_option maxHeartbeats 4000000 in
theorem refAbove_any {w : World} {A B : List Int} (hA : A.length = 32) (hB : B.length = 32) (bA : Bytes A) (bB : Bytes B) :
    Calls Tryd.prog 12 #[.agg (hc A).toArray, .agg (hc B).toArray] w fun e w' => e = .returned (.agg (hc (abH A B)).toArray) ∧ Below w.heap.size w w' := by
  have HA := Lib.hid ((HashAt.new w A).alloc (.cells (hc B).toArray 23) |>.alloc (.cells (hc zero32).toArray 23))
  have HB := Lib.hid ((HashAt.new (w.alloc (.cells (hc A).toArray 23)) B).alloc (.cells (hc zero32).toArray 23))
  have HZ := Lib.hid (HashAt.new ((w.alloc (.cells (hc A).toArray 23)).alloc (.cells (hc B).toArray 23)) zero32)
  have B0 := Lib.hid ((((Below.refl w.heap.size w).alloc (Nat.le_refl _) (.cells (hc A).toArray 23)).alloc (by simp) (.cells (hc B).toArray 23)).alloc (by simp; omega) (.cells (hc zero32).toArray 23))
  have hlA : (hc A).length = 32 := by rw [hc_len, hA]
  have hlB : (hc B).length = 32 := by rw [hc_len, hB]
  simp only [World.size_alloc] at HB HZ
  have r0 := HA.out.row hA
  have r1 := HB.out.row hB
  have z32 := zero32_len
  have P := fun (W : World) (h : Below w.heap.size w W) => refPair_any (w := W) hA hB bA bB
  have HP := Lib.hid P
  clear P bA bB
  by_cases hz : A = zero32 ∧ B = zero32
  · have da : (A == zero32) = true := by rw [hz.1]; exact beq_self_eq_true _
    have db : (B == zero32) = true := by rw [hz.2]; exact beq_self_eq_true _
    have HE := Lib.hid (show abH A B = zero32 by rw [hz.1, hz.2]; exact abH_zero)
    have hth := HZ.out.there zero32_len
    have hput := (HZ.out.put zero32_len zero32_len).row zero32_len
    have HX := Lib.hid (below_setCells' (B := w.heap.size) (w.heap.size + 1 + 1) (by omega) (hc zero32) 0 B0.out)
    clear hz
    go_enter Tryd.func12, Tryd.ntmps12
    go_wp2_with fail
    refine bodyPost_ret (v := .agg (hc zero32).toArray) (by simp [results, Tryd.results12, go_sem, hput, z32]) rfl ⟨by rw [HE.out], HX.out⟩
  have HE := Lib.hid (abH_some hz)
  have hd : (A == zero32) = false ∨ ((A == zero32) = true ∧ (B == zero32) = false) := by
    by_cases ha : A = zero32
    · right
      exact ⟨by rw [ha]; exact beq_self_eq_true _, by simpa using fun hb => hz ⟨ha, hb⟩⟩
    · left; simpa using ha
  clear hz
  have hlen := sha_len (frm (sn pairS) [A, B])
  rcases hd with da | ⟨da, db⟩
  all_goals
    go_enter Tryd.func12, Tryd.ntmps12
    go_wp2_with fail
    refine (HP.out _ B0.out).mono ?_
    rintro e w3 ⟨rfl, hb3⟩
    have H3 := HZ.out.on hb3
    have B3 := B0.out.trans (hb3.mono B0.out.size)
    have hth3 := H3.there zero32_len
    have hput := (H3.put zero32_len hlen).row hlen
    have HX := Lib.hid (below_setCells' (B := w.heap.size) (w.heap.size + 1 + 1) (by omega) (hc (sha (frm (sn pairS) [A, B]))) 0 B3)
    generalize hF : sha (frm (sn pairS) [A, B]) = F at *
    have HF := Lib.hid hF
    clear hF hb3 H3 B3 r0 r1
    go_wp2_with fail
    refine bodyPost_ret (v := .agg (hc F).toArray) (by simp [results, Tryd.results12, go_sem, hput, hlen]) rfl ⟨by rw [HE.out], HX.out⟩
end Go.Proofs.YtjgfjmkfcippcaaDoor
namespace Go.Proofs.YtjgfjmkfcippcaaDoor
open Go.RowKit
set_option maxRecDepth 100000

/-- A node. -/
structure Nd where
  key : List Int
  fork : Int
  lo : Option Addr
  hi : Option Addr
  own : List Int
  told : Bool
  high : List Int
  lvl : Int
  known : Bool
def Nd.row (n : Nd) : List Value := hc n.key ++ ([.int .i64 n.fork, .pointer n.lo, .pointer n.hi] ++ (hc n.own ++ ([.bool n.told] ++ (hc n.high ++ [.int .i64 n.lvl, .bool n.known]))))
structure Nd.ok (n : Nd) : Prop where
  key : n.key.length = 32
  own : n.own.length = 32
  high : n.high.length = 32
theorem Nd.ok.len {n : Nd} (h : n.ok) : n.row.length = 102 := by simp [Nd.row, hc_len, h.key, h.own, h.high]
theorem Nd.one (n : Nd) : n.row.toArray.all (·.oneCell') = true := by
  refine all_oneCell_toArray fun v hv => ?_
  simp only [Nd.row, List.mem_append, List.mem_cons, List.not_mem_nil, or_false] at hv
  rcases hv with hv | (rfl | rfl | rfl) | hv | rfl | hv | rfl | rfl
  any_goals rfl
  all_goals exact (Array.all_eq_true_iff_forall_mem.1 (hc_one _)) v (by simpa using hv)
def nd0 : Nd := ⟨zero32, 0, none, none, zero32, false, zero32, 0, false⟩
theorem take_midd (pre mid post : List Value) {o n : Nat} (hp : pre.length = o) (hm : mid.length = n) : ((pre ++ (mid ++ post)).drop o).take n = mid := by
  subst hp hm
  rw [List.drop_left, List.take_left]

/-- Block b holds the node n. -/
def NdB (w : World) (b : Nat) (n : Nd) : Prop := w.heap[b]? = some (.cells n.row.toArray 85 (0, 0))
section
variable {w w' : World} {b : Nat} {n : Nd}
theorem NdB.lt (h : NdB w b n) : b < w.heap.size := (Array.getElem?_eq_some_iff.1 h).1
theorem NdB.facts (h : NdB w b n) (ok : n.ok) : w.cell? ⟨b, 32, none⟩ = some (.int .i64 n.fork) ∧ w.cell? ⟨b, 33, none⟩ = some (.pointer n.lo) ∧ w.cell? ⟨b, 34, none⟩ = some (.pointer n.hi) ∧ w.cell? ⟨b, 67, none⟩ = some (.bool n.told) ∧
    w.cell? ⟨b, 100, none⟩ = some (.int .i64 n.lvl) ∧ w.cell? ⟨b, 101, none⟩ = some (.bool n.known) ∧ rowOf w b 0 32 = hc n.key ∧ rowOf w b 35 32 = hc n.own ∧ rowOf w b 68 32 = hc n.high := by
  refine ⟨?_, ?_, ?_, ?_, ?_, ?_, ?_, ?_, ?_⟩
  all_goals first
    | (rw [cell_of_row _ _ _ _ _ _ h]; simp [Nd.row, hc_len, ok.key, ok.own, ok.high]; done)
    | skip
  · rw [rowOf_block h]
    simp [Nd.row, hc_len, ok.key]
  · rw [rowOf_block h]
    have := take_midd (hc n.key ++ [.int .i64 n.fork, .pointer n.lo, .pointer n.hi]) (hc n.own) ([.bool n.told] ++ (hc n.high ++ [.int .i64 n.lvl, .bool n.known])) (o := 35) (n := 32) (by simp [hc_len, ok.key]) (by simp [hc_len, ok.own])
    simpa [Nd.row] using this
  · rw [rowOf_block h]
    have := take_midd (hc n.key ++ ([.int .i64 n.fork, .pointer n.lo, .pointer n.hi] ++ (hc n.own ++ [.bool n.told]))) (hc n.high) [.int .i64 n.lvl, .bool n.known] (o := 68) (n := 32) (by simp [hc_len, ok.key, ok.own]) (by simp [hc_len, ok.high])
    simpa [Nd.row] using this
theorem NdB.free (h : NdB w b n) (i : Nat) : w.frozen? ⟨b, i, none⟩ = false := Joins.unfrozen_of_block h i
theorem NdB.there (h : NdB w b n) (ok : n.ok) {i k : Nat} (hi : i + k ≤ 102) : w.there b i k := fun j hj => by
  refine ⟨?_, h.free _⟩
  rw [cell_of_row _ _ _ _ _ _ h]
  have := ok.len
  simp [this]; omega
theorem NdB.chg {S : List Nat} (h : NdB w b n) (hc : Chg w w' S) (hp : b ∉ S) : NdB w' b n := by
  unfold NdB
  rw [hc.block b h.lt hp]; exact h
theorem NdB.on (h : NdB w b n) (hb : Below w.heap.size w w') : NdB w' b n := h.chg (S := []) (Chg.below hb (Nat.le_refl _) []) (by simp)
theorem NdB.alloc (h : NdB w b n) (x : Obj) : NdB (w.alloc x) b n := h.on ((Below.refl _ _).alloc (Nat.le_refl _) x)
theorem NdB.setOwn (h : NdB w b n) (ok : n.ok) {F : List Int} (hF : F.length = 32) : NdB (w.setCells b 35 (hc F)) b { n with own := F } := by
  have := setCells_block (b := b) (t := 85) (fr := (0, 0)) (hc F) (o := 35) (w := w) (pre := hc n.key ++ [.int .i64 n.fork, .pointer n.lo, .pointer n.hi]) (mid := hc n.own) (post := [.bool n.told] ++ (hc n.high ++ [.int .i64 n.lvl, .bool n.known])) (by simpa [NdB, Nd.row] using h) (by simp [hc_len, ok.key]) (by rw [hc_len, hc_len, ok.own, hF])
  simpa [NdB, Nd.row] using this
theorem NdB.setHigh (h : NdB w b n) (ok : n.ok) {F : List Int} (hF : F.length = 32) : NdB (w.setCells b 68 (hc F)) b { n with high := F } := by
  have := setCells_block (b := b) (t := 85) (fr := (0, 0)) (hc F) (o := 68) (w := w) (pre := hc n.key ++ ([.int .i64 n.fork, .pointer n.lo, .pointer n.hi] ++ (hc n.own ++ [.bool n.told]))) (mid := hc n.high) (post := [.int .i64 n.lvl, .bool n.known]) (by simpa [NdB, Nd.row] using h) (by simp [hc_len, ok.key, ok.own]) (by rw [hc_len, hc_len, ok.high, hF])
  simpa [NdB, Nd.row] using this
theorem NdB.setTold (h : NdB w b n) (ok : n.ok) (x : Bool) : NdB (w.setCell ⟨b, 67, none⟩ (.bool x)) b { n with told := x } := by
  have := setCells_block (b := b) (t := 85) (fr := (0, 0)) [.bool x] (o := 67) (w := w) (pre := hc n.key ++ ([.int .i64 n.fork, .pointer n.lo, .pointer n.hi] ++ hc n.own)) (mid := [.bool n.told]) (post := hc n.high ++ [.int .i64 n.lvl, .bool n.known]) (by simpa [NdB, Nd.row] using h) (by simp [hc_len, ok.key, ok.own]) rfl
  simpa [NdB, Nd.row, World.setCells] using this
theorem NdB.setLvl (h : NdB w b n) (ok : n.ok) (x : Int) : NdB (w.setCell ⟨b, 100, none⟩ (.int .i64 x)) b { n with lvl := x } := by
  have := setCells_block (b := b) (t := 85) (fr := (0, 0)) [.int .i64 x] (o := 100) (w := w) (pre := hc n.key ++ ([.int .i64 n.fork, .pointer n.lo, .pointer n.hi] ++ (hc n.own ++ ([.bool n.told] ++ hc n.high)))) (mid := [.int .i64 n.lvl]) (post := [.bool n.known]) (by simpa [NdB, Nd.row] using h) (by simp [hc_len, ok.key, ok.own, ok.high]) rfl
  simpa [NdB, Nd.row, World.setCells] using this
theorem NdB.setKnown (h : NdB w b n) (ok : n.ok) (x : Bool) : NdB (w.setCell ⟨b, 101, none⟩ (.bool x)) b { n with known := x } := by
  have := setCells_block (b := b) (t := 85) (fr := (0, 0)) [.bool x] (o := 101) (w := w) (pre := hc n.key ++ ([.int .i64 n.fork, .pointer n.lo, .pointer n.hi] ++ (hc n.own ++ ([.bool n.told] ++ (hc n.high ++ [.int .i64 n.lvl]))))) (mid := [.bool n.known]) (post := []) (by simpa [NdB, Nd.row] using h) (by simp [hc_len, ok.key, ok.own, ok.high]) rfl
  simpa [NdB, Nd.row, World.setCells] using this
end

/-! ### Building a node -/
theorem fill_at {place : Nat → Option (Nat × Nat)} {rest : List (Nat × Value)} {i off size : Nat} {v : Value} {pre mid post vs : List Value} (hp : place i = some (off, size)) (hv : v.cells = vs.toArray)
    (h1 : pre.length = off) (h2 : mid.length = size) (h3 : vs.length = size) :
    Instr.fill place (pre ++ (mid ++ post)).toArray ((i, v) :: rest) = Instr.fill place (pre ++ (vs ++ post)).toArray rest := by
  rw [Instr.fill, hp]
  have e1 : v.cells.size = size := by rw [hv]; simpa using h3
  have e2 : off + size ≤ (pre ++ (mid ++ post)).toArray.size := by simp; omega
  have e3 : (decide (v.cells.size ≠ size) || decide (off + v.cells.size > (pre ++ (mid ++ post)).toArray.size)) = false := by
    rw [e1]; simp at e2 ⊢; omega
  simp only [e3]
  rw [if_neg (by simp), hv, fold_put off size vs pre mid post h1 h2 h3]
def ndPlaces : List (Nat × Nat) := [(0, 32), (32, 1), (33, 2), (35, 32), (67, 1), (68, 32), (100, 1), (101, 1)]
theorem Tryd.built_nd (ps : List (Nat × Value)) : Tryd.prog.built 85 ps = Instr.fill (fun i => ndPlaces.toArray[i]?) nd0.row.toArray ps := by kernel_rfl
@[go_sem ↓] theorem Tryd.build_nd (ps : Array (Nat × Value)) : Instr.build 85 ps = rowBuild 85 ps := rfl
@[go_sem] theorem Tryd.run_nd (w : World) (f : Int) (F : List Int) (hF : F.length = 32) :
    (rowBuild 85 #[(0, .agg (hc F).toArray), (1, .int .i64 f)]).run Tryd.prog w = .ok (.agg (Nd.row ⟨F, f, none, none, zero32, false, zero32, 0, false⟩).toArray) w := by
  refine run_build w _ _ _ ?_
  rw [Tryd.built_nd]
  show Instr.fill _ _ ((0, Value.agg (hc F).toArray) :: (1, Value.int .i64 f) :: []) = _
  have z1 : nd0.row = [] ++ (hc zero32 ++ ([.int .i64 0] ++ ([.pointer none, .pointer none] ++ (hc zero32 ++ ([.bool false] ++ (hc zero32 ++ [.int .i64 0, .bool false])))))) := rfl
  rw [z1, fill_at (i := 0) (off := 0) (size := 32) (vs := hc F) rfl rfl rfl rfl (by rw [hc_len, hF])]
  rw [List.nil_append]
  rw [fill_at (i := 1) (off := 32) (size := 1) (vs := [.int .i64 f]) rfl rfl (by rw [hc_len, hF]) rfl rfl]
  simp [Nd.row, Instr.fill]
def K1 : List Int := [1, 0, 0, 0, 0, 0, 0, 0, 0, 0, 0, 0, 0, 0, 0, 0, 0, 0, 0, 0, 0, 0, 0, 0, 0, 0, 0, 0, 0, 0, 0, 0]
def V2 : List Int := [2, 0, 0, 0, 0, 0, 0, 0, 0, 0, 0, 0, 0, 0, 0, 0, 0, 0, 0, 0, 0, 0, 0, 0, 0, 0, 0, 0, 0, 0, 0, 0]
@[go_sem] theorem K1_len : K1.length = 32 := by simp [K1]
@[go_sem] theorem V2_len : V2.length = 32 := by simp [V2]
@[go_sem] theorem Tryd.run_hash1 (w : World) : (rowBuild 23 #[(0, .int .u8 1)]).run Tryd.prog w = .ok (.agg (hc K1).toArray) w := by
  unfold rowBuild; kernel_rfl
@[go_sem] theorem Tryd.run_hash2 (w : World) : (rowBuild 23 #[(0, .int .u8 2)]).run Tryd.prog w = .ok (.agg (hc V2).toArray) w := by
  unfold rowBuild; kernel_rfl

/-! ### A map of one pair -/
/-- The world with another map in a block. -/
def putMap (w : World) (b : Nat) (es : Array MapEntry) (c : Nat) : World := { w with heap := w.heap.setIfInBounds b (.map es c) }
section
variable {P : Program} {w : World} {t k e : TypeId} {b c : Nat} {es : Array MapEntry} {key : Value}
theorem getMap (hb : w.heap[b]? = some (.map es c)) : (getObj b).run P w = .ok (.map es c) w := by simp [getObj, Sem.run, hb]
theorem setMap (o : Obj) (hb : w.heap[b]? = some (.map es c)) : (setObj b o).run P w = .ok () { w with heap := w.heap.setIfInBounds b o } := by simp [setObj, Sem.run, hb]
theorem run_lookup_at {r : Option (Nat × Value)} {z : Value} (ok : Bool) (ht : P.underlying t = some (.map k e)) (hb : w.heap[b]? = some (.map es c)) (hc : (Instr.checkKey es.isEmpty 10000 k key).run P w = .ok () w) (hf : (Instr.findKey k key es.toList).run P w = .ok r w) (hz : (zeroValue e).run P w = .ok z w) :
    (Instr.lookup t (.map (some b)) key ok).run P w = .ok (if ok then .tuple #[(r.map (·.2)).getD z, .bool r.isSome] else (r.map (·.2)).getD z) w := by
  unfold Instr.lookup
  simp only [Sem.run_bind, run_underlying ht, Result.andThen_ok, getMap hb, Sem.run_pure, hc, hf]
  cases r <;> simp [hz]
theorem run_mapUpdate_new {v : Value} (ht : P.underlying t = some (.map k e)) (hb : w.heap[b]? = some (.map es c)) (hc : (Instr.checkKey false 10000 k key).run P w = .ok () w) (hf : (Instr.findKey k key es.toList).run P w = .ok none w) :
    (Instr.mapUpdate t (.map (some b)) key v).run P w = .ok () (putMap w b (es.push { key := key, val := v, born := c }) (c + 1)) := by
  unfold Instr.mapUpdate
  simp only [Sem.run_bind, run_underlying ht, Result.andThen_ok, getMap hb, hc, hf, setMap _ hb]
  rfl
theorem run_delete_at {i : Nat} {v : Value} (ty : TypeId) (ht : P.underlying t = some (.map k e)) (hb : w.heap[b]? = some (.map es c)) (hc : (Instr.checkKey es.isEmpty 10000 k key).run P w = .ok () w) (hf : (Instr.findKey k key es.toList).run P w = .ok (some (i, v)) w) :
    (Builtin.delete_ #[t, k] ty #[.map (some b), key]).run P w = .ok (.tuple #[]) (putMap w b (es.eraseIdxIfInBounds i) c) := by
  simp [Builtin.delete_, run_underlying ht, getMap hb, hc, hf, setMap _ hb, putMap]
theorem run_len_at (ty : TypeId) (ht : P.underlying t = some (.map k e)) (hb : w.heap[b]? = some (.map es c)) :
    (Builtin.len_ #[t] ty #[.map (some b)]).run P w = .ok (.int .i64 es.size) w := by
  simp [Builtin.len_, run_underlying ht, getMap hb, goInt]
end
theorem ck_k1 (x : Bool) (w : World) : (Instr.checkKey x 10000 23 (.agg (hc K1).toArray)).run Tryd.prog w = .ok () w := by cases x <;> kernel_rfl
def M1 (v : Value) : Array MapEntry := #[{ key := .agg (hc K1).toArray, val := v, born := 0 }]
theorem find_k1 (v : Value) (w : World) : (Instr.findKey 23 (.agg (hc K1).toArray) (M1 v).toList).run Tryd.prog w = .ok (some (0, v)) w := by kernel_rfl
section
variable {w : World} {b c : Nat}
theorem look_m0 (ok : Bool) (hb : w.heap[b]? = some (.map #[] c)) : (Instr.lookup 39 (.map (some b)) (.agg (hc K1).toArray) ok).run Tryd.prog w = .ok (if ok then .tuple #[.agg (hc zero32).toArray, .bool false] else .agg (hc zero32).toArray) w :=
  run_lookup_at (r := none) ok Tryd.underlying39 hb (ck_k1 _ w) (by kernel_rfl) (Tryd.zero_hash w)
theorem look_m1 (ok : Bool) {v : Value} (hb : w.heap[b]? = some (.map (M1 v) c)) : (Instr.lookup 39 (.map (some b)) (.agg (hc K1).toArray) ok).run Tryd.prog w = .ok (if ok then .tuple #[v, .bool true] else v) w :=
  run_lookup_at (r := some (0, v)) ok Tryd.underlying39 hb (ck_k1 _ w) (find_k1 v w) (Tryd.zero_hash w)
theorem upd_m0 {v : Value} (hb : w.heap[b]? = some (.map #[] 0)) : (Instr.mapUpdate 39 (.map (some b)) (.agg (hc K1).toArray) v).run Tryd.prog w = .ok () (putMap w b (M1 v) 1) :=
  run_mapUpdate_new Tryd.underlying39 hb (ck_k1 _ w) (by kernel_rfl)
theorem del_m1 {v : Value} (ty : TypeId) (hb : w.heap[b]? = some (.map (M1 v) 1)) : (Builtin.delete_ #[39, 23] ty #[.map (some b), .agg (hc K1).toArray]).run Tryd.prog w = .ok (.tuple #[]) (putMap w b #[] 1) := by
  have h := run_delete_at ty Tryd.underlying39 hb (ck_k1 _ w) (find_k1 v w)
  rw [show (M1 v).eraseIdxIfInBounds 0 = #[] by simp [M1, Array.eraseIdxIfInBounds]] at h
  exact h
end
theorem putMap_size (w : World) (b : Nat) (es : Array MapEntry) (c : Nat) : (putMap w b es c).heap.size = w.heap.size := by simp [putMap]
theorem putMap_there {w : World} {b : Nat} {es : Array MapEntry} {c : Nat} (h : b < w.heap.size) : (putMap w b es c).heap[b]? = some (.map es c) := by simp [putMap, h]
theorem putMap_other {w : World} {b k : Nat} {es : Array MapEntry} {c : Nat} (h : k ≠ b) : (putMap w b es c).heap[k]? = w.heap[k]? := by simp [putMap, Array.getElem?_setIfInBounds_ne (Ne.symm h)]
end Go.Proofs.YtjgfjmkfcippcaaDoor
