/-
  The nodes of a sparse tree: what stands at a leaf, and above two nodes, plain and in the program and in the document.; The strings that the document digests for a leaf and above two nodes.
-/
import Derived.Test.YtjlodnecdngdfaaDoorPm4
namespace Go.Proofs.YtjlodnecdngdfaaDoor
open Go.RowKit
set_option maxRecDepth 100000

def leafS : ByteArray := ⟨#[108, 101, 97, 102]⟩
theorem leaf_sn : sn leafS = [108, 101, 97, 102] := by rfl
theorem leaf_len {A B : List Int} (hA : A.length = 32) (hB : B.length = 32) : (frm (sn leafS) [A, B]).length = 85 := by
  rw [frm_len, leaf_sn]; simp [blobs, hA, hB]
theorem leaf_bytes {A B : List Int} (bA : Bytes A) (bB : Bytes B) : Bytes (frm (sn leafS) [A, B]) :=
  frm_bytes (sn_bytes _) (by rw [leaf_sn]; decide) (fun b hb => by simp only [List.mem_cons, List.not_mem_nil, or_false] at hb; rcases hb with rfl | rfl <;> assumption)
theorem zero32_bytes : Bytes zero32 := by
  intro x hx
  simp only [zero32, List.mem_cons, List.not_mem_nil, or_false, or_self] at hx
  omega
/-- A leaf. -/
def lfH (K V : List Int) : List Int := if V = zero32 then zero32 else sha (frm (sn leafS) [K, V])
/-- What stands above two nodes. -/
def abH (A B : List Int) : List Int := if A = zero32 ∧ B = zero32 then zero32 else sha (frm (sn pairS) [A, B])
theorem lfH_len (K V : List Int) : (lfH K V).length = 32 := by unfold lfH; split; exact zero32_len; exact sha_len _
theorem lfH_bytes (K V : List Int) : Bytes (lfH K V) := by unfold lfH; split; exact zero32_bytes; exact sha_bytes _
theorem abH_len (A B : List Int) : (abH A B).length = 32 := by unfold abH; split; exact zero32_len; exact sha_len _
theorem abH_bytes (A B : List Int) : Bytes (abH A B) := by unfold abH; split; exact zero32_bytes; exact sha_bytes _
theorem lfH_zero (K : List Int) : lfH K zero32 = zero32 := if_pos rfl
theorem lfH_some (K : List Int) {V : List Int} (h : ¬ V = zero32) : lfH K V = sha (frm (sn leafS) [K, V]) := if_neg h
theorem abH_zero : abH zero32 zero32 = zero32 := if_pos ⟨rfl, rfl⟩
theorem abH_some {A B : List Int} (h : ¬ (A = zero32 ∧ B = zero32)) : abH A B = sha (frm (sn pairS) [A, B]) := if_neg h

set_option maxHeartbeats 4000000 in
theorem Leaf_any {w : World} {A B : List Int} (hT : Tbl w) (hA : A.length = 32) (hB : B.length = 32) (bA : Bytes A) (bB : Bytes B) :
    Calls Tryd.prog 62 #[.agg (hc A).toArray, .agg (hc B).toArray] w fun e w' => e = .returned (.agg (hc (lfH A B)).toArray) ∧ Below w.heap.size w w' := by
  have LL := Lib.hid (leaf_len hA hB)
  have BX := Lib.hid (leaf_bytes bA bB)
  have HA := Lib.hid ((HashAt.new w A).alloc (.cells (hc B).toArray 24) |>.alloc (.cells (hc zero32).toArray 24))
  have HB := Lib.hid ((HashAt.new (w.alloc (.cells (hc A).toArray 24)) B).alloc (.cells (hc zero32).toArray 24))
  have HZ := Lib.hid (HashAt.new ((w.alloc (.cells (hc A).toArray 24)).alloc (.cells (hc B).toArray 24)) zero32)
  have B0 := Lib.hid ((((Below.refl w.heap.size w).alloc (Nat.le_refl _) (.cells (hc A).toArray 24)).alloc (by simp) (.cells (hc B).toArray 24)).alloc (by simp; omega) (.cells (hc zero32).toArray 24))
  have hlA : (hc A).length = 32 := by rw [hc_len, hA]
  have hlB : (hc B).length = 32 := by rw [hc_len, hB]
  obtain ⟨i0, hi, hz0, hz1, hz2⟩ := info_parts Tryd.infoU8
  replace hi := Lib.hid hi
  replace hz0 := Lib.hid hz0
  replace hz1 := Lib.hid hz1
  replace hz2 := Lib.hid hz2
  replace hA := Lib.hid hA
  replace hB := Lib.hid hB
  clear bA bB
  simp only [World.size_alloc] at HB HZ
  have r1 := HB.out.row hB.out
  have lB : B.length = 32 := hB.out
  have z32 := zero32_len
  by_cases hz : B = zero32
  · have dz : (B == zero32) = true := by rw [hz]; exact beq_self_eq_true _
    have HE := Lib.hid (show lfH A B = zero32 by rw [hz]; exact lfH_zero A)
    have hth := HZ.out.there zero32_len
    have hput := (HZ.out.put zero32_len zero32_len).row zero32_len
    have HX := Lib.hid (below_setCells' (B := w.heap.size) (w.heap.size + 1 + 1) (by omega) (hc zero32) 0 B0.out)
    clear hz
    go_enter Tryd.func62, Tryd.ntmps62
    go_wp2_with fail
    refine bodyPost_ret (v := .agg (hc zero32).toArray) (by simp [results, Tryd.results62, go_sem, hput, z32]) rfl ⟨by rw [HE.out], HX.out⟩
  have dz : (B == zero32) = false := by simpa using hz
  have HE := Lib.hid (lfH_some A hz)
  clear hz
  go_enter Tryd.func62, Tryd.ntmps62
  go_wp2_with fail
  clear dz r1 lB z32
  generalize ((w.alloc (.cells (hc A).toArray 24)).alloc (.cells (hc B).toArray 24)).alloc (.cells (hc zero32).toArray 24) = W0 at *
  refine wp_region_held_drew (S := fun W => Below w.heap.size w W) (by kernel_rfl) (B0.out.drew) (fun h0 => ?_)
  refine wpAnyH_take (i := 0) (v := ?_) (by rw [List.getElem?_toArray]; rfl) (by kernel_rfl) (by kernel_rfl) (by kernel_rfl) (by exact fun _ _ _ h => h) (Or.inl ⟨by rfl, ?_⟩) h0 ?_
  rotate_left
  · intro W hW
    go_simp
    all_goals with_reducible rfl
  try simp only [Act.put, List.setIfInBounds_toArray, List.set_cons_zero, List.set_cons_succ]
  refine wpAnyH_take (i := 1) (v := ?_) (by rw [List.getElem?_toArray]; rfl) (by kernel_rfl) (by kernel_rfl) (by kernel_rfl) (by exact fun _ _ _ h => h) (Or.inl ⟨by rfl, ?_⟩) h0 ?_
  rotate_left
  · intro W hW
    go_simp
    all_goals with_reducible rfl
  try simp only [Act.put, List.setIfInBounds_toArray, List.set_cons_zero, List.set_cons_succ]
  refine wpAnyH_ready (rs := [2]) (by kernel_rfl) (by simp) ?_
  refine AllReadyH.cons (by rw [List.getElem?_toArray]; rfl) (fun K hK => ?_) AllReadyH.nil
  rw [if_pos (by rfl)]
  have G0 : Below W0.heap.size W0 W0.drew := (Below.refl _ _).drew
  go_wp2_with fail
  refine hK.out _ _ (h0.alloc h0.size _) (fun h2 => ?_)
  clear hK K
  try simp only [Act.put, List.setIfInBounds_toArray, List.set_cons_zero, List.set_cons_succ]
  have RL := two_rdl ((HA.out.on G0).rd hA.out) ((HB.out.on G0).rd hB.out)
  have RL2 := Lib.hid RL
  have G2 := G0.alloc G0.size (.cells #[.slice (some ⟨w.heap.size, 0, none⟩) 32 32, .slice (some ⟨w.heap.size + 1, 0, none⟩) 32 32] 82)
  clear RL
  refine wpAnyH_ready (rs := [3]) (by kernel_rfl) (by simp) ?_
  refine AllReadyH.cons (by rw [List.getElem?_toArray]; rfl) (fun K hK => ?_) AllReadyH.nil
  rw [if_pos (by rfl)]
  go_wp2_with fail
  refine (Tagged_any (s := leafS) RL2.out (hT.on h2 hT.pos) (by decide) (cut_small (by decide)) (by rw [LL.out]; omega) BX.out).mono ?_
  rintro e w8 ⟨rfl, hb8⟩
  have hB8 : Below W0.heap.size W0 w8 := G2.trans (hb8.mono G2.size)
  go_wp2_with fail
  refine hK.out _ _ (h2.trans (hb8.mono h2.size)) (fun h3 => ?_)
  clear hK K
  try simp only [Act.put, List.setIfInBounds_toArray, List.set_cons_zero, List.set_cons_succ]
  refine wpAnyH_ready (rs := [4]) (by kernel_rfl) (by simp) ?_
  refine AllReadyH.cons (by rw [List.getElem?_toArray]; rfl) (fun K hK => ?_) AllReadyH.nil
  rw [if_pos (by rfl)]
  have H3 := HZ.out.on hB8
  have B3 := B0.out.trans (hB8.mono B0.out.size)
  have hth3 := H3.there zero32_len
  have hlen := sha_len (frm (sn leafS) [A, B])
  have hput := (H3.put zero32_len hlen).row hlen
  have HX := Lib.hid (below_setCells' (B := w.heap.size) (w.heap.size + 1 + 1) (by omega) (hc (sha (frm (sn leafS) [A, B]))) 0 B3)
  generalize hF : sha (frm (sn leafS) [A, B]) = F at *
  have HF := Lib.hid hF
  clear hF hb8 H3 B3
  go_wp2_with fail
  refine hK.out _ _ (HX.out) (fun _ => ?_)
  clear hK K
  try simp only [Act.put, List.setIfInBounds_toArray, List.set_cons_zero, List.set_cons_succ]
  refine wpAnyH_done (by kernel_rfl) ?_ _
  go_wp2_with fail
  refine bodyPost_ret (v := .agg (hc F).toArray) (by simp [results, Tryd.results62, go_sem, hput, hlen]) rfl ⟨by rw [HE.out], HX.out⟩

set_option maxHeartbeats 4000000 in
theorem refLeaf_any {w : World} {A B : List Int} (hA : A.length = 32) (hB : B.length = 32) (bA : Bytes A) (bB : Bytes B) :
    Calls Tryd.prog 57 #[.agg (hc A).toArray, .agg (hc B).toArray] w fun e w' => e = .returned (.agg (hc (lfH A B)).toArray) ∧ Below w.heap.size w w' := by
  have LL := Lib.hid (leaf_len hA hB)
  have BX := Lib.hid (leaf_bytes bA bB)
  have HA := Lib.hid ((HashAt.new w A).alloc (.cells (hc B).toArray 24) |>.alloc (.cells (hc zero32).toArray 24))
  have HB := Lib.hid ((HashAt.new (w.alloc (.cells (hc A).toArray 24)) B).alloc (.cells (hc zero32).toArray 24))
  have HZ := Lib.hid (HashAt.new ((w.alloc (.cells (hc A).toArray 24)).alloc (.cells (hc B).toArray 24)) zero32)
  have B0 := Lib.hid ((((Below.refl w.heap.size w).alloc (Nat.le_refl _) (.cells (hc A).toArray 24)).alloc (by simp) (.cells (hc B).toArray 24)).alloc (by simp; omega) (.cells (hc zero32).toArray 24))
  have hlA : (hc A).length = 32 := by rw [hc_len, hA]
  have hlB : (hc B).length = 32 := by rw [hc_len, hB]
  obtain ⟨i0, hi, hz0, hz1, hz2⟩ := info_parts Tryd.infoU8
  replace hi := Lib.hid hi
  replace hz0 := Lib.hid hz0
  replace hz1 := Lib.hid hz1
  replace hz2 := Lib.hid hz2
  replace hA := Lib.hid hA
  replace hB := Lib.hid hB
  clear bA bB
  simp only [World.size_alloc] at HB HZ
  have r1 := HB.out.row hB.out
  have lB : B.length = 32 := hB.out
  have z32 := zero32_len
  by_cases hz : B = zero32
  · have dz : (B == zero32) = true := by rw [hz]; exact beq_self_eq_true _
    have HE := Lib.hid (show lfH A B = zero32 by rw [hz]; exact lfH_zero A)
    have hth := HZ.out.there zero32_len
    have hput := (HZ.out.put zero32_len zero32_len).row zero32_len
    have HX := Lib.hid (below_setCells' (B := w.heap.size) (w.heap.size + 1 + 1) (by omega) (hc zero32) 0 B0.out)
    clear hz
    go_enter Tryd.func57, Tryd.ntmps57
    go_wp2_with fail
    refine bodyPost_ret (v := .agg (hc zero32).toArray) (by simp [results, Tryd.results57, go_sem, hput, z32]) rfl ⟨by rw [HE.out], HX.out⟩
  have dz : (B == zero32) = false := by simpa using hz
  have HE := Lib.hid (lfH_some A hz)
  clear hz
  go_enter Tryd.func57, Tryd.ntmps57
  go_wp2_with fail
  clear dz r1 lB z32
  generalize ((w.alloc (.cells (hc A).toArray 24)).alloc (.cells (hc B).toArray 24)).alloc (.cells (hc zero32).toArray 24) = W0 at *
  refine wp_region_held_drew (S := fun W => Below w.heap.size w W) (by kernel_rfl) (B0.out.drew) (fun h0 => ?_)
  have G0 : Below W0.heap.size W0 W0.drew := (Below.refl _ _).drew
  refine wpAnyH_take (i := 1) (v := ?_) (by rw [List.getElem?_toArray]; rfl) (by kernel_rfl) (by kernel_rfl) (by kernel_rfl) (by exact fun _ _ _ h => h) (Or.inl ⟨by rfl, ?_⟩) h0 ?_
  rotate_left
  · intro W hW
    go_simp
    all_goals with_reducible rfl
  try simp only [Act.put, List.setIfInBounds_toArray, List.set_cons_zero, List.set_cons_succ]
  refine wpAnyH_take (i := 4) (v := ?_) (by rw [List.getElem?_toArray]; rfl) (by kernel_rfl) (by kernel_rfl) (by kernel_rfl) (by exact fun _ _ _ h => h) (Or.inl ⟨by rfl, ?_⟩) h0 ?_
  rotate_left
  · intro W hW
    go_simp
    all_goals with_reducible rfl
  try simp only [Act.put, List.setIfInBounds_toArray, List.set_cons_zero, List.set_cons_succ]
  refine wpAnyH_ready (rs := [0, 3]) (by kernel_rfl) (by simp) ?_
  refine AllReadyH.cons (by rw [List.getElem?_toArray]; rfl) (fun K hK => ?_) (AllReadyH.cons (by rw [List.getElem?_toArray]; rfl) (fun K hK => ?_) AllReadyH.nil)
  · rw [if_pos (by rfl)]
    go_wp2_with fail
    have R1 := Lib.hid (FrS.born G0 (k := W0.heap.size) rfl)
    have G1 := G0.alloc G0.size (.cells #[] 5)
    refine hK.out _ _ (h0.alloc h0.size _) (fun h1 => ?_)
    clear hK K
    try simp only [Act.put, List.setIfInBounds_toArray, List.set_cons_zero, List.set_cons_succ]
    refine wpAnyH_ready (rs := [2, 3]) (by kernel_rfl) (by simp) ?_
    refine AllReadyH.cons (by rw [List.getElem?_toArray]; rfl) (fun K hK => ?_) (AllReadyH.cons (by rw [List.getElem?_toArray]; rfl) (fun K hK => ?_) AllReadyH.nil)
    · rw [if_pos (by rfl)]
      refine wp_append_row _ _ rfl Tryd.underlying82 hi.out hz0.out hz1.out hz2.out rfl R1.out.own (((HA.out.on G1).rd hA.out).src Tryd.underlying82) (by rw [hA.out]; unfold maxLen; omega) (by rw [hA.out]; omega) ?_
      intro q2 k2 w2 own2 grow2 fr2
      have R2 := Lib.hid (R1.out.grow own2 grow2 fr2)
      have G2 := R2.out.below
      clear own2 grow2 fr2
      refine hK.out _ _ (B0.out.trans (G2.mono B0.out.size)) (fun h2 => ?_)
      clear hK K
      try simp only [Act.put, List.setIfInBounds_toArray, List.set_cons_zero, List.set_cons_succ]
      refine wpAnyH_ready (rs := [3]) (by kernel_rfl) (by simp) ?_
      refine AllReadyH.cons (by rw [List.getElem?_toArray]; rfl) (fun K hK => ?_) AllReadyH.nil
      · rw [if_pos (by rfl)]
        go_wp2_with fail
        have R3 := Lib.hid (Two.ofA R2.out (k := w2.heap.size) rfl)
        have G3 := G2.alloc G2.size (.cells #[] 5)
        refine hK.out _ _ (h2.alloc h2.size _) (fun h3 => ?_)
        clear hK K
        try simp only [Act.put, List.setIfInBounds_toArray, List.set_cons_zero, List.set_cons_succ]
        refine wpAnyH_ready (rs := [5]) (by kernel_rfl) (by simp) ?_
        refine AllReadyH.cons (by rw [List.getElem?_toArray]; rfl) (fun K hK => ?_) AllReadyH.nil
        · rw [if_pos (by rfl)]
          refine wp_append_row _ _ rfl Tryd.underlying82 hi.out hz0.out hz1.out hz2.out rfl R3.out.b.own (((HB.out.on G3).rd hB.out).src Tryd.underlying82) (by rw [hB.out]; unfold maxLen; omega) (by rw [hB.out]; omega) ?_
          intro q4 k4 w4 own4 grow4 fr4
          have R4 := Lib.hid (R3.out.symm.growA own4 grow4 fr4).symm
          have G4 := R4.out.a.below
          clear own4 grow4 fr4
          refine hK.out _ _ (B0.out.trans (G4.mono B0.out.size)) (fun h4 => ?_)
          clear hK K
          try simp only [Act.put, List.setIfInBounds_toArray, List.set_cons_zero, List.set_cons_succ]
          refine wpAnyH_ready (rs := [6]) (by kernel_rfl) (by simp) ?_
          refine AllReadyH.cons (by rw [List.getElem?_toArray]; rfl) (fun K hK => ?_) AllReadyH.nil
          · rw [if_pos (by rfl)]
            go_wp2_with fail
            have RL := two_rdl R4.out.a.rd R4.out.b.rd
            simp only [List.nil_append, Nat.zero_add] at RL
            have RL2 := Lib.hid RL
            clear RL
            have G5 := G4.alloc G4.size (.cells #[.slice q2 A.length k2, .slice q4 B.length k4] 82)
            refine hK.out _ _ (h4.alloc h4.size _) (fun h5 => ?_)
            clear hK K
            try simp only [Act.put, List.setIfInBounds_toArray, List.set_cons_zero, List.set_cons_succ]
            refine wpAnyH_ready (rs := [7]) (by kernel_rfl) (by simp) ?_
            refine AllReadyH.cons (by rw [List.getElem?_toArray]; rfl) (fun K hK => ?_) AllReadyH.nil
            · rw [if_pos (by rfl)]
              go_wp2_with fail
              refine (refTagged_any (s := leafS) RL2.out (by decide) (cut_small (by decide)) (by rw [LL.out]; omega) BX.out).mono ?_
              rintro e w8 ⟨rfl, hb8⟩
              have hB8 : Below W0.heap.size W0 w8 := G5.trans (hb8.mono G5.size)
              go_wp2_with fail
              have G6 := hB8
              refine hK.out _ _ (h5.trans (hb8.mono h5.size)) (fun h6 => ?_)
              clear hK K
              try simp only [Act.put, List.setIfInBounds_toArray, List.set_cons_zero, List.set_cons_succ]
              refine wpAnyH_ready (rs := [8]) (by kernel_rfl) (by simp) ?_
              refine AllReadyH.cons (by rw [List.getElem?_toArray]; rfl) (fun K hK => ?_) AllReadyH.nil
              · rw [if_pos (by rfl)]
                have H3 := HZ.out.on hB8
                have B3 := B0.out.trans (hB8.mono B0.out.size)
                have hth3 := H3.there zero32_len
                have hlen := sha_len (frm (sn leafS) [A, B])
                have hput := (H3.put zero32_len hlen).row hlen
                have HX := Lib.hid (below_setCells' (B := w.heap.size) (w.heap.size + 1 + 1) (by omega) (hc (sha (frm (sn leafS) [A, B]))) 0 B3)
                generalize hF : sha (frm (sn leafS) [A, B]) = F at *
                have HF := Lib.hid hF
                clear hF hb8 H3 B3
                go_wp2_with fail
                refine hK.out _ _ (HX.out) (fun h7 => ?_)
                clear hK K
                try simp only [Act.put, List.setIfInBounds_toArray, List.set_cons_zero, List.set_cons_succ]
                refine wpAnyH_done (by kernel_rfl) ?_ _
                go_wp2_with fail
                refine bodyPost_ret (v := .agg (hc F).toArray) (by simp [results, Tryd.results57, go_sem, hput, hlen]) rfl ⟨by rw [HE.out], HX.out⟩
    · rw [if_pos (by rfl)]
      go_wp2_with fail
      have R2 := Lib.hid (Two.ofA R1.out (k := W0.heap.size + 1) (by simp))
      have G2 := G1.alloc G1.size (.cells #[] 5)
      refine hK.out _ _ (h1.alloc h1.size _) (fun h2 => ?_)
      clear hK K
      try simp only [Act.put, List.setIfInBounds_toArray, List.set_cons_zero, List.set_cons_succ]
      refine wpAnyH_ready (rs := [2]) (by kernel_rfl) (by simp) ?_
      refine AllReadyH.cons (by rw [List.getElem?_toArray]; rfl) (fun K hK => ?_) AllReadyH.nil
      · rw [if_pos (by rfl)]
        refine wp_append_row _ _ rfl Tryd.underlying82 hi.out hz0.out hz1.out hz2.out rfl R2.out.a.own (((HA.out.on G2).rd hA.out).src Tryd.underlying82) (by rw [hA.out]; unfold maxLen; omega) (by rw [hA.out]; omega) ?_
        intro q3 k3 w3 own3 grow3 fr3
        have R3 := Lib.hid (R2.out.growA own3 grow3 fr3)
        have G3 := R3.out.a.below
        clear own3 grow3 fr3
        refine hK.out _ _ (B0.out.trans (G3.mono B0.out.size)) (fun h3 => ?_)
        clear hK K
        try simp only [Act.put, List.setIfInBounds_toArray, List.set_cons_zero, List.set_cons_succ]
        refine wpAnyH_ready (rs := [5]) (by kernel_rfl) (by simp) ?_
        refine AllReadyH.cons (by rw [List.getElem?_toArray]; rfl) (fun K hK => ?_) AllReadyH.nil
        · rw [if_pos (by rfl)]
          refine wp_append_row _ _ rfl Tryd.underlying82 hi.out hz0.out hz1.out hz2.out rfl R3.out.b.own (((HB.out.on G3).rd hB.out).src Tryd.underlying82) (by rw [hB.out]; unfold maxLen; omega) (by rw [hB.out]; omega) ?_
          intro q4 k4 w4 own4 grow4 fr4
          have R4 := Lib.hid (R3.out.symm.growA own4 grow4 fr4).symm
          have G4 := R4.out.a.below
          clear own4 grow4 fr4
          refine hK.out _ _ (B0.out.trans (G4.mono B0.out.size)) (fun h4 => ?_)
          clear hK K
          try simp only [Act.put, List.setIfInBounds_toArray, List.set_cons_zero, List.set_cons_succ]
          refine wpAnyH_ready (rs := [6]) (by kernel_rfl) (by simp) ?_
          refine AllReadyH.cons (by rw [List.getElem?_toArray]; rfl) (fun K hK => ?_) AllReadyH.nil
          · rw [if_pos (by rfl)]
            go_wp2_with fail
            have RL := two_rdl R4.out.a.rd R4.out.b.rd
            simp only [List.nil_append, Nat.zero_add] at RL
            have RL2 := Lib.hid RL
            clear RL
            have G5 := G4.alloc G4.size (.cells #[.slice q3 A.length k3, .slice q4 B.length k4] 82)
            refine hK.out _ _ (h4.alloc h4.size _) (fun h5 => ?_)
            clear hK K
            try simp only [Act.put, List.setIfInBounds_toArray, List.set_cons_zero, List.set_cons_succ]
            refine wpAnyH_ready (rs := [7]) (by kernel_rfl) (by simp) ?_
            refine AllReadyH.cons (by rw [List.getElem?_toArray]; rfl) (fun K hK => ?_) AllReadyH.nil
            · rw [if_pos (by rfl)]
              go_wp2_with fail
              refine (refTagged_any (s := leafS) RL2.out (by decide) (cut_small (by decide)) (by rw [LL.out]; omega) BX.out).mono ?_
              rintro e w8 ⟨rfl, hb8⟩
              have hB8 : Below W0.heap.size W0 w8 := G5.trans (hb8.mono G5.size)
              go_wp2_with fail
              have G6 := hB8
              refine hK.out _ _ (h5.trans (hb8.mono h5.size)) (fun h6 => ?_)
              clear hK K
              try simp only [Act.put, List.setIfInBounds_toArray, List.set_cons_zero, List.set_cons_succ]
              refine wpAnyH_ready (rs := [8]) (by kernel_rfl) (by simp) ?_
              refine AllReadyH.cons (by rw [List.getElem?_toArray]; rfl) (fun K hK => ?_) AllReadyH.nil
              · rw [if_pos (by rfl)]
                have H3 := HZ.out.on hB8
                have B3 := B0.out.trans (hB8.mono B0.out.size)
                have hth3 := H3.there zero32_len
                have hlen := sha_len (frm (sn leafS) [A, B])
                have hput := (H3.put zero32_len hlen).row hlen
                have HX := Lib.hid (below_setCells' (B := w.heap.size) (w.heap.size + 1 + 1) (by omega) (hc (sha (frm (sn leafS) [A, B]))) 0 B3)
                generalize hF : sha (frm (sn leafS) [A, B]) = F at *
                have HF := Lib.hid hF
                clear hF hb8 H3 B3
                go_wp2_with fail
                refine hK.out _ _ (HX.out) (fun h7 => ?_)
                clear hK K
                try simp only [Act.put, List.setIfInBounds_toArray, List.set_cons_zero, List.set_cons_succ]
                refine wpAnyH_done (by kernel_rfl) ?_ _
                go_wp2_with fail
                refine bodyPost_ret (v := .agg (hc F).toArray) (by simp [results, Tryd.results57, go_sem, hput, hlen]) rfl ⟨by rw [HE.out], HX.out⟩
  · rw [if_pos (by rfl)]
    go_wp2_with fail
    have R1 := Lib.hid (FrS.born G0 (k := W0.heap.size) rfl)
    have G1 := G0.alloc G0.size (.cells #[] 5)
    refine hK.out _ _ (h0.alloc h0.size _) (fun h1 => ?_)
    clear hK K
    try simp only [Act.put, List.setIfInBounds_toArray, List.set_cons_zero, List.set_cons_succ]
    refine wpAnyH_ready (rs := [0]) (by kernel_rfl) (by simp) ?_
    refine AllReadyH.cons (by rw [List.getElem?_toArray]; rfl) (fun K hK => ?_) AllReadyH.nil
    · rw [if_pos (by rfl)]
      go_wp2_with fail
      have R2 := Lib.hid (Two.ofA R1.out (k := W0.heap.size + 1) (by simp)).symm
      have G2 := G1.alloc G1.size (.cells #[] 5)
      refine hK.out _ _ (h1.alloc h1.size _) (fun h2 => ?_)
      clear hK K
      try simp only [Act.put, List.setIfInBounds_toArray, List.set_cons_zero, List.set_cons_succ]
      refine wpAnyH_ready (rs := [2]) (by kernel_rfl) (by simp) ?_
      refine AllReadyH.cons (by rw [List.getElem?_toArray]; rfl) (fun K hK => ?_) AllReadyH.nil
      · rw [if_pos (by rfl)]
        refine wp_append_row _ _ rfl Tryd.underlying82 hi.out hz0.out hz1.out hz2.out rfl R2.out.a.own (((HA.out.on G2).rd hA.out).src Tryd.underlying82) (by rw [hA.out]; unfold maxLen; omega) (by rw [hA.out]; omega) ?_
        intro q3 k3 w3 own3 grow3 fr3
        have R3 := Lib.hid (R2.out.growA own3 grow3 fr3)
        have G3 := R3.out.a.below
        clear own3 grow3 fr3
        refine hK.out _ _ (B0.out.trans (G3.mono B0.out.size)) (fun h3 => ?_)
        clear hK K
        try simp only [Act.put, List.setIfInBounds_toArray, List.set_cons_zero, List.set_cons_succ]
        refine wpAnyH_ready (rs := [5]) (by kernel_rfl) (by simp) ?_
        refine AllReadyH.cons (by rw [List.getElem?_toArray]; rfl) (fun K hK => ?_) AllReadyH.nil
        · rw [if_pos (by rfl)]
          refine wp_append_row _ _ rfl Tryd.underlying82 hi.out hz0.out hz1.out hz2.out rfl R3.out.b.own (((HB.out.on G3).rd hB.out).src Tryd.underlying82) (by rw [hB.out]; unfold maxLen; omega) (by rw [hB.out]; omega) ?_
          intro q4 k4 w4 own4 grow4 fr4
          have R4 := Lib.hid (R3.out.symm.growA own4 grow4 fr4).symm
          have G4 := R4.out.a.below
          clear own4 grow4 fr4
          refine hK.out _ _ (B0.out.trans (G4.mono B0.out.size)) (fun h4 => ?_)
          clear hK K
          try simp only [Act.put, List.setIfInBounds_toArray, List.set_cons_zero, List.set_cons_succ]
          refine wpAnyH_ready (rs := [6]) (by kernel_rfl) (by simp) ?_
          refine AllReadyH.cons (by rw [List.getElem?_toArray]; rfl) (fun K hK => ?_) AllReadyH.nil
          · rw [if_pos (by rfl)]
            go_wp2_with fail
            have RL := two_rdl R4.out.a.rd R4.out.b.rd
            simp only [List.nil_append, Nat.zero_add] at RL
            have RL2 := Lib.hid RL
            clear RL
            have G5 := G4.alloc G4.size (.cells #[.slice q3 A.length k3, .slice q4 B.length k4] 82)
            refine hK.out _ _ (h4.alloc h4.size _) (fun h5 => ?_)
            clear hK K
            try simp only [Act.put, List.setIfInBounds_toArray, List.set_cons_zero, List.set_cons_succ]
            refine wpAnyH_ready (rs := [7]) (by kernel_rfl) (by simp) ?_
            refine AllReadyH.cons (by rw [List.getElem?_toArray]; rfl) (fun K hK => ?_) AllReadyH.nil
            · rw [if_pos (by rfl)]
              go_wp2_with fail
              refine (refTagged_any (s := leafS) RL2.out (by decide) (cut_small (by decide)) (by rw [LL.out]; omega) BX.out).mono ?_
              rintro e w8 ⟨rfl, hb8⟩
              have hB8 : Below W0.heap.size W0 w8 := G5.trans (hb8.mono G5.size)
              go_wp2_with fail
              have G6 := hB8
              refine hK.out _ _ (h5.trans (hb8.mono h5.size)) (fun h6 => ?_)
              clear hK K
              try simp only [Act.put, List.setIfInBounds_toArray, List.set_cons_zero, List.set_cons_succ]
              refine wpAnyH_ready (rs := [8]) (by kernel_rfl) (by simp) ?_
              refine AllReadyH.cons (by rw [List.getElem?_toArray]; rfl) (fun K hK => ?_) AllReadyH.nil
              · rw [if_pos (by rfl)]
                have H3 := HZ.out.on hB8
                have B3 := B0.out.trans (hB8.mono B0.out.size)
                have hth3 := H3.there zero32_len
                have hlen := sha_len (frm (sn leafS) [A, B])
                have hput := (H3.put zero32_len hlen).row hlen
                have HX := Lib.hid (below_setCells' (B := w.heap.size) (w.heap.size + 1 + 1) (by omega) (hc (sha (frm (sn leafS) [A, B]))) 0 B3)
                generalize hF : sha (frm (sn leafS) [A, B]) = F at *
                have HF := Lib.hid hF
                clear hF hb8 H3 B3
                go_wp2_with fail
                refine hK.out _ _ (HX.out) (fun h7 => ?_)
                clear hK K
                try simp only [Act.put, List.setIfInBounds_toArray, List.set_cons_zero, List.set_cons_succ]
                refine wpAnyH_done (by kernel_rfl) ?_ _
                go_wp2_with fail
                refine bodyPost_ret (v := .agg (hc F).toArray) (by simp [results, Tryd.results57, go_sem, hput, hlen]) rfl ⟨by rw [HE.out], HX.out⟩

set_option maxHeartbeats 4000000 in
theorem Above_any {w : World} {A B : List Int} (hT : Tbl w) (hA : A.length = 32) (hB : B.length = 32) (bA : Bytes A) (bB : Bytes B) :
    Calls Tryd.prog 61 #[.agg (hc A).toArray, .agg (hc B).toArray] w fun e w' => e = .returned (.agg (hc (abH A B)).toArray) ∧ Below w.heap.size w w' := by
  have HA := Lib.hid ((HashAt.new w A).alloc (.cells (hc B).toArray 24) |>.alloc (.cells (hc zero32).toArray 24))
  have HB := Lib.hid ((HashAt.new (w.alloc (.cells (hc A).toArray 24)) B).alloc (.cells (hc zero32).toArray 24))
  have HZ := Lib.hid (HashAt.new ((w.alloc (.cells (hc A).toArray 24)).alloc (.cells (hc B).toArray 24)) zero32)
  have B0 := Lib.hid ((((Below.refl w.heap.size w).alloc (Nat.le_refl _) (.cells (hc A).toArray 24)).alloc (by simp) (.cells (hc B).toArray 24)).alloc (by simp; omega) (.cells (hc zero32).toArray 24))
  have hlA : (hc A).length = 32 := by rw [hc_len, hA]
  have hlB : (hc B).length = 32 := by rw [hc_len, hB]
  simp only [World.size_alloc] at HB HZ
  have r0 := HA.out.row hA
  have r1 := HB.out.row hB
  have z32 := zero32_len
  have P := fun (W : World) (h : Below w.heap.size w W) => Pair_any (w := W) (hT.on h hT.pos) hA hB bA bB
  have HP := Lib.hid P
  clear P bA bB
  by_cases hz : A = zero32 ∧ B = zero32
  · have da : (A == zero32) = true := by rw [hz.1]; exact beq_self_eq_true _
    have db : (B == zero32) = true := by rw [hz.2]; exact beq_self_eq_true _
    have HE := Lib.hid (show abH A B = zero32 by rw [hz.1, hz.2]; exact abH_zero)
    have hth := HZ.out.there zero32_len
    have hput := (HZ.out.put zero32_len zero32_len).row zero32_len
    have HX := Lib.hid (below_setCells' (B := w.heap.size) (w.heap.size + 1 + 1) (by omega) (hc zero32) 0 B0.out)
    clear hz
    go_enter Tryd.func61, Tryd.ntmps61
    go_wp2_with fail
    refine bodyPost_ret (v := .agg (hc zero32).toArray) (by simp [results, Tryd.results61, go_sem, hput, z32]) rfl ⟨by rw [HE.out], HX.out⟩
  have HE := Lib.hid (abH_some hz)
  have hd : (A == zero32) = false ∨ ((A == zero32) = true ∧ (B == zero32) = false) := by
    by_cases ha : A = zero32
    · right
      exact ⟨by rw [ha]; exact beq_self_eq_true _, by simpa using fun hb => hz ⟨ha, hb⟩⟩
    · left; simpa using ha
  clear hz
  have hlen := sha_len (frm (sn pairS) [A, B])
  rcases hd with da | ⟨da, db⟩
  all_goals
    go_enter Tryd.func61, Tryd.ntmps61
    go_wp2_with fail
    refine (HP.out _ B0.out).mono ?_
    rintro e w3 ⟨rfl, hb3⟩
    have H3 := HZ.out.on hb3
    have B3 := B0.out.trans (hb3.mono B0.out.size)
    have hth3 := H3.there zero32_len
    have hput := (H3.put zero32_len hlen).row hlen
    have HX := Lib.hid (below_setCells' (B := w.heap.size) (w.heap.size + 1 + 1) (by omega) (hc (sha (frm (sn pairS) [A, B]))) 0 B3)
    generalize hF : sha (frm (sn pairS) [A, B]) = F at *
    have HF := Lib.hid hF
    clear hF hb3 H3 B3 r0 r1
    go_wp2_with fail
    refine bodyPost_ret (v := .agg (hc F).toArray) (by simp [results, Tryd.results61, go_sem, hput, hlen]) rfl ⟨by rw [HE.out], HX.out⟩

set_option maxHeartbeats 4000000 in
theorem refAbove_any {w : World} {A B : List Int} (hA : A.length = 32) (hB : B.length = 32) (bA : Bytes A) (bB : Bytes B) :
    Calls Tryd.prog 58 #[.agg (hc A).toArray, .agg (hc B).toArray] w fun e w' => e = .returned (.agg (hc (abH A B)).toArray) ∧ Below w.heap.size w w' := by
  have HA := Lib.hid ((HashAt.new w A).alloc (.cells (hc B).toArray 24) |>.alloc (.cells (hc zero32).toArray 24))
  have HB := Lib.hid ((HashAt.new (w.alloc (.cells (hc A).toArray 24)) B).alloc (.cells (hc zero32).toArray 24))
  have HZ := Lib.hid (HashAt.new ((w.alloc (.cells (hc A).toArray 24)).alloc (.cells (hc B).toArray 24)) zero32)
  have B0 := Lib.hid ((((Below.refl w.heap.size w).alloc (Nat.le_refl _) (.cells (hc A).toArray 24)).alloc (by simp) (.cells (hc B).toArray 24)).alloc (by simp; omega) (.cells (hc zero32).toArray 24))
  have hlA : (hc A).length = 32 := by rw [hc_len, hA]
  have hlB : (hc B).length = 32 := by rw [hc_len, hB]
  simp only [World.size_alloc] at HB HZ
  have r0 := HA.out.row hA
  have r1 := HB.out.row hB
  have z32 := zero32_len
  have P := fun (W : World) (h : Below w.heap.size w W) => refPair_any (w := W) hA hB bA bB
  have HP := Lib.hid P
  clear P bA bB
  by_cases hz : A = zero32 ∧ B = zero32
  · have da : (A == zero32) = true := by rw [hz.1]; exact beq_self_eq_true _
    have db : (B == zero32) = true := by rw [hz.2]; exact beq_self_eq_true _
    have HE := Lib.hid (show abH A B = zero32 by rw [hz.1, hz.2]; exact abH_zero)
    have hth := HZ.out.there zero32_len
    have hput := (HZ.out.put zero32_len zero32_len).row zero32_len
    have HX := Lib.hid (below_setCells' (B := w.heap.size) (w.heap.size + 1 + 1) (by omega) (hc zero32) 0 B0.out)
    clear hz
    go_enter Tryd.func58, Tryd.ntmps58
    go_wp2_with fail
    refine bodyPost_ret (v := .agg (hc zero32).toArray) (by simp [results, Tryd.results58, go_sem, hput, z32]) rfl ⟨by rw [HE.out], HX.out⟩
  have HE := Lib.hid (abH_some hz)
  have hd : (A == zero32) = false ∨ ((A == zero32) = true ∧ (B == zero32) = false) := by
    by_cases ha : A = zero32
    · right
      exact ⟨by rw [ha]; exact beq_self_eq_true _, by simpa using fun hb => hz ⟨ha, hb⟩⟩
    · left; simpa using ha
  clear hz
  have hlen := sha_len (frm (sn pairS) [A, B])
  rcases hd with da | ⟨da, db⟩
  all_goals
    go_enter Tryd.func58, Tryd.ntmps58
    go_wp2_with fail
    refine (HP.out _ B0.out).mono ?_
    rintro e w3 ⟨rfl, hb3⟩
    have H3 := HZ.out.on hb3
    have B3 := B0.out.trans (hb3.mono B0.out.size)
    have hth3 := H3.there zero32_len
    have hput := (H3.put zero32_len hlen).row hlen
    have HX := Lib.hid (below_setCells' (B := w.heap.size) (w.heap.size + 1 + 1) (by omega) (hc (sha (frm (sn pairS) [A, B]))) 0 B3)
    generalize hF : sha (frm (sn pairS) [A, B]) = F at *
    have HF := Lib.hid hF
    clear hF hb3 H3 B3 r0 r1
    go_wp2_with fail
    refine bodyPost_ret (v := .agg (hc F).toArray) (by simp [results, Tryd.results58, go_sem, hput, hlen]) rfl ⟨by rw [HE.out], HX.out⟩
end Go.Proofs.YtjlodnecdngdfaaDoor
namespace Go.Proofs.YtjlodnecdngdfaaDoor
open Go.RowKit
set_option maxRecDepth 100000

theorem FrS.base {w w1 wr : World} {v : Value} {xs : List Int} {n : Nat} (h : FrS w1 wr v xs n) (hb : Below w.heap.size w w1) : FrS w wr v xs n :=
  ⟨h.own, fun g hg => Nat.le_trans hb.size (h.fresh g hg), hb.trans (h.below.mono hb.size)⟩
set_option maxHeartbeats 4000000 in
theorem AboveText_any {w : World} {A B : List Int} (hA : A.length = 32) (hB : B.length = 32) :
    Calls Tryd.prog 69 #[.agg (hc A).toArray, .agg (hc B).toArray] w fun e w' => ∃ q n c, e = .returned (.slice q n c) ∧ FrS w w' (.slice q n c) (frm (sn pairS) [A, B]) n := by
  have LL := Lib.hid (pair_len hA hB)
  have HA := Lib.hid ((HashAt.new w A).alloc (.cells (hc B).toArray 24))
  have HB := Lib.hid ((HashAt.new (w.alloc (.cells (hc A).toArray 24)) B))
  have B0 := Lib.hid (((Below.refl w.heap.size w).alloc (Nat.le_refl _) (.cells (hc A).toArray 24)).alloc (by simp) (.cells (hc B).toArray 24))
  have hlA : (hc A).length = 32 := by rw [hc_len, hA]
  have hlB : (hc B).length = 32 := by rw [hc_len, hB]
  obtain ⟨i0, hi, hz0, hz1, hz2⟩ := info_parts Tryd.infoU8
  replace hi := Lib.hid hi
  replace hz0 := Lib.hid hz0
  replace hz1 := Lib.hid hz1
  replace hz2 := Lib.hid hz2
  replace hA := Lib.hid hA
  replace hB := Lib.hid hB
  go_enter Tryd.func69, Tryd.ntmps69
  go_wp2_with fail
  simp only [World.size_alloc] at HB
  generalize (w.alloc (.cells (hc A).toArray 24)).alloc (.cells (hc B).toArray 24) = W0 at *
  refine wp_region_held_drew (S := fun W => Below w.heap.size w W) (by kernel_rfl) (B0.out.drew) (fun h0 => ?_)
  have G0 : Below W0.heap.size W0 W0.drew := (Below.refl _ _).drew
  refine wpAnyH_take (i := 1) (v := ?_) (by rw [List.getElem?_toArray]; rfl) (by kernel_rfl) (by kernel_rfl) (by kernel_rfl) (by exact fun _ _ _ h => h) (Or.inl ⟨by rfl, ?_⟩) h0 ?_
  rotate_left
  · intro W hW
    go_simp
    all_goals with_reducible rfl
  try simp only [Act.put, List.setIfInBounds_toArray, List.set_cons_zero, List.set_cons_succ]
  refine wpAnyH_take (i := 4) (v := ?_) (by rw [List.getElem?_toArray]; rfl) (by kernel_rfl) (by kernel_rfl) (by kernel_rfl) (by exact fun _ _ _ h => h) (Or.inl ⟨by rfl, ?_⟩) h0 ?_
  rotate_left
  · intro W hW
    go_simp
    all_goals with_reducible rfl
  try simp only [Act.put, List.setIfInBounds_toArray, List.set_cons_zero, List.set_cons_succ]
  refine wpAnyH_ready (rs := [0, 3]) (by kernel_rfl) (by simp) ?_
  refine AllReadyH.cons (by rw [List.getElem?_toArray]; rfl) (fun K hK => ?_) (AllReadyH.cons (by rw [List.getElem?_toArray]; rfl) (fun K hK => ?_) AllReadyH.nil)
  · rw [if_pos (by rfl)]
    go_wp2_with fail
    have R1 := Lib.hid (FrS.born G0 (k := W0.heap.size) rfl)
    have G1 := G0.alloc G0.size (.cells #[] 5)
    refine hK.out _ _ (h0.alloc h0.size _) (fun h1 => ?_)
    clear hK K
    try simp only [Act.put, List.setIfInBounds_toArray, List.set_cons_zero, List.set_cons_succ]
    refine wpAnyH_ready (rs := [2, 3]) (by kernel_rfl) (by simp) ?_
    refine AllReadyH.cons (by rw [List.getElem?_toArray]; rfl) (fun K hK => ?_) (AllReadyH.cons (by rw [List.getElem?_toArray]; rfl) (fun K hK => ?_) AllReadyH.nil)
    · rw [if_pos (by rfl)]
      refine wp_append_row _ _ rfl Tryd.underlying82 hi.out hz0.out hz1.out hz2.out rfl R1.out.own (((HA.out.on G1).rd hA.out).src Tryd.underlying82) (by rw [hA.out]; unfold maxLen; omega) (by rw [hA.out]; omega) ?_
      intro q2 k2 w2 own2 grow2 fr2
      have R2 := Lib.hid (R1.out.grow own2 grow2 fr2)
      have G2 := R2.out.below
      clear own2 grow2 fr2
      refine hK.out _ _ (B0.out.trans (G2.mono B0.out.size)) (fun h2 => ?_)
      clear hK K
      try simp only [Act.put, List.setIfInBounds_toArray, List.set_cons_zero, List.set_cons_succ]
      refine wpAnyH_ready (rs := [3]) (by kernel_rfl) (by simp) ?_
      refine AllReadyH.cons (by rw [List.getElem?_toArray]; rfl) (fun K hK => ?_) AllReadyH.nil
      · rw [if_pos (by rfl)]
        go_wp2_with fail
        have R3 := Lib.hid (Two.ofA R2.out (k := w2.heap.size) rfl)
        have G3 := G2.alloc G2.size (.cells #[] 5)
        refine hK.out _ _ (h2.alloc h2.size _) (fun h3 => ?_)
        clear hK K
        try simp only [Act.put, List.setIfInBounds_toArray, List.set_cons_zero, List.set_cons_succ]
        refine wpAnyH_ready (rs := [5]) (by kernel_rfl) (by simp) ?_
        refine AllReadyH.cons (by rw [List.getElem?_toArray]; rfl) (fun K hK => ?_) AllReadyH.nil
        · rw [if_pos (by rfl)]
          refine wp_append_row _ _ rfl Tryd.underlying82 hi.out hz0.out hz1.out hz2.out rfl R3.out.b.own (((HB.out.on G3).rd hB.out).src Tryd.underlying82) (by rw [hB.out]; unfold maxLen; omega) (by rw [hB.out]; omega) ?_
          intro q4 k4 w4 own4 grow4 fr4
          have R4 := Lib.hid (R3.out.symm.growA own4 grow4 fr4).symm
          have G4 := R4.out.a.below
          clear own4 grow4 fr4
          refine hK.out _ _ (B0.out.trans (G4.mono B0.out.size)) (fun h4 => ?_)
          clear hK K
          try simp only [Act.put, List.setIfInBounds_toArray, List.set_cons_zero, List.set_cons_succ]
          refine wpAnyH_ready (rs := [6]) (by kernel_rfl) (by simp) ?_
          refine AllReadyH.cons (by rw [List.getElem?_toArray]; rfl) (fun K hK => ?_) AllReadyH.nil
          · rw [if_pos (by rfl)]
            go_wp2_with fail
            have RL := two_rdl R4.out.a.rd R4.out.b.rd
            simp only [List.nil_append, Nat.zero_add] at RL
            have RL2 := Lib.hid RL
            clear RL
            have G5 := G4.alloc G4.size (.cells #[.slice q2 A.length k2, .slice q4 B.length k4] 82)
            refine hK.out _ _ (h4.alloc h4.size _) (fun h5 => ?_)
            clear hK K
            try simp only [Act.put, List.setIfInBounds_toArray, List.set_cons_zero, List.set_cons_succ]
            refine wpAnyH_ready (rs := [7]) (by kernel_rfl) (by simp) ?_
            refine AllReadyH.cons (by rw [List.getElem?_toArray]; rfl) (fun K hK => ?_) AllReadyH.nil
            · rw [if_pos (by rfl)]
              go_wp2_with fail
              refine (refFrame_any (s := pairS) RL2.out (by decide) (cut_small (by decide)) (by rw [LL.out]; omega)).mono ?_
              rintro e w8 ⟨q8, n8, c8, rfl, f8⟩
              have F8 := Lib.hid f8
              clear f8
              go_wp2_with fail
              refine hK.out _ _ (h5.trans (F8.out.below.mono h5.size)) (fun h6 => ?_)
              clear hK K
              try simp only [Act.put, List.setIfInBounds_toArray, List.set_cons_zero, List.set_cons_succ]
              refine wpAnyH_take (i := 8) (v := ?_) (by rw [List.getElem?_toArray]; rfl) (by kernel_rfl) (by kernel_rfl) (by kernel_rfl) (by exact fun _ _ _ h => h) (Or.inl ⟨by rfl, ?_⟩) h6 ?_
              rotate_left
              · intro W hW
                go_simp
                all_goals with_reducible rfl
              try simp only [Act.put, List.setIfInBounds_toArray, List.set_cons_zero, List.set_cons_succ]
              refine wpAnyH_done (by kernel_rfl) ?_ _
              go_wp2_with fail
              go_ret
              exact ⟨_, _, _, rfl, F8.out.base h5⟩
    · rw [if_pos (by rfl)]
      go_wp2_with fail
      have R2 := Lib.hid (Two.ofA R1.out (k := W0.heap.size + 1) (by simp))
      have G2 := G1.alloc G1.size (.cells #[] 5)
      refine hK.out _ _ (h1.alloc h1.size _) (fun h2 => ?_)
      clear hK K
      try simp only [Act.put, List.setIfInBounds_toArray, List.set_cons_zero, List.set_cons_succ]
      refine wpAnyH_ready (rs := [2]) (by kernel_rfl) (by simp) ?_
      refine AllReadyH.cons (by rw [List.getElem?_toArray]; rfl) (fun K hK => ?_) AllReadyH.nil
      · rw [if_pos (by rfl)]
        refine wp_append_row _ _ rfl Tryd.underlying82 hi.out hz0.out hz1.out hz2.out rfl R2.out.a.own (((HA.out.on G2).rd hA.out).src Tryd.underlying82) (by rw [hA.out]; unfold maxLen; omega) (by rw [hA.out]; omega) ?_
        intro q3 k3 w3 own3 grow3 fr3
        have R3 := Lib.hid (R2.out.growA own3 grow3 fr3)
        have G3 := R3.out.a.below
        clear own3 grow3 fr3
        refine hK.out _ _ (B0.out.trans (G3.mono B0.out.size)) (fun h3 => ?_)
        clear hK K
        try simp only [Act.put, List.setIfInBounds_toArray, List.set_cons_zero, List.set_cons_succ]
        refine wpAnyH_ready (rs := [5]) (by kernel_rfl) (by simp) ?_
        refine AllReadyH.cons (by rw [List.getElem?_toArray]; rfl) (fun K hK => ?_) AllReadyH.nil
        · rw [if_pos (by rfl)]
          refine wp_append_row _ _ rfl Tryd.underlying82 hi.out hz0.out hz1.out hz2.out rfl R3.out.b.own (((HB.out.on G3).rd hB.out).src Tryd.underlying82) (by rw [hB.out]; unfold maxLen; omega) (by rw [hB.out]; omega) ?_
          intro q4 k4 w4 own4 grow4 fr4
          have R4 := Lib.hid (R3.out.symm.growA own4 grow4 fr4).symm
          have G4 := R4.out.a.below
          clear own4 grow4 fr4
          refine hK.out _ _ (B0.out.trans (G4.mono B0.out.size)) (fun h4 => ?_)
          clear hK K
          try simp only [Act.put, List.setIfInBounds_toArray, List.set_cons_zero, List.set_cons_succ]
          refine wpAnyH_ready (rs := [6]) (by kernel_rfl) (by simp) ?_
          refine AllReadyH.cons (by rw [List.getElem?_toArray]; rfl) (fun K hK => ?_) AllReadyH.nil
          · rw [if_pos (by rfl)]
            go_wp2_with fail
            have RL := two_rdl R4.out.a.rd R4.out.b.rd
            simp only [List.nil_append, Nat.zero_add] at RL
            have RL2 := Lib.hid RL
            clear RL
            have G5 := G4.alloc G4.size (.cells #[.slice q3 A.length k3, .slice q4 B.length k4] 82)
            refine hK.out _ _ (h4.alloc h4.size _) (fun h5 => ?_)
            clear hK K
            try simp only [Act.put, List.setIfInBounds_toArray, List.set_cons_zero, List.set_cons_succ]
            refine wpAnyH_ready (rs := [7]) (by kernel_rfl) (by simp) ?_
            refine AllReadyH.cons (by rw [List.getElem?_toArray]; rfl) (fun K hK => ?_) AllReadyH.nil
            · rw [if_pos (by rfl)]
              go_wp2_with fail
              refine (refFrame_any (s := pairS) RL2.out (by decide) (cut_small (by decide)) (by rw [LL.out]; omega)).mono ?_
              rintro e w8 ⟨q8, n8, c8, rfl, f8⟩
              have F8 := Lib.hid f8
              clear f8
              go_wp2_with fail
              refine hK.out _ _ (h5.trans (F8.out.below.mono h5.size)) (fun h6 => ?_)
              clear hK K
              try simp only [Act.put, List.setIfInBounds_toArray, List.set_cons_zero, List.set_cons_succ]
              refine wpAnyH_take (i := 8) (v := ?_) (by rw [List.getElem?_toArray]; rfl) (by kernel_rfl) (by kernel_rfl) (by kernel_rfl) (by exact fun _ _ _ h => h) (Or.inl ⟨by rfl, ?_⟩) h6 ?_
              rotate_left
              · intro W hW
                go_simp
                all_goals with_reducible rfl
              try simp only [Act.put, List.setIfInBounds_toArray, List.set_cons_zero, List.set_cons_succ]
              refine wpAnyH_done (by kernel_rfl) ?_ _
              go_wp2_with fail
              go_ret
              exact ⟨_, _, _, rfl, F8.out.base h5⟩
  · rw [if_pos (by rfl)]
    go_wp2_with fail
    have R1 := Lib.hid (FrS.born G0 (k := W0.heap.size) rfl)
    have G1 := G0.alloc G0.size (.cells #[] 5)
    refine hK.out _ _ (h0.alloc h0.size _) (fun h1 => ?_)
    clear hK K
    try simp only [Act.put, List.setIfInBounds_toArray, List.set_cons_zero, List.set_cons_succ]
    refine wpAnyH_ready (rs := [0]) (by kernel_rfl) (by simp) ?_
    refine AllReadyH.cons (by rw [List.getElem?_toArray]; rfl) (fun K hK => ?_) AllReadyH.nil
    · rw [if_pos (by rfl)]
      go_wp2_with fail
      have R2 := Lib.hid (Two.ofA R1.out (k := W0.heap.size + 1) (by simp)).symm
      have G2 := G1.alloc G1.size (.cells #[] 5)
      refine hK.out _ _ (h1.alloc h1.size _) (fun h2 => ?_)
      clear hK K
      try simp only [Act.put, List.setIfInBounds_toArray, List.set_cons_zero, List.set_cons_succ]
      refine wpAnyH_ready (rs := [2]) (by kernel_rfl) (by simp) ?_
      refine AllReadyH.cons (by rw [List.getElem?_toArray]; rfl) (fun K hK => ?_) AllReadyH.nil
      · rw [if_pos (by rfl)]
        refine wp_append_row _ _ rfl Tryd.underlying82 hi.out hz0.out hz1.out hz2.out rfl R2.out.a.own (((HA.out.on G2).rd hA.out).src Tryd.underlying82) (by rw [hA.out]; unfold maxLen; omega) (by rw [hA.out]; omega) ?_
        intro q3 k3 w3 own3 grow3 fr3
        have R3 := Lib.hid (R2.out.growA own3 grow3 fr3)
        have G3 := R3.out.a.below
        clear own3 grow3 fr3
        refine hK.out _ _ (B0.out.trans (G3.mono B0.out.size)) (fun h3 => ?_)
        clear hK K
        try simp only [Act.put, List.setIfInBounds_toArray, List.set_cons_zero, List.set_cons_succ]
        refine wpAnyH_ready (rs := [5]) (by kernel_rfl) (by simp) ?_
        refine AllReadyH.cons (by rw [List.getElem?_toArray]; rfl) (fun K hK => ?_) AllReadyH.nil
        · rw [if_pos (by rfl)]
          refine wp_append_row _ _ rfl Tryd.underlying82 hi.out hz0.out hz1.out hz2.out rfl R3.out.b.own (((HB.out.on G3).rd hB.out).src Tryd.underlying82) (by rw [hB.out]; unfold maxLen; omega) (by rw [hB.out]; omega) ?_
          intro q4 k4 w4 own4 grow4 fr4
          have R4 := Lib.hid (R3.out.symm.growA own4 grow4 fr4).symm
          have G4 := R4.out.a.below
          clear own4 grow4 fr4
          refine hK.out _ _ (B0.out.trans (G4.mono B0.out.size)) (fun h4 => ?_)
          clear hK K
          try simp only [Act.put, List.setIfInBounds_toArray, List.set_cons_zero, List.set_cons_succ]
          refine wpAnyH_ready (rs := [6]) (by kernel_rfl) (by simp) ?_
          refine AllReadyH.cons (by rw [List.getElem?_toArray]; rfl) (fun K hK => ?_) AllReadyH.nil
          · rw [if_pos (by rfl)]
            go_wp2_with fail
            have RL := two_rdl R4.out.a.rd R4.out.b.rd
            simp only [List.nil_append, Nat.zero_add] at RL
            have RL2 := Lib.hid RL
            clear RL
            have G5 := G4.alloc G4.size (.cells #[.slice q3 A.length k3, .slice q4 B.length k4] 82)
            refine hK.out _ _ (h4.alloc h4.size _) (fun h5 => ?_)
            clear hK K
            try simp only [Act.put, List.setIfInBounds_toArray, List.set_cons_zero, List.set_cons_succ]
            refine wpAnyH_ready (rs := [7]) (by kernel_rfl) (by simp) ?_
            refine AllReadyH.cons (by rw [List.getElem?_toArray]; rfl) (fun K hK => ?_) AllReadyH.nil
            · rw [if_pos (by rfl)]
              go_wp2_with fail
              refine (refFrame_any (s := pairS) RL2.out (by decide) (cut_small (by decide)) (by rw [LL.out]; omega)).mono ?_
              rintro e w8 ⟨q8, n8, c8, rfl, f8⟩
              have F8 := Lib.hid f8
              clear f8
              go_wp2_with fail
              refine hK.out _ _ (h5.trans (F8.out.below.mono h5.size)) (fun h6 => ?_)
              clear hK K
              try simp only [Act.put, List.setIfInBounds_toArray, List.set_cons_zero, List.set_cons_succ]
              refine wpAnyH_take (i := 8) (v := ?_) (by rw [List.getElem?_toArray]; rfl) (by kernel_rfl) (by kernel_rfl) (by kernel_rfl) (by exact fun _ _ _ h => h) (Or.inl ⟨by rfl, ?_⟩) h6 ?_
              rotate_left
              · intro W hW
                go_simp
                all_goals with_reducible rfl
              try simp only [Act.put, List.setIfInBounds_toArray, List.set_cons_zero, List.set_cons_succ]
              refine wpAnyH_done (by kernel_rfl) ?_ _
              go_wp2_with fail
              go_ret
              exact ⟨_, _, _, rfl, F8.out.base h5⟩

set_option maxHeartbeats 4000000 in
theorem LeafText_any {w : World} {A B : List Int} (hA : A.length = 32) (hB : B.length = 32) :
    Calls Tryd.prog 68 #[.agg (hc A).toArray, .agg (hc B).toArray] w fun e w' => ∃ q n c, e = .returned (.slice q n c) ∧ FrS w w' (.slice q n c) (frm (sn leafS) [A, B]) n := by
  have LL := Lib.hid (leaf_len hA hB)
  have HA := Lib.hid ((HashAt.new w A).alloc (.cells (hc B).toArray 24))
  have HB := Lib.hid ((HashAt.new (w.alloc (.cells (hc A).toArray 24)) B))
  have B0 := Lib.hid (((Below.refl w.heap.size w).alloc (Nat.le_refl _) (.cells (hc A).toArray 24)).alloc (by simp) (.cells (hc B).toArray 24))
  have hlA : (hc A).length = 32 := by rw [hc_len, hA]
  have hlB : (hc B).length = 32 := by rw [hc_len, hB]
  obtain ⟨i0, hi, hz0, hz1, hz2⟩ := info_parts Tryd.infoU8
  replace hi := Lib.hid hi
  replace hz0 := Lib.hid hz0
  replace hz1 := Lib.hid hz1
  replace hz2 := Lib.hid hz2
  replace hA := Lib.hid hA
  replace hB := Lib.hid hB
  go_enter Tryd.func68, Tryd.ntmps68
  go_wp2_with fail
  simp only [World.size_alloc] at HB
  generalize (w.alloc (.cells (hc A).toArray 24)).alloc (.cells (hc B).toArray 24) = W0 at *
  refine wp_region_held_drew (S := fun W => Below w.heap.size w W) (by kernel_rfl) (B0.out.drew) (fun h0 => ?_)
  have G0 : Below W0.heap.size W0 W0.drew := (Below.refl _ _).drew
  refine wpAnyH_take (i := 1) (v := ?_) (by rw [List.getElem?_toArray]; rfl) (by kernel_rfl) (by kernel_rfl) (by kernel_rfl) (by exact fun _ _ _ h => h) (Or.inl ⟨by rfl, ?_⟩) h0 ?_
  rotate_left
  · intro W hW
    go_simp
    all_goals with_reducible rfl
  try simp only [Act.put, List.setIfInBounds_toArray, List.set_cons_zero, List.set_cons_succ]
  refine wpAnyH_take (i := 4) (v := ?_) (by rw [List.getElem?_toArray]; rfl) (by kernel_rfl) (by kernel_rfl) (by kernel_rfl) (by exact fun _ _ _ h => h) (Or.inl ⟨by rfl, ?_⟩) h0 ?_
  rotate_left
  · intro W hW
    go_simp
    all_goals with_reducible rfl
  try simp only [Act.put, List.setIfInBounds_toArray, List.set_cons_zero, List.set_cons_succ]
  refine wpAnyH_ready (rs := [0, 3]) (by kernel_rfl) (by simp) ?_
  refine AllReadyH.cons (by rw [List.getElem?_toArray]; rfl) (fun K hK => ?_) (AllReadyH.cons (by rw [List.getElem?_toArray]; rfl) (fun K hK => ?_) AllReadyH.nil)
  · rw [if_pos (by rfl)]
    go_wp2_with fail
    have R1 := Lib.hid (FrS.born G0 (k := W0.heap.size) rfl)
    have G1 := G0.alloc G0.size (.cells #[] 5)
    refine hK.out _ _ (h0.alloc h0.size _) (fun h1 => ?_)
    clear hK K
    try simp only [Act.put, List.setIfInBounds_toArray, List.set_cons_zero, List.set_cons_succ]
    refine wpAnyH_ready (rs := [2, 3]) (by kernel_rfl) (by simp) ?_
    refine AllReadyH.cons (by rw [List.getElem?_toArray]; rfl) (fun K hK => ?_) (AllReadyH.cons (by rw [List.getElem?_toArray]; rfl) (fun K hK => ?_) AllReadyH.nil)
    · rw [if_pos (by rfl)]
      refine wp_append_row _ _ rfl Tryd.underlying82 hi.out hz0.out hz1.out hz2.out rfl R1.out.own (((HA.out.on G1).rd hA.out).src Tryd.underlying82) (by rw [hA.out]; unfold maxLen; omega) (by rw [hA.out]; omega) ?_
      intro q2 k2 w2 own2 grow2 fr2
      have R2 := Lib.hid (R1.out.grow own2 grow2 fr2)
      have G2 := R2.out.below
      clear own2 grow2 fr2
      refine hK.out _ _ (B0.out.trans (G2.mono B0.out.size)) (fun h2 => ?_)
      clear hK K
      try simp only [Act.put, List.setIfInBounds_toArray, List.set_cons_zero, List.set_cons_succ]
      refine wpAnyH_ready (rs := [3]) (by kernel_rfl) (by simp) ?_
      refine AllReadyH.cons (by rw [List.getElem?_toArray]; rfl) (fun K hK => ?_) AllReadyH.nil
      · rw [if_pos (by rfl)]
        go_wp2_with fail
        have R3 := Lib.hid (Two.ofA R2.out (k := w2.heap.size) rfl)
        have G3 := G2.alloc G2.size (.cells #[] 5)
        refine hK.out _ _ (h2.alloc h2.size _) (fun h3 => ?_)
        clear hK K
        try simp only [Act.put, List.setIfInBounds_toArray, List.set_cons_zero, List.set_cons_succ]
        refine wpAnyH_ready (rs := [5]) (by kernel_rfl) (by simp) ?_
        refine AllReadyH.cons (by rw [List.getElem?_toArray]; rfl) (fun K hK => ?_) AllReadyH.nil
        · rw [if_pos (by rfl)]
          refine wp_append_row _ _ rfl Tryd.underlying82 hi.out hz0.out hz1.out hz2.out rfl R3.out.b.own (((HB.out.on G3).rd hB.out).src Tryd.underlying82) (by rw [hB.out]; unfold maxLen; omega) (by rw [hB.out]; omega) ?_
          intro q4 k4 w4 own4 grow4 fr4
          have R4 := Lib.hid (R3.out.symm.growA own4 grow4 fr4).symm
          have G4 := R4.out.a.below
          clear own4 grow4 fr4
          refine hK.out _ _ (B0.out.trans (G4.mono B0.out.size)) (fun h4 => ?_)
          clear hK K
          try simp only [Act.put, List.setIfInBounds_toArray, List.set_cons_zero, List.set_cons_succ]
          refine wpAnyH_ready (rs := [6]) (by kernel_rfl) (by simp) ?_
          refine AllReadyH.cons (by rw [List.getElem?_toArray]; rfl) (fun K hK => ?_) AllReadyH.nil
          · rw [if_pos (by rfl)]
            go_wp2_with fail
            have RL := two_rdl R4.out.a.rd R4.out.b.rd
            simp only [List.nil_append, Nat.zero_add] at RL
            have RL2 := Lib.hid RL
            clear RL
            have G5 := G4.alloc G4.size (.cells #[.slice q2 A.length k2, .slice q4 B.length k4] 82)
            refine hK.out _ _ (h4.alloc h4.size _) (fun h5 => ?_)
            clear hK K
            try simp only [Act.put, List.setIfInBounds_toArray, List.set_cons_zero, List.set_cons_succ]
            refine wpAnyH_ready (rs := [7]) (by kernel_rfl) (by simp) ?_
            refine AllReadyH.cons (by rw [List.getElem?_toArray]; rfl) (fun K hK => ?_) AllReadyH.nil
            · rw [if_pos (by rfl)]
              go_wp2_with fail
              refine (refFrame_any (s := leafS) RL2.out (by decide) (cut_small (by decide)) (by rw [LL.out]; omega)).mono ?_
              rintro e w8 ⟨q8, n8, c8, rfl, f8⟩
              have F8 := Lib.hid f8
              clear f8
              go_wp2_with fail
              refine hK.out _ _ (h5.trans (F8.out.below.mono h5.size)) (fun h6 => ?_)
              clear hK K
              try simp only [Act.put, List.setIfInBounds_toArray, List.set_cons_zero, List.set_cons_succ]
              refine wpAnyH_take (i := 8) (v := ?_) (by rw [List.getElem?_toArray]; rfl) (by kernel_rfl) (by kernel_rfl) (by kernel_rfl) (by exact fun _ _ _ h => h) (Or.inl ⟨by rfl, ?_⟩) h6 ?_
              rotate_left
              · intro W hW
                go_simp
                all_goals with_reducible rfl
              try simp only [Act.put, List.setIfInBounds_toArray, List.set_cons_zero, List.set_cons_succ]
              refine wpAnyH_done (by kernel_rfl) ?_ _
              go_wp2_with fail
              go_ret
              exact ⟨_, _, _, rfl, F8.out.base h5⟩
    · rw [if_pos (by rfl)]
      go_wp2_with fail
      have R2 := Lib.hid (Two.ofA R1.out (k := W0.heap.size + 1) (by simp))
      have G2 := G1.alloc G1.size (.cells #[] 5)
      refine hK.out _ _ (h1.alloc h1.size _) (fun h2 => ?_)
      clear hK K
      try simp only [Act.put, List.setIfInBounds_toArray, List.set_cons_zero, List.set_cons_succ]
      refine wpAnyH_ready (rs := [2]) (by kernel_rfl) (by simp) ?_
      refine AllReadyH.cons (by rw [List.getElem?_toArray]; rfl) (fun K hK => ?_) AllReadyH.nil
      · rw [if_pos (by rfl)]
        refine wp_append_row _ _ rfl Tryd.underlying82 hi.out hz0.out hz1.out hz2.out rfl R2.out.a.own (((HA.out.on G2).rd hA.out).src Tryd.underlying82) (by rw [hA.out]; unfold maxLen; omega) (by rw [hA.out]; omega) ?_
        intro q3 k3 w3 own3 grow3 fr3
        have R3 := Lib.hid (R2.out.growA own3 grow3 fr3)
        have G3 := R3.out.a.below
        clear own3 grow3 fr3
        refine hK.out _ _ (B0.out.trans (G3.mono B0.out.size)) (fun h3 => ?_)
        clear hK K
        try simp only [Act.put, List.setIfInBounds_toArray, List.set_cons_zero, List.set_cons_succ]
        refine wpAnyH_ready (rs := [5]) (by kernel_rfl) (by simp) ?_
        refine AllReadyH.cons (by rw [List.getElem?_toArray]; rfl) (fun K hK => ?_) AllReadyH.nil
        · rw [if_pos (by rfl)]
          refine wp_append_row _ _ rfl Tryd.underlying82 hi.out hz0.out hz1.out hz2.out rfl R3.out.b.own (((HB.out.on G3).rd hB.out).src Tryd.underlying82) (by rw [hB.out]; unfold maxLen; omega) (by rw [hB.out]; omega) ?_
          intro q4 k4 w4 own4 grow4 fr4
          have R4 := Lib.hid (R3.out.symm.growA own4 grow4 fr4).symm
          have G4 := R4.out.a.below
          clear own4 grow4 fr4
          refine hK.out _ _ (B0.out.trans (G4.mono B0.out.size)) (fun h4 => ?_)
          clear hK K
          try simp only [Act.put, List.setIfInBounds_toArray, List.set_cons_zero, List.set_cons_succ]
          refine wpAnyH_ready (rs := [6]) (by kernel_rfl) (by simp) ?_
          refine AllReadyH.cons (by rw [List.getElem?_toArray]; rfl) (fun K hK => ?_) AllReadyH.nil
          · rw [if_pos (by rfl)]
            go_wp2_with fail
            have RL := two_rdl R4.out.a.rd R4.out.b.rd
            simp only [List.nil_append, Nat.zero_add] at RL
            have RL2 := Lib.hid RL
            clear RL
            have G5 := G4.alloc G4.size (.cells #[.slice q3 A.length k3, .slice q4 B.length k4] 82)
            refine hK.out _ _ (h4.alloc h4.size _) (fun h5 => ?_)
            clear hK K
            try simp only [Act.put, List.setIfInBounds_toArray, List.set_cons_zero, List.set_cons_succ]
            refine wpAnyH_ready (rs := [7]) (by kernel_rfl) (by simp) ?_
            refine AllReadyH.cons (by rw [List.getElem?_toArray]; rfl) (fun K hK => ?_) AllReadyH.nil
            · rw [if_pos (by rfl)]
              go_wp2_with fail
              refine (refFrame_any (s := leafS) RL2.out (by decide) (cut_small (by decide)) (by rw [LL.out]; omega)).mono ?_
              rintro e w8 ⟨q8, n8, c8, rfl, f8⟩
              have F8 := Lib.hid f8
              clear f8
              go_wp2_with fail
              refine hK.out _ _ (h5.trans (F8.out.below.mono h5.size)) (fun h6 => ?_)
              clear hK K
              try simp only [Act.put, List.setIfInBounds_toArray, List.set_cons_zero, List.set_cons_succ]
              refine wpAnyH_take (i := 8) (v := ?_) (by rw [List.getElem?_toArray]; rfl) (by kernel_rfl) (by kernel_rfl) (by kernel_rfl) (by exact fun _ _ _ h => h) (Or.inl ⟨by rfl, ?_⟩) h6 ?_
              rotate_left
              · intro W hW
                go_simp
                all_goals with_reducible rfl
              try simp only [Act.put, List.setIfInBounds_toArray, List.set_cons_zero, List.set_cons_succ]
              refine wpAnyH_done (by kernel_rfl) ?_ _
              go_wp2_with fail
              go_ret
              exact ⟨_, _, _, rfl, F8.out.base h5⟩
  · rw [if_pos (by rfl)]
    go_wp2_with fail
    have R1 := Lib.hid (FrS.born G0 (k := W0.heap.size) rfl)
    have G1 := G0.alloc G0.size (.cells #[] 5)
    refine hK.out _ _ (h0.alloc h0.size _) (fun h1 => ?_)
    clear hK K
    try simp only [Act.put, List.setIfInBounds_toArray, List.set_cons_zero, List.set_cons_succ]
    refine wpAnyH_ready (rs := [0]) (by kernel_rfl) (by simp) ?_
    refine AllReadyH.cons (by rw [List.getElem?_toArray]; rfl) (fun K hK => ?_) AllReadyH.nil
    · rw [if_pos (by rfl)]
      go_wp2_with fail
      have R2 := Lib.hid (Two.ofA R1.out (k := W0.heap.size + 1) (by simp)).symm
      have G2 := G1.alloc G1.size (.cells #[] 5)
      refine hK.out _ _ (h1.alloc h1.size _) (fun h2 => ?_)
      clear hK K
      try simp only [Act.put, List.setIfInBounds_toArray, List.set_cons_zero, List.set_cons_succ]
      refine wpAnyH_ready (rs := [2]) (by kernel_rfl) (by simp) ?_
      refine AllReadyH.cons (by rw [List.getElem?_toArray]; rfl) (fun K hK => ?_) AllReadyH.nil
      · rw [if_pos (by rfl)]
        refine wp_append_row _ _ rfl Tryd.underlying82 hi.out hz0.out hz1.out hz2.out rfl R2.out.a.own (((HA.out.on G2).rd hA.out).src Tryd.underlying82) (by rw [hA.out]; unfold maxLen; omega) (by rw [hA.out]; omega) ?_
        intro q3 k3 w3 own3 grow3 fr3
        have R3 := Lib.hid (R2.out.growA own3 grow3 fr3)
        have G3 := R3.out.a.below
        clear own3 grow3 fr3
        refine hK.out _ _ (B0.out.trans (G3.mono B0.out.size)) (fun h3 => ?_)
        clear hK K
        try simp only [Act.put, List.setIfInBounds_toArray, List.set_cons_zero, List.set_cons_succ]
        refine wpAnyH_ready (rs := [5]) (by kernel_rfl) (by simp) ?_
        refine AllReadyH.cons (by rw [List.getElem?_toArray]; rfl) (fun K hK => ?_) AllReadyH.nil
        · rw [if_pos (by rfl)]
          refine wp_append_row _ _ rfl Tryd.underlying82 hi.out hz0.out hz1.out hz2.out rfl R3.out.b.own (((HB.out.on G3).rd hB.out).src Tryd.underlying82) (by rw [hB.out]; unfold maxLen; omega) (by rw [hB.out]; omega) ?_
          intro q4 k4 w4 own4 grow4 fr4
          have R4 := Lib.hid (R3.out.symm.growA own4 grow4 fr4).symm
          have G4 := R4.out.a.below
          clear own4 grow4 fr4
          refine hK.out _ _ (B0.out.trans (G4.mono B0.out.size)) (fun h4 => ?_)
          clear hK K
          try simp only [Act.put, List.setIfInBounds_toArray, List.set_cons_zero, List.set_cons_succ]
          refine wpAnyH_ready (rs := [6]) (by kernel_rfl) (by simp) ?_
          refine AllReadyH.cons (by rw [List.getElem?_toArray]; rfl) (fun K hK => ?_) AllReadyH.nil
          · rw [if_pos (by rfl)]
            go_wp2_with fail
            have RL := two_rdl R4.out.a.rd R4.out.b.rd
            simp only [List.nil_append, Nat.zero_add] at RL
            have RL2 := Lib.hid RL
            clear RL
            have G5 := G4.alloc G4.size (.cells #[.slice q3 A.length k3, .slice q4 B.length k4] 82)
            refine hK.out _ _ (h4.alloc h4.size _) (fun h5 => ?_)
            clear hK K
            try simp only [Act.put, List.setIfInBounds_toArray, List.set_cons_zero, List.set_cons_succ]
            refine wpAnyH_ready (rs := [7]) (by kernel_rfl) (by simp) ?_
            refine AllReadyH.cons (by rw [List.getElem?_toArray]; rfl) (fun K hK => ?_) AllReadyH.nil
            · rw [if_pos (by rfl)]
              go_wp2_with fail
              refine (refFrame_any (s := leafS) RL2.out (by decide) (cut_small (by decide)) (by rw [LL.out]; omega)).mono ?_
              rintro e w8 ⟨q8, n8, c8, rfl, f8⟩
              have F8 := Lib.hid f8
              clear f8
              go_wp2_with fail
              refine hK.out _ _ (h5.trans (F8.out.below.mono h5.size)) (fun h6 => ?_)
              clear hK K
              try simp only [Act.put, List.setIfInBounds_toArray, List.set_cons_zero, List.set_cons_succ]
              refine wpAnyH_take (i := 8) (v := ?_) (by rw [List.getElem?_toArray]; rfl) (by kernel_rfl) (by kernel_rfl) (by kernel_rfl) (by exact fun _ _ _ h => h) (Or.inl ⟨by rfl, ?_⟩) h6 ?_
              rotate_left
              · intro W hW
                go_simp
                all_goals with_reducible rfl
              try simp only [Act.put, List.setIfInBounds_toArray, List.set_cons_zero, List.set_cons_succ]
              refine wpAnyH_done (by kernel_rfl) ?_ _
              go_wp2_with fail
              go_ret
              exact ⟨_, _, _, rfl, F8.out.base h5⟩

end Go.Proofs.YtjlodnecdngdfaaDoor
