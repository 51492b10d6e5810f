/-
  The nodes of a sparse tree: what stands at a leaf, and above two nodes, plain and in the program and in the document.; SHA-256 over naturals, quick for the kernel, and that it is the digest.; The way up from a leaf, alone in a sparse tree: plain, and over naturals, so that the kernel reckons it.
-/
import Derived.Test.YtjlodnecdngdfaaDoorSy1
import Derived.Test.YtjlodnecdngdfaaDoorSy4
namespace Go.Proofs.YtjlodnecdngdfaaDoor
open Go.RowKit
set_option maxRecDepth 100000

def leafS : ByteArray := ⟨#[108, 101, 97, 102]⟩
theorem leaf_sn : sn leafS = [108, 101, 97, 102] := by rfl
theorem leaf_len {A B : List Int} (hA : A.length = 32) (hB : B.length = 32) : (frm (sn leafS) [A, B]).length = 85 := by
  rw [frm_len, leaf_sn]; simp [blobs, hA, hB]
theorem leaf_bytes {A B : List Int} (bA : Bytes A) (bB : Bytes B) : Bytes (frm (sn leafS) [A, B]) :=
  frm_bytes (sn_bytes _) (by rw [leaf_sn]; decide) (fun b hb => by simp only [List.mem_cons, List.not_mem_nil, or_false] at hb; rcases hb with rfl | rfl <;> assumption)
theorem zero32_bytes : Bytes zero32 := by
  intro x hx
  simp only [zero32, List.mem_cons, List.not_mem_nil, or_false, or_self] at hx
  omega
/-- A leaf. -/
def lfH (K V : List Int) : List Int := if V = zero32 then zero32 else sha (frm (sn leafS) [K, V])
/-- What stands above two nodes. -/
def abH (A B : List Int) : List Int := if A = zero32 ∧ B = zero32 then zero32 else sha (frm (sn pairS) [A, B])
theorem lfH_len (K V : List Int) : (lfH K V).length = 32 := by unfold lfH; split; exact zero32_len; exact sha_len _
theorem lfH_bytes (K V : List Int) : Bytes (lfH K V) := by unfold lfH; split; exact zero32_bytes; exact sha_bytes _
theorem abH_len (A B : List Int) : (abH A B).length = 32 := by unfold abH; split; exact zero32_len; exact sha_len _
theorem abH_bytes (A B : List Int) : Bytes (abH A B) := by unfold abH; split; exact zero32_bytes; exact sha_bytes _
theorem lfH_zero (K : List Int) : lfH K zero32 = zero32 := if_pos rfl
theorem lfH_some (K : List Int) {V : List Int} (h : ¬ V = zero32) : lfH K V = sha (frm (sn leafS) [K, V]) := if_neg h
theorem abH_zero : abH zero32 zero32 = zero32 := if_pos ⟨rfl, rfl⟩
theorem abH_some {A B : List Int} (h : ¬ (A = zero32 ∧ B = zero32)) : abH A B = sha (frm (sn pairS) [A, B]) := if_neg h

set_option maxHeartbeats 4000000 in
theorem Leaf_any {w : World} {A B : List Int} (hT : Tbl w) (hA : A.length = 32) (hB : B.length = 32) (bA : Bytes A) (bB : Bytes B) :
    Calls Tryd.prog 62 #[.agg (hc A).toArray, .agg (hc B).toArray] w fun e w' => e = .returned (.agg (hc (lfH A B)).toArray) ∧ Below w.heap.size w w' := by
  have LL := Lib.hid (leaf_len hA hB)
  have BX := Lib.hid (leaf_bytes bA bB)
  have HA := Lib.hid ((HashAt.new w A).alloc (.cells (hc B).toArray 24) |>.alloc (.cells (hc zero32).toArray 24))
  have HB := Lib.hid ((HashAt.new (w.alloc (.cells (hc A).toArray 24)) B).alloc (.cells (hc zero32).toArray 24))
  have HZ := Lib.hid (HashAt.new ((w.alloc (.cells (hc A).toArray 24)).alloc (.cells (hc B).toArray 24)) zero32)
  have B0 := Lib.hid ((((Below.refl w.heap.size w).alloc (Nat.le_refl _) (.cells (hc A).toArray 24)).alloc (by simp) (.cells (hc B).toArray 24)).alloc (by simp; omega) (.cells (hc zero32).toArray 24))
  have hlA : (hc A).length = 32 := by rw [hc_len, hA]
  have hlB : (hc B).length = 32 := by rw [hc_len, hB]
  obtain ⟨i0, hi, hz0, hz1, hz2⟩ := info_parts Tryd.infoU8
  replace hi := Lib.hid hi
  replace hz0 := Lib.hid hz0
  replace hz1 := Lib.hid hz1
  replace hz2 := Lib.hid hz2
  replace hA := Lib.hid hA
  replace hB := Lib.hid hB
  clear bA bB
  simp only [World.size_alloc] at HB HZ
  have r1 := HB.out.row hB.out
  have lB : B.length = 32 := hB.out
  have z32 := zero32_len
  by_cases hz : B = zero32
  · have dz : (B == zero32) = true := by rw [hz]; exact beq_self_eq_true _
    have HE := Lib.hid (show lfH A B = zero32 by rw [hz]; exact lfH_zero A)
    have hth := HZ.out.there zero32_len
    have hput := (HZ.out.put zero32_len zero32_len).row zero32_len
    have HX := Lib.hid (below_setCells' (B := w.heap.size) (w.heap.size + 1 + 1) (by omega) (hc zero32) 0 B0.out)
    clear hz
    go_enter Tryd.func62, Tryd.ntmps62
    go_wp2_with fail
    refine bodyPost_ret (v := .agg (hc zero32).toArray) (by simp [results, Tryd.results62, go_sem, hput, z32]) rfl ⟨by rw [HE.out], HX.out⟩
  have dz : (B == zero32) = false := by simpa using hz
  have HE := Lib.hid (lfH_some A hz)
  clear hz
  go_enter Tryd.func62, Tryd.ntmps62
  go_wp2_with fail
  clear dz r1 lB z32
  generalize ((w.alloc (.cells (hc A).toArray 24)).alloc (.cells (hc B).toArray 24)).alloc (.cells (hc zero32).toArray 24) = W0 at *
  refine wp_region_held_drew (S := fun W => Below w.heap.size w W) (by kernel_rfl) (B0.out.drew) (fun h0 => ?_)
  refine wpAnyH_take (i := 0) (v := ?_) (by rw [List.getElem?_toArray]; rfl) (by kernel_rfl) (by kernel_rfl) (by kernel_rfl) (by exact fun _ _ _ h => h) (Or.inl ⟨by rfl, ?_⟩) h0 ?_
  rotate_left
  · intro W hW
    go_simp
    all_goals with_reducible rfl
  try simp only [Act.put, List.setIfInBounds_toArray, List.set_cons_zero, List.set_cons_succ]
  refine wpAnyH_take (i := 1) (v := ?_) (by rw [List.getElem?_toArray]; rfl) (by kernel_rfl) (by kernel_rfl) (by kernel_rfl) (by exact fun _ _ _ h => h) (Or.inl ⟨by rfl, ?_⟩) h0 ?_
  rotate_left
  · intro W hW
    go_simp
    all_goals with_reducible rfl
  try simp only [Act.put, List.setIfInBounds_toArray, List.set_cons_zero, List.set_cons_succ]
  refine wpAnyH_ready (rs := [2]) (by kernel_rfl) (by simp) ?_
  refine AllReadyH.cons (by rw [List.getElem?_toArray]; rfl) (fun K hK => ?_) AllReadyH.nil
  rw [if_pos (by rfl)]
  have G0 : Below W0.heap.size W0 W0.drew := (Below.refl _ _).drew
  go_wp2_with fail
  refine hK.out _ _ (h0.alloc h0.size _) (fun h2 => ?_)
  clear hK K
  try simp only [Act.put, List.setIfInBounds_toArray, List.set_cons_zero, List.set_cons_succ]
  have RL := two_rdl ((HA.out.on G0).rd hA.out) ((HB.out.on G0).rd hB.out)
  have RL2 := Lib.hid RL
  have G2 := G0.alloc G0.size (.cells #[.slice (some ⟨w.heap.size, 0, none⟩) 32 32, .slice (some ⟨w.heap.size + 1, 0, none⟩) 32 32] 82)
  clear RL
  refine wpAnyH_ready (rs := [3]) (by kernel_rfl) (by simp) ?_
  refine AllReadyH.cons (by rw [List.getElem?_toArray]; rfl) (fun K hK => ?_) AllReadyH.nil
  rw [if_pos (by rfl)]
  go_wp2_with fail
  refine (Tagged_any (s := leafS) RL2.out (hT.on h2 hT.pos) (by decide) (cut_small (by decide)) (by rw [LL.out]; omega) BX.out).mono ?_
  rintro e w8 ⟨rfl, hb8⟩
  have hB8 : Below W0.heap.size W0 w8 := G2.trans (hb8.mono G2.size)
  go_wp2_with fail
  refine hK.out _ _ (h2.trans (hb8.mono h2.size)) (fun h3 => ?_)
  clear hK K
  try simp only [Act.put, List.setIfInBounds_toArray, List.set_cons_zero, List.set_cons_succ]
  refine wpAnyH_ready (rs := [4]) (by kernel_rfl) (by simp) ?_
  refine AllReadyH.cons (by rw [List.getElem?_toArray]; rfl) (fun K hK => ?_) AllReadyH.nil
  rw [if_pos (by rfl)]
  have H3 := HZ.out.on hB8
  have B3 := B0.out.trans (hB8.mono B0.out.size)
  have hth3 := H3.there zero32_len
  have hlen := sha_len (frm (sn leafS) [A, B])
  have hput := (H3.put zero32_len hlen).row hlen
  have HX := Lib.hid (below_setCells' (B := w.heap.size) (w.heap.size + 1 + 1) (by omega) (hc (sha (frm (sn leafS) [A, B]))) 0 B3)
  generalize hF : sha (frm (sn leafS) [A, B]) = F at *
  have HF := Lib.hid hF
  clear hF hb8 H3 B3
  go_wp2_with fail
  refine hK.out _ _ (HX.out) (fun _ => ?_)
  clear hK K
  try simp only [Act.put, List.setIfInBounds_toArray, List.set_cons_zero, List.set_cons_succ]
  refine wpAnyH_done (by kernel_rfl) ?_ _
  go_wp2_with fail
  refine bodyPost_ret (v := .agg (hc F).toArray) (by simp [results, Tryd.results62, go_sem, hput, hlen]) rfl ⟨by rw [HE.out], HX.out⟩

set_option maxHeartbeats 4000000 in
theorem refLeaf_any {w : World} {A B : List Int} (hA : A.length = 32) (hB : B.length = 32) (bA : Bytes A) (bB : Bytes B) :
    Calls Tryd.prog 57 #[.agg (hc A).toArray, .agg (hc B).toArray] w fun e w' => e = .returned (.agg (hc (lfH A B)).toArray) ∧ Below w.heap.size w w' := by
  have LL := Lib.hid (leaf_len hA hB)
  have BX := Lib.hid (leaf_bytes bA bB)
  have HA := Lib.hid ((HashAt.new w A).alloc (.cells (hc B).toArray 24) |>.alloc (.cells (hc zero32).toArray 24))
  have HB := Lib.hid ((HashAt.new (w.alloc (.cells (hc A).toArray 24)) B).alloc (.cells (hc zero32).toArray 24))
  have HZ := Lib.hid (HashAt.new ((w.alloc (.cells (hc A).toArray 24)).alloc (.cells (hc B).toArray 24)) zero32)
  have B0 := Lib.hid ((((Below.refl w.heap.size w).alloc (Nat.le_refl _) (.cells (hc A).toArray 24)).alloc (by simp) (.cells (hc B).toArray 24)).alloc (by simp; omega) (.cells (hc zero32).toArray 24))
  have hlA : (hc A).length = 32 := by rw [hc_len, hA]
  have hlB : (hc B).length = 32 := by rw [hc_len, hB]
  obtain ⟨i0, hi, hz0, hz1, hz2⟩ := info_parts Tryd.infoU8
  replace hi := Lib.hid hi
  replace hz0 := Lib.hid hz0
  replace hz1 := Lib.hid hz1
  replace hz2 := Lib.hid hz2
  replace hA := Lib.hid hA
  replace hB := Lib.hid hB
  clear bA bB
  simp only [World.size_alloc] at HB HZ
  have r1 := HB.out.row hB.out
  have lB : B.length = 32 := hB.out
  have z32 := zero32_len
  by_cases hz : B = zero32
  · have dz : (B == zero32) = true := by rw [hz]; exact beq_self_eq_true _
    have HE := Lib.hid (show lfH A B = zero32 by rw [hz]; exact lfH_zero A)
    have hth := HZ.out.there zero32_len
    have hput := (HZ.out.put zero32_len zero32_len).row zero32_len
    have HX := Lib.hid (below_setCells' (B := w.heap.size) (w.heap.size + 1 + 1) (by omega) (hc zero32) 0 B0.out)
    clear hz
    go_enter Tryd.func57, Tryd.ntmps57
    go_wp2_with fail
    refine bodyPost_ret (v := .agg (hc zero32).toArray) (by simp [results, Tryd.results57, go_sem, hput, z32]) rfl ⟨by rw [HE.out], HX.out⟩
  have dz : (B == zero32) = false := by simpa using hz
  have HE := Lib.hid (lfH_some A hz)
  clear hz
  go_enter Tryd.func57, Tryd.ntmps57
  go_wp2_with fail
  clear dz r1 lB z32
  generalize ((w.alloc (.cells (hc A).toArray 24)).alloc (.cells (hc B).toArray 24)).alloc (.cells (hc zero32).toArray 24) = W0 at *
  refine wp_region_held_drew (S := fun W => Below w.heap.size w W) (by kernel_rfl) (B0.out.drew) (fun h0 => ?_)
  have G0 : Below W0.heap.size W0 W0.drew := (Below.refl _ _).drew
  refine wpAnyH_take (i := 1) (v := ?_) (by rw [List.getElem?_toArray]; rfl) (by kernel_rfl) (by kernel_rfl) (by kernel_rfl) (by exact fun _ _ _ h => h) (Or.inl ⟨by rfl, ?_⟩) h0 ?_
  rotate_left
  · intro W hW
    go_simp
    all_goals with_reducible rfl
  try simp only [Act.put, List.setIfInBounds_toArray, List.set_cons_zero, List.set_cons_succ]
  refine wpAnyH_take (i := 4) (v := ?_) (by rw [List.getElem?_toArray]; rfl) (by kernel_rfl) (by kernel_rfl) (by kernel_rfl) (by exact fun _ _ _ h => h) (Or.inl ⟨by rfl, ?_⟩) h0 ?_
  rotate_left
  · intro W hW
    go_simp
    all_goals with_reducible rfl
  try simp only [Act.put, List.setIfInBounds_toArray, List.set_cons_zero, List.set_cons_succ]
  refine wpAnyH_ready (rs := [0, 3]) (by kernel_rfl) (by simp) ?_
  refine AllReadyH.cons (by rw [List.getElem?_toArray]; rfl) (fun K hK => ?_) (AllReadyH.cons (by rw [List.getElem?_toArray]; rfl) (fun K hK => ?_) AllReadyH.nil)
  · rw [if_pos (by rfl)]
    go_wp2_with fail
    have R1 := Lib.hid (FrS.born G0 (k := W0.heap.size) rfl)
    have G1 := G0.alloc G0.size (.cells #[] 5)
    refine hK.out _ _ (h0.alloc h0.size _) (fun h1 => ?_)
    clear hK K
    try simp only [Act.put, List.setIfInBounds_toArray, List.set_cons_zero, List.set_cons_succ]
    refine wpAnyH_ready (rs := [2, 3]) (by kernel_rfl) (by simp) ?_
    refine AllReadyH.cons (by rw [List.getElem?_toArray]; rfl) (fun K hK => ?_) (AllReadyH.cons (by rw [List.getElem?_toArray]; rfl) (fun K hK => ?_) AllReadyH.nil)
    · rw [if_pos (by rfl)]
      refine wp_append_row _ _ rfl Tryd.underlying82 hi.out hz0.out hz1.out hz2.out rfl R1.out.own (((HA.out.on G1).rd hA.out).src Tryd.underlying82) (by rw [hA.out]; unfold maxLen; omega) (by rw [hA.out]; omega) ?_
      intro q2 k2 w2 own2 grow2 fr2
      have R2 := Lib.hid (R1.out.grow own2 grow2 fr2)
      have G2 := R2.out.below
      clear own2 grow2 fr2
      refine hK.out _ _ (B0.out.trans (G2.mono B0.out.size)) (fun h2 => ?_)
      clear hK K
      try simp only [Act.put, List.setIfInBounds_toArray, List.set_cons_zero, List.set_cons_succ]
      refine wpAnyH_ready (rs := [3]) (by kernel_rfl) (by simp) ?_
      refine AllReadyH.cons (by rw [List.getElem?_toArray]; rfl) (fun K hK => ?_) AllReadyH.nil
      · rw [if_pos (by rfl)]
        go_wp2_with fail
        have R3 := Lib.hid (Two.ofA R2.out (k := w2.heap.size) rfl)
        have G3 := G2.alloc G2.size (.cells #[] 5)
        refine hK.out _ _ (h2.alloc h2.size _) (fun h3 => ?_)
        clear hK K
        try simp only [Act.put, List.setIfInBounds_toArray, List.set_cons_zero, List.set_cons_succ]
        refine wpAnyH_ready (rs := [5]) (by kernel_rfl) (by simp) ?_
        refine AllReadyH.cons (by rw [List.getElem?_toArray]; rfl) (fun K hK => ?_) AllReadyH.nil
        · rw [if_pos (by rfl)]
          refine wp_append_row _ _ rfl Tryd.underlying82 hi.out hz0.out hz1.out hz2.out rfl R3.out.b.own (((HB.out.on G3).rd hB.out).src Tryd.underlying82) (by rw [hB.out]; unfold maxLen; omega) (by rw [hB.out]; omega) ?_
          intro q4 k4 w4 own4 grow4 fr4
          have R4 := Lib.hid (R3.out.symm.growA own4 grow4 fr4).symm
          have G4 := R4.out.a.below
          clear own4 grow4 fr4
          refine hK.out _ _ (B0.out.trans (G4.mono B0.out.size)) (fun h4 => ?_)
          clear hK K
          try simp only [Act.put, List.setIfInBounds_toArray, List.set_cons_zero, List.set_cons_succ]
          refine wpAnyH_ready (rs := [6]) (by kernel_rfl) (by simp) ?_
          refine AllReadyH.cons (by rw [List.getElem?_toArray]; rfl) (fun K hK => ?_) AllReadyH.nil
          · rw [if_pos (by rfl)]
            go_wp2_with fail
            have RL := two_rdl R4.out.a.rd R4.out.b.rd
            simp only [List.nil_append, Nat.zero_add] at RL
            have RL2 := Lib.hid RL
            clear RL
            have G5 := G4.alloc G4.size (.cells #[.slice q2 A.length k2, .slice q4 B.length k4] 82)
            refine hK.out _ _ (h4.alloc h4.size _) (fun h5 => ?_)
            clear hK K
            try simp only [Act.put, List.setIfInBounds_toArray, List.set_cons_zero, List.set_cons_succ]
            refine wpAnyH_ready (rs := [7]) (by kernel_rfl) (by simp) ?_
            refine AllReadyH.cons (by rw [List.getElem?_toArray]; rfl) (fun K hK => ?_) AllReadyH.nil
            · rw [if_pos (by rfl)]
              go_wp2_with fail
              refine (refTagged_any (s := leafS) RL2.out (by decide) (cut_small (by decide)) (by rw [LL.out]; omega) BX.out).mono ?_
              rintro e w8 ⟨rfl, hb8⟩
              have hB8 : Below W0.heap.size W0 w8 := G5.trans (hb8.mono G5.size)
              go_wp2_with fail
              have G6 := hB8
              refine hK.out _ _ (h5.trans (hb8.mono h5.size)) (fun h6 => ?_)
              clear hK K
              try simp only [Act.put, List.setIfInBounds_toArray, List.set_cons_zero, List.set_cons_succ]
              refine wpAnyH_ready (rs := [8]) (by kernel_rfl) (by simp) ?_
              refine AllReadyH.cons (by rw [List.getElem?_toArray]; rfl) (fun K hK => ?_) AllReadyH.nil
              · rw [if_pos (by rfl)]
                have H3 := HZ.out.on hB8
                have B3 := B0.out.trans (hB8.mono B0.out.size)
                have hth3 := H3.there zero32_len
                have hlen := sha_len (frm (sn leafS) [A, B])
                have hput := (H3.put zero32_len hlen).row hlen
                have HX := Lib.hid (below_setCells' (B := w.heap.size) (w.heap.size + 1 + 1) (by omega) (hc (sha (frm (sn leafS) [A, B]))) 0 B3)
                generalize hF : sha (frm (sn leafS) [A, B]) = F at *
                have HF := Lib.hid hF
                clear hF hb8 H3 B3
                go_wp2_with fail
                refine hK.out _ _ (HX.out) (fun h7 => ?_)
                clear hK K
                try simp only [Act.put, List.setIfInBounds_toArray, List.set_cons_zero, List.set_cons_succ]
                refine wpAnyH_done (by kernel_rfl) ?_ _
                go_wp2_with fail
                refine bodyPost_ret (v := .agg (hc F).toArray) (by simp [results, Tryd.results57, go_sem, hput, hlen]) rfl ⟨by rw [HE.out], HX.out⟩
    · rw [if_pos (by rfl)]
      go_wp2_with fail
      have R2 := Lib.hid (Two.ofA R1.out (k := W0.heap.size + 1) (by simp))
      have G2 := G1.alloc G1.size (.cells #[] 5)
      refine hK.out _ _ (h1.alloc h1.size _) (fun h2 => ?_)
      clear hK K
      try simp only [Act.put, List.setIfInBounds_toArray, List.set_cons_zero, List.set_cons_succ]
      refine wpAnyH_ready (rs := [2]) (by kernel_rfl) (by simp) ?_
      refine AllReadyH.cons (by rw [List.getElem?_toArray]; rfl) (fun K hK => ?_) AllReadyH.nil
      · rw [if_pos (by rfl)]
        refine wp_append_row _ _ rfl Tryd.underlying82 hi.out hz0.out hz1.out hz2.out rfl R2.out.a.own (((HA.out.on G2).rd hA.out).src Tryd.underlying82) (by rw [hA.out]; unfold maxLen; omega) (by rw [hA.out]; omega) ?_
        intro q3 k3 w3 own3 grow3 fr3
        have R3 := Lib.hid (R2.out.growA own3 grow3 fr3)
        have G3 := R3.out.a.below
        clear own3 grow3 fr3
        refine hK.out _ _ (B0.out.trans (G3.mono B0.out.size)) (fun h3 => ?_)
        clear hK K
        try simp only [Act.put, List.setIfInBounds_toArray, List.set_cons_zero, List.set_cons_succ]
        refine wpAnyH_ready (rs := [5]) (by kernel_rfl) (by simp) ?_
        refine AllReadyH.cons (by rw [List.getElem?_toArray]; rfl) (fun K hK => ?_) AllReadyH.nil
        · rw [if_pos (by rfl)]
          refine wp_append_row _ _ rfl Tryd.underlying82 hi.out hz0.out hz1.out hz2.out rfl R3.out.b.own (((HB.out.on G3).rd hB.out).src Tryd.underlying82) (by rw [hB.out]; unfold maxLen; omega) (by rw [hB.out]; omega) ?_
          intro q4 k4 w4 own4 grow4 fr4
          have R4 := Lib.hid (R3.out.symm.growA own4 grow4 fr4).symm
          have G4 := R4.out.a.below
          clear own4 grow4 fr4
          refine hK.out _ _ (B0.out.trans (G4.mono B0.out.size)) (fun h4 => ?_)
          clear hK K
          try simp only [Act.put, List.setIfInBounds_toArray, List.set_cons_zero, List.set_cons_succ]
          refine wpAnyH_ready (rs := [6]) (by kernel_rfl) (by simp) ?_
          refine AllReadyH.cons (by rw [List.getElem?_toArray]; rfl) (fun K hK => ?_) AllReadyH.nil
          · rw [if_pos (by rfl)]
            go_wp2_with fail
            have RL := two_rdl R4.out.a.rd R4.out.b.rd
            simp only [List.nil_append, Nat.zero_add] at RL
            have RL2 := Lib.hid RL
            clear RL
            have G5 := G4.alloc G4.size (.cells #[.slice q3 A.length k3, .slice q4 B.length k4] 82)
            refine hK.out _ _ (h4.alloc h4.size _) (fun h5 => ?_)
            clear hK K
            try simp only [Act.put, List.setIfInBounds_toArray, List.set_cons_zero, List.set_cons_succ]
            refine wpAnyH_ready (rs := [7]) (by kernel_rfl) (by simp) ?_
            refine AllReadyH.cons (by rw [List.getElem?_toArray]; rfl) (fun K hK => ?_) AllReadyH.nil
            · rw [if_pos (by rfl)]
              go_wp2_with fail
              refine (refTagged_any (s := leafS) RL2.out (by decide) (cut_small (by decide)) (by rw [LL.out]; omega) BX.out).mono ?_
              rintro e w8 ⟨rfl, hb8⟩
              have hB8 : Below W0.heap.size W0 w8 := G5.trans (hb8.mono G5.size)
              go_wp2_with fail
              have G6 := hB8
              refine hK.out _ _ (h5.trans (hb8.mono h5.size)) (fun h6 => ?_)
              clear hK K
              try simp only [Act.put, List.setIfInBounds_toArray, List.set_cons_zero, List.set_cons_succ]
              refine wpAnyH_ready (rs := [8]) (by kernel_rfl) (by simp) ?_
              refine AllReadyH.cons (by rw [List.getElem?_toArray]; rfl) (fun K hK => ?_) AllReadyH.nil
              · rw [if_pos (by rfl)]
                have H3 := HZ.out.on hB8
                have B3 := B0.out.trans (hB8.mono B0.out.size)
                have hth3 := H3.there zero32_len
                have hlen := sha_len (frm (sn leafS) [A, B])
                have hput := (H3.put zero32_len hlen).row hlen
                have HX := Lib.hid (below_setCells' (B := w.heap.size) (w.heap.size + 1 + 1) (by omega) (hc (sha (frm (sn leafS) [A, B]))) 0 B3)
                generalize hF : sha (frm (sn leafS) [A, B]) = F at *
                have HF := Lib.hid hF
                clear hF hb8 H3 B3
                go_wp2_with fail
                refine hK.out _ _ (HX.out) (fun h7 => ?_)
                clear hK K
                try simp only [Act.put, List.setIfInBounds_toArray, List.set_cons_zero, List.set_cons_succ]
                refine wpAnyH_done (by kernel_rfl) ?_ _
                go_wp2_with fail
                refine bodyPost_ret (v := .agg (hc F).toArray) (by simp [results, Tryd.results57, go_sem, hput, hlen]) rfl ⟨by rw [HE.out], HX.out⟩
  · rw [if_pos (by rfl)]
    go_wp2_with fail
    have R1 := Lib.hid (FrS.born G0 (k := W0.heap.size) rfl)
    have G1 := G0.alloc G0.size (.cells #[] 5)
    refine hK.out _ _ (h0.alloc h0.size _) (fun h1 => ?_)
    clear hK K
    try simp only [Act.put, List.setIfInBounds_toArray, List.set_cons_zero, List.set_cons_succ]
    refine wpAnyH_ready (rs := [0]) (by kernel_rfl) (by simp) ?_
    refine AllReadyH.cons (by rw [List.getElem?_toArray]; rfl) (fun K hK => ?_) AllReadyH.nil
    · rw [if_pos (by rfl)]
      go_wp2_with fail
      have R2 := Lib.hid (Two.ofA R1.out (k := W0.heap.size + 1) (by simp)).symm
      have G2 := G1.alloc G1.size (.cells #[] 5)
      refine hK.out _ _ (h1.alloc h1.size _) (fun h2 => ?_)
      clear hK K
      try simp only [Act.put, List.setIfInBounds_toArray, List.set_cons_zero, List.set_cons_succ]
      refine wpAnyH_ready (rs := [2]) (by kernel_rfl) (by simp) ?_
      refine AllReadyH.cons (by rw [List.getElem?_toArray]; rfl) (fun K hK => ?_) AllReadyH.nil
      · rw [if_pos (by rfl)]
        refine wp_append_row _ _ rfl Tryd.underlying82 hi.out hz0.out hz1.out hz2.out rfl R2.out.a.own (((HA.out.on G2).rd hA.out).src Tryd.underlying82) (by rw [hA.out]; unfold maxLen; omega) (by rw [hA.out]; omega) ?_
        intro q3 k3 w3 own3 grow3 fr3
        have R3 := Lib.hid (R2.out.growA own3 grow3 fr3)
        have G3 := R3.out.a.below
        clear own3 grow3 fr3
        refine hK.out _ _ (B0.out.trans (G3.mono B0.out.size)) (fun h3 => ?_)
        clear hK K
        try simp only [Act.put, List.setIfInBounds_toArray, List.set_cons_zero, List.set_cons_succ]
        refine wpAnyH_ready (rs := [5]) (by kernel_rfl) (by simp) ?_
        refine AllReadyH.cons (by rw [List.getElem?_toArray]; rfl) (fun K hK => ?_) AllReadyH.nil
        · rw [if_pos (by rfl)]
          refine wp_append_row _ _ rfl Tryd.underlying82 hi.out hz0.out hz1.out hz2.out rfl R3.out.b.own (((HB.out.on G3).rd hB.out).src Tryd.underlying82) (by rw [hB.out]; unfold maxLen; omega) (by rw [hB.out]; omega) ?_
          intro q4 k4 w4 own4 grow4 fr4
          have R4 := Lib.hid (R3.out.symm.growA own4 grow4 fr4).symm
          have G4 := R4.out.a.below
          clear own4 grow4 fr4
          refine hK.out _ _ (B0.out.trans (G4.mono B0.out.size)) (fun h4 => ?_)
          clear hK K
          try simp only [Act.put, List.setIfInBounds_toArray, List.set_cons_zero, List.set_cons_succ]
          refine wpAnyH_ready (rs := [6]) (by kernel_rfl) (by simp) ?_
          refine AllReadyH.cons (by rw [List.getElem?_toArray]; rfl) (fun K hK => ?_) AllReadyH.nil
          · rw [if_pos (by rfl)]
            go_wp2_with fail
            have RL := two_rdl R4.out.a.rd R4.out.b.rd
            simp only [List.nil_append, Nat.zero_add] at RL
            have RL2 := Lib.hid RL
            clear RL
            have G5 := G4.alloc G4.size (.cells #[.slice q3 A.length k3, .slice q4 B.length k4] 82)
            refine hK.out _ _ (h4.alloc h4.size _) (fun h5 => ?_)
            clear hK K
            try simp only [Act.put, List.setIfInBounds_toArray, List.set_cons_zero, List.set_cons_succ]
            refine wpAnyH_ready (rs := [7]) (by kernel_rfl) (by simp) ?_
            refine AllReadyH.cons (by rw [List.getElem?_toArray]; rfl) (fun K hK => ?_) AllReadyH.nil
            · rw [if_pos (by rfl)]
              go_wp2_with fail
              refine (refTagged_any (s := leafS) RL2.out (by decide) (cut_small (by decide)) (by rw [LL.out]; omega) BX.out).mono ?_
              rintro e w8 ⟨rfl, hb8⟩
              have hB8 : Below W0.heap.size W0 w8 := G5.trans (hb8.mono G5.size)
              go_wp2_with fail
              have G6 := hB8
              refine hK.out _ _ (h5.trans (hb8.mono h5.size)) (fun h6 => ?_)
              clear hK K
              try simp only [Act.put, List.setIfInBounds_toArray, List.set_cons_zero, List.set_cons_succ]
              refine wpAnyH_ready (rs := [8]) (by kernel_rfl) (by simp) ?_
              refine AllReadyH.cons (by rw [List.getElem?_toArray]; rfl) (fun K hK => ?_) AllReadyH.nil
              · rw [if_pos (by rfl)]
                have H3 := HZ.out.on hB8
                have B3 := B0.out.trans (hB8.mono B0.out.size)
                have hth3 := H3.there zero32_len
                have hlen := sha_len (frm (sn leafS) [A, B])
                have hput := (H3.put zero32_len hlen).row hlen
                have HX := Lib.hid (below_setCells' (B := w.heap.size) (w.heap.size + 1 + 1) (by omega) (hc (sha (frm (sn leafS) [A, B]))) 0 B3)
                generalize hF : sha (frm (sn leafS) [A, B]) = F at *
                have HF := Lib.hid hF
                clear hF hb8 H3 B3
                go_wp2_with fail
                refine hK.out _ _ (HX.out) (fun h7 => ?_)
                clear hK K
                try simp only [Act.put, List.setIfInBounds_toArray, List.set_cons_zero, List.set_cons_succ]
                refine wpAnyH_done (by kernel_rfl) ?_ _
                go_wp2_with fail
                refine bodyPost_ret (v := .agg (hc F).toArray) (by simp [results, Tryd.results57, go_sem, hput, hlen]) rfl ⟨by rw [HE.out], HX.out⟩

set_option maxHeartbeats 4000000 in
theorem Above_any {w : World} {A B : List Int} (hT : Tbl w) (hA : A.length = 32) (hB : B.length = 32) (bA : Bytes A) (bB : Bytes B) :
    Calls Tryd.prog 61 #[.agg (hc A).toArray, .agg (hc B).toArray] w fun e w' => e = .returned (.agg (hc (abH A B)).toArray) ∧ Below w.heap.size w w' := by
  have HA := Lib.hid ((HashAt.new w A).alloc (.cells (hc B).toArray 24) |>.alloc (.cells (hc zero32).toArray 24))
  have HB := Lib.hid ((HashAt.new (w.alloc (.cells (hc A).toArray 24)) B).alloc (.cells (hc zero32).toArray 24))
  have HZ := Lib.hid (HashAt.new ((w.alloc (.cells (hc A).toArray 24)).alloc (.cells (hc B).toArray 24)) zero32)
  have B0 := Lib.hid ((((Below.refl w.heap.size w).alloc (Nat.le_refl _) (.cells (hc A).toArray 24)).alloc (by simp) (.cells (hc B).toArray 24)).alloc (by simp; omega) (.cells (hc zero32).toArray 24))
  have hlA : (hc A).length = 32 := by rw [hc_len, hA]
  have hlB : (hc B).length = 32 := by rw [hc_len, hB]
  simp only [World.size_alloc] at HB HZ
  have r0 := HA.out.row hA
  have r1 := HB.out.row hB
  have z32 := zero32_len
  have P := fun (W : World) (h : Below w.heap.size w W) => Pair_any (w := W) (hT.on h hT.pos) hA hB bA bB
  have HP := Lib.hid P
  clear P bA bB
  by_cases hz : A = zero32 ∧ B = zero32
  · have da : (A == zero32) = true := by rw [hz.1]; exact beq_self_eq_true _
    have db : (B == zero32) = true := by rw [hz.2]; exact beq_self_eq_true _
    have HE := Lib.hid (show abH A B = zero32 by rw [hz.1, hz.2]; exact abH_zero)
    have hth := HZ.out.there zero32_len
    have hput := (HZ.out.put zero32_len zero32_len).row zero32_len
    have HX := Lib.hid (below_setCells' (B := w.heap.size) (w.heap.size + 1 + 1) (by omega) (hc zero32) 0 B0.out)
    clear hz
    go_enter Tryd.func61, Tryd.ntmps61
    go_wp2_with fail
    refine bodyPost_ret (v := .agg (hc zero32).toArray) (by simp [results, Tryd.results61, go_sem, hput, z32]) rfl ⟨by rw [HE.out], HX.out⟩
  have HE := Lib.hid (abH_some hz)
  have hd : (A == zero32) = false ∨ ((A == zero32) = true ∧ (B == zero32) = false) := by
    by_cases ha : A = zero32
    · right
      exact ⟨by rw [ha]; exact beq_self_eq_true _, by simpa using fun hb => hz ⟨ha, hb⟩⟩
    · left; simpa using ha
  clear hz
  have hlen := sha_len (frm (sn pairS) [A, B])
  rcases hd with da | ⟨da, db⟩
  all_goals
    go_enter Tryd.func61, Tryd.ntmps61
    go_wp2_with fail
    refine (HP.out _ B0.out).mono ?_
    rintro e w3 ⟨rfl, hb3⟩
    have H3 := HZ.out.on hb3
    have B3 := B0.out.trans (hb3.mono B0.out.size)
    have hth3 := H3.there zero32_len
    have hput := (H3.put zero32_len hlen).row hlen
    have HX := Lib.hid (below_setCells' (B := w.heap.size) (w.heap.size + 1 + 1) (by omega) (hc (sha (frm (sn pairS) [A, B]))) 0 B3)
    generalize hF : sha (frm (sn pairS) [A, B]) = F at *
    have HF := Lib.hid hF
    clear hF hb3 H3 B3 r0 r1
    go_wp2_with fail
    refine bodyPost_ret (v := .agg (hc F).toArray) (by simp [results, Tryd.results61, go_sem, hput, hlen]) rfl ⟨by rw [HE.out], HX.out⟩

set_option maxHeartbeats 4000000 in
theorem refAbove_any {w : World} {A B : List Int} (hA : A.length = 32) (hB : B.length = 32) (bA : Bytes A) (bB : Bytes B) :
    Calls Tryd.prog 58 #[.agg (hc A).toArray, .agg (hc B).toArray] w fun e w' => e = .returned (.agg (hc (abH A B)).toArray) ∧ Below w.heap.size w w' := by
  have HA := Lib.hid ((HashAt.new w A).alloc (.cells (hc B).toArray 24) |>.alloc (.cells (hc zero32).toArray 24))
  have HB := Lib.hid ((HashAt.new (w.alloc (.cells (hc A).toArray 24)) B).alloc (.cells (hc zero32).toArray 24))
  have HZ := Lib.hid (HashAt.new ((w.alloc (.cells (hc A).toArray 24)).alloc (.cells (hc B).toArray 24)) zero32)
  have B0 := Lib.hid ((((Below.refl w.heap.size w).alloc (Nat.le_refl _) (.cells (hc A).toArray 24)).alloc (by simp) (.cells (hc B).toArray 24)).alloc (by simp; omega) (.cells (hc zero32).toArray 24))
  have hlA : (hc A).length = 32 := by rw [hc_len, hA]
  have hlB : (hc B).length = 32 := by rw [hc_len, hB]
  simp only [World.size_alloc] at HB HZ
  have r0 := HA.out.row hA
  have r1 := HB.out.row hB
  have z32 := zero32_len
  have P := fun (W : World) (h : Below w.heap.size w W) => refPair_any (w := W) hA hB bA bB
  have HP := Lib.hid P
  clear P bA bB
  by_cases hz : A = zero32 ∧ B = zero32
  · have da : (A == zero32) = true := by rw [hz.1]; exact beq_self_eq_true _
    have db : (B == zero32) = true := by rw [hz.2]; exact beq_self_eq_true _
    have HE := Lib.hid (show abH A B = zero32 by rw [hz.1, hz.2]; exact abH_zero)
    have hth := HZ.out.there zero32_len
    have hput := (HZ.out.put zero32_len zero32_len).row zero32_len
    have HX := Lib.hid (below_setCells' (B := w.heap.size) (w.heap.size + 1 + 1) (by omega) (hc zero32) 0 B0.out)
    clear hz
    go_enter Tryd.func58, Tryd.ntmps58
    go_wp2_with fail
    refine bodyPost_ret (v := .agg (hc zero32).toArray) (by simp [results, Tryd.results58, go_sem, hput, z32]) rfl ⟨by rw [HE.out], HX.out⟩
  have HE := Lib.hid (abH_some hz)
  have hd : (A == zero32) = false ∨ ((A == zero32) = true ∧ (B == zero32) = false) := by
    by_cases ha : A = zero32
    · right
      exact ⟨by rw [ha]; exact beq_self_eq_true _, by simpa using fun hb => hz ⟨ha, hb⟩⟩
    · left; simpa using ha
  clear hz
  have hlen := sha_len (frm (sn pairS) [A, B])
  rcases hd with da | ⟨da, db⟩
  all_goals
    go_enter Tryd.func58, Tryd.ntmps58
    go_wp2_with fail
    refine (HP.out _ B0.out).mono ?_
    rintro e w3 ⟨rfl, hb3⟩
    have H3 := HZ.out.on hb3
    have B3 := B0.out.trans (hb3.mono B0.out.size)
    have hth3 := H3.there zero32_len
    have hput := (H3.put zero32_len hlen).row hlen
    have HX := Lib.hid (below_setCells' (B := w.heap.size) (w.heap.size + 1 + 1) (by omega) (hc (sha (frm (sn pairS) [A, B]))) 0 B3)
    generalize hF : sha (frm (sn pairS) [A, B]) = F at *
    have HF := Lib.hid hF
    clear hF hb3 H3 B3 r0 r1
    go_wp2_with fail
    refine bodyPost_ret (v := .agg (hc F).toArray) (by simp [results, Tryd.results58, go_sem, hput, hlen]) rfl ⟨by rw [HE.out], HX.out⟩
end Go.Proofs.YtjlodnecdngdfaaDoor
namespace Go.Proofs.YtjlodnecdngdfaaDoor
open Go.RowKit
set_option maxRecDepth 100000

/-! ### The numbers -/
theorem wrap_u32n (n : Int) : IntKind.u32.wrap n = n % 4294967296 := by simp [IntKind.wrap, IntKind.bits, IntKind.signed]
theorem bv32 (a : Nat) (ha : a < 4294967296) : (BitVec.ofInt 32 (a : Int)).toNat = a := by
  rw [BitVec.ofInt_natCast, BitVec.toNat_ofNat]; exact Nat.mod_eq_of_lt (by omega)
theorem xorN (a b : Nat) (ha : a < 4294967296) (hb : b < 4294967296) : bits .xor .u32 (a : Int) (b : Int) = ((Nat.xor a b : Nat) : Int) ∧ Nat.xor a b < 4294967296 := by
  have hx : a ^^^ b < 2 ^ 32 := Nat.xor_lt_two_pow (by omega) (by omega)
  refine ⟨?_, by exact hx⟩
  show IntKind.u32.wrap ((BitVec.ofInt 32 (a : Int) ^^^ BitVec.ofInt 32 (b : Int)).toNat : Int) = ((a ^^^ b : Nat) : Int)
  rw [BitVec.toNat_xor, bv32 a ha, bv32 b hb, wrap_u32n]
  omega
theorem orN (a b : Nat) (ha : a < 4294967296) (hb : b < 4294967296) : bits .or .u32 (a : Int) (b : Int) = ((Nat.lor a b : Nat) : Int) ∧ Nat.lor a b < 4294967296 := by
  have hx : a ||| b < 2 ^ 32 := Nat.or_lt_two_pow (by omega) (by omega)
  refine ⟨?_, by exact hx⟩
  show IntKind.u32.wrap ((BitVec.ofInt 32 (a : Int) ||| BitVec.ofInt 32 (b : Int)).toNat : Int) = ((a ||| b : Nat) : Int)
  rw [BitVec.toNat_or, bv32 a ha, bv32 b hb, wrap_u32n]
  omega
theorem andN (a b : Nat) (ha : a < 4294967296) (hb : b < 4294967296) : bits .and .u32 (a : Int) (b : Int) = ((Nat.land a b : Nat) : Int) ∧ Nat.land a b < 4294967296 := by
  have hx : a &&& b < 2 ^ 32 := Nat.and_lt_two_pow _ (by omega)
  refine ⟨?_, by exact hx⟩
  show IntKind.u32.wrap ((BitVec.ofInt 32 (a : Int) &&& BitVec.ofInt 32 (b : Int)).toNat : Int) = ((a &&& b : Nat) : Int)
  rw [BitVec.toNat_and, bv32 a ha, bv32 b hb, wrap_u32n]
  omega
def rotN (c d x : Nat) : Nat := Nat.lor (Nat.mod (Nat.mul x c) 4294967296) (Nat.div x d)
theorem rk_N {k : Int} {s : Nat} (c d : Nat) (hs : rsh k = s) (hc : 2 ^ s = c) (hd : 2 ^ (32 - s) = d) (x : Nat) (hx : x < 4294967296) : rk k (x : Int) = ((rotN c d x : Nat) : Int) ∧ rotN c d x < 4294967296 := by
  have h1 : Nat.mod (Nat.mul x c) 4294967296 < 4294967296 := Nat.mod_lt _ (by decide)
  have h2 : Nat.div x d < 4294967296 := Nat.lt_of_le_of_lt (Nat.div_le_self x d) hx
  have h := orN _ _ h1 h2
  refine ⟨?_, h.2⟩
  have e1 : ((x : Int) * 2 ^ s % 4294967296) = ((Nat.mod (Nat.mul x c) 4294967296 : Nat) : Int) := by
    show _ = ((x * c % 4294967296 : Nat) : Int)
    subst hc
    rw [Int.natCast_emod, Int.natCast_mul, Int.natCast_pow]
    rfl
  have e2 : ((x : Int) / 2 ^ (32 - s)) = ((Nat.div x d : Nat) : Int) := by
    show _ = ((x / d : Nat) : Int)
    subst hd
    rw [Int.natCast_ediv, Int.natCast_pow]
    rfl
  unfold rk
  rw [hs, e1, e2]
  exact h.1
def wdN (a b c d : Nat) : Nat := Nat.lor (Nat.lor (Nat.lor (Nat.mul a 16777216) (Nat.mul b 65536)) (Nat.mul c 256)) d
theorem wd_N {B : Nat → Int} {i : Nat} {a b c d : Nat} (ha : a < 256) (hb : b < 256) (hc : c < 256) (hd : d < 256) (h0 : B (4 * i) = a) (h1 : B (4 * i + 1) = b) (h2 : B (4 * i + 2) = c) (h3 : B (4 * i + 3) = d) : wd B i = ((wdN a b c d : Nat) : Int) ∧ wdN a b c d < 4294967296 := by
  have e1 := orN (a * 16777216) (b * 65536) (by omega) (by omega)
  have e2 := orN _ (c * 256) e1.2 (by omega)
  have e3 := orN _ d e2.2 (by omega)
  refine ⟨?_, e3.2⟩
  unfold wd
  rw [h0, h1, h2, h3]
  rw [show ((a : Int) * 16777216) = ((a * 16777216 : Nat) : Int) by omega, show ((b : Int) * 65536) = ((b * 65536 : Nat) : Int) by omega, show ((c : Int) * 256) = ((c * 256 : Nat) : Int) by omega]
  rw [e1.1, e2.1, e3.1]
  rfl
def sg0N (x : Nat) : Nat := Nat.xor (Nat.xor (rotN 33554432 128 x) (rotN 16384 262144 x)) (Nat.div x 8)
def sg1N (x : Nat) : Nat := Nat.xor (Nat.xor (rotN 32768 131072 x) (rotN 8192 524288 x)) (Nat.div x 1024)
def faN (x : Nat) : Nat := Nat.xor (Nat.xor (rotN 1073741824 4 x) (rotN 524288 8192 x)) (rotN 1024 4194304 x)
def feN (x : Nat) : Nat := Nat.xor (Nat.xor (rotN 67108864 64 x) (rotN 2097152 2048 x)) (rotN 128 33554432 x)
def fchN (e f g : Nat) : Nat := Nat.xor (Nat.land e f) (Nat.land (Nat.xor 4294967295 e) g)
def fmjN (a b c : Nat) : Nat := Nat.xor (Nat.xor (Nat.land a b) (Nat.land a c)) (Nat.land b c)
theorem sg0_N (x : Nat) (hx : x < 4294967296) : sg0 x = ((sg0N x : Nat) : Int) ∧ sg0N x < 4294967296 := by
  have h1 := rk_N (k := -7) (s := 25) 33554432 128 (by decide) (by decide) (by decide) x hx
  have h2 := rk_N (k := -18) (s := 14) 16384 262144 (by decide) (by decide) (by decide) x hx
  have h3 : x / 8 < 4294967296 := by omega
  have e1 := xorN _ _ h1.2 h2.2
  have e2 := xorN _ _ e1.2 h3
  refine ⟨?_, e2.2⟩
  unfold sg0
  rw [h1.1, h2.1, e1.1, show ((x : Int) / 8) = ((x / 8 : Nat) : Int) by omega, e2.1]
  rfl
theorem sg1_N (x : Nat) (hx : x < 4294967296) : sg1 x = ((sg1N x : Nat) : Int) ∧ sg1N x < 4294967296 := by
  have h1 := rk_N (k := -17) (s := 15) 32768 131072 (by decide) (by decide) (by decide) x hx
  have h2 := rk_N (k := -19) (s := 13) 8192 524288 (by decide) (by decide) (by decide) x hx
  have h3 : x / 1024 < 4294967296 := by omega
  have e1 := xorN _ _ h1.2 h2.2
  have e2 := xorN _ _ e1.2 h3
  refine ⟨?_, e2.2⟩
  unfold sg1
  rw [h1.1, h2.1, e1.1, show ((x : Int) / 1024) = ((x / 1024 : Nat) : Int) by omega, e2.1]
  rfl
theorem fa_N (x : Nat) (hx : x < 4294967296) : fa x = ((faN x : Nat) : Int) ∧ faN x < 4294967296 := by
  have h1 := rk_N (k := -2) (s := 30) 1073741824 4 (by decide) (by decide) (by decide) x hx
  have h2 := rk_N (k := -13) (s := 19) 524288 8192 (by decide) (by decide) (by decide) x hx
  have h3 := rk_N (k := -22) (s := 10) 1024 4194304 (by decide) (by decide) (by decide) x hx
  have e1 := xorN _ _ h1.2 h2.2
  have e2 := xorN _ _ e1.2 h3.2
  refine ⟨?_, e2.2⟩
  unfold fa
  rw [h1.1, h2.1, e1.1, h3.1, e2.1]
  rfl
theorem fe_N (x : Nat) (hx : x < 4294967296) : fe x = ((feN x : Nat) : Int) ∧ feN x < 4294967296 := by
  have h1 := rk_N (k := -6) (s := 26) 67108864 64 (by decide) (by decide) (by decide) x hx
  have h2 := rk_N (k := -11) (s := 21) 2097152 2048 (by decide) (by decide) (by decide) x hx
  have h3 := rk_N (k := -25) (s := 7) 128 33554432 (by decide) (by decide) (by decide) x hx
  have e1 := xorN _ _ h1.2 h2.2
  have e2 := xorN _ _ e1.2 h3.2
  refine ⟨?_, e2.2⟩
  unfold fe
  rw [h1.1, h2.1, e1.1, h3.1, e2.1]
  rfl
theorem fch_N (e f g : Nat) (he : e < 4294967296) (hf : f < 4294967296) (hg : g < 4294967296) : fch e f g = ((fchN e f g : Nat) : Int) ∧ fchN e f g < 4294967296 := by
  have h1 := andN e f he hf
  have h2 := xorN 4294967295 e (by decide) he
  have h3 := andN _ g h2.2 hg
  have h4 := xorN _ _ h1.2 h3.2
  refine ⟨?_, h4.2⟩
  unfold fch notI
  rw [show (if IntKind.u32.signed = true then -1 else IntKind.u32.max) = ((4294967295 : Nat) : Int) by decide, h1.1, h2.1, h3.1, h4.1]
  rfl
theorem fmj_N (a b c : Nat) (ha : a < 4294967296) (hb : b < 4294967296) (hc : c < 4294967296) : fmj a b c = ((fmjN a b c : Nat) : Int) ∧ fmjN a b c < 4294967296 := by
  have h1 := andN a b ha hb
  have h2 := andN a c ha hc
  have h3 := andN b c hb hc
  have h4 := xorN _ _ h1.2 h2.2
  have h5 := xorN _ _ h4.2 h3.2
  refine ⟨?_, h5.2⟩
  unfold fmj
  rw [h1.1, h2.1, h4.1, h3.1, h5.1]
  rfl
def pN (x y : Nat) : Nat := Nat.mod (Nat.add x y) 4294967296
theorem p_N (x y : Nat) : p32 x y = ((pN x y : Nat) : Int) ∧ pN x y < 4294967296 := by
  refine ⟨?_, Nat.mod_lt _ (by decide)⟩
  show _ = (((x + y) % 4294967296 : Nat) : Int)
  unfold p32
  omega

/-! ### The state -/
structure SN where
  a : Nat
  b : Nat
  c : Nat
  d : Nat
  e : Nat
  f : Nat
  g : Nat
  h : Nat
def SN.to (s : SN) : St8 := ⟨s.a, s.b, s.c, s.d, s.e, s.f, s.g, s.h⟩
structure SN.Ok (s : SN) : Prop where
  a : s.a < 4294967296
  b : s.b < 4294967296
  c : s.c < 4294967296
  d : s.d < 4294967296
  e : s.e < 4294967296
  f : s.f < 4294967296
  g : s.g < 4294967296
  h : s.h < 4294967296
def SN.u1 (s : SN) (k w : Nat) : Nat := Nat.mod (Nat.add (Nat.add (Nat.add (Nat.add s.h (feN s.e)) (fchN s.e s.f s.g)) k) w) 4294967296
def SN.u2 (s : SN) : Nat := Nat.mod (Nat.add (faN s.a) (fmjN s.a s.b s.c)) 4294967296
def SN.rnd (s : SN) (k w : Nat) : SN := ⟨pN (s.u1 k w) s.u2, s.a, s.b, s.c, pN s.d (s.u1 k w), s.e, s.f, s.g⟩
theorem SN.rnd_to {s : SN} (h : s.Ok) (k w : Nat) : s.to.rnd k w = (s.rnd k w).to ∧ (s.rnd k w).Ok := by
  have e1 := fe_N s.e h.e
  have e2 := fch_N s.e s.f s.g h.e h.f h.g
  have e3 := fa_N s.a h.a
  have e4 := fmj_N s.a s.b s.c h.a h.b h.c
  have u1 : s.to.u1 k w % 4294967296 = ((s.u1 k w : Nat) : Int) := by
    show (((s.h : Int) + fe s.e + fch s.e s.f s.g + k + w) % 4294967296) = (((s.h + feN s.e + fchN s.e s.f s.g + k + w) % 4294967296 : Nat) : Int)
    rw [e1.1, e2.1]
    omega
  have u2 : s.to.u2 % 4294967296 = ((s.u2 : Nat) : Int) := by
    show ((fa s.a + fmj s.a s.b s.c) % 4294967296) = (((faN s.a + fmjN s.a s.b s.c) % 4294967296 : Nat) : Int)
    rw [e3.1, e4.1]
    omega
  refine ⟨?_, (p_N _ _).2, h.a, h.b, h.c, (p_N _ _).2, h.e, h.f, h.g⟩
  unfold St8.rnd
  rw [u1, u2]
  show (⟨p32 (s.u1 k w : Nat) (s.u2 : Nat), s.a, s.b, s.c, p32 (s.d : Nat) (s.u1 k w : Nat), s.e, s.f, s.g⟩ : St8) = _
  rw [(p_N _ _).1, (p_N _ _).1]
  rfl
def SN.run (s : SN) : List Nat → List Nat → SN
  | k :: ks, w :: ws => (s.rnd k w).run ks ws
  | _, _ => s
theorem SN.run_snoc (k w : Nat) : ∀ (ks ws : List Nat) (s : SN), ks.length = ws.length → s.run (ks ++ [k]) (ws ++ [w]) = (s.run ks ws).rnd k w
  | [], [], s, _ => rfl
  | _ :: ks, _ :: ws, s, h => SN.run_snoc k w ks ws _ (by simpa using h)
  | [], _ :: _, _, h => by simp at h
  | _ :: _, [], _, h => by simp at h
def SN.add (s t : SN) : SN := ⟨pN s.a t.a, pN s.b t.b, pN s.c t.c, pN s.d t.d, pN s.e t.e, pN s.f t.f, pN s.g t.g, pN s.h t.h⟩
def nxtN (l : List Nat) : Nat := Nat.mod (Nat.add (Nat.add (Nat.add (l.getD 15 0) (sg0N (l.getD 14 0))) (l.getD 6 0)) (sg1N (l.getD 1 0))) 4294967296
theorem nxtN_lt (l : List Nat) : nxtN l < 4294967296 := Nat.mod_lt _ (by decide)
theorem nxtN_eq (l : List Nat) : nxtN l = (l.getD 15 0 + sg0N (l.getD 14 0) + l.getD 6 0 + sg1N (l.getD 1 0)) % 4294967296 := rfl
def growN : Nat → List Nat → List Nat
  | 0, l => l
  | n + 1, l => growN n (nxtN l :: l)
def rootsN : List Nat := [1116352408, 1899447441, 3049323471, 3921009573, 961987163, 1508970993, 2453635748, 2870763221, 3624381080, 310598401, 607225278, 1426881987, 1925078388, 2162078206, 2614888103, 3248222580, 3835390401, 4022224774, 264347078, 604807628, 770255983, 1249150122, 1555081692, 1996064986, 2554220882, 2821834349, 2952996808, 3210313671, 3336571891, 3584528711, 113926993, 338241895, 666307205, 773529912, 1294757372, 1396182291, 1695183700, 1986661051, 2177026350, 2456956037, 2730485921, 2820302411, 3259730800, 3345764771, 3516065817, 3600352804, 4094571909, 275423344, 430227734, 506948616, 659060556, 883997877, 958139571, 1322822218, 1537002063, 1747873779, 1955562222, 2024104815, 2227730452, 2361852424, 2428436474, 2756734187, 3204031479, 3329325298]
def SN.mix (s : SN) (ws : List Nat) : SN := s.add (s.run rootsN (growN 48 ws.reverse).reverse)
theorem rt_N {i : Nat} (hi : i < 64) : rt i = ((rootsN.getD i 0 : Nat) : Int) := by
  have e : rootsZ = rootsN.map (fun n : Nat => (n : Int)) := by rfl
  have hl : i < rootsN.length := hi
  unfold rt
  rw [e]
  simp [List.getD, hl]
/-- A row of words, the newest first. -/
def Sch (B : Nat → Int) (l : List Nat) : Prop := ∀ j, j < l.length → W B j = ((l.getD (l.length - 1 - j) 0 : Nat) : Int) ∧ l.getD (l.length - 1 - j) 0 < 4294967296
theorem Sch.grow {B : Nat → Int} {l : List Nat} (h : Sch B l) (h16 : 16 ≤ l.length) : Sch B (nxtN l :: l) := by
  intro j hj
  simp only [List.length_cons] at hj ⊢
  by_cases e : j = l.length
  · subst e
    have a := h (l.length - 16) (by omega)
    have b := h (l.length - 15) (by omega)
    have c := h (l.length - 7) (by omega)
    have d := h (l.length - 2) (by omega)
    rw [show l.length - 1 - (l.length - 16) = 15 by omega] at a
    rw [show l.length - 1 - (l.length - 15) = 14 by omega] at b
    rw [show l.length - 1 - (l.length - 7) = 6 by omega] at c
    rw [show l.length - 1 - (l.length - 2) = 1 by omega] at d
    rw [show l.length + 1 - 1 - l.length = 0 by omega, List.getD_cons_zero]
    refine ⟨?_, nxtN_lt l⟩
    rw [W_high B h16]
    unfold nxt
    rw [a.1, b.1, c.1, d.1, (sg0_N _ b.2).1, (sg1_N _ d.2).1, nxtN_eq]
    generalize l.getD 15 0 = x1
    generalize sg0N (l.getD 14 0) = x2
    generalize l.getD 6 0 = x3
    generalize sg1N (l.getD 1 0) = x4
    omega
  · have a := h j (by omega)
    rw [show l.length + 1 - 1 - j = (l.length - 1 - j) + 1 by omega, List.getD_cons_succ]
    exact a
theorem growN_len : ∀ n (l : List Nat), (growN n l).length = n + l.length
  | 0, l => by simp [growN]
  | n + 1, l => by rw [growN, growN_len n]; simp; omega
theorem Sch.grows {B : Nat → Int} : ∀ n {l : List Nat}, Sch B l → 16 ≤ l.length → Sch B (growN n l)
  | 0, _, h, _ => h
  | n + 1, _, h, h16 => Sch.grows n (h.grow h16) (by simp; omega)
theorem getD_reverse {l : List Nat} {j : Nat} (hj : j < l.length) : l.reverse.getD j 0 = l.getD (l.length - 1 - j) 0 := by
  simp only [List.getD_eq_getElem?_getD]
  rw [List.getElem?_reverse hj]
theorem SN.rounds_to {B : Nat → Int} {ws : List Nat} (hl : ws.length = 64) (hw : ∀ j, j < 64 → W B j = ((ws.getD j 0 : Nat) : Int)) {s : SN} (h : s.Ok) : ∀ n, n ≤ 64 → s.to.rounds B n = (s.run (rootsN.take n) (ws.take n)).to ∧ (s.run (rootsN.take n) (ws.take n)).Ok
  | 0, _ => by
    have e : s.run (rootsN.take 0) (ws.take 0) = s := by simp [SN.run]
    rw [e]; exact ⟨rfl, h⟩
  | n + 1, hn => by
    obtain ⟨h1, h2⟩ := SN.rounds_to hl hw h n (by omega)
    have e1 : rootsN.take (n + 1) = rootsN.take n ++ [rootsN.getD n 0] := by
      have hn' : n < rootsN.length := by show n < 64; omega
      rw [List.take_succ_eq_append_getElem hn']; simp [List.getD, hn']
    have e2 : ws.take (n + 1) = ws.take n ++ [ws.getD n 0] := by
      have hn' : n < ws.length := by omega
      rw [List.take_succ_eq_append_getElem hn']; simp [List.getD, hn']
    rw [e1, e2, SN.run_snoc _ _ _ _ _ (by have : rootsN.length = 64 := rfl; simp [hl, this]; try omega)]
    have h3 := SN.rnd_to h2 (rootsN.getD n 0) (ws.getD n 0)
    refine ⟨?_, h3.2⟩
    rw [← h3.1, St8.rounds, h1, rt_N (by omega), hw n (by omega)]
theorem SN.add_to (s t : SN) : s.to.add t.to = (s.add t).to ∧ (s.add t).Ok := by
  refine ⟨?_, (p_N _ _).2, (p_N _ _).2, (p_N _ _).2, (p_N _ _).2, (p_N _ _).2, (p_N _ _).2, (p_N _ _).2, (p_N _ _).2⟩
  show (⟨p32 (s.a : Nat) (t.a : Nat), p32 (s.b : Nat) (t.b : Nat), p32 (s.c : Nat) (t.c : Nat), p32 (s.d : Nat) (t.d : Nat), p32 (s.e : Nat) (t.e : Nat), p32 (s.f : Nat) (t.f : Nat), p32 (s.g : Nat) (t.g : Nat), p32 (s.h : Nat) (t.h : Nat)⟩ : St8) = _
  simp only [(p_N _ _).1]
  rfl
theorem SN.mix_to {B : Nat → Int} {ws : List Nat} (hl : ws.length = 16) (hw : ∀ j, j < 16 → wd B j = ((ws.getD j 0 : Nat) : Int) ∧ ws.getD j 0 < 4294967296) {s : SN} (h : s.Ok) : s.to.mix B = (s.mix ws).to ∧ (s.mix ws).Ok := by
  have h0 : Sch B ws.reverse := by
    intro j hj
    simp only [List.length_reverse] at hj ⊢
    have : ws.reverse.getD (ws.length - 1 - j) 0 = ws.getD j 0 := by
      rw [getD_reverse (by omega)]; congr 1; omega
    rw [this, W_low B (by omega)]
    exact hw j (by omega)
  have h1 := h0.grows 48 (by simp [hl])
  have hlen : (growN 48 ws.reverse).length = 64 := by rw [growN_len]; simp [hl]
  have h2 := SN.rounds_to (B := B) (ws := (growN 48 ws.reverse).reverse) (by simp [hlen]) (fun j hj => by rw [getD_reverse (by omega)]; exact (h1 j (by omega)).1) h 64 (by omega)
  rw [List.take_of_length_le (by show 64 ≤ 64; omega), List.take_of_length_le (by simp [hlen])] at h2
  unfold St8.mix
  rw [h2.1]
  exact SN.add_to _ _

/-! ### The digest -/
def wordsN : List Nat → List Nat
  | a :: b :: c :: d :: r => wdN a b c d :: wordsN r
  | _ => []
def ivN : SN := ⟨1779033703, 3144134277, 1013904242, 2773480762, 1359893119, 2600822924, 528734635, 1541459225⟩
theorem ivN_ok : ivN.Ok := by constructor <;> (simp only [ivN]; omega)
theorem ivN_to : ivN.to = iv := by simp only [ivN, SN.to, iv]; congr 1
def be4N (n : Nat) : List Nat := [Nat.mod (Nat.div n 16777216) 256, Nat.mod (Nat.div n 65536) 256, Nat.mod (Nat.div n 256) 256, Nat.mod n 256]
def be8N (n : Nat) : List Nat := [Nat.mod (Nat.div n 72057594037927936) 256, Nat.mod (Nat.div n 281474976710656) 256, Nat.mod (Nat.div n 1099511627776) 256, Nat.mod (Nat.div n 4294967296) 256, Nat.mod (Nat.div n 16777216) 256, Nat.mod (Nat.div n 65536) 256, Nat.mod (Nat.div n 256) 256, Nat.mod n 256]
def SN.out (s : SN) : List Nat := be4N s.a ++ be4N s.b ++ be4N s.c ++ be4N s.d ++ be4N s.e ++ be4N s.f ++ be4N s.g ++ be4N s.h
def castL (l : List Nat) : List Int := l.map fun n : Nat => (n : Int)
theorem castL_app (l m : List Nat) : castL (l ++ m) = castL l ++ castL m := List.map_append
theorem castL_len (l : List Nat) : (castL l).length = l.length := List.length_map _
theorem castL_get (l : List Nat) (j : Nat) : (castL l).getD j 0 = ((l.getD j 0 : Nat) : Int) := by
  by_cases h : j < l.length
  · simp [castL, List.getD, h]
  · simp [castL, List.getD, h]
theorem be4_N (n : Nat) : be4 n = castL (be4N n) := by
  have e0 : ((Nat.mod (Nat.div n 16777216) 256 : Nat) : Int) = (n : Int) / 16777216 % 256 := by
    show ((n / 16777216 % 256 : Nat) : Int) = _
    omega
  have e1 : ((Nat.mod (Nat.div n 65536) 256 : Nat) : Int) = (n : Int) / 65536 % 256 := by
    show ((n / 65536 % 256 : Nat) : Int) = _
    omega
  have e2 : ((Nat.mod (Nat.div n 256) 256 : Nat) : Int) = (n : Int) / 256 % 256 := by
    show ((n / 256 % 256 : Nat) : Int) = _
    omega
  have e3 : ((Nat.mod n 256 : Nat) : Int) = (n : Int) % 256 := by
    show ((n % 256 : Nat) : Int) = _
    omega
  simp only [be4, be4N, castL, List.map_cons, List.map_nil, e0, e1, e2, e3]
theorem be8_N (n : Nat) : be8 n = castL (be8N n) := by
  have e0 : ((Nat.mod (Nat.div n 72057594037927936) 256 : Nat) : Int) = (n : Int) / 72057594037927936 % 256 := by
    show ((n / 72057594037927936 % 256 : Nat) : Int) = _
    omega
  have e1 : ((Nat.mod (Nat.div n 281474976710656) 256 : Nat) : Int) = (n : Int) / 281474976710656 % 256 := by
    show ((n / 281474976710656 % 256 : Nat) : Int) = _
    omega
  have e2 : ((Nat.mod (Nat.div n 1099511627776) 256 : Nat) : Int) = (n : Int) / 1099511627776 % 256 := by
    show ((n / 1099511627776 % 256 : Nat) : Int) = _
    omega
  have e3 : ((Nat.mod (Nat.div n 4294967296) 256 : Nat) : Int) = (n : Int) / 4294967296 % 256 := by
    show ((n / 4294967296 % 256 : Nat) : Int) = _
    omega
  have e4 : ((Nat.mod (Nat.div n 16777216) 256 : Nat) : Int) = (n : Int) / 16777216 % 256 := by
    show ((n / 16777216 % 256 : Nat) : Int) = _
    omega
  have e5 : ((Nat.mod (Nat.div n 65536) 256 : Nat) : Int) = (n : Int) / 65536 % 256 := by
    show ((n / 65536 % 256 : Nat) : Int) = _
    omega
  have e6 : ((Nat.mod (Nat.div n 256) 256 : Nat) : Int) = (n : Int) / 256 % 256 := by
    show ((n / 256 % 256 : Nat) : Int) = _
    omega
  have e7 : ((Nat.mod n 256 : Nat) : Int) = (n : Int) % 256 := by
    show ((n % 256 : Nat) : Int) = _
    omega
  simp only [be8, be8N, castL, List.map_cons, List.map_nil, e0, e1, e2, e3, e4, e5, e6, e7]
theorem SN.out_to (s : SN) : s.to.out = castL s.out := by
  unfold SN.out
  simp only [castL_app, ← be4_N]
  rfl
def ByN (l : List Nat) : Prop := ∀ x ∈ l, x < 256
theorem ByN.get {l : List Nat} (h : ByN l) (j : Nat) : l.getD j 0 < 256 := by
  by_cases hj : j < l.length
  · have : l.getD j 0 = l[j] := by simp [List.getD, hj]
    rw [this]; exact h _ (List.getElem_mem hj)
  · have : l.getD j 0 = 0 := by simp [List.getD, hj]
    rw [this]; omega
theorem wordsN_cons (a b c d : Nat) (r : List Nat) : wordsN (a :: b :: c :: d :: r) = wdN a b c d :: wordsN r := by rw [wordsN]
theorem wordsN_get : ∀ (n : Nat) (l : List Nat), l.length = 4 * n → ∀ i, i < n → (wordsN l).getD i 0 = wdN (l.getD (4 * i) 0) (l.getD (4 * i + 1) 0) (l.getD (4 * i + 2) 0) (l.getD (4 * i + 3) 0)
  | 0, _, _, i, hi => by omega
  | n + 1, l, hl, i, hi => by
    obtain ⟨a, b, c, d, r, rfl⟩ : ∃ a b c d r, l = a :: b :: c :: d :: r := by
      match l, hl with
      | a :: b :: c :: d :: r, _ => exact ⟨a, b, c, d, r, rfl⟩
      | [], h => simp at h
      | [_], h => simp at h; omega
      | [_, _], h => simp at h; omega
      | [_, _, _], h => simp at h; omega
    rw [wordsN_cons]
    rcases i with _ | i
    · simp only [List.getD_cons_zero, Nat.mul_zero, Nat.zero_add]
      rw [show (3 : Nat) = 0 + 1 + 1 + 1 by omega, show (2 : Nat) = 0 + 1 + 1 by omega, show (1 : Nat) = 0 + 1 by omega]
      simp only [List.getD_cons_succ, List.getD_cons_zero]
    · have h := wordsN_get n r (by simp at hl; omega) i (by omega)
      rw [show 4 * (i + 1) + 3 = (4 * i + 3) + 1 + 1 + 1 + 1 by omega, show 4 * (i + 1) + 2 = (4 * i + 2) + 1 + 1 + 1 + 1 by omega, show 4 * (i + 1) + 1 = (4 * i + 1) + 1 + 1 + 1 + 1 by omega, show 4 * (i + 1) = 4 * i + 1 + 1 + 1 + 1 by omega]
      simp only [List.getD_cons_succ]
      exact h
theorem wordsN_len : ∀ (n : Nat) (l : List Nat), l.length = 4 * n → (wordsN l).length = n
  | 0, l, h => by
    obtain rfl : l = [] := List.length_eq_zero_iff.1 (by omega)
    simp [wordsN]
  | n + 1, l, hl => by
    obtain ⟨a, b, c, d, r, rfl⟩ : ∃ a b c d r, l = a :: b :: c :: d :: r := by
      match l, hl with
      | a :: b :: c :: d :: r, _ => exact ⟨a, b, c, d, r, rfl⟩
      | [], h => simp at h
      | [_], h => simp at h; omega
      | [_, _], h => simp at h; omega
      | [_, _, _], h => simp at h; omega
    rw [wordsN_cons, List.length_cons, wordsN_len n r (by simp at hl; omega)]
def padN (xs : List Nat) : List Nat := xs ++ (128 :: (List.replicate (64 * nbk xs.length - xs.length - 9) 0 ++ be8N (8 * xs.length)))
theorem nbk_fits (n : Nat) : n + 9 ≤ 64 * nbk n := by unfold nbk; split <;> omega
theorem padN_len (xs : List Nat) : (padN xs).length = 64 * nbk xs.length := by
  have := nbk_fits xs.length
  simp [padN, be8N]; omega
theorem padN_get (xs : List Nat) {j : Nat} (hj : j < 64 * nbk xs.length) : padF (castL xs) j = (((padN xs).getD j 0 : Nat) : Int) := by
  have hf := nbk_fits xs.length
  unfold padF
  rw [castL_len, castL_get]
  simp only [padN, List.getD_eq_getElem?_getD]
  by_cases h1 : j < xs.length
  · rw [if_pos h1, List.getElem?_append_left h1]
  · rw [if_neg h1, List.getElem?_append_right (by omega)]
    by_cases h2 : j = xs.length
    · subst h2; simp
    · rw [if_neg h2]
      obtain ⟨m, hm⟩ : ∃ m, j - xs.length = m + 1 := ⟨j - xs.length - 1, by omega⟩
      rw [hm, List.getElem?_cons_succ]
      by_cases h3 : j + 8 < 64 * nbk xs.length
      · rw [if_pos h3, List.getElem?_append_left (by simp; omega)]
        rw [List.getElem?_replicate, if_pos (by omega)]
        rfl
      · rw [if_neg h3, List.getElem?_append_right (by simp; omega), List.length_replicate]
        rw [show (8 * (xs.length : Int)) = ((8 * xs.length : Nat) : Int) by omega, be8_N]
        rw [show j + 8 - 64 * nbk xs.length = m - (64 * nbk xs.length - xs.length - 9) by omega]
        have := castL_get (be8N (8 * xs.length)) (m - (64 * nbk xs.length - xs.length - 9))
        simpa only [List.getD_eq_getElem?_getD] using this
theorem padN_by {xs : List Nat} (h : ByN xs) : ByN (padN xs) := by
  intro x hx
  simp only [padN, List.mem_append, List.mem_cons, List.mem_replicate] at hx
  rcases hx with h1 | rfl | ⟨_, rfl⟩ | h1
  · exact h x h1
  · omega
  · omega
  · simp only [be8N, List.mem_cons, List.not_mem_nil, or_false] at h1
    rcases h1 with rfl | rfl | rfl | rfl | rfl | rfl | rfl | rfl <;> exact Nat.mod_lt _ (by decide)
def goN : Nat → SN → List Nat → SN
  | 0, s, _ => s
  | n + 1, s, ws => goN n (s.mix (ws.take 16)) (ws.drop 16)
def shaN (xs : List Nat) : List Nat := (goN (nbk xs.length) ivN (wordsN (padN xs))).out
theorem goN_to {xs : List Nat} (h : ByN xs) : ∀ (n i : Nat) (s : SN), i + n = nbk xs.length → s.Ok → s.to = shaSt (castL xs) i → (goN n s ((wordsN (padN xs)).drop (16 * i))).to = shaSt (castL xs) (i + n)
  | 0, i, s, _, _, hs => hs
  | n + 1, i, s, hn, ho, hs => by
    have hl := padN_len xs
    have hwl := wordsN_len (16 * nbk xs.length) (padN xs) (by omega)
    have hm := SN.mix_to (B := blkF (castL xs) i) (ws := ((wordsN (padN xs)).drop (16 * i)).take 16) (by simp [hwl]; omega) (fun j hj => by
      have e : (((wordsN (padN xs)).drop (16 * i)).take 16).getD j 0 = (wordsN (padN xs)).getD (16 * i + j) 0 := by
        simp only [List.getD_eq_getElem?_getD]
        rw [List.getElem?_take_of_lt hj, List.getElem?_drop]
      rw [e, wordsN_get (16 * nbk xs.length) (padN xs) (by omega) _ (by omega)]
      have hb := (padN_by h).get
      refine wd_N (hb _) (hb _) (hb _) (hb _) ?_ ?_ ?_ ?_
      all_goals
        unfold blkF
        rw [padN_get xs (by omega)]
        congr 2
        omega) ho
    have := goN_to h n (i + 1) _ (by omega) hm.2 (by rw [← hm.1, hs]; rfl)
    rw [show i + (n + 1) = i + 1 + n by omega, ← this]
    show (goN n _ (((wordsN (padN xs)).drop (16 * i)).drop 16)).to = _
    rw [List.drop_drop, show 16 * i + 16 = 16 * (i + 1) by omega]
/-- The digest of bytes, over naturals. -/
theorem sha_N {xs : List Nat} (h : ByN xs) : sha (castL xs) = castL (shaN xs) := by
  unfold sha shaN
  rw [← SN.out_to, castL_len]
  have := goN_to h (nbk xs.length) 0 ivN (by omega) ivN_ok ivN_to
  rw [Nat.zero_add] at this
  rw [← this]
  rfl
end Go.Proofs.YtjlodnecdngdfaaDoor
namespace Go.Proofs.YtjlodnecdngdfaaDoor
open Go.RowKit
set_option maxRecDepth 100000

/-- Bit i of a hash, the highest one first. -/
def bitI (K : List Int) (i : Nat) : Int := K.getD (i / 8) 0 / 2 ^ (7 - i % 8) % 2
/-- One level up, from level i + 1 to level i, with nothing beside. -/
def stp (K : List Int) (i : Nat) (h : List Int) : List Int := if bitI K i = 0 then abH h zero32 else abH zero32 h
/-- k levels up from the level f. -/
def upH (K : List Int) (f : Nat) (h : List Int) : Nat → List Int
  | 0 => h
  | k + 1 => stp K (f - 1 - k) (upH K f h k)
theorem stp_len (K : List Int) (i : Nat) (h : List Int) : (stp K i h).length = 32 := by unfold stp; split <;> exact abH_len _ _
theorem stp_bytes (K : List Int) (i : Nat) (h : List Int) : Bytes (stp K i h) := by unfold stp; split <;> exact abH_bytes _ _
theorem upH_len (K : List Int) (f : Nat) {h : List Int} (hh : h.length = 32) : ∀ k, (upH K f h k).length = 32
  | 0 => hh
  | _ + 1 => stp_len _ _ _
theorem upH_bytes (K : List Int) (f : Nat) {h : List Int} (hh : Bytes h) : ∀ k, Bytes (upH K f h k)
  | 0 => hh
  | _ + 1 => stp_bytes _ _ _
def upI (K : List Int) (f : Nat) : Nat → Nat → List Int → List Int
  | _, 0, h => h
  | k, n + 1, h => upI K f (k + 1) n (stp K (f - 1 - k) h)
theorem upH_add (K : List Int) (f : Nat) (h : List Int) : ∀ n k, upH K f h (k + n) = upI K f k n (upH K f h k)
  | 0, _ => rfl
  | n + 1, k => by
    rw [show k + (n + 1) = (k + 1) + n by omega, upH_add K f h n (k + 1)]
    rfl

/-! ### Over naturals -/
def z32N : List Nat := [0, 0, 0, 0, 0, 0, 0, 0, 0, 0, 0, 0, 0, 0, 0, 0, 0, 0, 0, 0, 0, 0, 0, 0, 0, 0, 0, 0, 0, 0, 0, 0]
theorem z32N_to : castL z32N = zero32 := by rfl
theorem z32N_by : ByN z32N := by
  intro x hx
  simp only [z32N, List.mem_cons, List.not_mem_nil, or_false, or_self] at hx
  omega
theorem castL_inj : ∀ {a b : List Nat}, castL a = castL b → a = b
  | [], [], _ => rfl
  | [], _ :: _, h => by simp [castL] at h
  | _ :: _, [], h => by simp [castL] at h
  | x :: a, y :: b, h => by
    simp only [castL, List.map_cons, List.cons.injEq] at h
    rw [castL_inj (a := a) (b := b) h.2, show x = y by omega]
def eqN : List Nat → List Nat → Bool
  | [], [] => true
  | a :: l, b :: m => cond (Nat.beq a b) (eqN l m) false
  | _, _ => false
theorem eqN_iff : ∀ {a b : List Nat}, eqN a b = true ↔ a = b
  | [], [] => by simp [eqN]
  | [], _ :: _ => by simp [eqN]
  | _ :: _, [] => by simp [eqN]
  | x :: a, y :: b => by
    have ih := eqN_iff (a := a) (b := b)
    by_cases e : x = y
    · subst e
      simp [eqN, ih]
    · have : Nat.beq x y = false := by
        rw [Bool.eq_false_iff]
        exact fun h => e (Nat.eq_of_beq_eq_true h)
      simp [eqN, this, e]
def frmN (t a b : List Nat) : List Nat := (t.length :: t) ++ ((be8N a.length ++ a) ++ (be8N b.length ++ b))
theorem frmN_to {s : ByteArray} {t : List Nat} (ht : sn s = castL t) (a b : List Nat) : frm (sn s) [castL a, castL b] = castL (frmN t a b) := by
  rw [ht]
  unfold frm frmN
  simp only [castL_app, castL_len, blobs, List.flatMap_cons, List.flatMap_nil, List.append_nil, be8_N]
  rfl
theorem be8N_by (n : Nat) : ByN (be8N n) := by
  intro x hx
  simp only [be8N, List.mem_cons, List.not_mem_nil, or_false] at hx
  rcases hx with rfl | rfl | rfl | rfl | rfl | rfl | rfl | rfl <;> exact Nat.mod_lt _ (by decide)
theorem ByN.app {a b : List Nat} (ha : ByN a) (hb : ByN b) : ByN (a ++ b) := by
  intro x hx
  rcases List.mem_append.1 hx with h | h
  · exact ha x h
  · exact hb x h
theorem frmN_by {t a b : List Nat} (ht : ByN t) (h255 : t.length < 256) (ha : ByN a) (hb : ByN b) : ByN (frmN t a b) := by
  refine ByN.app ?_ (((be8N_by _).app ha).app ((be8N_by _).app hb))
  intro x hx
  rcases List.mem_cons.1 hx with rfl | h
  · exact h255
  · exact ht x h
theorem be4N_by (n : Nat) : ByN (be4N n) := by
  intro x hx
  simp only [be4N, List.mem_cons, List.not_mem_nil, or_false] at hx
  rcases hx with rfl | rfl | rfl | rfl <;> exact Nat.mod_lt _ (by decide)
theorem shaN_by (xs : List Nat) : ByN (shaN xs) :=
  (((((((be4N_by _).app (be4N_by _)).app (be4N_by _)).app (be4N_by _)).app (be4N_by _)).app (be4N_by _)).app (be4N_by _)).app (be4N_by _)
def leafT : List Nat := [108, 101, 97, 102]
def pairT : List Nat := [112, 97, 105, 114]
theorem leafT_by : ByN leafT := by
  intro x hx
  simp only [leafT, List.mem_cons, List.not_mem_nil, or_false] at hx
  omega
theorem pairT_by : ByN pairT := by
  intro x hx
  simp only [pairT, List.mem_cons, List.not_mem_nil, or_false] at hx
  omega
def lfN (k v : List Nat) : List Nat := cond (eqN v z32N) z32N (shaN (frmN leafT k v))
def abN (a b : List Nat) : List Nat := cond (and (eqN a z32N) (eqN b z32N)) z32N (shaN (frmN pairT a b))
theorem eq_z32 (v : List Nat) : castL v = zero32 ↔ eqN v z32N = true := by
  rw [eqN_iff, ← z32N_to]
  exact ⟨castL_inj, fun h => by rw [h]⟩
theorem lfN_to {k v : List Nat} (hk : ByN k) (hv : ByN v) : lfH (castL k) (castL v) = castL (lfN k v) := by
  unfold lfH lfN
  by_cases h : eqN v z32N = true
  · rw [if_pos ((eq_z32 v).2 h), h]; exact z32N_to.symm
  · rw [if_neg (fun e => h ((eq_z32 v).1 e)), Bool.eq_false_iff.2 h, frmN_to (t := leafT) leaf_sn, sha_N (frmN_by leafT_by (by decide) hk hv)]
    rfl
theorem abN_to {a b : List Nat} (ha : ByN a) (hb : ByN b) : abH (castL a) (castL b) = castL (abN a b) := by
  unfold abH abN
  by_cases h : (and (eqN a z32N) (eqN b z32N)) = true
  · rw [h]
    rw [Bool.and_eq_true] at h
    rw [if_pos ⟨(eq_z32 a).2 h.1, (eq_z32 b).2 h.2⟩]
    exact z32N_to.symm
  · rw [if_neg (fun e => h (by rw [(eq_z32 a).1 e.1, (eq_z32 b).1 e.2]; rfl)), Bool.eq_false_iff.2 h, frmN_to (t := pairT) pair_sn, sha_N (frmN_by pairT_by (by decide) ha hb)]
    rfl
theorem abN_by (a b : List Nat) : ByN (abN a b) := by
  unfold abN
  cases and (eqN a z32N) (eqN b z32N)
  · exact shaN_by _
  · exact z32N_by
theorem lfN_by (k v : List Nat) : ByN (lfN k v) := by
  unfold lfN
  cases eqN v z32N
  · exact shaN_by _
  · exact z32N_by
def bitN (K : List Nat) (i : Nat) : Nat := Nat.mod (Nat.div (K.getD (i / 8) 0) (2 ^ (7 - i % 8))) 2
theorem bitN_to (K : List Nat) (i : Nat) : bitI (castL K) i = ((bitN K i : Nat) : Int) := by
  unfold bitI bitN
  rw [castL_get]
  show _ = ((K.getD (i / 8) 0 / 2 ^ (7 - i % 8) % 2 : Nat) : Int)
  rw [Int.natCast_emod, Int.natCast_ediv, Int.natCast_pow]
  rfl
def stpN (K : List Nat) (i : Nat) (h : List Nat) : List Nat := cond (Nat.beq (bitN K i) 0) (abN h z32N) (abN z32N h)
theorem stpN_to (K : List Nat) (i : Nat) {h : List Nat} (hh : ByN h) : stp (castL K) i (castL h) = castL (stpN K i h) := by
  unfold stp stpN
  rw [bitN_to, ← z32N_to, abN_to hh z32N_by, abN_to z32N_by hh]
  by_cases e : bitN K i = 0
  · rw [e]; rfl
  · rw [if_neg (by omega)]
    have : Nat.beq (bitN K i) 0 = false := by
      rw [Bool.eq_false_iff]
      exact fun h => e (Nat.eq_of_beq_eq_true h)
    rw [this]; rfl
theorem stpN_by (K : List Nat) (i : Nat) (h : List Nat) : ByN (stpN K i h) := by
  unfold stpN
  cases Nat.beq (bitN K i) 0 <;> exact abN_by _ _
def upN (K : List Nat) (f : Nat) : Nat → Nat → List Nat → List Nat
  | _, 0, h => h
  | k, n + 1, h => upN K f (k + 1) n (stpN K (f - 1 - k) h)
theorem upN_to (K : List Nat) (f : Nat) : ∀ n k {h : List Nat}, ByN h → upI (castL K) f k n (castL h) = castL (upN K f k n h) ∧ ByN (upN K f k n h)
  | 0, _, _, hh => ⟨rfl, hh⟩
  | n + 1, k, h, hh => by
    unfold upI upN
    rw [stpN_to K _ hh]
    exact upN_to K f n (k + 1) (stpN_by _ _ _)
/-- A further piece of the way, as the kernel reckoned it. -/
theorem up_more {K : List Nat} {f k n : Nat} {h : List Int} {a b : List Nat} (ha : upH (castL K) f h k = castL a ∧ ByN a) (hab : eqN (upN K f k n a) b = true) : upH (castL K) f h (k + n) = castL b ∧ ByN b := by
  have e := upN_to K f n k ha.2
  rw [eqN_iff.1 hab] at e
  exact ⟨by rw [upH_add, ha.1, e.1], e.2⟩
def k1N : List Nat := [1, 0, 0, 0, 0, 0, 0, 0, 0, 0, 0, 0, 0, 0, 0, 0, 0, 0, 0, 0, 0, 0, 0, 0, 0, 0, 0, 0, 0, 0, 0, 0]
def v2N : List Nat := [2, 0, 0, 0, 0, 0, 0, 0, 0, 0, 0, 0, 0, 0, 0, 0, 0, 0, 0, 0, 0, 0, 0, 0, 0, 0, 0, 0, 0, 0, 0, 0]
def rd0 : List Nat := [230, 229, 92, 170, 123, 30, 238, 46, 54, 112, 202, 237, 174, 145, 20, 36, 240, 231, 216, 209, 220, 222, 27, 30, 46, 86, 205, 164, 113, 153, 172, 249]
def rd1 : List Nat := [25, 239, 0, 162, 44, 12, 174, 186, 71, 4, 88, 74, 127, 17, 37, 124, 110, 106, 19, 44, 226, 245, 18, 86, 94, 205, 3, 254, 156, 235, 103, 85]
def rd2 : List Nat := [79, 138, 132, 187, 24, 192, 188, 176, 200, 111, 35, 115, 179, 123, 252, 173, 33, 69, 153, 138, 19, 239, 240, 12, 222, 137, 131, 83, 124, 70, 128, 26]
def rd3 : List Nat := [242, 253, 175, 213, 110, 4, 112, 42, 14, 132, 126, 125, 4, 63, 105, 63, 137, 132, 112, 177, 3, 195, 167, 43, 250, 121, 193, 164, 16, 218, 20, 66]
def rd4 : List Nat := [220, 194, 78, 75, 148, 177, 166, 211, 154, 192, 235, 99, 6, 145, 66, 198, 20, 7, 199, 101, 242, 165, 227, 74, 125, 50, 55, 27, 244, 188, 77, 158]
def rd5 : List Nat := [224, 140, 102, 57, 29, 138, 0, 136, 57, 138, 9, 80, 221, 188, 21, 83, 220, 37, 251, 255, 222, 77, 145, 237, 152, 188, 175, 208, 218, 166, 131, 35]
def rd6 : List Nat := [171, 41, 97, 128, 56, 191, 27, 76, 135, 61, 79, 43, 218, 129, 23, 239, 131, 11, 154, 186, 123, 52, 168, 157, 92, 208, 131, 20, 221, 200, 2, 182]
def rd7 : List Nat := [161, 139, 172, 96, 181, 146, 222, 124, 240, 218, 152, 141, 3, 150, 246, 28, 40, 37, 16, 10, 74, 165, 10, 21, 14, 162, 213, 79, 3, 114, 6, 190]
def rd8 : List Nat := [50, 144, 104, 165, 232, 128, 45, 255, 172, 234, 206, 52, 44, 79, 63, 187, 189, 36, 154, 37, 48, 174, 143, 96, 88, 13, 211, 147, 239, 73, 51, 205]
def rd9 : List Nat := [200, 58, 224, 59, 246, 176, 91, 181, 231, 71, 168, 191, 237, 241, 224, 196, 236, 209, 149, 35, 123, 74, 126, 74, 62, 74, 85, 138, 74, 178, 184, 119]
def rd10 : List Nat := [203, 225, 59, 251, 99, 112, 64, 203, 8, 117, 54, 253, 66, 105, 185, 141, 16, 3, 194, 39, 23, 88, 29, 160, 133, 207, 219, 99, 194, 206, 30, 236]
def rd11 : List Nat := [16, 10, 32, 3, 66, 159, 156, 181, 148, 117, 216, 109, 123, 236, 58, 90, 17, 11, 40, 210, 71, 163, 178, 100, 100, 182, 188, 151, 196, 126, 59, 239]
def rd12 : List Nat := [140, 40, 206, 227, 231, 74, 243, 254, 34, 35, 161, 184, 138, 69, 12, 218, 61, 72, 59, 196, 17, 255, 48, 64, 153, 147, 157, 47, 175, 8, 243, 13]
def rd13 : List Nat := [163, 51, 108, 154, 145, 72, 165, 60, 54, 108, 8, 190, 146, 251, 240, 79, 95, 35, 97, 71, 154, 95, 36, 109, 143, 63, 127, 228, 33, 244, 49, 186]
def rd14 : List Nat := [219, 253, 121, 90, 114, 203, 1, 120, 192, 3, 32, 22, 37, 200, 27, 90, 114, 50, 45, 36, 125, 164, 164, 254, 145, 58, 141, 12, 150, 214, 170, 33]
def rd15 : List Nat := [84, 249, 136, 209, 37, 104, 173, 203, 38, 61, 115, 193, 75, 162, 131, 132, 72, 145, 91, 136, 113, 109, 187, 75, 118, 106, 34, 75, 52, 93, 217, 34]
def rd16 : List Nat := [20, 73, 153, 86, 233, 54, 200, 240, 135, 61, 7, 183, 141, 95, 132, 96, 207, 134, 57, 108, 234, 115, 154, 208, 32, 229, 153, 198, 182, 24, 59, 102]
end Go.Proofs.YtjlodnecdngdfaaDoor
