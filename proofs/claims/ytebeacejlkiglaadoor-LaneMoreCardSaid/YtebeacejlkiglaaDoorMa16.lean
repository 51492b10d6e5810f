/-
  The strings that are digested for a list: of an item, of two hashes, of the top.; Rows of strings that are digested.
-/
import Derived.Test.YtebeacejlkiglaaDoorMa8
import Derived.Test.YtebeacejlkiglaaDoorMa11
namespace Go.Proofs.YtebeacejlkiglaaDoor
set_option maxRecDepth 100000
open Go.RowKit

set_option maxHeartbeats 2000000 in
theorem itemText_any {w : World} {n : Int} {v : Value} {xs : List Int} (h0 : 0 ≤ n) (h1 : n < 9223372036854775808) (hr : Rd w v xs) (hx : xs.length ≤ 1000000) :
    Calls Tryd.prog 55 #[.int .i64 n, v] w fun e w' => ∃ q m c, e = .returned (.slice q m c) ∧ FrS w w' (.slice q m c) (frm (sn itemS) [be8 n, xs]) m := by
  obtain ⟨qv, cv, rfl⟩ := hr.len
  have R1 := Lib.hid hr
  have hu : IntKind.u64.wrap n = n := by rw [IntKind.wrap_u64]; omega
  clear hr
  go_enter Tryd.func55, Tryd.ntmps55
  go_wp2_with fail
  refine (refUint_any n _).mono ?_
  rintro e w2 ⟨u, rfl, hu2⟩
  have ru := hu2.rd
  have hb2 := hu2.below
  obtain ⟨qu, cu, rfl⟩ := ru.len
  have ru' : Rd w2 (.slice qu 8 cu) (be8 n) := ru
  have HL0 := two_rdl ru' (R1.out.on hb2)
  have HL := Lib.hid HL0
  clear HL0 ru'
  simp only [be8_len]
  have B3 := Lib.hid (hb2.trans (((Below.refl w2.heap.size w2).alloc (Nat.le_refl _) (.cells #[.slice qu 8 cu, .slice qv xs.length cv] 42)).mono hb2.size))
  clear hu2 ru hb2 R1
  go_wp2_with fail
  refine (refFrame_any (s := itemS) (t := itemS) HL.out item_max cut_item (by rw [item_len]; omega)).mono ?_
  rintro e w4 ⟨qf, nf, cf, rfl, hfr⟩
  have HF : Hid (FrS w w4 (.slice qf nf cf) (frm (sn itemS) [be8 n, xs]) nf) := Lib.hid ⟨hfr.own, fun g hg => Nat.le_trans B3.out.size (hfr.fresh g hg), B3.out.trans (hfr.below.mono B3.out.size)⟩
  clear hfr
  go_wp2_with fail
  go_ret
  exact ⟨qf, nf, cf, rfl, HF.out⟩

set_option maxHeartbeats 4000000 in
theorem pairText_any {w : World} {A B : List Int} (hA : A.length = 32) (hB : B.length = 32)     :
    Calls Tryd.prog 56 #[.agg (hc A).toArray, .agg (hc B).toArray] w fun e w' => ∃ q m c, e = .returned (.slice q m c) ∧ FrS w w' (.slice q m c) (frm (sn pairS) [A, B]) m := by
  have LL := Lib.hid (pair_len hA hB)
  have HA := Lib.hid ((HashAt.new w A).alloc (.cells (hc B).toArray 36))
  have HB := Lib.hid ((HashAt.new (w.alloc (.cells (hc A).toArray 36)) B))
  have B0 := Lib.hid (((Below.refl w.heap.size w).alloc (Nat.le_refl _) (.cells (hc A).toArray 36)).alloc (by simp) (.cells (hc B).toArray 36))
  have hlA : (hc A).length = 32 := by rw [hc_len, hA]
  have hlB : (hc B).length = 32 := by rw [hc_len, hB]
  obtain ⟨i0, hi, hz0, hz1, hz2⟩ := info_parts Tryd.infoU8
  replace hi := Lib.hid hi
  replace hz0 := Lib.hid hz0
  replace hz1 := Lib.hid hz1
  replace hz2 := Lib.hid hz2
  replace hA := Lib.hid hA
  replace hB := Lib.hid hB
  go_enter Tryd.func56, Tryd.ntmps56
  go_wp2_with fail
  simp only [World.size_alloc] at HB
  generalize (w.alloc (.cells (hc A).toArray 36)).alloc (.cells (hc B).toArray 36) = W0 at *
  refine wp_region_held_drew (S := fun W => Below w.heap.size w W) (by kernel_rfl) (B0.out.drew) (fun h0 => ?_)
  have G0 : Below W0.heap.size W0 W0.drew := (Below.refl _ _).drew
  refine wpAnyH_take (i := 1) (v := ?_) (by rw [List.getElem?_toArray]; rfl) (by kernel_rfl) (by kernel_rfl) (by kernel_rfl) (by exact fun _ _ _ h => h) (Or.inl ⟨by rfl, ?_⟩) h0 ?_
  rotate_left
  · intro W hW
    go_simp
    all_goals with_reducible rfl
  try simp only [Act.put, List.setIfInBounds_toArray, List.set_cons_zero, List.set_cons_succ]
  refine wpAnyH_take (i := 4) (v := ?_) (by rw [List.getElem?_toArray]; rfl) (by kernel_rfl) (by kernel_rfl) (by kernel_rfl) (by exact fun _ _ _ h => h) (Or.inl ⟨by rfl, ?_⟩) h0 ?_
  rotate_left
  · intro W hW
    go_simp
    all_goals with_reducible rfl
  try simp only [Act.put, List.setIfInBounds_toArray, List.set_cons_zero, List.set_cons_succ]
  refine wpAnyH_ready (rs := [0, 3]) (by kernel_rfl) (by simp) ?_
  refine AllReadyH.cons (by rw [List.getElem?_toArray]; rfl) (fun K hK => ?_) (AllReadyH.cons (by rw [List.getElem?_toArray]; rfl) (fun K hK => ?_) AllReadyH.nil)
  · rw [if_pos (by rfl)]
    go_wp2_with fail
    have R1 := Lib.hid (FrS.born G0 (k := W0.heap.size) rfl)
    have G1 := G0.alloc G0.size (.cells #[] 5)
    refine hK.out _ _ (h0.alloc h0.size _) (fun h1 => ?_)
    clear hK K
    try simp only [Act.put, List.setIfInBounds_toArray, List.set_cons_zero, List.set_cons_succ]
    refine wpAnyH_ready (rs := [2, 3]) (by kernel_rfl) (by simp) ?_
    refine AllReadyH.cons (by rw [List.getElem?_toArray]; rfl) (fun K hK => ?_) (AllReadyH.cons (by rw [List.getElem?_toArray]; rfl) (fun K hK => ?_) AllReadyH.nil)
    · rw [if_pos (by rfl)]
      refine wp_append_row _ _ rfl Tryd.underlying42 hi.out hz0.out hz1.out hz2.out rfl R1.out.own (((HA.out.on G1).rd hA.out).src Tryd.underlying42) (by rw [hA.out]; unfold maxLen; omega) (by rw [hA.out]; omega) ?_
      intro q2 k2 w2 own2 grow2 fr2
      have R2 := Lib.hid (R1.out.grow own2 grow2 fr2)
      have G2 := R2.out.below
      clear own2 grow2 fr2
      refine hK.out _ _ (B0.out.trans (G2.mono B0.out.size)) (fun h2 => ?_)
      clear hK K
      try simp only [Act.put, List.setIfInBounds_toArray, List.set_cons_zero, List.set_cons_succ]
      refine wpAnyH_ready (rs := [3]) (by kernel_rfl) (by simp) ?_
      refine AllReadyH.cons (by rw [List.getElem?_toArray]; rfl) (fun K hK => ?_) AllReadyH.nil
      · rw [if_pos (by rfl)]
        go_wp2_with fail
        have R3 := Lib.hid (Two.ofA R2.out (k := w2.heap.size) rfl)
        have G3 := G2.alloc G2.size (.cells #[] 5)
        refine hK.out _ _ (h2.alloc h2.size _) (fun h3 => ?_)
        clear hK K
        try simp only [Act.put, List.setIfInBounds_toArray, List.set_cons_zero, List.set_cons_succ]
        refine wpAnyH_ready (rs := [5]) (by kernel_rfl) (by simp) ?_
        refine AllReadyH.cons (by rw [List.getElem?_toArray]; rfl) (fun K hK => ?_) AllReadyH.nil
        · rw [if_pos (by rfl)]
          refine wp_append_row _ _ rfl Tryd.underlying42 hi.out hz0.out hz1.out hz2.out rfl R3.out.b.own (((HB.out.on G3).rd hB.out).src Tryd.underlying42) (by rw [hB.out]; unfold maxLen; omega) (by rw [hB.out]; omega) ?_
          intro q4 k4 w4 own4 grow4 fr4
          have R4 := Lib.hid (R3.out.symm.growA own4 grow4 fr4).symm
          have G4 := R4.out.a.below
          clear own4 grow4 fr4
          refine hK.out _ _ (B0.out.trans (G4.mono B0.out.size)) (fun h4 => ?_)
          clear hK K
          try simp only [Act.put, List.setIfInBounds_toArray, List.set_cons_zero, List.set_cons_succ]
          refine wpAnyH_ready (rs := [6]) (by kernel_rfl) (by simp) ?_
          refine AllReadyH.cons (by rw [List.getElem?_toArray]; rfl) (fun K hK => ?_) AllReadyH.nil
          · rw [if_pos (by rfl)]
            go_wp2_with fail
            have RL := two_rdl R4.out.a.rd R4.out.b.rd
            simp only [List.nil_append, Nat.zero_add] at RL
            have RL2 := Lib.hid RL
            clear RL
            have G5 := G4.alloc G4.size (.cells #[.slice q2 A.length k2, .slice q4 B.length k4] 42)
            refine hK.out _ _ (h4.alloc h4.size _) (fun h5 => ?_)
            clear hK K
            try simp only [Act.put, List.setIfInBounds_toArray, List.set_cons_zero, List.set_cons_succ]
            refine wpAnyH_ready (rs := [7]) (by kernel_rfl) (by simp) ?_
            refine AllReadyH.cons (by rw [List.getElem?_toArray]; rfl) (fun K hK => ?_) AllReadyH.nil
            · rw [if_pos (by rfl)]
              go_wp2_with fail
              refine (refFrame_any (s := pairS) RL2.out (by decide) (cut_small (by decide)) (by rw [LL.out]; omega)).mono ?_
              rintro e w8 ⟨qf, nf, cf, rfl, hfr⟩
              have hb8 := hfr.below
              have hB8 : Below W0.heap.size W0 w8 := G5.trans (hb8.mono G5.size)
              have FF : Hid (FrS w w8 (.slice qf nf cf) (frm (sn pairS) [A, B]) nf) := Lib.hid ⟨hfr.own, fun g hg => by
                have h1 := hfr.fresh g hg
                have h2 := G5.size
                have h3 := B0.out.size
                omega, B0.out.trans (hB8.mono B0.out.size)⟩
              clear hfr
              go_wp2_with fail
              refine hK.out _ _ (h5.trans (hb8.mono h5.size)) (fun h6 => ?_)
              clear hK K
              try simp only [Act.put, List.setIfInBounds_toArray, List.set_cons_zero, List.set_cons_succ]
              refine wpAnyH_take (i := 8) (v := ?_) (by rw [List.getElem?_toArray]; rfl) (by kernel_rfl) (by kernel_rfl) (by kernel_rfl) (by exact fun _ _ _ h => h) (Or.inl ⟨by rfl, ?_⟩) h6 ?_
              rotate_left
              · intro W hW
                go_simp
                all_goals with_reducible rfl
              try simp only [Act.put, List.setIfInBounds_toArray, List.set_cons_zero, List.set_cons_succ]
              refine wpAnyH_done (by kernel_rfl) ?_ _
              go_wp2_with fail
              go_ret
              exact ⟨qf, nf, cf, rfl, FF.out⟩
    · rw [if_pos (by rfl)]
      go_wp2_with fail
      have R2 := Lib.hid (Two.ofA R1.out (k := W0.heap.size + 1) (by simp))
      have G2 := G1.alloc G1.size (.cells #[] 5)
      refine hK.out _ _ (h1.alloc h1.size _) (fun h2 => ?_)
      clear hK K
      try simp only [Act.put, List.setIfInBounds_toArray, List.set_cons_zero, List.set_cons_succ]
      refine wpAnyH_ready (rs := [2]) (by kernel_rfl) (by simp) ?_
      refine AllReadyH.cons (by rw [List.getElem?_toArray]; rfl) (fun K hK => ?_) AllReadyH.nil
      · rw [if_pos (by rfl)]
        refine wp_append_row _ _ rfl Tryd.underlying42 hi.out hz0.out hz1.out hz2.out rfl R2.out.a.own (((HA.out.on G2).rd hA.out).src Tryd.underlying42) (by rw [hA.out]; unfold maxLen; omega) (by rw [hA.out]; omega) ?_
        intro q3 k3 w3 own3 grow3 fr3
        have R3 := Lib.hid (R2.out.growA own3 grow3 fr3)
        have G3 := R3.out.a.below
        clear own3 grow3 fr3
        refine hK.out _ _ (B0.out.trans (G3.mono B0.out.size)) (fun h3 => ?_)
        clear hK K
        try simp only [Act.put, List.setIfInBounds_toArray, List.set_cons_zero, List.set_cons_succ]
        refine wpAnyH_ready (rs := [5]) (by kernel_rfl) (by simp) ?_
        refine AllReadyH.cons (by rw [List.getElem?_toArray]; rfl) (fun K hK => ?_) AllReadyH.nil
        · rw [if_pos (by rfl)]
          refine wp_append_row _ _ rfl Tryd.underlying42 hi.out hz0.out hz1.out hz2.out rfl R3.out.b.own (((HB.out.on G3).rd hB.out).src Tryd.underlying42) (by rw [hB.out]; unfold maxLen; omega) (by rw [hB.out]; omega) ?_
          intro q4 k4 w4 own4 grow4 fr4
          have R4 := Lib.hid (R3.out.symm.growA own4 grow4 fr4).symm
          have G4 := R4.out.a.below
          clear own4 grow4 fr4
          refine hK.out _ _ (B0.out.trans (G4.mono B0.out.size)) (fun h4 => ?_)
          clear hK K
          try simp only [Act.put, List.setIfInBounds_toArray, List.set_cons_zero, List.set_cons_succ]
          refine wpAnyH_ready (rs := [6]) (by kernel_rfl) (by simp) ?_
          refine AllReadyH.cons (by rw [List.getElem?_toArray]; rfl) (fun K hK => ?_) AllReadyH.nil
          · rw [if_pos (by rfl)]
            go_wp2_with fail
            have RL := two_rdl R4.out.a.rd R4.out.b.rd
            simp only [List.nil_append, Nat.zero_add] at RL
            have RL2 := Lib.hid RL
            clear RL
            have G5 := G4.alloc G4.size (.cells #[.slice q3 A.length k3, .slice q4 B.length k4] 42)
            refine hK.out _ _ (h4.alloc h4.size _) (fun h5 => ?_)
            clear hK K
            try simp only [Act.put, List.setIfInBounds_toArray, List.set_cons_zero, List.set_cons_succ]
            refine wpAnyH_ready (rs := [7]) (by kernel_rfl) (by simp) ?_
            refine AllReadyH.cons (by rw [List.getElem?_toArray]; rfl) (fun K hK => ?_) AllReadyH.nil
            · rw [if_pos (by rfl)]
              go_wp2_with fail
              refine (refFrame_any (s := pairS) RL2.out (by decide) (cut_small (by decide)) (by rw [LL.out]; omega)).mono ?_
              rintro e w8 ⟨qf, nf, cf, rfl, hfr⟩
              have hb8 := hfr.below
              have hB8 : Below W0.heap.size W0 w8 := G5.trans (hb8.mono G5.size)
              have FF : Hid (FrS w w8 (.slice qf nf cf) (frm (sn pairS) [A, B]) nf) := Lib.hid ⟨hfr.own, fun g hg => by
                have h1 := hfr.fresh g hg
                have h2 := G5.size
                have h3 := B0.out.size
                omega, B0.out.trans (hB8.mono B0.out.size)⟩
              clear hfr
              go_wp2_with fail
              refine hK.out _ _ (h5.trans (hb8.mono h5.size)) (fun h6 => ?_)
              clear hK K
              try simp only [Act.put, List.setIfInBounds_toArray, List.set_cons_zero, List.set_cons_succ]
              refine wpAnyH_take (i := 8) (v := ?_) (by rw [List.getElem?_toArray]; rfl) (by kernel_rfl) (by kernel_rfl) (by kernel_rfl) (by exact fun _ _ _ h => h) (Or.inl ⟨by rfl, ?_⟩) h6 ?_
              rotate_left
              · intro W hW
                go_simp
                all_goals with_reducible rfl
              try simp only [Act.put, List.setIfInBounds_toArray, List.set_cons_zero, List.set_cons_succ]
              refine wpAnyH_done (by kernel_rfl) ?_ _
              go_wp2_with fail
              go_ret
              exact ⟨qf, nf, cf, rfl, FF.out⟩
  · rw [if_pos (by rfl)]
    go_wp2_with fail
    have R1 := Lib.hid (FrS.born G0 (k := W0.heap.size) rfl)
    have G1 := G0.alloc G0.size (.cells #[] 5)
    refine hK.out _ _ (h0.alloc h0.size _) (fun h1 => ?_)
    clear hK K
    try simp only [Act.put, List.setIfInBounds_toArray, List.set_cons_zero, List.set_cons_succ]
    refine wpAnyH_ready (rs := [0]) (by kernel_rfl) (by simp) ?_
    refine AllReadyH.cons (by rw [List.getElem?_toArray]; rfl) (fun K hK => ?_) AllReadyH.nil
    · rw [if_pos (by rfl)]
      go_wp2_with fail
      have R2 := Lib.hid (Two.ofA R1.out (k := W0.heap.size + 1) (by simp)).symm
      have G2 := G1.alloc G1.size (.cells #[] 5)
      refine hK.out _ _ (h1.alloc h1.size _) (fun h2 => ?_)
      clear hK K
      try simp only [Act.put, List.setIfInBounds_toArray, List.set_cons_zero, List.set_cons_succ]
      refine wpAnyH_ready (rs := [2]) (by kernel_rfl) (by simp) ?_
      refine AllReadyH.cons (by rw [List.getElem?_toArray]; rfl) (fun K hK => ?_) AllReadyH.nil
      · rw [if_pos (by rfl)]
        refine wp_append_row _ _ rfl Tryd.underlying42 hi.out hz0.out hz1.out hz2.out rfl R2.out.a.own (((HA.out.on G2).rd hA.out).src Tryd.underlying42) (by rw [hA.out]; unfold maxLen; omega) (by rw [hA.out]; omega) ?_
        intro q3 k3 w3 own3 grow3 fr3
        have R3 := Lib.hid (R2.out.growA own3 grow3 fr3)
        have G3 := R3.out.a.below
        clear own3 grow3 fr3
        refine hK.out _ _ (B0.out.trans (G3.mono B0.out.size)) (fun h3 => ?_)
        clear hK K
        try simp only [Act.put, List.setIfInBounds_toArray, List.set_cons_zero, List.set_cons_succ]
        refine wpAnyH_ready (rs := [5]) (by kernel_rfl) (by simp) ?_
        refine AllReadyH.cons (by rw [List.getElem?_toArray]; rfl) (fun K hK => ?_) AllReadyH.nil
        · rw [if_pos (by rfl)]
          refine wp_append_row _ _ rfl Tryd.underlying42 hi.out hz0.out hz1.out hz2.out rfl R3.out.b.own (((HB.out.on G3).rd hB.out).src Tryd.underlying42) (by rw [hB.out]; unfold maxLen; omega) (by rw [hB.out]; omega) ?_
          intro q4 k4 w4 own4 grow4 fr4
          have R4 := Lib.hid (R3.out.symm.growA own4 grow4 fr4).symm
          have G4 := R4.out.a.below
          clear own4 grow4 fr4
          refine hK.out _ _ (B0.out.trans (G4.mono B0.out.size)) (fun h4 => ?_)
          clear hK K
          try simp only [Act.put, List.setIfInBounds_toArray, List.set_cons_zero, List.set_cons_succ]
          refine wpAnyH_ready (rs := [6]) (by kernel_rfl) (by simp) ?_
          refine AllReadyH.cons (by rw [List.getElem?_toArray]; rfl) (fun K hK => ?_) AllReadyH.nil
          · rw [if_pos (by rfl)]
            go_wp2_with fail
            have RL := two_rdl R4.out.a.rd R4.out.b.rd
            simp only [List.nil_append, Nat.zero_add] at RL
            have RL2 := Lib.hid RL
            clear RL
            have G5 := G4.alloc G4.size (.cells #[.slice q3 A.length k3, .slice q4 B.length k4] 42)
            refine hK.out _ _ (h4.alloc h4.size _) (fun h5 => ?_)
            clear hK K
            try simp only [Act.put, List.setIfInBounds_toArray, List.set_cons_zero, List.set_cons_succ]
            refine wpAnyH_ready (rs := [7]) (by kernel_rfl) (by simp) ?_
            refine AllReadyH.cons (by rw [List.getElem?_toArray]; rfl) (fun K hK => ?_) AllReadyH.nil
            · rw [if_pos (by rfl)]
              go_wp2_with fail
              refine (refFrame_any (s := pairS) RL2.out (by decide) (cut_small (by decide)) (by rw [LL.out]; omega)).mono ?_
              rintro e w8 ⟨qf, nf, cf, rfl, hfr⟩
              have hb8 := hfr.below
              have hB8 : Below W0.heap.size W0 w8 := G5.trans (hb8.mono G5.size)
              have FF : Hid (FrS w w8 (.slice qf nf cf) (frm (sn pairS) [A, B]) nf) := Lib.hid ⟨hfr.own, fun g hg => by
                have h1 := hfr.fresh g hg
                have h2 := G5.size
                have h3 := B0.out.size
                omega, B0.out.trans (hB8.mono B0.out.size)⟩
              clear hfr
              go_wp2_with fail
              refine hK.out _ _ (h5.trans (hb8.mono h5.size)) (fun h6 => ?_)
              clear hK K
              try simp only [Act.put, List.setIfInBounds_toArray, List.set_cons_zero, List.set_cons_succ]
              refine wpAnyH_take (i := 8) (v := ?_) (by rw [List.getElem?_toArray]; rfl) (by kernel_rfl) (by kernel_rfl) (by kernel_rfl) (by exact fun _ _ _ h => h) (Or.inl ⟨by rfl, ?_⟩) h6 ?_
              rotate_left
              · intro W hW
                go_simp
                all_goals with_reducible rfl
              try simp only [Act.put, List.setIfInBounds_toArray, List.set_cons_zero, List.set_cons_succ]
              refine wpAnyH_done (by kernel_rfl) ?_ _
              go_wp2_with fail
              go_ret
              exact ⟨qf, nf, cf, rfl, FF.out⟩

set_option maxHeartbeats 8000000 in
theorem topText_any {w : World} {n : Int} {F : List Int} (n0 : 0 ≤ n) (n1 : n < 9223372036854775808) (hF : F.length = 32) :
    Calls Tryd.prog 54 #[.int .i64 n, .agg (hc F).toArray] w fun e w' => ∃ q m c, e = .returned (.slice q m c) ∧ FrS w w' (.slice q m c) (frm (sn listS) [be8 n, F]) m := by
  obtain ⟨i0, hi, hz0, hz1, hz2⟩ := info_parts Tryd.infoU8
  replace hi := Lib.hid hi
  replace hz0 := Lib.hid hz0
  replace hz1 := Lib.hid hz1
  replace hz2 := Lib.hid hz2
  have b1 : Below w.heap.size w (w.alloc (.cells (hc F).toArray 36)) := (Below.refl _ _).alloc (Nat.le_refl _) _
  have HA := Lib.hid (HashAt.new w F)
  have B0 := Lib.hid b1
  have HF := Lib.hid hF
  have hu : IntKind.u64.wrap n = n := by rw [IntKind.wrap_u64]; omega
  clear b1 hF
  go_enter Tryd.func54, Tryd.ntmps54
  go_wp2_with fail
  generalize (w.alloc (.cells (hc F).toArray 36)) = W0 at *
  refine wp_region_held_drew (S := fun W => Below w.heap.size w W) (by kernel_rfl) (B0.out.drew) (fun h0 => ?_)
  refine wpAnyH_take (i := 0) (v := ?_) (by rw [List.getElem?_toArray]; rfl) (by kernel_rfl) (by kernel_rfl) (by kernel_rfl) (by exact fun _ _ _ h => h) (Or.inl ⟨by rfl, ?_⟩) h0 ?_
  rotate_left
  · intro W hW
    go_simp
    all_goals with_reducible rfl
  try simp only [Act.put, List.setIfInBounds_toArray, List.set_cons_zero, List.set_cons_succ]
  refine wpAnyH_take (i := 1) (v := ?_) (by rw [List.getElem?_toArray]; rfl) (by kernel_rfl) (by kernel_rfl) (by kernel_rfl) (by exact fun _ _ _ h => h) (Or.inl ⟨by rfl, ?_⟩) h0 ?_
  rotate_left
  · intro W hW
    have hu2 := hu
    go_simp
    all_goals with_reducible rfl
  try simp only [Act.put, List.setIfInBounds_toArray, List.set_cons_zero, List.set_cons_succ]
  refine wpAnyH_take (i := 4) (v := ?_) (by rw [List.getElem?_toArray]; rfl) (by kernel_rfl) (by kernel_rfl) (by kernel_rfl) (by exact fun _ _ _ h => h) (Or.inl ⟨by rfl, ?_⟩) h0 ?_
  rotate_left
  · intro W hW
    go_simp
    all_goals with_reducible rfl
  try simp only [Act.put, List.setIfInBounds_toArray, List.set_cons_zero, List.set_cons_succ]
  refine wpAnyH_ready (rs := [2, 3]) (by kernel_rfl) (by simp) ?_
  refine AllReadyH.cons (by rw [List.getElem?_toArray]; rfl) (fun K hK => ?_) (AllReadyH.cons (by rw [List.getElem?_toArray]; rfl) (fun K hK => ?_) AllReadyH.nil)
  · rw [if_pos (by rfl)]
    go_wp2_with fail
    refine (refUint_any n W0.drew).mono ?_
    rintro e w3 ⟨u, rfl, hN⟩
    have ru := hN.rd
    have hb3 := hN.below
    obtain ⟨qu, cu, rfl⟩ := ru.len
    have ru' : Rd w3 (.slice qu 8 cu) (be8 n) := ru
    have G3 : Hid (Below W0.heap.size W0 w3) := (Below.refl W0.heap.size W0).drew.trans hb3
    clear ru hN
    simp only [be8_len]
    go_wp2_with fail
    refine hK.out _ _ (B0.out.trans (G3.out.mono B0.out.size)) (fun h3 => ?_)
    clear hK K
    try simp only [Act.put, List.setIfInBounds_toArray, List.set_cons_zero, List.set_cons_succ]
    refine wpAnyH_ready (rs := [3]) (by kernel_rfl) (by simp) ?_
    refine AllReadyH.cons (by rw [List.getElem?_toArray]; rfl) (fun K hK => ?_) AllReadyH.nil
    rw [if_pos (by rfl)]
    have b5 : Below w3.heap.size w3 (w3.alloc (.cells #[] 5)) := (Below.refl _ _).alloc (Nat.le_refl _) _
    have RU := Lib.hid (ru'.on b5)
    have G5 := Lib.hid (G3.out.trans (b5.mono G3.out.size))
    have OW := Lib.hid (own_empty w3 5 1)
    have EB : Hid (W0.heap.size ≤ w3.heap.size) := G3.out.size
    have NE : Hid (∀ k, (Value.slice qu 8 cu).ownBlock = some k → k ≠ w3.heap.size) := fun k hk e => by
      have := ru'.lt (by simp [be8]) hk
      omega
    clear ru' b5
    go_wp2_with fail
    refine hK.out _ _ (B0.out.trans (G5.out.mono B0.out.size)) (fun h5 => ?_)
    clear hK K
    try simp only [Act.put, List.setIfInBounds_toArray, List.set_cons_zero, List.set_cons_succ]
    clear hb3 G3
    generalize hW5 : w3.alloc (.cells #[] 5) = w5 at *
    clear hW5
    generalize w3.heap.size = be at *
    refine wpAnyH_ready (rs := [5]) (by kernel_rfl) (by simp) ?_
    refine AllReadyH.cons (by rw [List.getElem?_toArray]; rfl) (fun K hK => ?_) AllReadyH.nil
    rw [if_pos (by rfl)]
    refine wp_append_row _ _ rfl Tryd.underlying42 hi.out hz0.out hz1.out hz2.out rfl OW.out (Rd.src (P := Tryd.prog) Tryd.underlying42 ((HA.out.on G5.out).rd HF.out)) ?b1 ?b2 ?_
    case b1 => rw [HF.out]; unfold maxLen; omega
    case b2 => rw [HF.out]; omega
    intro q6 k6 w6 own6' grow6' fr6
    have own6 : w6.ownsRow 0 5 1 (.slice q6 32 k6) 32 (bc F) := by have := own6'; simp only [HF.out, Nat.zero_add, List.nil_append] at this; exact this
    have grow6 : w5.grownBy w6 (Value.slice (some ⟨be, 0, none⟩) 0 0).ownBlock := grow6'
    simp only [HF.out, Nat.zero_add]
    have G6 : Hid (Below W0.heap.size W0 w6) := G5.out.grown grow6 G5.out.size (fun g hg => by simp [Value.ownBlock] at hg; have := EB.out; omega)
    have B6 : Hid (Below w.heap.size w w6) := Lib.hid (B0.out.trans (G6.out.mono B0.out.size))
    have RU6 : Hid (Rd w6 (.slice qu 8 cu) (be8 n)) := RU.out.chg (Chg.grown grow6 (S := [be]) (fun k hk => by simp [Value.ownBlock] at hk; simp [hk])) (fun _ k hk _ hm => by simp at hm; exact NE.out k hk hm)
    have RF6 := Lib.hid (rd_of_row own6)
    clear own6 own6' grow6 grow6' fr6
    refine hK.out _ _ (B6.out) (fun h6 => ?_)
    clear hK K
    try simp only [Act.put, List.setIfInBounds_toArray, List.set_cons_zero, List.set_cons_succ]
    refine wpAnyH_ready (rs := [6]) (by kernel_rfl) (by simp) ?_
    refine AllReadyH.cons (by rw [List.getElem?_toArray]; rfl) (fun K hK => ?_) AllReadyH.nil
    rw [if_pos (by rfl)]
    have HL0 := two_rdl RU6.out RF6.out
    have HL := Lib.hid HL0
    have b7 : Below w6.heap.size w6 (w6.alloc (.cells #[.slice qu 8 cu, .slice q6 32 k6] 42)) := (Below.refl _ _).alloc (Nat.le_refl _) _
    have G7 := Lib.hid (G6.out.trans (b7.mono G6.out.size))
    have B7 := Lib.hid (B6.out.trans (b7.mono B6.out.size))
    clear HL0 b7
    go_wp2_with fail
    refine hK.out _ _ (B7.out) (fun h7 => ?_)
    clear hK K
    try simp only [Act.put, List.setIfInBounds_toArray, List.set_cons_zero, List.set_cons_succ]
    refine wpAnyH_ready (rs := [7]) (by kernel_rfl) (by simp) ?_
    refine AllReadyH.cons (by rw [List.getElem?_toArray]; rfl) (fun K hK => ?_) AllReadyH.nil
    rw [if_pos (by rfl)]
    go_wp2_with fail
    refine (refFrame_any (s := listS) (t := listS) HL.out list_max cut_list (by rw [list_len, HF.out]; omega)).mono ?_
    rintro e w8 ⟨qf, nf, cf, rfl, hfr⟩
    have hb8 := hfr.below
    have B8 := Lib.hid (B7.out.trans (hb8.mono B7.out.size))
    have FF : Hid (FrS w w8 (.slice qf nf cf) (frm (sn listS) [be8 n, F]) nf) := Lib.hid ⟨hfr.own, fun g hg => Nat.le_trans B7.out.size (hfr.fresh g hg), B8.out⟩
    clear hfr hb8
    go_wp2_with fail
    refine hK.out _ _ (B8.out) (fun h8 => ?_)
    clear hK K
    try simp only [Act.put, List.setIfInBounds_toArray, List.set_cons_zero, List.set_cons_succ]
    refine wpAnyH_take (i := 8) (v := ?_) (by rw [List.getElem?_toArray]; rfl) (by kernel_rfl) (by kernel_rfl) (by kernel_rfl) (by exact fun _ _ _ h => h) (Or.inl ⟨by rfl, ?_⟩) h8 ?_
    rotate_left
    · intro W hW
      go_simp
      all_goals with_reducible rfl
    try simp only [Act.put, List.setIfInBounds_toArray, List.set_cons_zero, List.set_cons_succ]
    refine wpAnyH_done (by kernel_rfl) ?_ _
    go_wp2_with fail
    go_ret
    exact ⟨qf, nf, cf, rfl, FF.out⟩
  · rw [if_pos (by rfl)]
    have b3 : Below W0.heap.size W0 (W0.alloc (.cells #[] 5)).drew := ((Below.refl W0.heap.size W0).alloc (Nat.le_refl _) _).drew
    have G3 := Lib.hid b3
    clear b3
    go_wp2_with fail
    refine hK.out _ _ (B0.out.trans (G3.out.mono B0.out.size)) (fun h3 => ?_)
    clear hK K
    try simp only [Act.put, List.setIfInBounds_toArray, List.set_cons_zero, List.set_cons_succ]
    refine wpAnyH_ready (rs := [2]) (by kernel_rfl) (by simp) ?_
    refine AllReadyH.cons (by rw [List.getElem?_toArray]; rfl) (fun K hK => ?_) AllReadyH.nil
    rw [if_pos (by rfl)]
    go_wp2_with fail
    refine (refUint_any n (W0.alloc (.cells #[] 5)).drew).mono ?_
    rintro e w5 ⟨u, rfl, hN⟩
    have ru := hN.rd
    have hb5 := hN.below
    obtain ⟨qu, cu, rfl⟩ := ru.len
    have ru' : Rd w5 (.slice qu 8 cu) (be8 n) := ru
    have RU := Lib.hid ru'
    have G5 := Lib.hid (G3.out.trans (hb5.mono G3.out.size))
    have OW0 : (W0.alloc (.cells #[] 5)).drew.ownsRow 0 5 1 (.slice (some ⟨W0.heap.size, 0, none⟩) 0 0) 0 [] := own_empty W0 5 1
    have OW := Lib.hid (own_on OW0 hb5)
    have EB : Hid (W0.heap.size ≤ W0.heap.size) := Nat.le_refl _
    have NE : Hid (∀ k, (Value.slice qu 8 cu).ownBlock = some k → k ≠ W0.heap.size) := fun k hk e => by
      have := hN.fresh k hk
      simp at this
      omega
    clear ru ru' hN hb5 OW0
    simp only [be8_len]
    go_wp2_with fail
    refine hK.out _ _ (B0.out.trans (G5.out.mono B0.out.size)) (fun h5 => ?_)
    clear hK K
    try simp only [Act.put, List.setIfInBounds_toArray, List.set_cons_zero, List.set_cons_succ]
    clear G3
    refine wpAnyH_ready (rs := [5]) (by kernel_rfl) (by simp) ?_
    refine AllReadyH.cons (by rw [List.getElem?_toArray]; rfl) (fun K hK => ?_) AllReadyH.nil
    rw [if_pos (by rfl)]
    refine wp_append_row _ _ rfl Tryd.underlying42 hi.out hz0.out hz1.out hz2.out rfl OW.out (Rd.src (P := Tryd.prog) Tryd.underlying42 ((HA.out.on G5.out).rd HF.out)) ?b1 ?b2 ?_
    case b1 => rw [HF.out]; unfold maxLen; omega
    case b2 => rw [HF.out]; omega
    intro q6 k6 w6 own6' grow6' fr6
    have own6 : w6.ownsRow 0 5 1 (.slice q6 32 k6) 32 (bc F) := by have := own6'; simp only [HF.out, Nat.zero_add, List.nil_append] at this; exact this
    have grow6 : w5.grownBy w6 (Value.slice (some ⟨W0.heap.size, 0, none⟩) 0 0).ownBlock := grow6'
    simp only [HF.out, Nat.zero_add]
    have G6 : Hid (Below W0.heap.size W0 w6) := G5.out.grown grow6 G5.out.size (fun g hg => by simp [Value.ownBlock] at hg; have := EB.out; omega)
    have B6 : Hid (Below w.heap.size w w6) := Lib.hid (B0.out.trans (G6.out.mono B0.out.size))
    have RU6 : Hid (Rd w6 (.slice qu 8 cu) (be8 n)) := RU.out.chg (Chg.grown grow6 (S := [W0.heap.size]) (fun k hk => by simp [Value.ownBlock] at hk; simp [hk])) (fun _ k hk _ hm => by simp at hm; exact NE.out k hk hm)
    have RF6 := Lib.hid (rd_of_row own6)
    clear own6 own6' grow6 grow6' fr6
    refine hK.out _ _ (B6.out) (fun h6 => ?_)
    clear hK K
    try simp only [Act.put, List.setIfInBounds_toArray, List.set_cons_zero, List.set_cons_succ]
    refine wpAnyH_ready (rs := [6]) (by kernel_rfl) (by simp) ?_
    refine AllReadyH.cons (by rw [List.getElem?_toArray]; rfl) (fun K hK => ?_) AllReadyH.nil
    rw [if_pos (by rfl)]
    have HL0 := two_rdl RU6.out RF6.out
    have HL := Lib.hid HL0
    have b7 : Below w6.heap.size w6 (w6.alloc (.cells #[.slice qu 8 cu, .slice q6 32 k6] 42)) := (Below.refl _ _).alloc (Nat.le_refl _) _
    have G7 := Lib.hid (G6.out.trans (b7.mono G6.out.size))
    have B7 := Lib.hid (B6.out.trans (b7.mono B6.out.size))
    clear HL0 b7
    go_wp2_with fail
    refine hK.out _ _ (B7.out) (fun h7 => ?_)
    clear hK K
    try simp only [Act.put, List.setIfInBounds_toArray, List.set_cons_zero, List.set_cons_succ]
    refine wpAnyH_ready (rs := [7]) (by kernel_rfl) (by simp) ?_
    refine AllReadyH.cons (by rw [List.getElem?_toArray]; rfl) (fun K hK => ?_) AllReadyH.nil
    rw [if_pos (by rfl)]
    go_wp2_with fail
    refine (refFrame_any (s := listS) (t := listS) HL.out list_max cut_list (by rw [list_len, HF.out]; omega)).mono ?_
    rintro e w8 ⟨qf, nf, cf, rfl, hfr⟩
    have hb8 := hfr.below
    have B8 := Lib.hid (B7.out.trans (hb8.mono B7.out.size))
    have FF : Hid (FrS w w8 (.slice qf nf cf) (frm (sn listS) [be8 n, F]) nf) := Lib.hid ⟨hfr.own, fun g hg => Nat.le_trans B7.out.size (hfr.fresh g hg), B8.out⟩
    clear hfr hb8
    go_wp2_with fail
    refine hK.out _ _ (B8.out) (fun h8 => ?_)
    clear hK K
    try simp only [Act.put, List.setIfInBounds_toArray, List.set_cons_zero, List.set_cons_succ]
    refine wpAnyH_take (i := 8) (v := ?_) (by rw [List.getElem?_toArray]; rfl) (by kernel_rfl) (by kernel_rfl) (by kernel_rfl) (by exact fun _ _ _ h => h) (Or.inl ⟨by rfl, ?_⟩) h8 ?_
    rotate_left
    · intro W hW
      go_simp
      all_goals with_reducible rfl
    try simp only [Act.put, List.setIfInBounds_toArray, List.set_cons_zero, List.set_cons_succ]
    refine wpAnyH_done (by kernel_rfl) ?_ _
    go_wp2_with fail
    go_ret
    exact ⟨qf, nf, cf, rfl, FF.out⟩
end Go.Proofs.YtebeacejlkiglaaDoor
namespace Go.Proofs.YtebeacejlkiglaaDoor
set_option maxRecDepth 100000
open Go.RowKit

/-- A row of strings that the call lays. -/
structure TxS (w wr : World) (v : Value) (TL : List (List Int)) : Prop where
  ex : ∃ vs : List Value, wr.ownsRow 0 42 1 v TL.length vs ∧ ∀ i u, vs[i]? = some u → wr.ownsRow 0 5 1 u (TL.getD i []).length (bc (TL.getD i []))
  fresh : ∀ g, v.ownBlock = some g → w.heap.size ≤ g
  below : Below w.heap.size w wr
  ok : ∀ b ∈ TL, Bytes b ∧ b.length ≤ 2000000
theorem TxS.start (w : World) : TxS w w (.slice none 0 0) [] := ⟨⟨[], World.ownsRow_nil w 0 _ 1, by simp⟩, by simp [Value.ownBlock], Below.refl _ _, fun _ h => by cases h⟩
theorem TxS.on {w wr w1 : World} {v : Value} {TL : List (List Int)} (h : TxS w wr v TL) (hb : Below wr.heap.size wr w1) : TxS w w1 v TL := by
  obtain ⟨vs, h1, h2⟩ := h.ex
  exact ⟨⟨vs, own_on h1 hb, fun i u hu => own_on (h2 i u hu) hb⟩, h.fresh, h.below.trans (hb.mono h.below.size), h.ok⟩
theorem src_one {P : Program} {tx e' : TypeId} (hk : P.underlying tx = some (.slice e')) (W : World) (q : Option Addr) (n c : Nat) : Src P 1 tx (.slice (some ⟨W.heap.size, 0, none⟩) 1 1) 1 [.slice q n c] (W.alloc (.cells #[.slice q n c] 42)) := by
  refine Src.ofSlice _ hk _ _ _ _ rfl (fun j u hu => ?_) (fun u hu => ?_)
  · rw [addr_add, Nat.zero_add, Joins.cell_of_block (heap_alloc_new W _)]
    simpa using hu
  · obtain rfl := List.mem_singleton.1 hu
    rfl
theorem getD_push {TL : List (List Int)} {xs : List Int} {i : Nat} : (TL ++ [xs]).getD i [] = if i < TL.length then TL.getD i [] else if i = TL.length then xs else [] := by
  by_cases h : i < TL.length
  · rw [if_pos h]; simp [List.getD, List.getElem?_append_left h]
  · rw [if_neg h]
    by_cases h2 : i = TL.length
    · rw [if_pos h2]; subst h2; simp [List.getD]
    · rw [if_neg h2]; simp [List.getD, List.getElem?_eq_none (show (TL ++ [xs]).length ≤ i by simp; omega)]
theorem TxS.push {w w3 : World} {v : Value} {TL : List (List Int)} (h : TxS w w3 v TL) {u : Value} {xs : List Int} (hu : w3.ownsRow 0 5 1 u xs.length (bc xs)) (bx : Bytes xs) (lx : xs.length ≤ 2000000) :
    ∃ vs, (w3.alloc (.cells #[u] 42)).ownsRow 0 42 1 v TL.length vs ∧ ∀ (w5 : World) (v' : Value), w5.ownsRow 0 42 1 v' (TL.length + 1) (vs ++ [u]) → (w3.alloc (.cells #[u] 42)).grownBy w5 v.ownBlock → (v'.ownBlock = v.ownBlock ∨ v'.ownBlock = some (w3.alloc (.cells #[u] 42)).heap.size) → TxS w w5 v' (TL ++ [xs]) := by
  obtain ⟨vs, h1, h2⟩ := h.ex
  have b4 : Below w3.heap.size w3 (w3.alloc (.cells #[u] 42)) := (Below.refl _ _).alloc (Nat.le_refl _) _
  have o4 := own_on h1 b4
  have hvl : vs.length = TL.length := by have := h1.1; omega
  refine ⟨vs, o4, fun w5 v' own grow fr => ?_⟩
  have hc : Chg (w3.alloc (.cells #[u] 42)) w5 v.ownBlock.toList := Chg.grown grow (fun g hg => by simp [hg])
  have keep : ∀ {x : Value} {m : Nat} {ys : List Value}, (w3.alloc (.cells #[u] 42)).ownsRow 0 5 1 x m ys → w5.ownsRow 0 5 1 x m ys := fun hx =>
    own_chg2 hx hc (fun g hg hm => own_two hx o4 (by decide) hg (by simpa using hm))
  refine ⟨⟨vs ++ [u], by rw [List.length_append]; exact own, fun i x hx => ?_⟩, fun g hg => ?_, ?_, fun b hb => ?_⟩
  · rw [getD_push]
    by_cases hi : i < TL.length
    · rw [if_pos hi]
      rw [List.getElem?_append_left (by omega)] at hx
      exact keep (own_on (h2 i x hx) b4)
    · rw [if_neg hi]
      rw [List.getElem?_append_right (by omega), hvl] at hx
      have hi0 : i = TL.length := by
        have := (List.getElem?_eq_some_iff.1 hx).1
        simp at this
        omega
      subst hi0
      rw [if_pos rfl]
      obtain rfl : u = x := by simpa using hx
      exact keep (own_on hu b4)
  · have h3 := h.below.size
    have h4 := b4.size
    rcases fr with e | e
    · exact h.fresh g (by rw [← e]; exact hg)
    · rw [e] at hg; simp only [Option.some.injEq] at hg; omega
  · refine (h.below.trans (b4.mono h.below.size)).trans (hc.toBelow ?_ ?_)
    · have := b4.size; have := h.below.size; omega
    · intro g hg; exact h.fresh g (by simpa using hg)
  · rcases List.mem_append.1 hb with hb | hb
    · exact h.ok b hb
    · obtain rfl := List.mem_singleton.1 hb
      exact ⟨bx, lx⟩
theorem TxS.rdl {w w' : World} {v : Value} {TL : List (List Int)} (h : TxS w w' v TL) : RdL w' v TL [] := by
  obtain ⟨vs, h1, h2⟩ := h.ex
  have hvl : vs.length = TL.length := by have := h1.1; omega
  rcases h1.2 with ⟨rfl, h0⟩ | ⟨g, cap, cur, rfl, _, hg, _, _, _, htake⟩
  · have : TL = [] := List.eq_nil_of_length_eq_zero h0
    subst this
    exact ⟨none, 0, rfl, .inl rfl⟩
  · refine ⟨_, cap, rfl, .inr ⟨g, 0, rfl, by simp, fun i hi => ?_⟩⟩
    have hv : i < vs.length := by omega
    refine ⟨vs[i], ?_, ?_, by simp⟩
    · have := h1.cells (g := g) rfl i vs[i] (by simp [hv])
      rw [addr_add] at this
      exact this
    · exact rd_of_row (h2 i vs[i] (by simp [hv]))
theorem TxS.len {w w' : World} {v : Value} {TL : List (List Int)} (h : TxS w w' v TL) : ∃ q c, v = .slice q TL.length c := by
  obtain ⟨q, c, e, _⟩ := h.rdl
  exact ⟨q, c, e⟩
/-- Two rows, one behind the other. -/
theorem TxS.app {P : Program} {tx e' : TypeId} (hk : P.underlying tx = some (.slice e')) {wa wb w2 : World} {v1 v2 : Value} {T1 T2 : List (List Int)} (h1 : TxS wa w2 v1 T1) (h2 : TxS wb w2 v2 T2) :
    ∃ vs1 vs2, w2.ownsRow 0 42 1 v1 T1.length vs1 ∧ Src P 1 tx v2 T2.length vs2 w2 ∧ ∀ (w5 : World) (v' : Value), w5.ownsRow 0 42 1 v' (T1.length + T2.length) (vs1 ++ vs2) → w2.grownBy w5 v1.ownBlock → RdL w5 v' (T1 ++ T2) [] ∧ Below wa.heap.size wa w5 := by
  obtain ⟨vs1, a1, a2⟩ := h1.ex
  obtain ⟨vs2, b1, b2⟩ := h2.ex
  have l1 : vs1.length = T1.length := by have := a1.1; omega
  have l2 : vs2.length = T2.length := by have := b1.1; omega
  have hone : ∀ u ∈ vs2, u.oneCell' = true := fun u hu => by
    obtain ⟨i, hi, e⟩ := List.getElem_of_mem hu
    obtain ⟨q, c, rfl⟩ := own_slice (b2 i u (by rw [← e]; simp [hi]))
    rfl
  refine ⟨vs1, vs2, a1, ?_, fun w5 v' own grow => ?_⟩
  · rcases b1.2 with ⟨e, h0⟩ | ⟨g, cap, cur, e, _, hg, _, _, _, _⟩
    · have e2 : vs2 = [] := List.eq_nil_of_length_eq_zero (by omega)
      subst e e2
      rw [h0]
      exact Src.ofNil w2 hk 0
    · subst e
      exact Src.ofSlice w2 hk _ _ _ _ (by omega) (b1.cells (g := g) rfl) hone
  · have hc : Chg w2 w5 v1.ownBlock.toList := Chg.grown grow (fun g hg => by simp [hg])
    have keep : ∀ {x : Value} {m : Nat} {ys : List Value}, w2.ownsRow 0 5 1 x m ys → w5.ownsRow 0 5 1 x m ys := fun hx =>
      own_chg2 hx hc (fun g hg hm => own_two hx a1 (by decide) hg (by simpa using hm))
    refine ⟨?_, h1.below.trans (hc.toBelow h1.below.size (fun g hg => h1.fresh g (by simpa using hg)))⟩
    have hl : (T1 ++ T2).length = T1.length + T2.length := List.length_append
    have each : ∀ i u, (vs1 ++ vs2)[i]? = some u → Rd w5 u ((T1 ++ T2).getD i []) := fun i u hu => by
      by_cases hi : i < T1.length
      · rw [List.getElem?_append_left (by omega)] at hu
        have e : (T1 ++ T2).getD i [] = T1.getD i [] := by simp [List.getD, List.getElem?_append_left hi]
        rw [e]
        exact rd_of_row (keep (a2 i u hu))
      · rw [List.getElem?_append_right (by omega), l1] at hu
        have e : (T1 ++ T2).getD i [] = T2.getD (i - T1.length) [] := by simp [List.getD, List.getElem?_append_right (show T1.length ≤ i by omega)]
        rw [e]
        exact rd_of_row (keep (b2 _ u hu))
    rcases own.2 with ⟨rfl, h0⟩ | ⟨g, cap, cur, rfl, _, hg, _, _, _, htake⟩
    · have : T1 ++ T2 = [] := List.eq_nil_of_length_eq_zero (by omega)
      rw [this]
      exact ⟨none, 0, rfl, .inl rfl⟩
    · refine ⟨_, cap, by rw [hl], .inr ⟨g, 0, rfl, by simp, fun i hi => ?_⟩⟩
      have hv : i < (vs1 ++ vs2).length := by rw [List.length_append]; omega
      refine ⟨(vs1 ++ vs2)[i], ?_, each i _ (by simp), by simp⟩
      have := own.cells (g := g) rfl i (vs1 ++ vs2)[i] (by simp)
      rw [addr_add] at this
      exact this

/-- A row of strings, and a level. -/
structure TvS (w wr : World) (v : Value) (TL : List (List Int)) (q : Option Addr) (Ss : List (List Int)) : Prop where
  tx : TxS w wr v TL
  rd : RdHs wr q Ss
  ok : HsOk Ss
  nb : Ss ≠ [] → ∀ a g, q = some a → v.ownBlock = some g → a.block ≠ g
theorem TxS.lt {w wr : World} {v : Value} {TL : List (List Int)} (h : TxS w wr v TL) {g : Nat} (hg : v.ownBlock = some g) : g < wr.heap.size := by
  obtain ⟨vs, h1, _⟩ := h.ex
  exact own_lt h1 hg
theorem TvS.born {w wr w1 : World} {v : Value} {TL : List (List Int)} {q : Option Addr} {Ss : List (List Int)} (h : TxS w wr v TL) (hb : Below wr.heap.size wr w1) (hr : RdHs w1 q Ss) (ok : HsOk Ss) (hq : ∀ a, q = some a → wr.heap.size ≤ a.block) : TvS w w1 v TL q Ss :=
  ⟨h.on hb, hr, ok, fun _ a g ha hg => by have := hq a ha; have := h.lt hg; omega⟩
theorem TvS.on {w wr w1 : World} {v : Value} {TL : List (List Int)} {q : Option Addr} {Ss : List (List Int)} (h : TvS w wr v TL q Ss) (hb : Below wr.heap.size wr w1) : TvS w w1 v TL q Ss :=
  ⟨h.tx.on hb, h.rd.on (fun i hi => (h.ok.get i hi).1) hb, h.ok, h.nb⟩
theorem TvS.push {w w3 : World} {v : Value} {TL : List (List Int)} {q : Option Addr} {Ss : List (List Int)} (h : TvS w w3 v TL q Ss) {u : Value} {xs : List Int} (hu : w3.ownsRow 0 5 1 u xs.length (bc xs)) (bx : Bytes xs) (lx : xs.length ≤ 2000000) :
    ∃ vs, (w3.alloc (.cells #[u] 42)).ownsRow 0 42 1 v TL.length vs ∧ ∀ (w5 : World) (v' : Value), w5.ownsRow 0 42 1 v' (TL.length + 1) (vs ++ [u]) → (w3.alloc (.cells #[u] 42)).grownBy w5 v.ownBlock → (v'.ownBlock = v.ownBlock ∨ v'.ownBlock = some (w3.alloc (.cells #[u] 42)).heap.size) → TvS w w5 v' (TL ++ [xs]) q Ss := by
  obtain ⟨vs, o4, push⟩ := h.tx.push hu bx lx
  refine ⟨vs, o4, fun w5 v' own grow fr => ?_⟩
  have b4 : Below w3.heap.size w3 (w3.alloc (.cells #[u] 42)) := (Below.refl _ _).alloc (Nat.le_refl _) _
  have hc : Chg (w3.alloc (.cells #[u] 42)) w5 v.ownBlock.toList := Chg.grown grow (fun g hg => by simp [hg])
  have h4 := h.on b4
  refine ⟨push w5 v' own grow fr, h4.rd.chg (fun i hi => (h.ok.get i hi).1) hc (fun hne b off e hm => h.nb hne _ _ e (by simpa using hm) rfl), h.ok, fun hne a g ha hg e => ?_⟩
  rcases fr with e' | e'
  · rw [e'] at hg; exact h.nb hne a g ha hg e
  · rw [e'] at hg
    simp only [Option.some.injEq] at hg
    obtain ⟨b', off', e2', h1, -⟩ := h4.rd.blk h.ok hne
    rw [ha] at e2'
    simp only [Option.some.injEq] at e2'
    subst e2'
    simp only at e
    omega
end Go.Proofs.YtebeacejlkiglaaDoor
