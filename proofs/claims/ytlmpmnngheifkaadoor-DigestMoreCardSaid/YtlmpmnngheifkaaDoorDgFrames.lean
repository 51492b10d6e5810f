/-
  DigestFrames returns true for all tags, lists of parts and hashes, and leaves its arguments: any frame of at most 20000 bytes, and its digest.
-/
import Derived.Test.YtlmpmnngheifkaaDoorDgApart
import Derived.Test.YtlmpmnngheifkaaDoorPair
namespace Go.Proofs.YtlmpmnngheifkaaDoor
open Go.RowKit
set_option maxRecDepth 100000

/-- What the loop reckons. -/
def Tot (L : List (List Int)) (i t : Nat) : Prop := t ≤ 50000 ∧ (t ≤ 20000 → (blobs (L.take i)).length = 8 * i + t)
theorem Tot.zero (L : List (List Int)) : Tot L 0 0 := ⟨by omega, fun _ => by simp [blobs]⟩
theorem Tot.succ {L : List (List Int)} {i t : Nat} (h : Tot L i t) (hi : i < L.length) (ht : t ≤ 20000) : Tot L (i + 1) (t + min (L.getD i []).length 30000) := by
  refine ⟨by omega, fun h2 => ?_⟩
  rw [blobs_len hi, h.2 ht]
  omega

set_option maxHeartbeats 8000000 in
theorem Frames_walk {w : World} {s : ByteArray} {v : Value} {L : List (List Int)} {A B : List Int} (hs : s.size ≤ maxLen) (hL : RdL w v L []) (bL : ∀ b ∈ L, Bytes b) (hA : A.length = 32) (hB : B.length = 32) (bA : Bytes A) (bB : Bytes B) (hln : L.length ≤ maxLen) (hT : Tbl w) :
    Calls Tryd.prog 5 #[.string s, v, .agg (hc A).toArray, .agg (hc B).toArray] w fun e w' => e = .returned (.bool true) ∧ Below w.heap.size w w' := by
  unfold maxLen at hln
  obtain ⟨q, c, rfl⟩ : ∃ q c, v = .slice q L.length c := by obtain ⟨q, c, e, _⟩ := hL; exact ⟨q, c, e⟩
  have HA := Lib.hid ((HashAt.new w A).alloc (.cells (hc B).toArray 26))
  have HB1 := Lib.hid (HashAt.new (w.alloc (.cells (hc A).toArray 26)) B)
  have B0 := Lib.hid (((Below.refl w.heap.size w).alloc (Nat.le_refl _) (.cells (hc A).toArray 26)).alloc (by simp) (.cells (hc B).toArray 26))
  have hlA : (hc A).length = 32 := by rw [hc_len, hA]
  have hlB : (hc B).length = 32 := by rw [hc_len, hB]
  have HL := Lib.hid (hL.onb B0.out)
  have HT := Lib.hid (hT.on B0.out hT.pos)
  have hss := hs
  unfold maxLen at hss
  replace hs := Lib.hid hs
  replace hA := Lib.hid hA
  replace hB := Lib.hid hB
  replace bA := Lib.hid bA
  replace bB := Lib.hid bB
  replace bL := Lib.hid bL
  clear hL hT
  go_enter Tryd.func5, Tryd.ntmps5
  go_wp2_with fail
  simp only [World.size_alloc] at HB1
  generalize (w.alloc (.cells (hc A).toArray 26)).alloc (.cells (hc B).toArray 26) = W0 at *
  go_loopw [9, 10] (fun tv iv wr => ∃ (i t : Nat), iv = .int .i64 i ∧ tv = .int .i64 t ∧ i ≤ L.length ∧ Hid (Tot L i t) ∧ Hid (Below W0.heap.size W0 wr)) (fun _ iv _ => L.length - (intOf iv).toNat)
  case atStart => exact ⟨0, 0, rfl, rfl, by omega, Tot.zero L, Below.refl _ _⟩
  case round =>
    obtain ⟨i, t, rfl, rfl, hi, hTo, HB⟩ := hrel
    have ht5 := hTo.out.1
    by_cases ht2 : t ≤ 20000
    · have d0 : decide ((t : Int) ≤ 20000) = true := by rw [decide_eq_true_iff]; omega
      have d1 : decide (20000 < (t : Int)) = false := by rw [decide_eq_false_iff_not]; omega
      by_cases hlt : i < L.length
      · obtain ⟨b, off, r, m, k, -, rfl, -, hc1, rfl, -, -⟩ := HL.out.at hlt
        have HC1 := Lib.hid (old HB.out hc1)
        have HN := Lib.hid (hTo.out.succ hlt ht2)
        have i0 : (0 : Int) ≤ (i : Int) := by omega
        have i1 : (i : Int) < (L.length : Int) := by omega
        obtain ⟨lb, hlb⟩ : ∃ lb, (L.getD i []).length = lb := ⟨_, rfl⟩
        rw [hlb] at HC1 HN
        clear hc1 hlb hTo
        have cc := HC1.out
        go_wp2_with fail
        go_roundw
        case rel => exact ⟨i + 1, _, by go_num, by go_num, by omega, HN, HB⟩
        case measure => simp [intOf]; omega
      · obtain rfl : i = L.length := by omega
        have hbl := hTo.out.2 ht2
        rw [List.take_length] at hbl
        have HBL := Lib.hid hbl
        clear hbl hTo hlt
        by_cases hg : s.size ≤ 1000
        · have d2 : decide (1000 < (s.size : Int)) = false := by rw [decide_eq_false_iff_not]; omega
          by_cases hm : L.length ≤ 1000
          · have d3 : decide (1000 < (L.length : Int)) = false := by rw [decide_eq_false_iff_not]; omega
            have hcs := cut_size s
            obtain ⟨t1, ht1⟩ : ∃ t1, cut255 s = t1 := ⟨_, rfl⟩
            rw [ht1] at hcs
            have hbl := HBL.out
            have hlx : (frm (sn t1) L).length ≤ 40000 := by rw [frm_len, sn_len]; omega
            have hbx := frm_bytes (sn_bytes t1) (by rw [sn_len]; exact hcs) bL.out
            obtain ⟨X, hX⟩ : ∃ X, frm (sn t1) L = X := ⟨_, rfl⟩
            rw [hX] at hlx hbx
            obtain ⟨F, hF⟩ : ∃ F, sha X = F := ⟨_, rfl⟩
            obtain ⟨Y, hY⟩ : ∃ Y, sha (frm (sn pairS) [A, B]) = Y := ⟨_, rfl⟩
            have lF : F.length = 32 := by rw [← hF]; exact sha_len X
            have lY : Y.length = 32 := by rw [← hY]; exact sha_len _
            have HCUT := Lib.hid ht1
            have LX := Lib.hid hlx
            have BX := Lib.hid hbx
            have EX := Lib.hid hX
            have EF := Lib.hid hF
            have EY := Lib.hid hY
            have LF := Lib.hid lF
            have LY := Lib.hid lY
            clear ht1 hlx hbx hX hF hY lF lY hcs
            go_wp2_with fail
            refine (Parts_any (HL.out.onb HB.out) (by omega) (fun i => by have := getD_len_le L i; omega)).mono ?_
            rintro e wp ⟨vp, vs, rfl, hp⟩
            have RP := Lib.hid hp.rdl
            have hbp := HB.out.trans (hp.below.mono HB.out.size)
            obtain ⟨qp, cp, rfl⟩ := own_slice hp.own
            have HLp := Lib.hid (HL.out.onb hbp)
            have HAp := Lib.hid (HA.out.on hbp)
            have HBp := Lib.hid (HB1.out.on hbp)
            have HTp := Lib.hid (HT.out.on hbp HT.out.pos)
            have Bp := Lib.hid (B0.out.trans (hbp.mono B0.out.size))
            clear hp hbp hbl HB HL HA HB1 HT B0 HBL
            go_wp2_with fail
            refine wp_region_held_drew (S := fun W => Below wp.heap.size wp W ∧ True) (by kernel_rfl) (⟨(Below.refl _ _).drew, trivial⟩) (fun h0 => ?_)
            refine wpAnyH_take (i := 0) (v := ?_) (by rw [List.getElem?_toArray]; rfl) (by kernel_rfl) (by kernel_rfl) (by kernel_rfl) (by exact fun _ _ _ h => h) (Or.inl ⟨by rfl, ?_⟩) h0 ?_
            rotate_left
            · intro W hW
              go_simp
              all_goals with_reducible rfl
            try simp only [Act.put, List.setIfInBounds_toArray, List.set_cons_zero, List.set_cons_succ]
            refine wpAnyH_take (i := 1) (v := ?_) (by rw [List.getElem?_toArray]; rfl) (by kernel_rfl) (by kernel_rfl) (by kernel_rfl) (by exact fun _ _ _ h => h) (Or.inl ⟨by rfl, ?_⟩) h0 ?_
            rotate_left
            · intro W hW
              go_simp
              all_goals with_reducible rfl
            try simp only [Act.put, List.setIfInBounds_toArray, List.set_cons_zero, List.set_cons_succ]
            refine wpAnyH_take (i := 4) (v := ?_) (by rw [List.getElem?_toArray]; rfl) (by kernel_rfl) (by kernel_rfl) (by kernel_rfl) (by exact fun _ _ _ h => h) (Or.inl ⟨by rfl, ?_⟩) h0 ?_
            rotate_left
            · intro W hW
              go_simp
              all_goals with_reducible rfl
            try simp only [Act.put, List.setIfInBounds_toArray, List.set_cons_zero, List.set_cons_succ]
            refine wpAnyH_take (i := 5) (v := ?_) (by rw [List.getElem?_toArray]; rfl) (by kernel_rfl) (by kernel_rfl) (by kernel_rfl) (by exact fun _ _ _ h => h) (Or.inl ⟨by rfl, ?_⟩) h0 ?_
            rotate_left
            · intro W hW
              go_simp
              all_goals with_reducible rfl
            try simp only [Act.put, List.setIfInBounds_toArray, List.set_cons_zero, List.set_cons_succ]
            refine wpAnyH_ready (rs := [2]) (by kernel_rfl) (by simp) ?_
            refine AllReadyH.cons (by rw [List.getElem?_toArray]; rfl) (fun K hK => ?_) AllReadyH.nil
            rw [if_pos (by rfl)]
            have KK := Frame_cut (s := s) (t := t1) (RP.out.onb h0.1) hs.out HCUT.out (by rw [EX.out]; have := LX.out; omega)
            rw [EX.out] at KK
            go_wp2_with fail
            refine KK.mono ?_
            rintro e w2 ⟨rfl, hr2, hb2⟩
            have RF2 : Hid (Rd w2 (.slice (some ⟨wp.heap.size, 0, none⟩) X.length X.length) X) := (rdc_of_rw hr2).rd
            clear hr2
            clear KK
            go_wp2_with fail
            refine hK.out _ _ (⟨h0.1.trans (hb2.mono h0.1.size), trivial⟩) (fun h2 => ?_)
            clear hK K
            try simp only [Act.put, List.setIfInBounds_toArray, List.set_cons_zero, List.set_cons_succ]
            clear hb2
            have g2 : Below wp.heap.size wp w2 ∧ Rd w2 (.slice (some ⟨wp.heap.size, 0, none⟩) X.length X.length) X := ⟨h2.1, RF2.out⟩
            refine wpAnyH_strong (S' := fun W => Below wp.heap.size wp W ∧ Rd W (.slice (some ⟨wp.heap.size, 0, none⟩) X.length X.length) X) (fun _ h => ⟨h.1, trivial⟩) ?_
            refine wpAnyH_take (i := 3) (v := ?_) (by rw [List.getElem?_toArray]; rfl) (by kernel_rfl) (by kernel_rfl) (by kernel_rfl) (by exact fun _ _ _ h => h) (Or.inl ⟨by rfl, ?_⟩) g2 ?_
            rotate_left
            · intro W hW
              have ca := (hW.2).str (P := Tryd.prog) Tryd.underlying22 Tryd.underlying5 Tryd.underlying9
              go_simp
              all_goals with_reducible rfl
            try simp only [Act.put, List.setIfInBounds_toArray, List.set_cons_zero, List.set_cons_succ]
            refine wpAnyH_ready (rs := [6]) (by kernel_rfl) (by simp) ?_
            refine AllReadyH.cons (by rw [List.getElem?_toArray]; rfl) (fun K hK => ?_) AllReadyH.nil
            rw [if_pos (by rfl)]
            have KK := refFrame_any (s := s) (t := t1) (HLp.out.onb g2.1) hs.out HCUT.out (by rw [EX.out]; have := LX.out; omega)
            rw [EX.out] at KK
            go_wp2_with fail
            refine KK.mono ?_
            rintro e w6 ⟨qr, nr, cr, rfl, hf6⟩
            have hb6 := hf6.below
            have RF6 := Lib.hid hf6.rd
            clear hf6
            clear KK
            go_wp2_with fail
            refine hK.out _ _ (⟨g2.1.trans (hb6.mono g2.1.size), g2.2.on hb6⟩) (fun h6 => ?_)
            clear hK K
            try simp only [Act.put, List.setIfInBounds_toArray, List.set_cons_zero, List.set_cons_succ]
            clear hb6
            have g6 : Below wp.heap.size wp w6 ∧ Rd w6 (.slice (some ⟨wp.heap.size, 0, none⟩) X.length X.length) X ∧ Rd w6 (.slice qr nr cr) X := ⟨h6.1, h6.2, RF6.out⟩
            refine wpAnyH_strong (S' := fun W => Below wp.heap.size wp W ∧ Rd W (.slice (some ⟨wp.heap.size, 0, none⟩) X.length X.length) X ∧ Rd W (.slice qr nr cr) X) (fun _ h => ⟨h.1, h.2.1⟩) ?_
            refine wpAnyH_take (i := 7) (v := ?_) (by rw [List.getElem?_toArray]; rfl) (by kernel_rfl) (by kernel_rfl) (by kernel_rfl) (by exact fun _ _ _ h => h) (Or.inl ⟨by rfl, ?_⟩) g6 ?_
            rotate_left
            · intro W hW
              have ca := (hW.2.2).str (P := Tryd.prog) Tryd.underlying22 Tryd.underlying5 Tryd.underlying9
              go_simp
              all_goals with_reducible rfl
            try simp only [Act.put, List.setIfInBounds_toArray, List.set_cons_zero, List.set_cons_succ]
            refine wpAnyH_take (i := 8) (v := ?_) (by rw [List.getElem?_toArray]; rfl) (by kernel_rfl) (by kernel_rfl) (by kernel_rfl) (by exact fun _ _ _ h => h) (Or.inl ⟨by rfl, ?_⟩) g6 ?_
            rotate_left
            · intro W hW
              go_simp
              all_goals with_reducible rfl
            try simp only [Act.put, List.setIfInBounds_toArray, List.set_cons_zero, List.set_cons_succ]
            refine wpAnyH_take (i := 9) (v := ?_) (by rw [List.getElem?_toArray]; rfl) (by kernel_rfl) (by kernel_rfl) (by kernel_rfl) (by exact fun _ _ _ h => h) (Or.inl ⟨by rfl, ?_⟩) g6 ?_
            rotate_left
            · intro W hW
              go_simp
              all_goals with_reducible rfl
            try simp only [Act.put, List.setIfInBounds_toArray, List.set_cons_zero, List.set_cons_succ]
            refine wpAnyH_take (i := 10) (v := ?_) (by rw [List.getElem?_toArray]; rfl) (by kernel_rfl) (by kernel_rfl) (by kernel_rfl) (by exact fun _ _ _ h => h) (Or.inl ⟨by rfl, ?_⟩) g6 ?_
            rotate_left
            · intro W hW
              go_simp
              all_goals with_reducible rfl
            try simp only [Act.put, List.setIfInBounds_toArray, List.set_cons_zero, List.set_cons_succ]
            refine wpAnyH_take (i := 11) (v := ?_) (by rw [List.getElem?_toArray]; rfl) (by kernel_rfl) (by kernel_rfl) (by kernel_rfl) (by exact fun _ _ _ h => h) (Or.inl ⟨by rfl, ?_⟩) g6 ?_
            rotate_left
            · intro W hW
              go_simp
              all_goals with_reducible rfl
            try simp only [Act.put, List.setIfInBounds_toArray, List.set_cons_zero, List.set_cons_succ]
            refine wpAnyH_take (i := 13) (v := ?_) (by rw [List.getElem?_toArray]; rfl) (by kernel_rfl) (by kernel_rfl) (by kernel_rfl) (by exact fun _ _ _ h => h) (Or.inl ⟨by rfl, ?_⟩) g6 ?_
            rotate_left
            · intro W hW
              go_simp
              all_goals with_reducible rfl
            try simp only [Act.put, List.setIfInBounds_toArray, List.set_cons_zero, List.set_cons_succ]
            refine wpAnyH_take (i := 14) (v := ?_) (by rw [List.getElem?_toArray]; rfl) (by kernel_rfl) (by kernel_rfl) (by kernel_rfl) (by exact fun _ _ _ h => h) (Or.inl ⟨by rfl, ?_⟩) g6 ?_
            rotate_left
            · intro W hW
              go_simp
              all_goals with_reducible rfl
            try simp only [Act.put, List.setIfInBounds_toArray, List.set_cons_zero, List.set_cons_succ]
            refine wpAnyH_ready (rs := [12]) (by kernel_rfl) (by simp) ?_
            refine AllReadyH.cons (by rw [List.getElem?_toArray]; rfl) (fun K hK => ?_) AllReadyH.nil
            rw [if_pos (by rfl)]
            have KK := Tagged_any (s := s) (t := t1) (RP.out.onb g6.1) (HTp.out.on g6.1 HTp.out.pos) hs.out HCUT.out (by rw [EX.out]; have := LX.out; omega) (by rw [EX.out]; exact BX.out)
            rw [EX.out, EF.out] at KK
            go_wp2_with fail
            refine KK.mono ?_
            rintro e w12 ⟨rfl, hb12⟩
            clear KK
            go_wp2_with fail
            refine hK.out _ _ (⟨g6.1.trans (hb12.mono g6.1.size), g6.2.1.on hb12, g6.2.2.on hb12⟩) (fun h12 => ?_)
            clear hK K
            try simp only [Act.put, List.setIfInBounds_toArray, List.set_cons_zero, List.set_cons_succ]
            clear hb12
            refine wpAnyH_ready (rs := [15]) (by kernel_rfl) (by simp) ?_
            refine AllReadyH.cons (by rw [List.getElem?_toArray]; rfl) (fun K hK => ?_) AllReadyH.nil
            rw [if_pos (by rfl)]
            have KK := refTagged_any (s := s) (t := t1) (HLp.out.onb h12.1) hs.out HCUT.out (by rw [EX.out]; have := LX.out; omega) (by rw [EX.out]; exact BX.out)
            rw [EX.out, EF.out] at KK
            go_wp2_with fail
            refine KK.mono ?_
            rintro e w15 ⟨rfl, hb15⟩
            clear KK
            go_wp2_with fail
            refine hK.out _ _ (⟨h12.1.trans (hb15.mono h12.1.size), h12.2.1.on hb15, h12.2.2.on hb15⟩) (fun h15 => ?_)
            clear hK K
            try simp only [Act.put, List.setIfInBounds_toArray, List.set_cons_zero, List.set_cons_succ]
            clear hb15
            refine wpAnyH_take (i := 16) (v := ?_) (by rw [List.getElem?_toArray]; rfl) (by kernel_rfl) (by kernel_rfl) (by kernel_rfl) (by exact fun _ _ _ h => h) (Or.inl ⟨by rfl, ?_⟩) h15 ?_
            rotate_left
            · intro W hW
              have hlF := LF.out
              go_simp
              all_goals with_reducible rfl
            try simp only [Act.put, List.setIfInBounds_toArray, List.set_cons_zero, List.set_cons_succ]
            refine wpAnyH_take (i := 17) (v := ?_) (by rw [List.getElem?_toArray]; rfl) (by kernel_rfl) (by kernel_rfl) (by kernel_rfl) (by exact fun _ _ _ h => h) (Or.inl ⟨by rfl, ?_⟩) h15 ?_
            rotate_left
            · intro W hW
              go_simp
              all_goals with_reducible rfl
            try simp only [Act.put, List.setIfInBounds_toArray, List.set_cons_zero, List.set_cons_succ]
            refine wpAnyH_take (i := 18) (v := ?_) (by rw [List.getElem?_toArray]; rfl) (by kernel_rfl) (by kernel_rfl) (by kernel_rfl) (by exact fun _ _ _ h => h) (Or.inl ⟨by rfl, ?_⟩) h15 ?_
            rotate_left
            · intro W hW
              go_simp
              all_goals with_reducible rfl
            try simp only [Act.put, List.setIfInBounds_toArray, List.set_cons_zero, List.set_cons_succ]
            refine wpAnyH_take (i := 19) (v := ?_) (by rw [List.getElem?_toArray]; rfl) (by kernel_rfl) (by kernel_rfl) (by kernel_rfl) (by exact fun _ _ _ h => h) (Or.inl ⟨by rfl, ?_⟩) h15 ?_
            rotate_left
            · intro W hW
              have hr := (HAp.out.on hW.1).row hA.out
              go_simp
              all_goals with_reducible rfl
            try simp only [Act.put, List.setIfInBounds_toArray, List.set_cons_zero, List.set_cons_succ]
            refine wpAnyH_take (i := 20) (v := ?_) (by rw [List.getElem?_toArray]; rfl) (by kernel_rfl) (by kernel_rfl) (by kernel_rfl) (by exact fun _ _ _ h => h) (Or.inl ⟨by rfl, ?_⟩) h15 ?_
            rotate_left
            · intro W hW
              have hr := (HBp.out.on hW.1).row hB.out
              go_simp
              all_goals with_reducible rfl
            try simp only [Act.put, List.setIfInBounds_toArray, List.set_cons_zero, List.set_cons_succ]
            refine wpAnyH_take (i := 22) (v := ?_) (by rw [List.getElem?_toArray]; rfl) (by kernel_rfl) (by kernel_rfl) (by kernel_rfl) (by exact fun _ _ _ h => h) (Or.inl ⟨by rfl, ?_⟩) h15 ?_
            rotate_left
            · intro W hW
              have hr := (HAp.out.on hW.1).row hA.out
              go_simp
              all_goals with_reducible rfl
            try simp only [Act.put, List.setIfInBounds_toArray, List.set_cons_zero, List.set_cons_succ]
            refine wpAnyH_take (i := 23) (v := ?_) (by rw [List.getElem?_toArray]; rfl) (by kernel_rfl) (by kernel_rfl) (by kernel_rfl) (by exact fun _ _ _ h => h) (Or.inl ⟨by rfl, ?_⟩) h15 ?_
            rotate_left
            · intro W hW
              have hr := (HBp.out.on hW.1).row hB.out
              go_simp
              all_goals with_reducible rfl
            try simp only [Act.put, List.setIfInBounds_toArray, List.set_cons_zero, List.set_cons_succ]
            refine wpAnyH_ready (rs := [21]) (by kernel_rfl) (by simp) ?_
            refine AllReadyH.cons (by rw [List.getElem?_toArray]; rfl) (fun K hK => ?_) AllReadyH.nil
            rw [if_pos (by rfl)]
            have KK := Pair_any (HTp.out.on h15.1 HTp.out.pos) hA.out hB.out bA.out bB.out
            rw [EY.out] at KK
            go_wp2_with fail
            refine KK.mono ?_
            rintro e w21 ⟨rfl, hb21⟩
            clear KK
            go_wp2_with fail
            refine hK.out _ _ (⟨h15.1.trans (hb21.mono h15.1.size), h15.2.1.on hb21, h15.2.2.on hb21⟩) (fun h21 => ?_)
            clear hK K
            try simp only [Act.put, List.setIfInBounds_toArray, List.set_cons_zero, List.set_cons_succ]
            clear hb21
            refine wpAnyH_ready (rs := [24]) (by kernel_rfl) (by simp) ?_
            refine AllReadyH.cons (by rw [List.getElem?_toArray]; rfl) (fun K hK => ?_) AllReadyH.nil
            rw [if_pos (by rfl)]
            have KK := refPair_any (w := w21) hA.out hB.out bA.out bB.out
            rw [EY.out] at KK
            go_wp2_with fail
            refine KK.mono ?_
            rintro e w24 ⟨rfl, hb24⟩
            clear KK
            go_wp2_with fail
            refine hK.out _ _ (⟨h21.1.trans (hb24.mono h21.1.size), h21.2.1.on hb24, h21.2.2.on hb24⟩) (fun h24 => ?_)
            clear hK K
            try simp only [Act.put, List.setIfInBounds_toArray, List.set_cons_zero, List.set_cons_succ]
            clear hb24
            refine wpAnyH_take (i := 25) (v := ?_) (by rw [List.getElem?_toArray]; rfl) (by kernel_rfl) (by kernel_rfl) (by kernel_rfl) (by exact fun _ _ _ h => h) (Or.inl ⟨by rfl, ?_⟩) h24 ?_
            rotate_left
            · intro W hW
              have hlY := LY.out
              go_simp
              all_goals with_reducible rfl
            try simp only [Act.put, List.setIfInBounds_toArray, List.set_cons_zero, List.set_cons_succ]
            refine wpAnyH_take (i := 26) (v := ?_) (by rw [List.getElem?_toArray]; rfl) (by kernel_rfl) (by kernel_rfl) (by kernel_rfl) (by exact fun _ _ _ h => h) (Or.inl ⟨by rfl, ?_⟩) h24 ?_
            rotate_left
            · intro W hW
              go_simp
              all_goals with_reducible rfl
            try simp only [Act.put, List.setIfInBounds_toArray, List.set_cons_zero, List.set_cons_succ]
            refine wpAnyH_take (i := 27) (v := ?_) (by rw [List.getElem?_toArray]; rfl) (by kernel_rfl) (by kernel_rfl) (by kernel_rfl) (by exact fun _ _ _ h => h) (Or.inl ⟨by rfl, ?_⟩) h24 ?_
            rotate_left
            · intro W hW
              go_simp
              all_goals with_reducible rfl
            try simp only [Act.put, List.setIfInBounds_toArray, List.set_cons_zero, List.set_cons_succ]
            refine wpAnyH_ready (rs := [28]) (by kernel_rfl) (by simp) ?_
            refine AllReadyH.cons (by rw [List.getElem?_toArray]; rfl) (fun K hK => ?_) AllReadyH.nil
            rw [if_pos (by rfl)]
            have KK := knows_any (HTp.out.on h24.1 HTp.out.pos)
            skip
            go_wp2_with fail
            refine KK.mono ?_
            rintro e w28 ⟨rfl, hb28⟩
            clear KK
            go_wp2_with fail
            refine hK.out _ _ (⟨h24.1.trans (hb28.mono h24.1.size), h24.2.1.on hb28, h24.2.2.on hb28⟩) (fun h28 => ?_)
            clear hK K
            try simp only [Act.put, List.setIfInBounds_toArray, List.set_cons_zero, List.set_cons_succ]
            clear hb28
            refine wpAnyH_take (i := 29) (v := ?_) (by rw [List.getElem?_toArray]; rfl) (by kernel_rfl) (by kernel_rfl) (by kernel_rfl) (by exact fun _ _ _ h => h) (Or.inl ⟨by rfl, ?_⟩) h28 ?_
            rotate_left
            · intro W hW
              go_simp
              all_goals with_reducible rfl
            try simp only [Act.put, List.setIfInBounds_toArray, List.set_cons_zero, List.set_cons_succ]
            refine wpAnyH_take (i := 30) (v := ?_) (by rw [List.getElem?_toArray]; rfl) (by kernel_rfl) (by kernel_rfl) (by kernel_rfl) (by exact fun _ _ _ h => h) (Or.inl ⟨by rfl, ?_⟩) h28 ?_
            rotate_left
            · intro W hW
              go_simp
              all_goals with_reducible rfl
            try simp only [Act.put, List.setIfInBounds_toArray, List.set_cons_zero, List.set_cons_succ]
            refine wpAnyH_done (by kernel_rfl) ?_ _
            go_wp2_with fail
            go_ret
            exact ⟨rfl, Bp.out.trans (h28.1.mono Bp.out.size)⟩
          · have d3 : decide (1000 < (L.length : Int)) = true := by rw [decide_eq_true_iff]; omega
            go_wp2_with fail
            refine (knows_any (HT.out.on HB.out HT.out.pos)).mono ?_
            rintro e w5 ⟨rfl, hb5⟩
            have B5 := Lib.hid (B0.out.trans ((HB.out.trans (hb5.mono HB.out.size)).mono B0.out.size))
            clear hb5
            go_wp2_with fail
            go_ret
            exact ⟨rfl, B5.out⟩
        · have d2 : decide (1000 < (s.size : Int)) = true := by rw [decide_eq_true_iff]; omega
          go_wp2_with fail
          refine (knows_any (HT.out.on HB.out HT.out.pos)).mono ?_
          rintro e w5 ⟨rfl, hb5⟩
          have B5 := Lib.hid (B0.out.trans ((HB.out.trans (hb5.mono HB.out.size)).mono B0.out.size))
          clear hb5
          go_wp2_with fail
          go_ret
          exact ⟨rfl, B5.out⟩
    · have d0 : decide ((t : Int) ≤ 20000) = false := by rw [decide_eq_false_iff_not]; omega
      have d1 : decide (20000 < (t : Int)) = true := by rw [decide_eq_true_iff]; omega
      go_wp2_with fail
      all_goals
        refine (knows_any (HT.out.on HB.out HT.out.pos)).mono ?_
        rintro e w5 ⟨rfl, hb5⟩
        have B5 := Lib.hid (B0.out.trans ((HB.out.trans (hb5.mono HB.out.size)).mono B0.out.size))
        clear hb5
        go_wp2_with fail
        go_ret
        exact ⟨rfl, B5.out⟩
end Go.Proofs.YtlmpmnngheifkaaDoor
