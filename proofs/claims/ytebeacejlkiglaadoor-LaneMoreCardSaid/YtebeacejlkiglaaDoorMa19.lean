/-
  LaneMore returns true for all lists and further strings.
-/
import Derived.Test.YtebeacejlkiglaaDoorMa18
namespace Go.Proofs.YtebeacejlkiglaaDoor
set_option maxRecDepth 100000
open Go.RowKit

set_option maxHeartbeats 16000000 in
theorem More_walk {w : World} {v vm : Value} {L : List (List Int)} {xs : List Int} (hL : RdL w v L []) (bL : ∀ b ∈ L, Bytes b) (hln : L.length ≤ maxLen) (hX : Rd w vm xs) (bX : Bytes xs) (hxn : xs.length ≤ maxLen) (hT : Tbl w) :
    Calls Tryd.prog 6 #[v, vm] w fun e w' => e = .returned (.bool true) ∧ Below w.heap.size w w' := by
  obtain ⟨i0, hi, hz0, hz1, hz2⟩ := info_parts Tryd.infoU8
  obtain ⟨j0, hj, ez0, ez1, ez2⟩ := info_parts Tryd.infoU8s
  replace hi := Lib.hid hi
  replace hz0 := Lib.hid hz0
  replace hz1 := Lib.hid hz1
  replace hz2 := Lib.hid hz2
  replace hj := Lib.hid hj
  replace ez0 := Lib.hid ez0
  replace ez1 := Lib.hid ez1
  replace ez2 := Lib.hid ez2
  unfold maxLen at hxn
  have HL := Lib.hid hL
  have HB := Lib.hid bL
  have HT := Lib.hid hT
  have HRX := Lib.hid hX
  have HBX := Lib.hid bX
  obtain ⟨q, c, rfl⟩ : ∃ q c, v = .slice q L.length c := by obtain ⟨q, c, e, _⟩ := hL; exact ⟨q, c, e⟩
  obtain ⟨qm, cm, rfl⟩ := hX.len
  clear hL bL hT hX bX
  go_enter Tryd.func6, Tryd.ntmps6
  go_wp2_with fail
  refine (Long2_any HL.out hln).mono ?_
  rintro e w1 ⟨b, rfl, hlong, hb1⟩
  have B1 := Lib.hid hb1
  clear hb1
  cases b with
  | true =>
    go_wp2_with fail
    refine (knows_any (HT.out.on B1.out HT.out.pos)).mono ?_
    rintro e wk ⟨rfl, hbk⟩
    have BK := Lib.hid (B1.out.trans (hbk.mono B1.out.size))
    clear hbk
    go_wp2_with fail
    go_ret
    exact ⟨rfl, BK.out⟩
  | false =>
    obtain ⟨hbl, hm⟩ := hlong rfl
    have HX : Hid (∀ i, (L.getD i []).length ≤ 1000000) := fun i => by have := blobs_each hbl i; omega
    have HX6 : Hid (∀ i, i < L.length → (L.getD i []).length ≤ 4000) := fun i hi => by have := blobs_one8 L i hi; omega
    have hn6 : L.length ≤ 65536 := by omega
    clear hlong
    by_cases hxl : xs.length ≤ 2000
    case neg =>
      have hxl' : 2000 < xs.length := by omega
      go_wp2_with fail
      refine (knows_any (HT.out.on B1.out HT.out.pos)).mono ?_
      rintro e wk ⟨rfl, hbk⟩
      have BK := Lib.hid (B1.out.trans (hbk.mono B1.out.size))
      clear hbk
      go_wp2_with fail
      go_ret
      exact ⟨rfl, BK.out⟩
    go_wp2_with fail
    refine (Parts_any (HL.out.onb B1.out) (by omega) (fun i => by have := HX.out i; omega)).mono ?_
    rintro e w2 ⟨vp, vs0, rfl, hP⟩
    have TX2 := Lib.hid (hP.txs HB.out HX.out)
    have B2 := Lib.hid (B1.out.trans (hP.below.mono B1.out.size))
    obtain ⟨qp, cp, rfl⟩ := TX2.out.len
    have b2 : Below w2.heap.size w2 (w2.alloc (.cells #[] 5)) := (Below.refl _ _).alloc (Nat.le_refl _) _
    have E2 := own_empty w2 5 1
    have RX2 := Lib.hid ((HRX.out.on B2.out).on b2)
    clear hP
    go_wp2_with (at_builtin; refine wpList_append_row rfl _ _ rfl Tryd.underlying42 hi.out hz0.out hz1.out hz2.out rfl E2 (RX2.out.src (P := Tryd.prog) Tryd.underlying42) (by unfold maxLen; omega) (by omega) ?_)
    intro q3 k3 w3 own3' grow3 fr3
    have own3 : w3.ownsRow 0 5 1 (.slice q3 xs.length k3) xs.length (bc xs) := by have := own3'; (try simp only [Nat.zero_add, List.nil_append] at this); exact this
    have b23 : Below w2.heap.size w2 w3 := b2.grown grow3 (by simp) (fun g hg => by simp [Value.ownBlock] at hg; omega)
    have TX3 := Lib.hid (TX2.out.on b23)
    obtain ⟨vs, OW, psh⟩ := TX3.out.push own3 HBX.out (by omega)
    have PSH := Lib.hid psh
    try simp only [Nat.zero_add]
    clear own3' grow3 fr3 b2 b23 E2 psh TX2 RX2
    go_wp2_with (at_builtin; refine wpList_append_row rfl _ _ rfl Tryd.underlying22 hj.out ez0.out ez1.out ez2.out rfl OW (src_one (P := Tryd.prog) Tryd.underlying22 w3 q3 xs.length k3) (by unfold maxLen; omega) (by omega) ?_)
    intro q5 k5 w5 own5 grow5 fr5
    have TX5 := Lib.hid ((PSH.out _ _ own5 grow5 (fr5.imp id fun e => by rw [e]; simp)).base B1.out)
    have B5 : Hid (Below w.heap.size w w5) := TX5.out.below
    have LX : Hid ((L ++ [xs]).length = L.length + 1) := by show _ = _; simp
    have HXX : Hid (∀ i, ((L ++ [xs]).getD i []).length ≤ 1000000) := fun i => getD_more HX.out (by omega) i
    have BXX : Hid (∀ b ∈ L ++ [xs], Bytes b) := fun b hb => (TX5.out.ok b hb).1
    obtain ⟨X, hXe⟩ : ∃ X, L ++ [xs] = X := ⟨_, rfl⟩
    rw [hXe] at TX5 LX HXX BXX
    clear own5 grow5 fr5 OW PSH TX3 own3 hXe B2
    go_wp2_with fail
    refine (Root_any (L := X) TX5.out.rdl BXX.out (by rw [LX.out]; omega) HXX.out (HT.out.on B5.out HT.out.pos)).mono ?_
    rintro e w6 ⟨rfl, hb6⟩
    have lR1 := rtL_len X
    obtain ⟨R1, hR1⟩ : ∃ R1, rtL X = R1 := ⟨_, rfl⟩
    rw [hR1] at lR1 ⊢
    have HR1 := Lib.hid hR1
    have lcR1 := hc_len R1
    have ct := (HashAt.new w6 zero32).there zero32_len
    have HP7 := (HashAt.new w6 zero32).put zero32_len lR1
    have b67 : Below w6.heap.size w6 ((w6.alloc (.cells (hc zero32).toArray 36)).setCells w6.heap.size 0 (hc R1)) := below_setCells' _ (Nat.le_refl _) _ _ ((Below.refl _ _).alloc (Nat.le_refl _) _)
    have b57 := hb6.trans (b67.mono hb6.size)
    have M7 : Hid (MoS w ((w6.alloc (.cells (hc zero32).toArray 36)).setCells w6.heap.size 0 (hc R1)).drew w6.heap.size R1 (.slice q5 (L.length + 1) k5) X) := Lib.hid ⟨HP7, TX5.out.on b57.drew⟩
    have B7 : Hid (Below w.heap.size w ((w6.alloc (.cells (hc zero32).toArray 36)).setCells w6.heap.size 0 (hc R1)).drew) := Lib.hid (B5.out.trans (b57.mono B5.out.size)).drew
    clear hR1 HP7 b67 b57 hb6 TX5 B5
    go_wp2_with fail
    clear ct
    generalize hW7 : ((w6.alloc (.cells (hc zero32).toArray 36)).setCells w6.heap.size 0 (hc R1)) = W7 at *
    clear hW7
    generalize w6.heap.size = b6 at *
    have MAIN : ∀ W : World, MoS w W b6 R1 (.slice q5 (L.length + 1) k5) X → Below w.heap.size w W → True := fun _ _ _ => trivial
    clear MAIN
    by_cases hRR : rtL L = R1
    · have hR0 := hRR
      have dg : (R1 == R1) = true := by simp
      clear hRR
      refine wp_region_held_drew (S := fun W => HashAt W b6 R1) (by kernel_rfl) (M7.out.hR) (fun h0 => ?_)
      generalize W7.drew = w7 at *
      refine wpAnyH_take (i := 0) (v := ?_) (by rw [List.getElem?_toArray]; rfl) (by kernel_rfl) (by kernel_rfl) (by kernel_rfl) (by exact fun _ _ _ h => h) (Or.inl ⟨by rfl, ?_⟩) h0 ?_
      rotate_left
      · intro W hW
        have cc := hW.row lR1
        go_simp
        all_goals with_reducible rfl
      try simp only [Act.put, List.setIfInBounds_toArray, List.set_cons_zero, List.set_cons_succ]
      refine wpAnyH_take (i := 1) (v := ?_) (by rw [List.getElem?_toArray]; rfl) (by kernel_rfl) (by kernel_rfl) (by kernel_rfl) (by exact fun _ _ _ h => h) (Or.inl ⟨by rfl, ?_⟩) h0 ?_
      rotate_left
      · intro W hW
        go_simp
        all_goals with_reducible rfl
      try simp only [Act.put, List.setIfInBounds_toArray, List.set_cons_zero, List.set_cons_succ]
      refine wpAnyH_ready (rs := [2]) (by kernel_rfl) (by simp) ?_
      refine AllReadyH.cons (by rw [List.getElem?_toArray]; rfl) (fun K hK => ?_) AllReadyH.nil
      rw [if_pos (by rfl)]
      go_wp2_with fail
      refine (Parts_any (HL.out.onb B7.out) (by omega) (fun i => by have := HX.out i; omega)).mono ?_
      rintro e w8 ⟨vp8, vs8, rfl, hP8⟩
      have bb := hP8.below
      have RP8 := Lib.hid hP8.rdl
      have M8 := Lib.hid (M7.out.on bb)
      have B8 := Lib.hid (B7.out.trans (bb.mono B7.out.size))
      obtain ⟨qp8, cp8, rfl⟩ : ∃ qp cp, vp8 = .slice qp L.length cp := by obtain ⟨q, c, e, _⟩ := RP8.out; exact ⟨q, c, e⟩
      clear hP8 bb M7 B7
      go_wp2_with fail
      refine hK.out _ _ (M8.out.hR) (fun h8 => ?_)
      clear hK K
      try simp only [Act.put, List.setIfInBounds_toArray, List.set_cons_zero, List.set_cons_succ]
      refine wpAnyH_ready (rs := [3]) (by kernel_rfl) (by simp) ?_
      refine AllReadyH.cons (by rw [List.getElem?_toArray]; rfl) (fun K hK => ?_) AllReadyH.nil
      rw [if_pos (by rfl)]
      go_wp2_with fail
      refine (Root_any RP8.out HB.out hn6 HX.out (HT.out.on B8.out HT.out.pos)).mono ?_
      rintro e w9 ⟨rfl, bb⟩
      rw [hR0]
      have M9 := Lib.hid (M8.out.on bb)
      have B9 := Lib.hid (B8.out.trans (bb.mono B8.out.size))
      clear bb M8 B8 RP8
      go_wp2_with fail
      refine hK.out _ _ (M9.out.hR) (fun h9 => ?_)
      clear hK K
      try simp only [Act.put, List.setIfInBounds_toArray, List.set_cons_zero, List.set_cons_succ]
      refine wpAnyH_take (i := 4) (v := ?_) (by rw [List.getElem?_toArray]; rfl) (by kernel_rfl) (by kernel_rfl) (by kernel_rfl) (by exact fun _ _ _ h => h) (Or.inl ⟨by rfl, ?_⟩) h9 ?_
      rotate_left
      · intro W hW
        go_simp
        all_goals with_reducible rfl
      try simp only [Act.put, List.setIfInBounds_toArray, List.set_cons_zero, List.set_cons_succ]
      refine wpAnyH_take (i := 5) (v := ?_) (by rw [List.getElem?_toArray]; rfl) (by kernel_rfl) (by kernel_rfl) (by kernel_rfl) (by exact fun _ _ _ h => h) (Or.inl ⟨by rfl, ?_⟩) h9 ?_
      rotate_left
      · intro W hW
        go_simp
        all_goals with_reducible rfl
      try simp only [Act.put, List.setIfInBounds_toArray, List.set_cons_zero, List.set_cons_succ]
      refine wpAnyH_take (i := 6) (v := ?_) (by rw [List.getElem?_toArray]; rfl) (by kernel_rfl) (by kernel_rfl) (by kernel_rfl) (by exact fun _ _ _ h => h) (Or.inl ⟨by rfl, ?_⟩) h9 ?_
      rotate_left
      · intro W hW
        go_simp
        all_goals with_reducible rfl
      try simp only [Act.put, List.setIfInBounds_toArray, List.set_cons_zero, List.set_cons_succ]
      refine wpAnyH_take (i := 8) (v := ?_) (by rw [List.getElem?_toArray]; rfl) (by kernel_rfl) (by kernel_rfl) (by kernel_rfl) (by exact fun _ _ _ h => h) (Or.inl ⟨by rfl, ?_⟩) h9 ?_
      rotate_left
      · intro W hW
        go_simp
        all_goals with_reducible rfl
      try simp only [Act.put, List.setIfInBounds_toArray, List.set_cons_zero, List.set_cons_succ]
      refine wpAnyH_ready (rs := [7]) (by kernel_rfl) (by simp) ?_
      refine AllReadyH.cons (by rw [List.getElem?_toArray]; rfl) (fun K hK => ?_) AllReadyH.nil
      rw [if_pos (by rfl)]
      go_wp2_with fail
      refine (TextsQ (L := X) M9.out.tx.rdl BXX.out (by rw [LX.out]; omega) HXX.out).mono ?_
      rintro e w10 ⟨qt1, nt1, ct1, T1, Z1, rfl, ht1, hnt1, hz1⟩
      have bb := ht1.tx.below
      have Q1 := Lib.hid ht1
      have HZ1 := Lib.hid hz1
      rw [LX.out] at hnt1
      have M10 := Lib.hid (M9.out.on bb)
      have B10 := Lib.hid (B9.out.trans (bb.mono B9.out.size))
      have M9K := M9
      have B9K := B9
      clear bb M9 B9 ht1 hz1
      go_wp2_with fail
      refine hK.out _ _ (M10.out.hR) (fun h10 => ?_)
      clear hK K
      try simp only [Act.put, List.setIfInBounds_toArray, List.set_cons_zero, List.set_cons_succ]
      refine wpAnyH_ready (rs := [9]) (by kernel_rfl) (by simp) ?_
      refine AllReadyH.cons (by rw [List.getElem?_toArray]; rfl) (fun K hK => ?_) AllReadyH.nil
      rw [if_pos (by rfl)]
      go_wp2_with fail
      refine (TextsQ (HL.out.onb B10.out) HB.out (by omega) HX.out).mono ?_
      rintro e w11 ⟨qt2, nt2, ct2, T2, Z2, rfl, ht2, hnt2, hz2⟩
      have bb := ht2.tx.below
      have Q2 := Lib.hid ht2
      have Q1' := Lib.hid (Q1.out.on bb)
      have HZ2 := Lib.hid hz2
      have M11 := Lib.hid (M10.out.on bb)
      have B11 := Lib.hid (B10.out.trans (bb.mono B10.out.size))
      clear bb M10 B10 ht2 hz2 Q1
      go_wp2_with fail
      refine hK.out _ _ (M11.out.hR) (fun h11 => ?_)
      clear hK K
      try simp only [Act.put, List.setIfInBounds_toArray, List.set_cons_zero, List.set_cons_succ]
      refine wpAnyH_ready (rs := [10]) (by kernel_rfl) (by simp) ?_
      refine AllReadyH.cons (by rw [List.getElem?_toArray]; rfl) (fun K hK => ?_) AllReadyH.nil
      rw [if_pos (by rfl)]
      obtain ⟨vs1, vs2, OW0, SR0, fin0⟩ := TxS.app (P := Tryd.prog) Tryd.underlying22 Q1'.out.tx Q2.out.tx
      rw [Q1'.out.len] at OW0 fin0
      rw [Q2.out.len] at SR0 fin0
      refine wp_append_row _ _ rfl Tryd.underlying22 hj.out ez0.out ez1.out ez2.out rfl OW0 SR0 (by unfold maxLen; omega) (by omega) ?_
      intro q12 k12 w12 own12 grow12 fr12
      obtain ⟨RL12, bb0⟩ := fin0 _ _ own12 grow12
      have M12 : Hid (HashAt w12 b6 R1) := by
        have grow12' : w11.grownBy w12 (Value.slice qt1 nt1 ct1).ownBlock := grow12
        have hc : Chg w11 w12 (Value.slice qt1 nt1 ct1).ownBlock.toList := Chg.grown grow12' (fun g hg => by simp [hg])
        exact M11.out.hR.chg hc (fun hm => own_ne OW0 M11.out.hR (by decide) (by simpa using hm))
      have MT12 : Hid (Below w9.heap.size w9 w12) := bb0
      have RLL := Lib.hid RL12
      clear own12 grow12 fr12 OW0 SR0 fin0 RL12 bb0
      go_wp2_with fail
      refine hK.out _ _ (M12.out) (fun h12 => ?_)
      clear hK K
      try simp only [Act.put, List.setIfInBounds_toArray, List.set_cons_zero, List.set_cons_succ]
      refine wpAnyH_ready (rs := [11]) (by kernel_rfl) (by simp) ?_
      refine AllReadyH.cons (by rw [List.getElem?_toArray]; rfl) (fun K hK => ?_) AllReadyH.nil
      rw [if_pos (by rfl)]
      go_wp2_with fail
      refine (clash2 Q1'.out Q2.out (by omega) RLL.out (HZ1.out.symm.trans (HR1.out.trans (hR0.symm.trans HZ2.out))) (by rw [LX.out]; exact list_apart (by omega) (by omega) (by omega) (by omega) (by omega) _ _)).mono ?_
      rintro e w13 ⟨rfl, bb⟩
      have M13 := Lib.hid (M9K.out.on (MT12.out.trans (bb.mono MT12.out.size)))
      have B13 := Lib.hid (B9K.out.trans ((MT12.out.trans (bb.mono MT12.out.size)).mono B9K.out.size))
      clear bb M11 B11 Q1' Q2 RLL
      go_wp2_with fail
      refine hK.out _ _ (M13.out.hR) (fun h13 => ?_)
      clear hK K
      try simp only [Act.put, List.setIfInBounds_toArray, List.set_cons_zero, List.set_cons_succ]
      refine wpAnyH_take (i := 12) (v := ?_) (by rw [List.getElem?_toArray]; rfl) (by kernel_rfl) (by kernel_rfl) (by kernel_rfl) (by exact fun _ _ _ h => h) (Or.inl ⟨by rfl, ?_⟩) h13 ?_
      rotate_left
      · intro W hW
        go_simp
        all_goals with_reducible rfl
      try simp only [Act.put, List.setIfInBounds_toArray, List.set_cons_zero, List.set_cons_succ]
      refine wpAnyH_take (i := 13) (v := ?_) (by rw [List.getElem?_toArray]; rfl) (by kernel_rfl) (by kernel_rfl) (by kernel_rfl) (by exact fun _ _ _ h => h) (Or.inl ⟨by rfl, ?_⟩) h13 ?_
      rotate_left
      · intro W hW
        go_simp
        all_goals with_reducible rfl
      try simp only [Act.put, List.setIfInBounds_toArray, List.set_cons_zero, List.set_cons_succ]
      refine wpAnyH_done (by kernel_rfl) ?_ _
      have MN := M13
      have BN := B13
      go_wp2_with fail
      go_loopw [7] (fun iv wr => ∃ i : Nat, iv = .int .i64 i ∧ i ≤ L.length ∧ Hid (MoS w wr b6 R1 (.slice q5 (L.length + 1) k5) X) ∧ Hid (Below w.heap.size w wr)) (fun iv _ => L.length - (intOf iv).toNat)
      case atStart => exact ⟨0, rfl, by omega, MN, BN⟩
      case round =>
        clear MN BN
        obtain ⟨i, rfl, hil, MW, BW⟩ := hrel
        by_cases hlt : i < L.length
        case neg =>
          obtain rfl : i = L.length := by omega
          have d0 : ¬ (L.length : Int) < (L.length : Int) := by omega
          go_wp2_with fail
          refine (knows_any (HT.out.on BW.out HT.out.pos)).mono ?_
          rintro e wk ⟨rfl, hbk⟩
          have BK := Lib.hid (BW.out.trans (hbk.mono BW.out.size))
          clear hbk
          go_wp2_with fail
          go_ret
          exact ⟨rfl, BK.out⟩
        by_cases h20 : i < 20
        case neg =>
          have d1 : ¬ (i : Int) < 20 := by omega
          have d2 : decide ((i : Int) < 20) = false := by rw [decide_eq_false_iff_not]; exact d1
          go_wp2_with fail
          refine (knows_any (HT.out.on BW.out HT.out.pos)).mono ?_
          rintro e wk ⟨rfl, hbk⟩
          have BK := Lib.hid (BW.out.trans (hbk.mono BW.out.size))
          clear hbk
          go_wp2_with fail
          go_ret
          exact ⟨rfl, BK.out⟩
        have d2 : decide ((i : Int) < 20) = true := by rw [decide_eq_true_iff]; omega
        go_wp2_with fail
        refine (Parts_any (HL.out.onb BW.out) (by omega) (fun i => by have := HX.out i; omega)).mono ?_
        rintro e w8 ⟨vp8, vs8, rfl, hP8⟩
        have RP8 := Lib.hid hP8.rdl
        have M8 := Lib.hid (MW.out.on hP8.below)
        have B8 := Lib.hid (BW.out.trans (hP8.below.mono BW.out.size))
        obtain ⟨qp8, cp8, rfl⟩ : ∃ qp cp, vp8 = .slice qp L.length cp := by obtain ⟨q, c, e, _⟩ := RP8.out; exact ⟨q, c, e⟩
        clear hP8 MW BW
        go_wp2_with fail
        refine (Prove_yes (p0 := i) hlt RP8.out HB.out hn6 HX.out (HT.out.on B8.out HT.out.pos)).mono ?_
        rintro e w9 ⟨q9, k9, rfl, hs9⟩
        have hsd : (pth 17 i (lvN L L.length)).length = sd 17 i L.length := by
          have := pth_len 17 i (lvN L L.length) (by rw [lvN_len]; exact hlt) (by rw [lvN_len]; omega)
          rw [lvN_len] at this
          exact this
        obtain ⟨Ss, hSs⟩ : ∃ Ss, pth 17 i (lvN L L.length) = Ss := ⟨_, rfl⟩
        rw [hSs] at hs9 hsd ⊢
        have OKS := Lib.hid hs9.ok
        have HSl : Hid (∀ i, i < Ss.length → (Ss.getD i []).length = 32) := fun i hi => (OKS.out.get i hi).1
        obtain ⟨-, rq9, hk9, hm9⟩ := hs9.rd
        have h17 : Ss.length ≤ 17 := by rw [hsd]; exact sd_le _ _ _
        have b9 : Below w9.heap.size w9 (w9.alloc (.cells #[.int .i64 (i : Int), .int .i64 (L.length : Int), .slice q9 Ss.length k9] 28)) := (Below.refl _ _).alloc (Nat.le_refl _) _
        have b89 := hs9.below.trans (b9.mono hs9.below.size)
        have M10 := Lib.hid (M8.out.on b89.drew)
        have B10 := Lib.hid (B8.out.trans (b89.mono B8.out.size)).drew
        have RQ10 : Hid (RdHs (w9.alloc (.cells #[.int .i64 (i : Int), .int .i64 (L.length : Int), .slice q9 Ss.length k9] 28)).drew q9 Ss) := rq9.on HSl.out b9.drew
        obtain ⟨b, off, r, m, kc, -, hqb, -, cb, hm', hrd, -⟩ := HL.out.at hlt
        have bys : Bytes (L.getD i []) := HB.out _ (by rw [List.getD, List.getElem?_eq_getElem hlt]; exact List.getElem_mem hlt)
        have lys := HX6.out i hlt
        subst hm'
        obtain ⟨ys, hys⟩ : ∃ ys, L.getD i [] = ys := ⟨_, rfl⟩
        rw [hys] at cb hrd bys lys
        have HRD := Lib.hid hrd
        have i0 : (0 : Int) ≤ (i : Int) := by omega
        have i1 : (i : Int) < (L.length : Int) := by omega
        have K10 : Hid (HashAt (w9.alloc (.cells #[.int .i64 (i : Int), .int .i64 (L.length : Int), .slice q9 Ss.length k9] 28)).drew b6 R1 ∧ (w9.alloc (.cells #[.int .i64 (i : Int), .int .i64 (L.length : Int), .slice q9 Ss.length k9] 28)).drew.heap[w9.heap.size]? = some (.cells #[.int .i64 (i : Int), .int .i64 (L.length : Int), .slice q9 Ss.length k9] 28 (0, 0)) ∧ (w9.alloc (.cells #[.int .i64 (i : Int), .int .i64 (L.length : Int), .slice q9 Ss.length k9] 28)).drew.cell? ⟨b, off + i, none⟩ = some (.slice r ys.length kc)) := Lib.hid ⟨M10.out.hR, heap_alloc_new w9 _, old B10.out cb⟩
        have hok : okPf (i : Int) (L.length : Int) Ss.length = true := decide_eq_true (by rw [Int.toNat_natCast, Int.toNat_natCast]; exact ⟨by omega, by omega, by omega, hsd⟩)
        have hys4 : ys.length ≤ 4000 := by omega
        have HSD := Lib.hid hsd
        subst hqb
        clear hs9 rq9 b9 b89 M8 B8 RP8 hrd hys hSs cb hsd
        by_cases hch : hList (L.length : Int) (chk 17 i L.length (hItem (i : Int) ys) Ss) = R1
        · have HHC := Lib.hid hch
          have HN0 : Hid (ckR (i : Int) (L.length : Int) Ss ys R1 = 0) := by show _ = _; unfold ckR; rw [if_pos hok, Int.toNat_natCast, Int.toNat_natCast, if_pos hch]
          clear hch hok
          go_wp2_with fail
          generalize hW10 : (w9.alloc (.cells #[.int .i64 (i : Int), .int .i64 (L.length : Int), .slice q9 Ss.length k9] 28)) = W10 at *
          clear hW10
          generalize w9.heap.size = bp at *
          refine wp_region_held_drew (S := fun W => HashAt W b6 R1 ∧ W.heap[bp]? = some (.cells #[.int .i64 (i : Int), .int .i64 (L.length : Int), .slice q9 Ss.length k9] 28 (0, 0)) ∧ W.cell? ⟨b, off + i, none⟩ = some (.slice r ys.length kc)) (by kernel_rfl) (K10.out) (fun h0 => ?_)
          generalize W10.drew = w10 at *
          refine wpAnyH_take (i := 0) (v := ?_) (by rw [List.getElem?_toArray]; rfl) (by kernel_rfl) (by kernel_rfl) (by kernel_rfl) (by exact fun _ _ _ h => h) (Or.inl ⟨by rfl, ?_⟩) h0 ?_
          rotate_left
          · intro W hW
            go_simp
            all_goals with_reducible rfl
          try simp only [Act.put, List.setIfInBounds_toArray, List.set_cons_zero, List.set_cons_succ]
          refine wpAnyH_ready (rs := [1]) (by kernel_rfl) (by simp) ?_
          refine AllReadyH.cons (by rw [List.getElem?_toArray]; rfl) (fun K hK => ?_) AllReadyH.nil
          rw [if_pos (by rfl)]
          go_wp2_with fail
          refine (num_any 0 w10).mono ?_
          rintro e wz ⟨rfl, hwz⟩
          obtain rfl := hwz.symm
          clear hwz
          go_wp2_with fail
          refine hK.out _ _ (h0) (fun hn => ?_)
          clear hK K
          try simp only [Act.put, List.setIfInBounds_toArray, List.set_cons_zero, List.set_cons_succ]
          refine wpAnyH_take (i := 2) (v := ?_) (by rw [List.getElem?_toArray]; rfl) (by kernel_rfl) (by kernel_rfl) (by kernel_rfl) (by exact fun _ _ _ h => h) (Or.inl ⟨by rfl, ?_⟩) hn ?_
          rotate_left
          · intro W hW
            go_simp
            all_goals with_reducible rfl
          try simp only [Act.put, List.setIfInBounds_toArray, List.set_cons_zero, List.set_cons_succ]
          refine wpAnyH_take (i := 3) (v := ?_) (by rw [List.getElem?_toArray]; rfl) (by kernel_rfl) (by kernel_rfl) (by kernel_rfl) (by exact fun _ _ _ h => h) (Or.inl ⟨by rfl, ?_⟩) hn ?_
          rotate_left
          · intro W hW
            go_simp
            all_goals with_reducible rfl
          try simp only [Act.put, List.setIfInBounds_toArray, List.set_cons_zero, List.set_cons_succ]
          refine wpAnyH_take (i := 4) (v := ?_) (by rw [List.getElem?_toArray]; rfl) (by kernel_rfl) (by kernel_rfl) (by kernel_rfl) (by exact fun _ _ _ h => h) (Or.inl ⟨by rfl, ?_⟩) hn ?_
          rotate_left
          · intro W hW
            have cc := hW.1.row lR1
            go_simp
            all_goals with_reducible rfl
          try simp only [Act.put, List.setIfInBounds_toArray, List.set_cons_zero, List.set_cons_succ]
          refine wpAnyH_take (i := 5) (v := ?_) (by rw [List.getElem?_toArray]; rfl) (by kernel_rfl) (by kernel_rfl) (by kernel_rfl) (by exact fun _ _ _ h => h) (Or.inl ⟨by rfl, ?_⟩) hn ?_
          rotate_left
          · intro W hW
            go_simp
            all_goals with_reducible rfl
          try simp only [Act.put, List.setIfInBounds_toArray, List.set_cons_zero, List.set_cons_succ]
          refine wpAnyH_take (i := 6) (v := ?_) (by rw [List.getElem?_toArray]; rfl) (by kernel_rfl) (by kernel_rfl) (by kernel_rfl) (by exact fun _ _ _ h => h) (Or.inl ⟨by rfl, ?_⟩) hn ?_
          rotate_left
          · intro W hW
            go_simp
            all_goals with_reducible rfl
          try simp only [Act.put, List.setIfInBounds_toArray, List.set_cons_zero, List.set_cons_succ]
          refine wpAnyH_take (i := 7) (v := ?_) (by rw [List.getElem?_toArray]; rfl) (by kernel_rfl) (by kernel_rfl) (by kernel_rfl) (by exact fun _ _ _ h => h) (Or.inl ⟨by rfl, ?_⟩) hn ?_
          rotate_left
          · intro W hW
            go_simp
            all_goals with_reducible rfl
          try simp only [Act.put, List.setIfInBounds_toArray, List.set_cons_zero, List.set_cons_succ]
          refine wpAnyH_take (i := 8) (v := ?_) (by rw [List.getElem?_toArray]; rfl) (by kernel_rfl) (by kernel_rfl) (by kernel_rfl) (by exact fun _ _ _ h => h) (Or.inl ⟨by rfl, ?_⟩) hn ?_
          rotate_left
          · intro W hW
            have cc := hW.2.2
            go_simp
            all_goals with_reducible rfl
          try simp only [Act.put, List.setIfInBounds_toArray, List.set_cons_zero, List.set_cons_succ]
          refine wpAnyH_take (i := 9) (v := ?_) (by rw [List.getElem?_toArray]; rfl) (by kernel_rfl) (by kernel_rfl) (by kernel_rfl) (by exact fun _ _ _ h => h) (Or.inl ⟨by rfl, ?_⟩) hn ?_
          rotate_left
          · intro W hW
            have c0 := (Joins.cell_of_block hW.2.1 0).trans (rfl : _ = some _)
            have c1 := (Joins.cell_of_block hW.2.1 1).trans (rfl : _ = some _)
            have c2 := (Joins.cell_of_block hW.2.1 2).trans (rfl : _ = some _)
            go_simp
            all_goals with_reducible rfl
          try simp only [Act.put, List.setIfInBounds_toArray, List.set_cons_zero, List.set_cons_succ]
          refine wpAnyH_ready (rs := [10]) (by kernel_rfl) (by simp) ?_
          refine AllReadyH.cons (by rw [List.getElem?_toArray]; rfl) (fun K hK => ?_) AllReadyH.nil
          rw [if_pos (by rfl)]
          go_wp2_with fail
          refine (Check_any (w := w10) (P := (i : Int)) (C := (L.length : Int)) (q := q9) (k := k9) (Ss := Ss) (G := R1) lR1 RQ10.out (fun i hi => OKS.out.get i hi) (by unfold maxLen; omega) (HRD.out.on B10.out) bys (by omega) hk9 hm9 (HT.out.on B10.out HT.out.pos)).mono ?_
          rintro e w11 ⟨rfl, bb⟩
          rw [HN0.out]
          have M11 := Lib.hid (M10.out.on bb)
          have B11 := Lib.hid (B10.out.trans (bb.mono B10.out.size))
          have K11 : Hid (HashAt w11 b6 R1 ∧ w11.heap[bp]? = some (.cells #[.int .i64 (i : Int), .int .i64 (L.length : Int), .slice q9 Ss.length k9] 28 (0, 0)) ∧ w11.cell? ⟨b, off + i, none⟩ = some (.slice r ys.length kc)) := Lib.hid ⟨M11.out.hR, blk_onB2 K10.out.2.1 bb, old bb K10.out.2.2⟩
          have RQ11 := Lib.hid (RQ10.out.on HSl.out bb)
          clear bb M10 B10 K10 RQ10
          go_wp2_with fail
          refine hK.out _ _ (K11.out) (fun h11 => ?_)
          clear hK K
          try simp only [Act.put, List.setIfInBounds_toArray, List.set_cons_zero, List.set_cons_succ]
          refine wpAnyH_ready (rs := [11]) (by kernel_rfl) (by simp) ?_
          refine AllReadyH.cons (by rw [List.getElem?_toArray]; rfl) (fun K hK => ?_) AllReadyH.nil
          rw [if_pos (by rfl)]
          go_wp2_with fail
          refine (num_any 0 w11).mono ?_
          rintro e wz ⟨rfl, hwz⟩
          obtain rfl := hwz.symm
          clear hwz
          go_wp2_with fail
          refine hK.out _ _ (h11) (fun hn => ?_)
          clear hK K
          try simp only [Act.put, List.setIfInBounds_toArray, List.set_cons_zero, List.set_cons_succ]
          refine wpAnyH_take (i := 12) (v := ?_) (by rw [List.getElem?_toArray]; rfl) (by kernel_rfl) (by kernel_rfl) (by kernel_rfl) (by exact fun _ _ _ h => h) (Or.inl ⟨by rfl, ?_⟩) hn ?_
          rotate_left
          · intro W hW
            go_simp
            all_goals with_reducible rfl
          try simp only [Act.put, List.setIfInBounds_toArray, List.set_cons_zero, List.set_cons_succ]
          refine wpAnyH_take (i := 13) (v := ?_) (by rw [List.getElem?_toArray]; rfl) (by kernel_rfl) (by kernel_rfl) (by kernel_rfl) (by exact fun _ _ _ h => h) (Or.inl ⟨by rfl, ?_⟩) hn ?_
          rotate_left
          · intro W hW
            go_simp
            all_goals with_reducible rfl
          try simp only [Act.put, List.setIfInBounds_toArray, List.set_cons_zero, List.set_cons_succ]
          refine wpAnyH_take (i := 14) (v := ?_) (by rw [List.getElem?_toArray]; rfl) (by kernel_rfl) (by kernel_rfl) (by kernel_rfl) (by exact fun _ _ _ h => h) (Or.inl ⟨by rfl, ?_⟩) hn ?_
          rotate_left
          · intro W hW
            go_simp
            all_goals with_reducible rfl
          try simp only [Act.put, List.setIfInBounds_toArray, List.set_cons_zero, List.set_cons_succ]
          refine wpAnyH_take (i := 16) (v := ?_) (by rw [List.getElem?_toArray]; rfl) (by kernel_rfl) (by kernel_rfl) (by kernel_rfl) (by exact fun _ _ _ h => h) (Or.inl ⟨by rfl, ?_⟩) hn ?_
          rotate_left
          · intro W hW
            go_simp
            all_goals with_reducible rfl
          try simp only [Act.put, List.setIfInBounds_toArray, List.set_cons_zero, List.set_cons_succ]
          refine wpAnyH_take (i := 17) (v := ?_) (by rw [List.getElem?_toArray]; rfl) (by kernel_rfl) (by kernel_rfl) (by kernel_rfl) (by exact fun _ _ _ h => h) (Or.inl ⟨by rfl, ?_⟩) hn ?_
          rotate_left
          · intro W hW
            go_simp
            all_goals with_reducible rfl
          try simp only [Act.put, List.setIfInBounds_toArray, List.set_cons_zero, List.set_cons_succ]
          refine wpAnyH_take (i := 18) (v := ?_) (by rw [List.getElem?_toArray]; rfl) (by kernel_rfl) (by kernel_rfl) (by kernel_rfl) (by exact fun _ _ _ h => h) (Or.inl ⟨by rfl, ?_⟩) hn ?_
          rotate_left
          · intro W hW
            go_simp
            all_goals with_reducible rfl
          try simp only [Act.put, List.setIfInBounds_toArray, List.set_cons_zero, List.set_cons_succ]
          refine wpAnyH_take (i := 19) (v := ?_) (by rw [List.getElem?_toArray]; rfl) (by kernel_rfl) (by kernel_rfl) (by kernel_rfl) (by exact fun _ _ _ h => h) (Or.inl ⟨by rfl, ?_⟩) hn ?_
          rotate_left
          · intro W hW
            have cc := hW.2.2
            go_simp
            all_goals with_reducible rfl
          try simp only [Act.put, List.setIfInBounds_toArray, List.set_cons_zero, List.set_cons_succ]
          refine wpAnyH_take (i := 20) (v := ?_) (by rw [List.getElem?_toArray]; rfl) (by kernel_rfl) (by kernel_rfl) (by kernel_rfl) (by exact fun _ _ _ h => h) (Or.inl ⟨by rfl, ?_⟩) hn ?_
          rotate_left
          · intro W hW
            have c0 := (Joins.cell_of_block hW.2.1 0).trans (rfl : _ = some _)
            have c1 := (Joins.cell_of_block hW.2.1 1).trans (rfl : _ = some _)
            have c2 := (Joins.cell_of_block hW.2.1 2).trans (rfl : _ = some _)
            go_simp
            all_goals with_reducible rfl
          try simp only [Act.put, List.setIfInBounds_toArray, List.set_cons_zero, List.set_cons_succ]
          refine wpAnyH_ready (rs := [15]) (by kernel_rfl) (by simp) ?_
          refine AllReadyH.cons (by rw [List.getElem?_toArray]; rfl) (fun K hK => ?_) AllReadyH.nil
          rw [if_pos (by rfl)]
          go_wp2_with fail
          refine (TextsQ (L := X) M11.out.tx.rdl BXX.out (by rw [LX.out]; omega) HXX.out).mono ?_
          rintro e w12 ⟨qt1, nt1, ct1, T1, Z1, rfl, ht1, hnt1, hz1⟩
          have bb := ht1.tx.below
          have Q1 := Lib.hid ht1
          have HZ1 := Lib.hid hz1
          rw [LX.out] at hnt1
          have M12 := Lib.hid (M11.out.on bb)
          have B12 := Lib.hid (B11.out.trans (bb.mono B11.out.size))
          have K12 : Hid (HashAt w12 b6 R1 ∧ w12.heap[bp]? = some (.cells #[.int .i64 (i : Int), .int .i64 (L.length : Int), .slice q9 Ss.length k9] 28 (0, 0)) ∧ w12.cell? ⟨b, off + i, none⟩ = some (.slice r ys.length kc)) := Lib.hid ⟨M12.out.hR, blk_onB2 K11.out.2.1 bb, old bb K11.out.2.2⟩
          have RQ12 := Lib.hid (RQ11.out.on HSl.out bb)
          have M11K := M11
          have K11K := K11
          have B11K := B11
          clear bb M11 B11 K11 RQ11 ht1 hz1
          go_wp2_with fail
          refine hK.out _ _ (K12.out) (fun h12 => ?_)
          clear hK K
          try simp only [Act.put, List.setIfInBounds_toArray, List.set_cons_zero, List.set_cons_succ]
          refine wpAnyH_ready (rs := [21]) (by kernel_rfl) (by simp) ?_
          refine AllReadyH.cons (by rw [List.getElem?_toArray]; rfl) (fun K hK => ?_) AllReadyH.nil
          rw [if_pos (by rfl)]
          go_wp2_with fail
          refine (Ref_any (P := (i : Int)) (C := (L.length : Int)) (q := q9) (k := k9) RQ12.out OKS.out (by omega)).mono ?_
          rintro e w13 ⟨q13, k13, rfl, hs13⟩
          have bb := hs13.below
          have R13 : Hid (RdHs w13 q13 Ss) := hs13.rd.2.1
          have Q1a := Lib.hid (Q1.out.on bb)
          have M13 := Lib.hid (M12.out.on bb)
          have B13 := Lib.hid (B12.out.trans (bb.mono B12.out.size))
          have K13 : Hid (HashAt w13 b6 R1 ∧ w13.heap[bp]? = some (.cells #[.int .i64 (i : Int), .int .i64 (L.length : Int), .slice q9 Ss.length k9] 28 (0, 0)) ∧ w13.cell? ⟨b, off + i, none⟩ = some (.slice r ys.length kc)) := Lib.hid ⟨M13.out.hR, blk_onB2 K12.out.2.1 bb, old bb K12.out.2.2⟩
          have RQ13 := Lib.hid (RQ12.out.on HSl.out bb)
          clear bb M12 B12 K12 RQ12 hs13 Q1
          go_wp2_with fail
          refine hK.out _ _ (K13.out) (fun h13 => ?_)
          clear hK K
          try simp only [Act.put, List.setIfInBounds_toArray, List.set_cons_zero, List.set_cons_succ]
          refine wpAnyH_ready (rs := [22]) (by kernel_rfl) (by simp) ?_
          refine AllReadyH.cons (by rw [List.getElem?_toArray]; rfl) (fun K hK => ?_) AllReadyH.nil
          rw [if_pos (by rfl)]
          go_wp2_with fail
          refine (AlongQ (p0 := i) (k0 := L.length) (q := q13) (k := k13) R13.out OKS.out hlt (by omega) HSD.out (HRD.out.on B13.out) bys (by omega)).mono ?_
          rintro e w14 ⟨qt2, nt2, ct2, T2, rfl, ht2, hnt2⟩
          have bb := ht2.tx.below
          have Q2 := Lib.hid ht2
          have Q1b := Lib.hid (Q1a.out.on bb)
          have M14 := Lib.hid (M13.out.on bb)
          have B14 := Lib.hid (B13.out.trans (bb.mono B13.out.size))
          have K14 : Hid (HashAt w14 b6 R1 ∧ w14.heap[bp]? = some (.cells #[.int .i64 (i : Int), .int .i64 (L.length : Int), .slice q9 Ss.length k9] 28 (0, 0)) ∧ w14.cell? ⟨b, off + i, none⟩ = some (.slice r ys.length kc)) := Lib.hid ⟨M14.out.hR, blk_onB2 K13.out.2.1 bb, old bb K13.out.2.2⟩
          have RQ14 := Lib.hid (RQ13.out.on HSl.out bb)
          clear bb M13 B13 K13 RQ13 ht2 Q1a R13
          go_wp2_with fail
          refine hK.out _ _ (K14.out) (fun h14 => ?_)
          clear hK K
          try simp only [Act.put, List.setIfInBounds_toArray, List.set_cons_zero, List.set_cons_succ]
          refine wpAnyH_ready (rs := [23]) (by kernel_rfl) (by simp) ?_
          refine AllReadyH.cons (by rw [List.getElem?_toArray]; rfl) (fun K hK => ?_) AllReadyH.nil
          rw [if_pos (by rfl)]
          obtain ⟨vs1, vs2, OW0, SR0, fin0⟩ := TxS.app (P := Tryd.prog) Tryd.underlying22 Q1b.out.tx Q2.out.tx
          rw [Q1b.out.len] at OW0 fin0
          rw [Q2.out.len] at SR0 fin0
          refine wp_append_row _ _ rfl Tryd.underlying22 hj.out ez0.out ez1.out ez2.out rfl OW0 SR0 (by unfold maxLen; omega) (by omega) ?_
          intro q15 k15 w15 own15 grow15 fr15
          obtain ⟨RL15, bb0⟩ := fin0 _ _ own15 grow15
          have MT15 : Hid (Below w11.heap.size w11 w15) := bb0
          have K15 : Hid (HashAt w15 b6 R1 ∧ w15.heap[bp]? = some (.cells #[.int .i64 (i : Int), .int .i64 (L.length : Int), .slice q9 Ss.length k9] 28 (0, 0)) ∧ w15.cell? ⟨b, off + i, none⟩ = some (.slice r ys.length kc)) := Lib.hid ⟨M11K.out.hR.on MT15.out, blk_onB2 K11K.out.2.1 MT15.out, old MT15.out K11K.out.2.2⟩
          have RLL := Lib.hid RL15
          clear own15 grow15 fr15 OW0 SR0 fin0 RL15 bb0
          go_wp2_with fail
          refine hK.out _ _ (K15.out) (fun h15 => ?_)
          clear hK K
          try simp only [Act.put, List.setIfInBounds_toArray, List.set_cons_zero, List.set_cons_succ]
          refine wpAnyH_ready (rs := [24]) (by kernel_rfl) (by simp) ?_
          refine AllReadyH.cons (by rw [List.getElem?_toArray]; rfl) (fun K hK => ?_) AllReadyH.nil
          rw [if_pos (by rfl)]
          go_wp2_with fail
          refine (clash2 Q1b.out Q2.out (by omega) RLL.out (HZ1.out.symm.trans (HR1.out.trans HHC.out.symm)) (by rw [LX.out]; exact list_apart (by omega) (by omega) (by omega) (by omega) (by omega) _ _)).mono ?_
          rintro e w16 ⟨rfl, bb⟩
          have b11 := MT15.out.trans (bb.mono MT15.out.size)
          have M16 := Lib.hid (M11K.out.on b11)
          have K16 : Hid (HashAt w16 b6 R1 ∧ w16.heap[bp]? = some (.cells #[.int .i64 (i : Int), .int .i64 (L.length : Int), .slice q9 Ss.length k9] 28 (0, 0)) ∧ w16.cell? ⟨b, off + i, none⟩ = some (.slice r ys.length kc)) := Lib.hid ⟨M16.out.hR, blk_onB2 K11K.out.2.1 b11, old b11 K11K.out.2.2⟩
          have B16 := Lib.hid (B11K.out.trans (b11.mono B11K.out.size))
          clear bb b11 M14 B14 K14 RQ14 Q1b Q2 RLL
          go_wp2_with fail
          refine hK.out _ _ (K16.out) (fun h16 => ?_)
          clear hK K
          try simp only [Act.put, List.setIfInBounds_toArray, List.set_cons_zero, List.set_cons_succ]
          refine wpAnyH_take (i := 25) (v := ?_) (by rw [List.getElem?_toArray]; rfl) (by kernel_rfl) (by kernel_rfl) (by kernel_rfl) (by exact fun _ _ _ h => h) (Or.inl ⟨by rfl, ?_⟩) h16 ?_
          rotate_left
          · intro W hW
            go_simp
            all_goals with_reducible rfl
          try simp only [Act.put, List.setIfInBounds_toArray, List.set_cons_zero, List.set_cons_succ]
          refine wpAnyH_take (i := 26) (v := ?_) (by rw [List.getElem?_toArray]; rfl) (by kernel_rfl) (by kernel_rfl) (by kernel_rfl) (by exact fun _ _ _ h => h) (Or.inl ⟨by rfl, ?_⟩) h16 ?_
          rotate_left
          · intro W hW
            go_simp
            all_goals with_reducible rfl
          try simp only [Act.put, List.setIfInBounds_toArray, List.set_cons_zero, List.set_cons_succ]
          refine wpAnyH_take (i := 27) (v := ?_) (by rw [List.getElem?_toArray]; rfl) (by kernel_rfl) (by kernel_rfl) (by kernel_rfl) (by exact fun _ _ _ h => h) (Or.inl ⟨by rfl, ?_⟩) h16 ?_
          rotate_left
          · intro W hW
            go_simp
            all_goals with_reducible rfl
          try simp only [Act.put, List.setIfInBounds_toArray, List.set_cons_zero, List.set_cons_succ]
          refine wpAnyH_done (by kernel_rfl) ?_ _
          have MN := M16
          clear h16 h15 h14 h13 h12 h11 K16 K15
          go_wp2_with fail
          go_roundw
          case rel => exact ⟨i + 1, by go_num, by omega, MN, Lib.hid B16.out⟩
          case measure => simp [intOf]; omega
        · have HN0 : Hid (ckR (i : Int) (L.length : Int) Ss ys R1 = 22) := by show _ = _; unfold ckR; rw [if_pos hok, Int.toNat_natCast, Int.toNat_natCast, if_neg hch]
          clear hch hok
          go_wp2_with fail
          generalize hW10 : (w9.alloc (.cells #[.int .i64 (i : Int), .int .i64 (L.length : Int), .slice q9 Ss.length k9] 28)) = W10 at *
          clear hW10
          generalize w9.heap.size = bp at *
          refine wp_region_held_drew (S := fun W => HashAt W b6 R1 ∧ W.heap[bp]? = some (.cells #[.int .i64 (i : Int), .int .i64 (L.length : Int), .slice q9 Ss.length k9] 28 (0, 0)) ∧ W.cell? ⟨b, off + i, none⟩ = some (.slice r ys.length kc)) (by kernel_rfl) (K10.out) (fun h0 => ?_)
          generalize W10.drew = w10 at *
          refine wpAnyH_take (i := 0) (v := ?_) (by rw [List.getElem?_toArray]; rfl) (by kernel_rfl) (by kernel_rfl) (by kernel_rfl) (by exact fun _ _ _ h => h) (Or.inl ⟨by rfl, ?_⟩) h0 ?_
          rotate_left
          · intro W hW
            go_simp
            all_goals with_reducible rfl
          try simp only [Act.put, List.setIfInBounds_toArray, List.set_cons_zero, List.set_cons_succ]
          refine wpAnyH_ready (rs := [1]) (by kernel_rfl) (by simp) ?_
          refine AllReadyH.cons (by rw [List.getElem?_toArray]; rfl) (fun K hK => ?_) AllReadyH.nil
          rw [if_pos (by rfl)]
          go_wp2_with fail
          refine (num_any 0 w10).mono ?_
          rintro e wz ⟨rfl, hwz⟩
          obtain rfl := hwz.symm
          clear hwz
          go_wp2_with fail
          refine hK.out _ _ (h0) (fun hn => ?_)
          clear hK K
          try simp only [Act.put, List.setIfInBounds_toArray, List.set_cons_zero, List.set_cons_succ]
          refine wpAnyH_take (i := 2) (v := ?_) (by rw [List.getElem?_toArray]; rfl) (by kernel_rfl) (by kernel_rfl) (by kernel_rfl) (by exact fun _ _ _ h => h) (Or.inl ⟨by rfl, ?_⟩) hn ?_
          rotate_left
          · intro W hW
            go_simp
            all_goals with_reducible rfl
          try simp only [Act.put, List.setIfInBounds_toArray, List.set_cons_zero, List.set_cons_succ]
          refine wpAnyH_take (i := 3) (v := ?_) (by rw [List.getElem?_toArray]; rfl) (by kernel_rfl) (by kernel_rfl) (by kernel_rfl) (by exact fun _ _ _ h => h) (Or.inl ⟨by rfl, ?_⟩) hn ?_
          rotate_left
          · intro W hW
            go_simp
            all_goals with_reducible rfl
          try simp only [Act.put, List.setIfInBounds_toArray, List.set_cons_zero, List.set_cons_succ]
          refine wpAnyH_take (i := 4) (v := ?_) (by rw [List.getElem?_toArray]; rfl) (by kernel_rfl) (by kernel_rfl) (by kernel_rfl) (by exact fun _ _ _ h => h) (Or.inl ⟨by rfl, ?_⟩) hn ?_
          rotate_left
          · intro W hW
            have cc := hW.1.row lR1
            go_simp
            all_goals with_reducible rfl
          try simp only [Act.put, List.setIfInBounds_toArray, List.set_cons_zero, List.set_cons_succ]
          refine wpAnyH_take (i := 5) (v := ?_) (by rw [List.getElem?_toArray]; rfl) (by kernel_rfl) (by kernel_rfl) (by kernel_rfl) (by exact fun _ _ _ h => h) (Or.inl ⟨by rfl, ?_⟩) hn ?_
          rotate_left
          · intro W hW
            go_simp
            all_goals with_reducible rfl
          try simp only [Act.put, List.setIfInBounds_toArray, List.set_cons_zero, List.set_cons_succ]
          refine wpAnyH_take (i := 6) (v := ?_) (by rw [List.getElem?_toArray]; rfl) (by kernel_rfl) (by kernel_rfl) (by kernel_rfl) (by exact fun _ _ _ h => h) (Or.inl ⟨by rfl, ?_⟩) hn ?_
          rotate_left
          · intro W hW
            go_simp
            all_goals with_reducible rfl
          try simp only [Act.put, List.setIfInBounds_toArray, List.set_cons_zero, List.set_cons_succ]
          refine wpAnyH_take (i := 7) (v := ?_) (by rw [List.getElem?_toArray]; rfl) (by kernel_rfl) (by kernel_rfl) (by kernel_rfl) (by exact fun _ _ _ h => h) (Or.inl ⟨by rfl, ?_⟩) hn ?_
          rotate_left
          · intro W hW
            go_simp
            all_goals with_reducible rfl
          try simp only [Act.put, List.setIfInBounds_toArray, List.set_cons_zero, List.set_cons_succ]
          refine wpAnyH_take (i := 8) (v := ?_) (by rw [List.getElem?_toArray]; rfl) (by kernel_rfl) (by kernel_rfl) (by kernel_rfl) (by exact fun _ _ _ h => h) (Or.inl ⟨by rfl, ?_⟩) hn ?_
          rotate_left
          · intro W hW
            have cc := hW.2.2
            go_simp
            all_goals with_reducible rfl
          try simp only [Act.put, List.setIfInBounds_toArray, List.set_cons_zero, List.set_cons_succ]
          refine wpAnyH_take (i := 9) (v := ?_) (by rw [List.getElem?_toArray]; rfl) (by kernel_rfl) (by kernel_rfl) (by kernel_rfl) (by exact fun _ _ _ h => h) (Or.inl ⟨by rfl, ?_⟩) hn ?_
          rotate_left
          · intro W hW
            have c0 := (Joins.cell_of_block hW.2.1 0).trans (rfl : _ = some _)
            have c1 := (Joins.cell_of_block hW.2.1 1).trans (rfl : _ = some _)
            have c2 := (Joins.cell_of_block hW.2.1 2).trans (rfl : _ = some _)
            go_simp
            all_goals with_reducible rfl
          try simp only [Act.put, List.setIfInBounds_toArray, List.set_cons_zero, List.set_cons_succ]
          refine wpAnyH_ready (rs := [10]) (by kernel_rfl) (by simp) ?_
          refine AllReadyH.cons (by rw [List.getElem?_toArray]; rfl) (fun K hK => ?_) AllReadyH.nil
          rw [if_pos (by rfl)]
          go_wp2_with fail
          refine (Check_any (w := w10) (P := (i : Int)) (C := (L.length : Int)) (q := q9) (k := k9) (Ss := Ss) (G := R1) lR1 RQ10.out (fun i hi => OKS.out.get i hi) (by unfold maxLen; omega) (HRD.out.on B10.out) bys (by omega) hk9 hm9 (HT.out.on B10.out HT.out.pos)).mono ?_
          rintro e w11 ⟨rfl, bb⟩
          rw [HN0.out]
          have M11 := Lib.hid (M10.out.on bb)
          have B11 := Lib.hid (B10.out.trans (bb.mono B10.out.size))
          have K11 : Hid (HashAt w11 b6 R1 ∧ w11.heap[bp]? = some (.cells #[.int .i64 (i : Int), .int .i64 (L.length : Int), .slice q9 Ss.length k9] 28 (0, 0)) ∧ w11.cell? ⟨b, off + i, none⟩ = some (.slice r ys.length kc)) := Lib.hid ⟨M11.out.hR, blk_onB2 K10.out.2.1 bb, old bb K10.out.2.2⟩
          have RQ11 := Lib.hid (RQ10.out.on HSl.out bb)
          clear bb M10 B10 K10 RQ10
          go_wp2_with fail
          refine hK.out _ _ (K11.out) (fun h11 => ?_)
          clear hK K
          try simp only [Act.put, List.setIfInBounds_toArray, List.set_cons_zero, List.set_cons_succ]
          refine wpAnyH_ready (rs := [11]) (by kernel_rfl) (by simp) ?_
          refine AllReadyH.cons (by rw [List.getElem?_toArray]; rfl) (fun K hK => ?_) AllReadyH.nil
          rw [if_pos (by rfl)]
          go_wp2_with fail
          refine (num_any 22 w11).mono ?_
          rintro e wz ⟨rfl, hwz⟩
          obtain rfl := hwz.symm
          clear hwz
          go_wp2_with fail
          refine hK.out _ _ (h11) (fun hn => ?_)
          clear hK K
          try simp only [Act.put, List.setIfInBounds_toArray, List.set_cons_zero, List.set_cons_succ]
          refine wpAnyH_take (i := 12) (v := ?_) (by rw [List.getElem?_toArray]; rfl) (by kernel_rfl) (by kernel_rfl) (by kernel_rfl) (by exact fun _ _ _ h => h) (Or.inl ⟨by rfl, ?_⟩) hn ?_
          rotate_left
          · intro W hW
            go_simp
            all_goals with_reducible rfl
          try simp only [Act.put, List.setIfInBounds_toArray, List.set_cons_zero, List.set_cons_succ]
          refine wpAnyH_take (i := 13) (v := ?_) (by rw [List.getElem?_toArray]; rfl) (by kernel_rfl) (by kernel_rfl) (by kernel_rfl) (by exact fun _ _ _ h => h) (Or.inl ⟨by rfl, ?_⟩) hn ?_
          rotate_left
          · intro W hW
            go_simp
            all_goals with_reducible rfl
          try simp only [Act.put, List.setIfInBounds_toArray, List.set_cons_zero, List.set_cons_succ]
          refine wpAnyH_take (i := 14) (v := undef) (by rw [List.getElem?_toArray]; rfl) (by kernel_rfl) (by kernel_rfl) (by kernel_rfl) (by exact fun _ _ _ h => h) (Or.inr ⟨by rfl, rfl⟩) hn ?_
          try simp only [Act.put, List.setIfInBounds_toArray, List.set_cons_zero, List.set_cons_succ]
          refine wpAnyH_take (i := 15) (v := undef) (by rw [List.getElem?_toArray]; rfl) (by kernel_rfl) (by kernel_rfl) (by kernel_rfl) (by exact fun _ _ _ h => h) (Or.inr ⟨by rfl, rfl⟩) hn ?_
          try simp only [Act.put, List.setIfInBounds_toArray, List.set_cons_zero, List.set_cons_succ]
          refine wpAnyH_take (i := 16) (v := undef) (by rw [List.getElem?_toArray]; rfl) (by kernel_rfl) (by kernel_rfl) (by kernel_rfl) (by exact fun _ _ _ h => h) (Or.inr ⟨by rfl, rfl⟩) hn ?_
          try simp only [Act.put, List.setIfInBounds_toArray, List.set_cons_zero, List.set_cons_succ]
          refine wpAnyH_take (i := 17) (v := undef) (by rw [List.getElem?_toArray]; rfl) (by kernel_rfl) (by kernel_rfl) (by kernel_rfl) (by exact fun _ _ _ h => h) (Or.inr ⟨by rfl, rfl⟩) hn ?_
          try simp only [Act.put, List.setIfInBounds_toArray, List.set_cons_zero, List.set_cons_succ]
          refine wpAnyH_take (i := 18) (v := undef) (by rw [List.getElem?_toArray]; rfl) (by kernel_rfl) (by kernel_rfl) (by kernel_rfl) (by exact fun _ _ _ h => h) (Or.inr ⟨by rfl, rfl⟩) hn ?_
          try simp only [Act.put, List.setIfInBounds_toArray, List.set_cons_zero, List.set_cons_succ]
          refine wpAnyH_take (i := 19) (v := undef) (by rw [List.getElem?_toArray]; rfl) (by kernel_rfl) (by kernel_rfl) (by kernel_rfl) (by exact fun _ _ _ h => h) (Or.inr ⟨by rfl, rfl⟩) hn ?_
          try simp only [Act.put, List.setIfInBounds_toArray, List.set_cons_zero, List.set_cons_succ]
          refine wpAnyH_take (i := 20) (v := undef) (by rw [List.getElem?_toArray]; rfl) (by kernel_rfl) (by kernel_rfl) (by kernel_rfl) (by exact fun _ _ _ h => h) (Or.inr ⟨by rfl, rfl⟩) hn ?_
          try simp only [Act.put, List.setIfInBounds_toArray, List.set_cons_zero, List.set_cons_succ]
          refine wpAnyH_take (i := 21) (v := undef) (by rw [List.getElem?_toArray]; rfl) (by kernel_rfl) (by kernel_rfl) (by kernel_rfl) (by exact fun _ _ _ h => h) (Or.inr ⟨by rfl, rfl⟩) hn ?_
          try simp only [Act.put, List.setIfInBounds_toArray, List.set_cons_zero, List.set_cons_succ]
          refine wpAnyH_take (i := 22) (v := undef) (by rw [List.getElem?_toArray]; rfl) (by kernel_rfl) (by kernel_rfl) (by kernel_rfl) (by exact fun _ _ _ h => h) (Or.inr ⟨by rfl, rfl⟩) hn ?_
          try simp only [Act.put, List.setIfInBounds_toArray, List.set_cons_zero, List.set_cons_succ]
          refine wpAnyH_take (i := 23) (v := undef) (by rw [List.getElem?_toArray]; rfl) (by kernel_rfl) (by kernel_rfl) (by kernel_rfl) (by exact fun _ _ _ h => h) (Or.inr ⟨by rfl, rfl⟩) hn ?_
          try simp only [Act.put, List.setIfInBounds_toArray, List.set_cons_zero, List.set_cons_succ]
          refine wpAnyH_take (i := 24) (v := undef) (by rw [List.getElem?_toArray]; rfl) (by kernel_rfl) (by kernel_rfl) (by kernel_rfl) (by exact fun _ _ _ h => h) (Or.inr ⟨by rfl, rfl⟩) hn ?_
          try simp only [Act.put, List.setIfInBounds_toArray, List.set_cons_zero, List.set_cons_succ]
          refine wpAnyH_take (i := 25) (v := undef) (by rw [List.getElem?_toArray]; rfl) (by kernel_rfl) (by kernel_rfl) (by kernel_rfl) (by exact fun _ _ _ h => h) (Or.inr ⟨by rfl, rfl⟩) hn ?_
          try simp only [Act.put, List.setIfInBounds_toArray, List.set_cons_zero, List.set_cons_succ]
          refine wpAnyH_take (i := 26) (v := ?_) (by rw [List.getElem?_toArray]; rfl) (by kernel_rfl) (by kernel_rfl) (by kernel_rfl) (by exact fun _ _ _ h => h) (Or.inl ⟨by rfl, ?_⟩) hn ?_
          rotate_left
          · intro W hW
            go_simp
            all_goals with_reducible rfl
          try simp only [Act.put, List.setIfInBounds_toArray, List.set_cons_zero, List.set_cons_succ]
          refine wpAnyH_take (i := 27) (v := ?_) (by rw [List.getElem?_toArray]; rfl) (by kernel_rfl) (by kernel_rfl) (by kernel_rfl) (by exact fun _ _ _ h => h) (Or.inl ⟨by rfl, ?_⟩) hn ?_
          rotate_left
          · intro W hW
            go_simp
            all_goals with_reducible rfl
          try simp only [Act.put, List.setIfInBounds_toArray, List.set_cons_zero, List.set_cons_succ]
          refine wpAnyH_done (by kernel_rfl) ?_ _
          have MN := M11
          clear K11 RQ11 h11
          go_wp2_with fail
          go_roundw
          case rel => exact ⟨i + 1, by go_num, by omega, MN, Lib.hid B11.out⟩
          case measure => simp [intOf]; omega
    · obtain ⟨R0, hR0⟩ : ∃ R0, rtL L = R0 := ⟨_, rfl⟩
      have lR0 := rtL_len L
      rw [hR0] at hRR lR0
      have lcR0 := hc_len R0
      have dg : (R1 == R0) = false := by simpa using fun e => hRR e.symm
      clear hRR
      refine wp_region_held_drew (S := fun W => HashAt W b6 R1) (by kernel_rfl) (M7.out.hR) (fun h0 => ?_)
      generalize W7.drew = w7 at *
      refine wpAnyH_take (i := 0) (v := ?_) (by rw [List.getElem?_toArray]; rfl) (by kernel_rfl) (by kernel_rfl) (by kernel_rfl) (by exact fun _ _ _ h => h) (Or.inl ⟨by rfl, ?_⟩) h0 ?_
      rotate_left
      · intro W hW
        have cc := hW.row lR1
        go_simp
        all_goals with_reducible rfl
      try simp only [Act.put, List.setIfInBounds_toArray, List.set_cons_zero, List.set_cons_succ]
      refine wpAnyH_take (i := 1) (v := ?_) (by rw [List.getElem?_toArray]; rfl) (by kernel_rfl) (by kernel_rfl) (by kernel_rfl) (by exact fun _ _ _ h => h) (Or.inl ⟨by rfl, ?_⟩) h0 ?_
      rotate_left
      · intro W hW
        go_simp
        all_goals with_reducible rfl
      try simp only [Act.put, List.setIfInBounds_toArray, List.set_cons_zero, List.set_cons_succ]
      refine wpAnyH_ready (rs := [2]) (by kernel_rfl) (by simp) ?_
      refine AllReadyH.cons (by rw [List.getElem?_toArray]; rfl) (fun K hK => ?_) AllReadyH.nil
      rw [if_pos (by rfl)]
      go_wp2_with fail
      refine (Parts_any (HL.out.onb B7.out) (by omega) (fun i => by have := HX.out i; omega)).mono ?_
      rintro e w8 ⟨vp8, vs8, rfl, hP8⟩
      have bb := hP8.below
      have RP8 := Lib.hid hP8.rdl
      have M8 := Lib.hid (M7.out.on bb)
      have B8 := Lib.hid (B7.out.trans (bb.mono B7.out.size))
      obtain ⟨qp8, cp8, rfl⟩ : ∃ qp cp, vp8 = .slice qp L.length cp := by obtain ⟨q, c, e, _⟩ := RP8.out; exact ⟨q, c, e⟩
      clear hP8 bb M7 B7
      go_wp2_with fail
      refine hK.out _ _ (M8.out.hR) (fun h8 => ?_)
      clear hK K
      try simp only [Act.put, List.setIfInBounds_toArray, List.set_cons_zero, List.set_cons_succ]
      refine wpAnyH_ready (rs := [3]) (by kernel_rfl) (by simp) ?_
      refine AllReadyH.cons (by rw [List.getElem?_toArray]; rfl) (fun K hK => ?_) AllReadyH.nil
      rw [if_pos (by rfl)]
      go_wp2_with fail
      refine (Root_any RP8.out HB.out hn6 HX.out (HT.out.on B8.out HT.out.pos)).mono ?_
      rintro e w9 ⟨rfl, bb⟩
      rw [hR0]
      have M9 := Lib.hid (M8.out.on bb)
      have B9 := Lib.hid (B8.out.trans (bb.mono B8.out.size))
      clear bb M8 B8 RP8
      go_wp2_with fail
      refine hK.out _ _ (M9.out.hR) (fun h9 => ?_)
      clear hK K
      try simp only [Act.put, List.setIfInBounds_toArray, List.set_cons_zero, List.set_cons_succ]
      refine wpAnyH_take (i := 4) (v := ?_) (by rw [List.getElem?_toArray]; rfl) (by kernel_rfl) (by kernel_rfl) (by kernel_rfl) (by exact fun _ _ _ h => h) (Or.inl ⟨by rfl, ?_⟩) h9 ?_
      rotate_left
      · intro W hW
        go_simp
        all_goals with_reducible rfl
      try simp only [Act.put, List.setIfInBounds_toArray, List.set_cons_zero, List.set_cons_succ]
      refine wpAnyH_take (i := 5) (v := ?_) (by rw [List.getElem?_toArray]; rfl) (by kernel_rfl) (by kernel_rfl) (by kernel_rfl) (by exact fun _ _ _ h => h) (Or.inl ⟨by rfl, ?_⟩) h9 ?_
      rotate_left
      · intro W hW
        go_simp
        all_goals with_reducible rfl
      try simp only [Act.put, List.setIfInBounds_toArray, List.set_cons_zero, List.set_cons_succ]
      refine wpAnyH_take (i := 6) (v := undef) (by rw [List.getElem?_toArray]; rfl) (by kernel_rfl) (by kernel_rfl) (by kernel_rfl) (by exact fun _ _ _ h => h) (Or.inr ⟨by rfl, rfl⟩) h9 ?_
      try simp only [Act.put, List.setIfInBounds_toArray, List.set_cons_zero, List.set_cons_succ]
      refine wpAnyH_take (i := 7) (v := undef) (by rw [List.getElem?_toArray]; rfl) (by kernel_rfl) (by kernel_rfl) (by kernel_rfl) (by exact fun _ _ _ h => h) (Or.inr ⟨by rfl, rfl⟩) h9 ?_
      try simp only [Act.put, List.setIfInBounds_toArray, List.set_cons_zero, List.set_cons_succ]
      refine wpAnyH_take (i := 8) (v := undef) (by rw [List.getElem?_toArray]; rfl) (by kernel_rfl) (by kernel_rfl) (by kernel_rfl) (by exact fun _ _ _ h => h) (Or.inr ⟨by rfl, rfl⟩) h9 ?_
      try simp only [Act.put, List.setIfInBounds_toArray, List.set_cons_zero, List.set_cons_succ]
      refine wpAnyH_take (i := 9) (v := undef) (by rw [List.getElem?_toArray]; rfl) (by kernel_rfl) (by kernel_rfl) (by kernel_rfl) (by exact fun _ _ _ h => h) (Or.inr ⟨by rfl, rfl⟩) h9 ?_
      try simp only [Act.put, List.setIfInBounds_toArray, List.set_cons_zero, List.set_cons_succ]
      refine wpAnyH_take (i := 10) (v := undef) (by rw [List.getElem?_toArray]; rfl) (by kernel_rfl) (by kernel_rfl) (by kernel_rfl) (by exact fun _ _ _ h => h) (Or.inr ⟨by rfl, rfl⟩) h9 ?_
      try simp only [Act.put, List.setIfInBounds_toArray, List.set_cons_zero, List.set_cons_succ]
      refine wpAnyH_take (i := 11) (v := undef) (by rw [List.getElem?_toArray]; rfl) (by kernel_rfl) (by kernel_rfl) (by kernel_rfl) (by exact fun _ _ _ h => h) (Or.inr ⟨by rfl, rfl⟩) h9 ?_
      try simp only [Act.put, List.setIfInBounds_toArray, List.set_cons_zero, List.set_cons_succ]
      refine wpAnyH_take (i := 12) (v := undef) (by rw [List.getElem?_toArray]; rfl) (by kernel_rfl) (by kernel_rfl) (by kernel_rfl) (by exact fun _ _ _ h => h) (Or.inr ⟨by rfl, rfl⟩) h9 ?_
      try simp only [Act.put, List.setIfInBounds_toArray, List.set_cons_zero, List.set_cons_succ]
      refine wpAnyH_take (i := 13) (v := ?_) (by rw [List.getElem?_toArray]; rfl) (by kernel_rfl) (by kernel_rfl) (by kernel_rfl) (by exact fun _ _ _ h => h) (Or.inl ⟨by rfl, ?_⟩) h9 ?_
      rotate_left
      · intro W hW
        go_simp
        all_goals with_reducible rfl
      try simp only [Act.put, List.setIfInBounds_toArray, List.set_cons_zero, List.set_cons_succ]
      refine wpAnyH_done (by kernel_rfl) ?_ _
      have MN := M9
      have BN := B9
      go_wp2_with fail
      go_loopw [7] (fun iv wr => ∃ i : Nat, iv = .int .i64 i ∧ i ≤ L.length ∧ Hid (MoS w wr b6 R1 (.slice q5 (L.length + 1) k5) X) ∧ Hid (Below w.heap.size w wr)) (fun iv _ => L.length - (intOf iv).toNat)
      case atStart => exact ⟨0, rfl, by omega, MN, BN⟩
      case round =>
        clear MN BN
        obtain ⟨i, rfl, hil, MW, BW⟩ := hrel
        by_cases hlt : i < L.length
        case neg =>
          obtain rfl : i = L.length := by omega
          have d0 : ¬ (L.length : Int) < (L.length : Int) := by omega
          go_wp2_with fail
          refine (knows_any (HT.out.on BW.out HT.out.pos)).mono ?_
          rintro e wk ⟨rfl, hbk⟩
          have BK := Lib.hid (BW.out.trans (hbk.mono BW.out.size))
          clear hbk
          go_wp2_with fail
          go_ret
          exact ⟨rfl, BK.out⟩
        by_cases h20 : i < 20
        case neg =>
          have d1 : ¬ (i : Int) < 20 := by omega
          have d2 : decide ((i : Int) < 20) = false := by rw [decide_eq_false_iff_not]; exact d1
          go_wp2_with fail
          refine (knows_any (HT.out.on BW.out HT.out.pos)).mono ?_
          rintro e wk ⟨rfl, hbk⟩
          have BK := Lib.hid (BW.out.trans (hbk.mono BW.out.size))
          clear hbk
          go_wp2_with fail
          go_ret
          exact ⟨rfl, BK.out⟩
        have d2 : decide ((i : Int) < 20) = true := by rw [decide_eq_true_iff]; omega
        go_wp2_with fail
        refine (Parts_any (HL.out.onb BW.out) (by omega) (fun i => by have := HX.out i; omega)).mono ?_
        rintro e w8 ⟨vp8, vs8, rfl, hP8⟩
        have RP8 := Lib.hid hP8.rdl
        have M8 := Lib.hid (MW.out.on hP8.below)
        have B8 := Lib.hid (BW.out.trans (hP8.below.mono BW.out.size))
        obtain ⟨qp8, cp8, rfl⟩ : ∃ qp cp, vp8 = .slice qp L.length cp := by obtain ⟨q, c, e, _⟩ := RP8.out; exact ⟨q, c, e⟩
        clear hP8 MW BW
        go_wp2_with fail
        refine (Prove_yes (p0 := i) hlt RP8.out HB.out hn6 HX.out (HT.out.on B8.out HT.out.pos)).mono ?_
        rintro e w9 ⟨q9, k9, rfl, hs9⟩
        have hsd : (pth 17 i (lvN L L.length)).length = sd 17 i L.length := by
          have := pth_len 17 i (lvN L L.length) (by rw [lvN_len]; exact hlt) (by rw [lvN_len]; omega)
          rw [lvN_len] at this
          exact this
        obtain ⟨Ss, hSs⟩ : ∃ Ss, pth 17 i (lvN L L.length) = Ss := ⟨_, rfl⟩
        rw [hSs] at hs9 hsd ⊢
        have OKS := Lib.hid hs9.ok
        have HSl : Hid (∀ i, i < Ss.length → (Ss.getD i []).length = 32) := fun i hi => (OKS.out.get i hi).1
        obtain ⟨-, rq9, hk9, hm9⟩ := hs9.rd
        have h17 : Ss.length ≤ 17 := by rw [hsd]; exact sd_le _ _ _
        have b9 : Below w9.heap.size w9 (w9.alloc (.cells #[.int .i64 (i : Int), .int .i64 (L.length : Int), .slice q9 Ss.length k9] 28)) := (Below.refl _ _).alloc (Nat.le_refl _) _
        have b89 := hs9.below.trans (b9.mono hs9.below.size)
        have M10 := Lib.hid (M8.out.on b89.drew)
        have B10 := Lib.hid (B8.out.trans (b89.mono B8.out.size)).drew
        have RQ10 : Hid (RdHs (w9.alloc (.cells #[.int .i64 (i : Int), .int .i64 (L.length : Int), .slice q9 Ss.length k9] 28)).drew q9 Ss) := rq9.on HSl.out b9.drew
        obtain ⟨b, off, r, m, kc, -, hqb, -, cb, hm', hrd, -⟩ := HL.out.at hlt
        have bys : Bytes (L.getD i []) := HB.out _ (by rw [List.getD, List.getElem?_eq_getElem hlt]; exact List.getElem_mem hlt)
        have lys := HX6.out i hlt
        subst hm'
        obtain ⟨ys, hys⟩ : ∃ ys, L.getD i [] = ys := ⟨_, rfl⟩
        rw [hys] at cb hrd bys lys
        have HRD := Lib.hid hrd
        have i0 : (0 : Int) ≤ (i : Int) := by omega
        have i1 : (i : Int) < (L.length : Int) := by omega
        have K10 : Hid (HashAt (w9.alloc (.cells #[.int .i64 (i : Int), .int .i64 (L.length : Int), .slice q9 Ss.length k9] 28)).drew b6 R1 ∧ (w9.alloc (.cells #[.int .i64 (i : Int), .int .i64 (L.length : Int), .slice q9 Ss.length k9] 28)).drew.heap[w9.heap.size]? = some (.cells #[.int .i64 (i : Int), .int .i64 (L.length : Int), .slice q9 Ss.length k9] 28 (0, 0)) ∧ (w9.alloc (.cells #[.int .i64 (i : Int), .int .i64 (L.length : Int), .slice q9 Ss.length k9] 28)).drew.cell? ⟨b, off + i, none⟩ = some (.slice r ys.length kc)) := Lib.hid ⟨M10.out.hR, heap_alloc_new w9 _, old B10.out cb⟩
        have hok : okPf (i : Int) (L.length : Int) Ss.length = true := decide_eq_true (by rw [Int.toNat_natCast, Int.toNat_natCast]; exact ⟨by omega, by omega, by omega, hsd⟩)
        have hys4 : ys.length ≤ 4000 := by omega
        have HSD := Lib.hid hsd
        subst hqb
        clear hs9 rq9 b9 b89 M8 B8 RP8 hrd hys hSs cb hsd
        by_cases hch : hList (L.length : Int) (chk 17 i L.length (hItem (i : Int) ys) Ss) = R1
        · have HHC := Lib.hid hch
          have HN0 : Hid (ckR (i : Int) (L.length : Int) Ss ys R1 = 0) := by show _ = _; unfold ckR; rw [if_pos hok, Int.toNat_natCast, Int.toNat_natCast, if_pos hch]
          clear hch hok
          go_wp2_with fail
          generalize hW10 : (w9.alloc (.cells #[.int .i64 (i : Int), .int .i64 (L.length : Int), .slice q9 Ss.length k9] 28)) = W10 at *
          clear hW10
          generalize w9.heap.size = bp at *
          refine wp_region_held_drew (S := fun W => HashAt W b6 R1 ∧ W.heap[bp]? = some (.cells #[.int .i64 (i : Int), .int .i64 (L.length : Int), .slice q9 Ss.length k9] 28 (0, 0)) ∧ W.cell? ⟨b, off + i, none⟩ = some (.slice r ys.length kc)) (by kernel_rfl) (K10.out) (fun h0 => ?_)
          generalize W10.drew = w10 at *
          refine wpAnyH_take (i := 0) (v := ?_) (by rw [List.getElem?_toArray]; rfl) (by kernel_rfl) (by kernel_rfl) (by kernel_rfl) (by exact fun _ _ _ h => h) (Or.inl ⟨by rfl, ?_⟩) h0 ?_
          rotate_left
          · intro W hW
            go_simp
            all_goals with_reducible rfl
          try simp only [Act.put, List.setIfInBounds_toArray, List.set_cons_zero, List.set_cons_succ]
          refine wpAnyH_ready (rs := [1]) (by kernel_rfl) (by simp) ?_
          refine AllReadyH.cons (by rw [List.getElem?_toArray]; rfl) (fun K hK => ?_) AllReadyH.nil
          rw [if_pos (by rfl)]
          go_wp2_with fail
          refine (num_any 0 w10).mono ?_
          rintro e wz ⟨rfl, hwz⟩
          obtain rfl := hwz.symm
          clear hwz
          go_wp2_with fail
          refine hK.out _ _ (h0) (fun hn => ?_)
          clear hK K
          try simp only [Act.put, List.setIfInBounds_toArray, List.set_cons_zero, List.set_cons_succ]
          refine wpAnyH_take (i := 2) (v := ?_) (by rw [List.getElem?_toArray]; rfl) (by kernel_rfl) (by kernel_rfl) (by kernel_rfl) (by exact fun _ _ _ h => h) (Or.inl ⟨by rfl, ?_⟩) hn ?_
          rotate_left
          · intro W hW
            go_simp
            all_goals with_reducible rfl
          try simp only [Act.put, List.setIfInBounds_toArray, List.set_cons_zero, List.set_cons_succ]
          refine wpAnyH_take (i := 3) (v := ?_) (by rw [List.getElem?_toArray]; rfl) (by kernel_rfl) (by kernel_rfl) (by kernel_rfl) (by exact fun _ _ _ h => h) (Or.inl ⟨by rfl, ?_⟩) hn ?_
          rotate_left
          · intro W hW
            go_simp
            all_goals with_reducible rfl
          try simp only [Act.put, List.setIfInBounds_toArray, List.set_cons_zero, List.set_cons_succ]
          refine wpAnyH_take (i := 4) (v := ?_) (by rw [List.getElem?_toArray]; rfl) (by kernel_rfl) (by kernel_rfl) (by kernel_rfl) (by exact fun _ _ _ h => h) (Or.inl ⟨by rfl, ?_⟩) hn ?_
          rotate_left
          · intro W hW
            have cc := hW.1.row lR1
            go_simp
            all_goals with_reducible rfl
          try simp only [Act.put, List.setIfInBounds_toArray, List.set_cons_zero, List.set_cons_succ]
          refine wpAnyH_take (i := 5) (v := ?_) (by rw [List.getElem?_toArray]; rfl) (by kernel_rfl) (by kernel_rfl) (by kernel_rfl) (by exact fun _ _ _ h => h) (Or.inl ⟨by rfl, ?_⟩) hn ?_
          rotate_left
          · intro W hW
            go_simp
            all_goals with_reducible rfl
          try simp only [Act.put, List.setIfInBounds_toArray, List.set_cons_zero, List.set_cons_succ]
          refine wpAnyH_take (i := 6) (v := ?_) (by rw [List.getElem?_toArray]; rfl) (by kernel_rfl) (by kernel_rfl) (by kernel_rfl) (by exact fun _ _ _ h => h) (Or.inl ⟨by rfl, ?_⟩) hn ?_
          rotate_left
          · intro W hW
            go_simp
            all_goals with_reducible rfl
          try simp only [Act.put, List.setIfInBounds_toArray, List.set_cons_zero, List.set_cons_succ]
          refine wpAnyH_take (i := 7) (v := ?_) (by rw [List.getElem?_toArray]; rfl) (by kernel_rfl) (by kernel_rfl) (by kernel_rfl) (by exact fun _ _ _ h => h) (Or.inl ⟨by rfl, ?_⟩) hn ?_
          rotate_left
          · intro W hW
            go_simp
            all_goals with_reducible rfl
          try simp only [Act.put, List.setIfInBounds_toArray, List.set_cons_zero, List.set_cons_succ]
          refine wpAnyH_take (i := 8) (v := ?_) (by rw [List.getElem?_toArray]; rfl) (by kernel_rfl) (by kernel_rfl) (by kernel_rfl) (by exact fun _ _ _ h => h) (Or.inl ⟨by rfl, ?_⟩) hn ?_
          rotate_left
          · intro W hW
            have cc := hW.2.2
            go_simp
            all_goals with_reducible rfl
          try simp only [Act.put, List.setIfInBounds_toArray, List.set_cons_zero, List.set_cons_succ]
          refine wpAnyH_take (i := 9) (v := ?_) (by rw [List.getElem?_toArray]; rfl) (by kernel_rfl) (by kernel_rfl) (by kernel_rfl) (by exact fun _ _ _ h => h) (Or.inl ⟨by rfl, ?_⟩) hn ?_
          rotate_left
          · intro W hW
            have c0 := (Joins.cell_of_block hW.2.1 0).trans (rfl : _ = some _)
            have c1 := (Joins.cell_of_block hW.2.1 1).trans (rfl : _ = some _)
            have c2 := (Joins.cell_of_block hW.2.1 2).trans (rfl : _ = some _)
            go_simp
            all_goals with_reducible rfl
          try simp only [Act.put, List.setIfInBounds_toArray, List.set_cons_zero, List.set_cons_succ]
          refine wpAnyH_ready (rs := [10]) (by kernel_rfl) (by simp) ?_
          refine AllReadyH.cons (by rw [List.getElem?_toArray]; rfl) (fun K hK => ?_) AllReadyH.nil
          rw [if_pos (by rfl)]
          go_wp2_with fail
          refine (Check_any (w := w10) (P := (i : Int)) (C := (L.length : Int)) (q := q9) (k := k9) (Ss := Ss) (G := R1) lR1 RQ10.out (fun i hi => OKS.out.get i hi) (by unfold maxLen; omega) (HRD.out.on B10.out) bys (by omega) hk9 hm9 (HT.out.on B10.out HT.out.pos)).mono ?_
          rintro e w11 ⟨rfl, bb⟩
          rw [HN0.out]
          have M11 := Lib.hid (M10.out.on bb)
          have B11 := Lib.hid (B10.out.trans (bb.mono B10.out.size))
          have K11 : Hid (HashAt w11 b6 R1 ∧ w11.heap[bp]? = some (.cells #[.int .i64 (i : Int), .int .i64 (L.length : Int), .slice q9 Ss.length k9] 28 (0, 0)) ∧ w11.cell? ⟨b, off + i, none⟩ = some (.slice r ys.length kc)) := Lib.hid ⟨M11.out.hR, blk_onB2 K10.out.2.1 bb, old bb K10.out.2.2⟩
          have RQ11 := Lib.hid (RQ10.out.on HSl.out bb)
          clear bb M10 B10 K10 RQ10
          go_wp2_with fail
          refine hK.out _ _ (K11.out) (fun h11 => ?_)
          clear hK K
          try simp only [Act.put, List.setIfInBounds_toArray, List.set_cons_zero, List.set_cons_succ]
          refine wpAnyH_ready (rs := [11]) (by kernel_rfl) (by simp) ?_
          refine AllReadyH.cons (by rw [List.getElem?_toArray]; rfl) (fun K hK => ?_) AllReadyH.nil
          rw [if_pos (by rfl)]
          go_wp2_with fail
          refine (num_any 0 w11).mono ?_
          rintro e wz ⟨rfl, hwz⟩
          obtain rfl := hwz.symm
          clear hwz
          go_wp2_with fail
          refine hK.out _ _ (h11) (fun hn => ?_)
          clear hK K
          try simp only [Act.put, List.setIfInBounds_toArray, List.set_cons_zero, List.set_cons_succ]
          refine wpAnyH_take (i := 12) (v := ?_) (by rw [List.getElem?_toArray]; rfl) (by kernel_rfl) (by kernel_rfl) (by kernel_rfl) (by exact fun _ _ _ h => h) (Or.inl ⟨by rfl, ?_⟩) hn ?_
          rotate_left
          · intro W hW
            go_simp
            all_goals with_reducible rfl
          try simp only [Act.put, List.setIfInBounds_toArray, List.set_cons_zero, List.set_cons_succ]
          refine wpAnyH_take (i := 13) (v := ?_) (by rw [List.getElem?_toArray]; rfl) (by kernel_rfl) (by kernel_rfl) (by kernel_rfl) (by exact fun _ _ _ h => h) (Or.inl ⟨by rfl, ?_⟩) hn ?_
          rotate_left
          · intro W hW
            go_simp
            all_goals with_reducible rfl
          try simp only [Act.put, List.setIfInBounds_toArray, List.set_cons_zero, List.set_cons_succ]
          refine wpAnyH_take (i := 14) (v := ?_) (by rw [List.getElem?_toArray]; rfl) (by kernel_rfl) (by kernel_rfl) (by kernel_rfl) (by exact fun _ _ _ h => h) (Or.inl ⟨by rfl, ?_⟩) hn ?_
          rotate_left
          · intro W hW
            go_simp
            all_goals with_reducible rfl
          try simp only [Act.put, List.setIfInBounds_toArray, List.set_cons_zero, List.set_cons_succ]
          refine wpAnyH_take (i := 16) (v := ?_) (by rw [List.getElem?_toArray]; rfl) (by kernel_rfl) (by kernel_rfl) (by kernel_rfl) (by exact fun _ _ _ h => h) (Or.inl ⟨by rfl, ?_⟩) hn ?_
          rotate_left
          · intro W hW
            go_simp
            all_goals with_reducible rfl
          try simp only [Act.put, List.setIfInBounds_toArray, List.set_cons_zero, List.set_cons_succ]
          refine wpAnyH_take (i := 17) (v := ?_) (by rw [List.getElem?_toArray]; rfl) (by kernel_rfl) (by kernel_rfl) (by kernel_rfl) (by exact fun _ _ _ h => h) (Or.inl ⟨by rfl, ?_⟩) hn ?_
          rotate_left
          · intro W hW
            go_simp
            all_goals with_reducible rfl
          try simp only [Act.put, List.setIfInBounds_toArray, List.set_cons_zero, List.set_cons_succ]
          refine wpAnyH_take (i := 18) (v := ?_) (by rw [List.getElem?_toArray]; rfl) (by kernel_rfl) (by kernel_rfl) (by kernel_rfl) (by exact fun _ _ _ h => h) (Or.inl ⟨by rfl, ?_⟩) hn ?_
          rotate_left
          · intro W hW
            go_simp
            all_goals with_reducible rfl
          try simp only [Act.put, List.setIfInBounds_toArray, List.set_cons_zero, List.set_cons_succ]
          refine wpAnyH_take (i := 19) (v := ?_) (by rw [List.getElem?_toArray]; rfl) (by kernel_rfl) (by kernel_rfl) (by kernel_rfl) (by exact fun _ _ _ h => h) (Or.inl ⟨by rfl, ?_⟩) hn ?_
          rotate_left
          · intro W hW
            have cc := hW.2.2
            go_simp
            all_goals with_reducible rfl
          try simp only [Act.put, List.setIfInBounds_toArray, List.set_cons_zero, List.set_cons_succ]
          refine wpAnyH_take (i := 20) (v := ?_) (by rw [List.getElem?_toArray]; rfl) (by kernel_rfl) (by kernel_rfl) (by kernel_rfl) (by exact fun _ _ _ h => h) (Or.inl ⟨by rfl, ?_⟩) hn ?_
          rotate_left
          · intro W hW
            have c0 := (Joins.cell_of_block hW.2.1 0).trans (rfl : _ = some _)
            have c1 := (Joins.cell_of_block hW.2.1 1).trans (rfl : _ = some _)
            have c2 := (Joins.cell_of_block hW.2.1 2).trans (rfl : _ = some _)
            go_simp
            all_goals with_reducible rfl
          try simp only [Act.put, List.setIfInBounds_toArray, List.set_cons_zero, List.set_cons_succ]
          refine wpAnyH_ready (rs := [15]) (by kernel_rfl) (by simp) ?_
          refine AllReadyH.cons (by rw [List.getElem?_toArray]; rfl) (fun K hK => ?_) AllReadyH.nil
          rw [if_pos (by rfl)]
          go_wp2_with fail
          refine (TextsQ (L := X) M11.out.tx.rdl BXX.out (by rw [LX.out]; omega) HXX.out).mono ?_
          rintro e w12 ⟨qt1, nt1, ct1, T1, Z1, rfl, ht1, hnt1, hz1⟩
          have bb := ht1.tx.below
          have Q1 := Lib.hid ht1
          have HZ1 := Lib.hid hz1
          rw [LX.out] at hnt1
          have M12 := Lib.hid (M11.out.on bb)
          have B12 := Lib.hid (B11.out.trans (bb.mono B11.out.size))
          have K12 : Hid (HashAt w12 b6 R1 ∧ w12.heap[bp]? = some (.cells #[.int .i64 (i : Int), .int .i64 (L.length : Int), .slice q9 Ss.length k9] 28 (0, 0)) ∧ w12.cell? ⟨b, off + i, none⟩ = some (.slice r ys.length kc)) := Lib.hid ⟨M12.out.hR, blk_onB2 K11.out.2.1 bb, old bb K11.out.2.2⟩
          have RQ12 := Lib.hid (RQ11.out.on HSl.out bb)
          have M11K := M11
          have K11K := K11
          have B11K := B11
          clear bb M11 B11 K11 RQ11 ht1 hz1
          go_wp2_with fail
          refine hK.out _ _ (K12.out) (fun h12 => ?_)
          clear hK K
          try simp only [Act.put, List.setIfInBounds_toArray, List.set_cons_zero, List.set_cons_succ]
          refine wpAnyH_ready (rs := [21]) (by kernel_rfl) (by simp) ?_
          refine AllReadyH.cons (by rw [List.getElem?_toArray]; rfl) (fun K hK => ?_) AllReadyH.nil
          rw [if_pos (by rfl)]
          go_wp2_with fail
          refine (Ref_any (P := (i : Int)) (C := (L.length : Int)) (q := q9) (k := k9) RQ12.out OKS.out (by omega)).mono ?_
          rintro e w13 ⟨q13, k13, rfl, hs13⟩
          have bb := hs13.below
          have R13 : Hid (RdHs w13 q13 Ss) := hs13.rd.2.1
          have Q1a := Lib.hid (Q1.out.on bb)
          have M13 := Lib.hid (M12.out.on bb)
          have B13 := Lib.hid (B12.out.trans (bb.mono B12.out.size))
          have K13 : Hid (HashAt w13 b6 R1 ∧ w13.heap[bp]? = some (.cells #[.int .i64 (i : Int), .int .i64 (L.length : Int), .slice q9 Ss.length k9] 28 (0, 0)) ∧ w13.cell? ⟨b, off + i, none⟩ = some (.slice r ys.length kc)) := Lib.hid ⟨M13.out.hR, blk_onB2 K12.out.2.1 bb, old bb K12.out.2.2⟩
          have RQ13 := Lib.hid (RQ12.out.on HSl.out bb)
          clear bb M12 B12 K12 RQ12 hs13 Q1
          go_wp2_with fail
          refine hK.out _ _ (K13.out) (fun h13 => ?_)
          clear hK K
          try simp only [Act.put, List.setIfInBounds_toArray, List.set_cons_zero, List.set_cons_succ]
          refine wpAnyH_ready (rs := [22]) (by kernel_rfl) (by simp) ?_
          refine AllReadyH.cons (by rw [List.getElem?_toArray]; rfl) (fun K hK => ?_) AllReadyH.nil
          rw [if_pos (by rfl)]
          go_wp2_with fail
          refine (AlongQ (p0 := i) (k0 := L.length) (q := q13) (k := k13) R13.out OKS.out hlt (by omega) HSD.out (HRD.out.on B13.out) bys (by omega)).mono ?_
          rintro e w14 ⟨qt2, nt2, ct2, T2, rfl, ht2, hnt2⟩
          have bb := ht2.tx.below
          have Q2 := Lib.hid ht2
          have Q1b := Lib.hid (Q1a.out.on bb)
          have M14 := Lib.hid (M13.out.on bb)
          have B14 := Lib.hid (B13.out.trans (bb.mono B13.out.size))
          have K14 : Hid (HashAt w14 b6 R1 ∧ w14.heap[bp]? = some (.cells #[.int .i64 (i : Int), .int .i64 (L.length : Int), .slice q9 Ss.length k9] 28 (0, 0)) ∧ w14.cell? ⟨b, off + i, none⟩ = some (.slice r ys.length kc)) := Lib.hid ⟨M14.out.hR, blk_onB2 K13.out.2.1 bb, old bb K13.out.2.2⟩
          have RQ14 := Lib.hid (RQ13.out.on HSl.out bb)
          clear bb M13 B13 K13 RQ13 ht2 Q1a R13
          go_wp2_with fail
          refine hK.out _ _ (K14.out) (fun h14 => ?_)
          clear hK K
          try simp only [Act.put, List.setIfInBounds_toArray, List.set_cons_zero, List.set_cons_succ]
          refine wpAnyH_ready (rs := [23]) (by kernel_rfl) (by simp) ?_
          refine AllReadyH.cons (by rw [List.getElem?_toArray]; rfl) (fun K hK => ?_) AllReadyH.nil
          rw [if_pos (by rfl)]
          obtain ⟨vs1, vs2, OW0, SR0, fin0⟩ := TxS.app (P := Tryd.prog) Tryd.underlying22 Q1b.out.tx Q2.out.tx
          rw [Q1b.out.len] at OW0 fin0
          rw [Q2.out.len] at SR0 fin0
          refine wp_append_row _ _ rfl Tryd.underlying22 hj.out ez0.out ez1.out ez2.out rfl OW0 SR0 (by unfold maxLen; omega) (by omega) ?_
          intro q15 k15 w15 own15 grow15 fr15
          obtain ⟨RL15, bb0⟩ := fin0 _ _ own15 grow15
          have MT15 : Hid (Below w11.heap.size w11 w15) := bb0
          have K15 : Hid (HashAt w15 b6 R1 ∧ w15.heap[bp]? = some (.cells #[.int .i64 (i : Int), .int .i64 (L.length : Int), .slice q9 Ss.length k9] 28 (0, 0)) ∧ w15.cell? ⟨b, off + i, none⟩ = some (.slice r ys.length kc)) := Lib.hid ⟨M11K.out.hR.on MT15.out, blk_onB2 K11K.out.2.1 MT15.out, old MT15.out K11K.out.2.2⟩
          have RLL := Lib.hid RL15
          clear own15 grow15 fr15 OW0 SR0 fin0 RL15 bb0
          go_wp2_with fail
          refine hK.out _ _ (K15.out) (fun h15 => ?_)
          clear hK K
          try simp only [Act.put, List.setIfInBounds_toArray, List.set_cons_zero, List.set_cons_succ]
          refine wpAnyH_ready (rs := [24]) (by kernel_rfl) (by simp) ?_
          refine AllReadyH.cons (by rw [List.getElem?_toArray]; rfl) (fun K hK => ?_) AllReadyH.nil
          rw [if_pos (by rfl)]
          go_wp2_with fail
          refine (clash2 Q1b.out Q2.out (by omega) RLL.out (HZ1.out.symm.trans (HR1.out.trans HHC.out.symm)) (by rw [LX.out]; exact list_apart (by omega) (by omega) (by omega) (by omega) (by omega) _ _)).mono ?_
          rintro e w16 ⟨rfl, bb⟩
          have b11 := MT15.out.trans (bb.mono MT15.out.size)
          have M16 := Lib.hid (M11K.out.on b11)
          have K16 : Hid (HashAt w16 b6 R1 ∧ w16.heap[bp]? = some (.cells #[.int .i64 (i : Int), .int .i64 (L.length : Int), .slice q9 Ss.length k9] 28 (0, 0)) ∧ w16.cell? ⟨b, off + i, none⟩ = some (.slice r ys.length kc)) := Lib.hid ⟨M16.out.hR, blk_onB2 K11K.out.2.1 b11, old b11 K11K.out.2.2⟩
          have B16 := Lib.hid (B11K.out.trans (b11.mono B11K.out.size))
          clear bb b11 M14 B14 K14 RQ14 Q1b Q2 RLL
          go_wp2_with fail
          refine hK.out _ _ (K16.out) (fun h16 => ?_)
          clear hK K
          try simp only [Act.put, List.setIfInBounds_toArray, List.set_cons_zero, List.set_cons_succ]
          refine wpAnyH_take (i := 25) (v := ?_) (by rw [List.getElem?_toArray]; rfl) (by kernel_rfl) (by kernel_rfl) (by kernel_rfl) (by exact fun _ _ _ h => h) (Or.inl ⟨by rfl, ?_⟩) h16 ?_
          rotate_left
          · intro W hW
            go_simp
            all_goals with_reducible rfl
          try simp only [Act.put, List.setIfInBounds_toArray, List.set_cons_zero, List.set_cons_succ]
          refine wpAnyH_take (i := 26) (v := ?_) (by rw [List.getElem?_toArray]; rfl) (by kernel_rfl) (by kernel_rfl) (by kernel_rfl) (by exact fun _ _ _ h => h) (Or.inl ⟨by rfl, ?_⟩) h16 ?_
          rotate_left
          · intro W hW
            go_simp
            all_goals with_reducible rfl
          try simp only [Act.put, List.setIfInBounds_toArray, List.set_cons_zero, List.set_cons_succ]
          refine wpAnyH_take (i := 27) (v := ?_) (by rw [List.getElem?_toArray]; rfl) (by kernel_rfl) (by kernel_rfl) (by kernel_rfl) (by exact fun _ _ _ h => h) (Or.inl ⟨by rfl, ?_⟩) h16 ?_
          rotate_left
          · intro W hW
            go_simp
            all_goals with_reducible rfl
          try simp only [Act.put, List.setIfInBounds_toArray, List.set_cons_zero, List.set_cons_succ]
          refine wpAnyH_done (by kernel_rfl) ?_ _
          have MN := M16
          clear h16 h15 h14 h13 h12 h11 K16 K15
          go_wp2_with fail
          go_roundw
          case rel => exact ⟨i + 1, by go_num, by omega, MN, Lib.hid B16.out⟩
          case measure => simp [intOf]; omega
        · have HN0 : Hid (ckR (i : Int) (L.length : Int) Ss ys R1 = 22) := by show _ = _; unfold ckR; rw [if_pos hok, Int.toNat_natCast, Int.toNat_natCast, if_neg hch]
          clear hch hok
          go_wp2_with fail
          generalize hW10 : (w9.alloc (.cells #[.int .i64 (i : Int), .int .i64 (L.length : Int), .slice q9 Ss.length k9] 28)) = W10 at *
          clear hW10
          generalize w9.heap.size = bp at *
          refine wp_region_held_drew (S := fun W => HashAt W b6 R1 ∧ W.heap[bp]? = some (.cells #[.int .i64 (i : Int), .int .i64 (L.length : Int), .slice q9 Ss.length k9] 28 (0, 0)) ∧ W.cell? ⟨b, off + i, none⟩ = some (.slice r ys.length kc)) (by kernel_rfl) (K10.out) (fun h0 => ?_)
          generalize W10.drew = w10 at *
          refine wpAnyH_take (i := 0) (v := ?_) (by rw [List.getElem?_toArray]; rfl) (by kernel_rfl) (by kernel_rfl) (by kernel_rfl) (by exact fun _ _ _ h => h) (Or.inl ⟨by rfl, ?_⟩) h0 ?_
          rotate_left
          · intro W hW
            go_simp
            all_goals with_reducible rfl
          try simp only [Act.put, List.setIfInBounds_toArray, List.set_cons_zero, List.set_cons_succ]
          refine wpAnyH_ready (rs := [1]) (by kernel_rfl) (by simp) ?_
          refine AllReadyH.cons (by rw [List.getElem?_toArray]; rfl) (fun K hK => ?_) AllReadyH.nil
          rw [if_pos (by rfl)]
          go_wp2_with fail
          refine (num_any 0 w10).mono ?_
          rintro e wz ⟨rfl, hwz⟩
          obtain rfl := hwz.symm
          clear hwz
          go_wp2_with fail
          refine hK.out _ _ (h0) (fun hn => ?_)
          clear hK K
          try simp only [Act.put, List.setIfInBounds_toArray, List.set_cons_zero, List.set_cons_succ]
          refine wpAnyH_take (i := 2) (v := ?_) (by rw [List.getElem?_toArray]; rfl) (by kernel_rfl) (by kernel_rfl) (by kernel_rfl) (by exact fun _ _ _ h => h) (Or.inl ⟨by rfl, ?_⟩) hn ?_
          rotate_left
          · intro W hW
            go_simp
            all_goals with_reducible rfl
          try simp only [Act.put, List.setIfInBounds_toArray, List.set_cons_zero, List.set_cons_succ]
          refine wpAnyH_take (i := 3) (v := ?_) (by rw [List.getElem?_toArray]; rfl) (by kernel_rfl) (by kernel_rfl) (by kernel_rfl) (by exact fun _ _ _ h => h) (Or.inl ⟨by rfl, ?_⟩) hn ?_
          rotate_left
          · intro W hW
            go_simp
            all_goals with_reducible rfl
          try simp only [Act.put, List.setIfInBounds_toArray, List.set_cons_zero, List.set_cons_succ]
          refine wpAnyH_take (i := 4) (v := ?_) (by rw [List.getElem?_toArray]; rfl) (by kernel_rfl) (by kernel_rfl) (by kernel_rfl) (by exact fun _ _ _ h => h) (Or.inl ⟨by rfl, ?_⟩) hn ?_
          rotate_left
          · intro W hW
            have cc := hW.1.row lR1
            go_simp
            all_goals with_reducible rfl
          try simp only [Act.put, List.setIfInBounds_toArray, List.set_cons_zero, List.set_cons_succ]
          refine wpAnyH_take (i := 5) (v := ?_) (by rw [List.getElem?_toArray]; rfl) (by kernel_rfl) (by kernel_rfl) (by kernel_rfl) (by exact fun _ _ _ h => h) (Or.inl ⟨by rfl, ?_⟩) hn ?_
          rotate_left
          · intro W hW
            go_simp
            all_goals with_reducible rfl
          try simp only [Act.put, List.setIfInBounds_toArray, List.set_cons_zero, List.set_cons_succ]
          refine wpAnyH_take (i := 6) (v := ?_) (by rw [List.getElem?_toArray]; rfl) (by kernel_rfl) (by kernel_rfl) (by kernel_rfl) (by exact fun _ _ _ h => h) (Or.inl ⟨by rfl, ?_⟩) hn ?_
          rotate_left
          · intro W hW
            go_simp
            all_goals with_reducible rfl
          try simp only [Act.put, List.setIfInBounds_toArray, List.set_cons_zero, List.set_cons_succ]
          refine wpAnyH_take (i := 7) (v := ?_) (by rw [List.getElem?_toArray]; rfl) (by kernel_rfl) (by kernel_rfl) (by kernel_rfl) (by exact fun _ _ _ h => h) (Or.inl ⟨by rfl, ?_⟩) hn ?_
          rotate_left
          · intro W hW
            go_simp
            all_goals with_reducible rfl
          try simp only [Act.put, List.setIfInBounds_toArray, List.set_cons_zero, List.set_cons_succ]
          refine wpAnyH_take (i := 8) (v := ?_) (by rw [List.getElem?_toArray]; rfl) (by kernel_rfl) (by kernel_rfl) (by kernel_rfl) (by exact fun _ _ _ h => h) (Or.inl ⟨by rfl, ?_⟩) hn ?_
          rotate_left
          · intro W hW
            have cc := hW.2.2
            go_simp
            all_goals with_reducible rfl
          try simp only [Act.put, List.setIfInBounds_toArray, List.set_cons_zero, List.set_cons_succ]
          refine wpAnyH_take (i := 9) (v := ?_) (by rw [List.getElem?_toArray]; rfl) (by kernel_rfl) (by kernel_rfl) (by kernel_rfl) (by exact fun _ _ _ h => h) (Or.inl ⟨by rfl, ?_⟩) hn ?_
          rotate_left
          · intro W hW
            have c0 := (Joins.cell_of_block hW.2.1 0).trans (rfl : _ = some _)
            have c1 := (Joins.cell_of_block hW.2.1 1).trans (rfl : _ = some _)
            have c2 := (Joins.cell_of_block hW.2.1 2).trans (rfl : _ = some _)
            go_simp
            all_goals with_reducible rfl
          try simp only [Act.put, List.setIfInBounds_toArray, List.set_cons_zero, List.set_cons_succ]
          refine wpAnyH_ready (rs := [10]) (by kernel_rfl) (by simp) ?_
          refine AllReadyH.cons (by rw [List.getElem?_toArray]; rfl) (fun K hK => ?_) AllReadyH.nil
          rw [if_pos (by rfl)]
          go_wp2_with fail
          refine (Check_any (w := w10) (P := (i : Int)) (C := (L.length : Int)) (q := q9) (k := k9) (Ss := Ss) (G := R1) lR1 RQ10.out (fun i hi => OKS.out.get i hi) (by unfold maxLen; omega) (HRD.out.on B10.out) bys (by omega) hk9 hm9 (HT.out.on B10.out HT.out.pos)).mono ?_
          rintro e w11 ⟨rfl, bb⟩
          rw [HN0.out]
          have M11 := Lib.hid (M10.out.on bb)
          have B11 := Lib.hid (B10.out.trans (bb.mono B10.out.size))
          have K11 : Hid (HashAt w11 b6 R1 ∧ w11.heap[bp]? = some (.cells #[.int .i64 (i : Int), .int .i64 (L.length : Int), .slice q9 Ss.length k9] 28 (0, 0)) ∧ w11.cell? ⟨b, off + i, none⟩ = some (.slice r ys.length kc)) := Lib.hid ⟨M11.out.hR, blk_onB2 K10.out.2.1 bb, old bb K10.out.2.2⟩
          have RQ11 := Lib.hid (RQ10.out.on HSl.out bb)
          clear bb M10 B10 K10 RQ10
          go_wp2_with fail
          refine hK.out _ _ (K11.out) (fun h11 => ?_)
          clear hK K
          try simp only [Act.put, List.setIfInBounds_toArray, List.set_cons_zero, List.set_cons_succ]
          refine wpAnyH_ready (rs := [11]) (by kernel_rfl) (by simp) ?_
          refine AllReadyH.cons (by rw [List.getElem?_toArray]; rfl) (fun K hK => ?_) AllReadyH.nil
          rw [if_pos (by rfl)]
          go_wp2_with fail
          refine (num_any 22 w11).mono ?_
          rintro e wz ⟨rfl, hwz⟩
          obtain rfl := hwz.symm
          clear hwz
          go_wp2_with fail
          refine hK.out _ _ (h11) (fun hn => ?_)
          clear hK K
          try simp only [Act.put, List.setIfInBounds_toArray, List.set_cons_zero, List.set_cons_succ]
          refine wpAnyH_take (i := 12) (v := ?_) (by rw [List.getElem?_toArray]; rfl) (by kernel_rfl) (by kernel_rfl) (by kernel_rfl) (by exact fun _ _ _ h => h) (Or.inl ⟨by rfl, ?_⟩) hn ?_
          rotate_left
          · intro W hW
            go_simp
            all_goals with_reducible rfl
          try simp only [Act.put, List.setIfInBounds_toArray, List.set_cons_zero, List.set_cons_succ]
          refine wpAnyH_take (i := 13) (v := ?_) (by rw [List.getElem?_toArray]; rfl) (by kernel_rfl) (by kernel_rfl) (by kernel_rfl) (by exact fun _ _ _ h => h) (Or.inl ⟨by rfl, ?_⟩) hn ?_
          rotate_left
          · intro W hW
            go_simp
            all_goals with_reducible rfl
          try simp only [Act.put, List.setIfInBounds_toArray, List.set_cons_zero, List.set_cons_succ]
          refine wpAnyH_take (i := 14) (v := undef) (by rw [List.getElem?_toArray]; rfl) (by kernel_rfl) (by kernel_rfl) (by kernel_rfl) (by exact fun _ _ _ h => h) (Or.inr ⟨by rfl, rfl⟩) hn ?_
          try simp only [Act.put, List.setIfInBounds_toArray, List.set_cons_zero, List.set_cons_succ]
          refine wpAnyH_take (i := 15) (v := undef) (by rw [List.getElem?_toArray]; rfl) (by kernel_rfl) (by kernel_rfl) (by kernel_rfl) (by exact fun _ _ _ h => h) (Or.inr ⟨by rfl, rfl⟩) hn ?_
          try simp only [Act.put, List.setIfInBounds_toArray, List.set_cons_zero, List.set_cons_succ]
          refine wpAnyH_take (i := 16) (v := undef) (by rw [List.getElem?_toArray]; rfl) (by kernel_rfl) (by kernel_rfl) (by kernel_rfl) (by exact fun _ _ _ h => h) (Or.inr ⟨by rfl, rfl⟩) hn ?_
          try simp only [Act.put, List.setIfInBounds_toArray, List.set_cons_zero, List.set_cons_succ]
          refine wpAnyH_take (i := 17) (v := undef) (by rw [List.getElem?_toArray]; rfl) (by kernel_rfl) (by kernel_rfl) (by kernel_rfl) (by exact fun _ _ _ h => h) (Or.inr ⟨by rfl, rfl⟩) hn ?_
          try simp only [Act.put, List.setIfInBounds_toArray, List.set_cons_zero, List.set_cons_succ]
          refine wpAnyH_take (i := 18) (v := undef) (by rw [List.getElem?_toArray]; rfl) (by kernel_rfl) (by kernel_rfl) (by kernel_rfl) (by exact fun _ _ _ h => h) (Or.inr ⟨by rfl, rfl⟩) hn ?_
          try simp only [Act.put, List.setIfInBounds_toArray, List.set_cons_zero, List.set_cons_succ]
          refine wpAnyH_take (i := 19) (v := undef) (by rw [List.getElem?_toArray]; rfl) (by kernel_rfl) (by kernel_rfl) (by kernel_rfl) (by exact fun _ _ _ h => h) (Or.inr ⟨by rfl, rfl⟩) hn ?_
          try simp only [Act.put, List.setIfInBounds_toArray, List.set_cons_zero, List.set_cons_succ]
          refine wpAnyH_take (i := 20) (v := undef) (by rw [List.getElem?_toArray]; rfl) (by kernel_rfl) (by kernel_rfl) (by kernel_rfl) (by exact fun _ _ _ h => h) (Or.inr ⟨by rfl, rfl⟩) hn ?_
          try simp only [Act.put, List.setIfInBounds_toArray, List.set_cons_zero, List.set_cons_succ]
          refine wpAnyH_take (i := 21) (v := undef) (by rw [List.getElem?_toArray]; rfl) (by kernel_rfl) (by kernel_rfl) (by kernel_rfl) (by exact fun _ _ _ h => h) (Or.inr ⟨by rfl, rfl⟩) hn ?_
          try simp only [Act.put, List.setIfInBounds_toArray, List.set_cons_zero, List.set_cons_succ]
          refine wpAnyH_take (i := 22) (v := undef) (by rw [List.getElem?_toArray]; rfl) (by kernel_rfl) (by kernel_rfl) (by kernel_rfl) (by exact fun _ _ _ h => h) (Or.inr ⟨by rfl, rfl⟩) hn ?_
          try simp only [Act.put, List.setIfInBounds_toArray, List.set_cons_zero, List.set_cons_succ]
          refine wpAnyH_take (i := 23) (v := undef) (by rw [List.getElem?_toArray]; rfl) (by kernel_rfl) (by kernel_rfl) (by kernel_rfl) (by exact fun _ _ _ h => h) (Or.inr ⟨by rfl, rfl⟩) hn ?_
          try simp only [Act.put, List.setIfInBounds_toArray, List.set_cons_zero, List.set_cons_succ]
          refine wpAnyH_take (i := 24) (v := undef) (by rw [List.getElem?_toArray]; rfl) (by kernel_rfl) (by kernel_rfl) (by kernel_rfl) (by exact fun _ _ _ h => h) (Or.inr ⟨by rfl, rfl⟩) hn ?_
          try simp only [Act.put, List.setIfInBounds_toArray, List.set_cons_zero, List.set_cons_succ]
          refine wpAnyH_take (i := 25) (v := undef) (by rw [List.getElem?_toArray]; rfl) (by kernel_rfl) (by kernel_rfl) (by kernel_rfl) (by exact fun _ _ _ h => h) (Or.inr ⟨by rfl, rfl⟩) hn ?_
          try simp only [Act.put, List.setIfInBounds_toArray, List.set_cons_zero, List.set_cons_succ]
          refine wpAnyH_take (i := 26) (v := ?_) (by rw [List.getElem?_toArray]; rfl) (by kernel_rfl) (by kernel_rfl) (by kernel_rfl) (by exact fun _ _ _ h => h) (Or.inl ⟨by rfl, ?_⟩) hn ?_
          rotate_left
          · intro W hW
            go_simp
            all_goals with_reducible rfl
          try simp only [Act.put, List.setIfInBounds_toArray, List.set_cons_zero, List.set_cons_succ]
          refine wpAnyH_take (i := 27) (v := ?_) (by rw [List.getElem?_toArray]; rfl) (by kernel_rfl) (by kernel_rfl) (by kernel_rfl) (by exact fun _ _ _ h => h) (Or.inl ⟨by rfl, ?_⟩) hn ?_
          rotate_left
          · intro W hW
            go_simp
            all_goals with_reducible rfl
          try simp only [Act.put, List.setIfInBounds_toArray, List.set_cons_zero, List.set_cons_succ]
          refine wpAnyH_done (by kernel_rfl) ?_ _
          have MN := M11
          clear K11 RQ11 h11
          go_wp2_with fail
          go_roundw
          case rel => exact ⟨i + 1, by go_num, by omega, MN, Lib.hid B11.out⟩
          case measure => simp [intOf]; omega
end Go.Proofs.YtebeacejlkiglaaDoor
