/-
  The walk of basculelaw06.ProofMaps.
-/
import Derived.Test.YtjlodnecdngdfaaDoorPm23
namespace Go.Proofs.YtjlodnecdngdfaaDoor
open Go.RowKit
set_option maxRecDepth 100000

theorem maps_clash {K V O M : List Int} {Ss Ls : List (List Int)} (ok : okS M Ss = true) (okh : HsOk Ss) (hK : KyOk K) (hM : KyOk M) (lV : V.length = 32) (lO : O.length = 32) (hne : ¬ O = V) (h : rootH K V M Ss = rootH K O M Ss)
    (mV : ∀ t ∈ wayT K V M Ss 256, t ∈ Ls) (mO : ∀ t ∈ wayT K O M Ss 256, t ∈ Ls) : Clh Ls := by
  unfold rootH at h
  rw [if_pos ok, if_pos ok] at h
  exact way_clash hK lV lO hM okh (of_decide_eq_true ok).1 hne h mV mO

set_option maxHeartbeats 64000000 in
theorem ProofMaps_walk {w : World} {q : Option Addr} {cp : Nat} {L : List (List Int × List Int)} {K A B : List Int} (hq : RwF 64 pr0 PPr w (fun g => g < w.heap.size) q L) (ok : ∀ x ∈ L, PrOk x) (hl : L.length ≤ 3000000000000) (hKy : KyOk K) (hA : KyOk A) (hB : KyOk B) (hT : Tbl w) :
    Calls Tryd.prog 5 #[.slice q L.length cp, .agg (hc K).toArray, .agg (hc A).toArray, .agg (hc B).toArray] w fun e w' => e = .returned (.bool true) ∧ Below w.heap.size w w' := by
  have HA := Lib.hid (((HashAt.new w K).alloc (.cells (hc A).toArray 24)).alloc (.cells (hc B).toArray 24))
  have HB1 := ((HashAt.new (w.alloc (.cells (hc K).toArray 24)) A).alloc (.cells (hc B).toArray 24))
  have HB2 := HashAt.new ((w.alloc (.cells (hc K).toArray 24)).alloc (.cells (hc A).toArray 24)) B
  have B0 := Lib.hid ((((Below.refl w.heap.size w).alloc (Nat.le_refl _) (.cells (hc K).toArray 24)).alloc (by simp) (.cells (hc A).toArray 24)).alloc (by simp; omega) (.cells (hc B).toArray 24))
  have HQ := Lib.hid (hq.on PPr_ok (by decide) B0.out)
  simp only [World.size_alloc] at HB1 HB2
  replace HB1 := Lib.hid HB1
  replace HB2 := Lib.hid HB2
  have lK := hKy.len
  have lA := hA.len
  have lB := hB.len
  have hlK := hc_len K
  have hlA := hc_len A
  have hlB := hc_len B
  have HT := Lib.hid (hT.on B0.out hT.pos)
  have HKK := Lib.hid hKy
  have HAK := Lib.hid hA
  have BB := Lib.hid hB.by_
  have HOK := Lib.hid ok
  obtain ⟨i0, hi, hz0, hz1, hz2⟩ := info_parts Tryd.infoHs
  replace hi := Lib.hid hi
  replace hz0 := Lib.hid hz0
  replace hz1 := Lib.hid hz1
  replace hz2 := Lib.hid hz2
  clear hq hA hB hKy hT ok
  go_enter Tryd.func5, Tryd.ntmps5
  go_upto_region 1 with fail
  obtain ⟨w1, hw1⟩ : ∃ x, (((w.alloc (.cells (hc K).toArray 24)).alloc (.cells (hc A).toArray 24)).alloc (.cells (hc B).toArray 24)) = x := ⟨_, rfl⟩
  rw [hw1] at HA HB1 HB2 B0 HQ HT ⊢
  clear hw1
  by_cases h12 : L.length > 12
  · have d1 : decide ((L.length : Int) > 12) = true := decide_eq_true (by omega)
    have d2 : (12 : Int) < (L.length : Int) := by omega
    go_wp2_with fail
    refine (knows6_any HT.out).mono ?_
    rintro e w2 ⟨rfl, hb2⟩
    go_wp2_with fail
    go_ret
    exact ⟨rfl, B0.out.trans (hb2.mono B0.out.size)⟩
  have d1 : decide ((L.length : Int) > 12) = false := decide_eq_false (by omega)
  have d2 : ¬ (12 : Int) < (L.length : Int) := by omega
  have d3 := Lib.hid (show L.length ≤ 12 by omega)
  clear h12
  go_wp2_with fail
  clear d1 d2
  refine New_nil.mono ?_
  rintro e w2 ⟨p, m, rfl, hp, hm, hb2, hms⟩
  have M2 := Lib.hid (MpW_new hb2 hp hm hms)
  clear hp hm hb2 hms
  go_wp2_with fail
  refine (num6_any 0 w2).mono ?_
  rintro e wz ⟨rfl, hwz⟩
  obtain rfl := hwz.symm
  clear hwz
  go_wp2_with fail
  refine (knows6_any (HT.out.on M2.out.below HT.out.pos)).mono ?_
  rintro e w3 ⟨rfl, hb3⟩
  have M3 := Lib.hid (M2.out.on hb3)
  clear hb3 M2
  go_wp2_with fail
  go_loopw [11] (fun iv wr => ∃ i : Nat, iv = .int .i64 (i : Int) ∧ i ≤ L.length ∧ ∃ E c top bl, E.length ≤ i ∧ Hid (MpW w1 wr p m E c top bl)) (fun iv _ => L.length - (intOf iv).toNat)
  case atStart => exact ⟨0, rfl, by omega, [], 0, none, [], by simp, M3⟩
  case round =>
    clear M3
    obtain ⟨i, rfl, hil, E, c, top, bl, hle, hM⟩ := hrel
    by_cases hlt : i < L.length
    · as_aux_lemma =>
        have D3 := d3.out
        have hltI : (i : Int) < (L.length : Int) := by omega
        obtain ⟨b, off, r, rfl, -, hr, hrow, rfl⟩ := (HQ.out.on PPr_ok (by decide) hM.out.below).get (d := pr0) hlt
        have OKX := Lib.hid (HOK.out _ (getD_mem' (d := pr0) hlt))
        have hh := rowOf_half OKX.out.k.len OKX.out.l hrow
        have R9 : Hid (∀ W, Below w1.heap.size w1 W → rowOf W b (off + i * 64) 32 = hc (L.getD i pr0).1 ∧ rowOf W b (off + i * 64 + 32) 32 = hc (L.getD i pr0).2) := by
          intro W hW
          obtain ⟨b2, off2, r2, e2, -, hr2, hrow2, e3⟩ := (HQ.out.on PPr_ok (by decide) hW).get (d := pr0) hlt
          simp only [Option.some.injEq, Addr.mk.injEq] at e2
          obtain ⟨rfl, rfl, -⟩ := e2
          exact rowOf_half OKX.out.k.len OKX.out.l (hrow2.trans e3)
        obtain ⟨Ky, hK0⟩ : ∃ Ky, (L.getD i pr0).1 = Ky := ⟨_, rfl⟩
        obtain ⟨V, hV0⟩ : ∃ V, (L.getD i pr0).2 = V := ⟨_, rfl⟩
        rw [hK0, hV0] at R9 hh
        have lKy : Ky.length = 32 := by rw [← hK0]; exact OKX.out.k.len
        have lV : V.length = 32 := by rw [← hV0]; exact OKX.out.l
        have hlKy := hc_len Ky
        have hlV := hc_len V
        have PK : Hid (KyOk Ky) := by show KyOk Ky; rw [← hK0]; exact OKX.out.k
        have PV : Hid (V.length = 32) := lV
        have PB : Hid (Bytes V) := by show Bytes V; rw [← hV0]; exact OKX.out.b
        have g0 : (0 : Int) ≤ (i : Int) := by omega
        have LE := Lib.hid (show E.length ≤ 12 ∧ E.length ≤ i from ⟨by omega, hle⟩)
        have M4 := Lib.hid (hM.out.on ((Below.refl _ _).drew))
        have hS4 : rowOf wr.drew b (off + i * 64) 32 = hc Ky ∧ rowOf wr.drew b (off + i * 64 + 32) 32 = hc V := R9.out _ (hM.out.below.drew)
        clear hh hrow hr hK0 hV0 OKX
        go_wp2_with fail
        refine wp_region_held_drew (S := fun W => rowOf W b (off + i * 64) 32 = hc Ky ∧ rowOf W b (off + i * 64 + 32) 32 = hc V) (by kernel_rfl) (hS4) (fun h0 => ?_)
        generalize wr.drew = w4 at *
        refine wpAnyH_take (i := 0) (v := ?_) (by rw [List.getElem?_toArray]; rfl) (by kernel_rfl) (by kernel_rfl) (by kernel_rfl) (by exact fun _ _ _ h => h) (Or.inl ⟨by rfl, ?_⟩) h0 ?_
        rotate_left
        · intro W hW
          go_simp
          all_goals with_reducible rfl
        try simp only [Act.put, List.setIfInBounds_toArray, List.set_cons_zero, List.set_cons_succ]
        refine wpAnyH_take (i := 1) (v := ?_) (by rw [List.getElem?_toArray]; rfl) (by kernel_rfl) (by kernel_rfl) (by kernel_rfl) (by exact fun _ _ _ h => h) (Or.inl ⟨by rfl, ?_⟩) h0 ?_
        rotate_left
        · intro W hW
          go_simp
          all_goals with_reducible rfl
        try simp only [Act.put, List.setIfInBounds_toArray, List.set_cons_zero, List.set_cons_succ]
        refine wpAnyH_take (i := 2) (v := ?_) (by rw [List.getElem?_toArray]; rfl) (by kernel_rfl) (by kernel_rfl) (by kernel_rfl) (by exact fun _ _ _ h => h) (Or.inl ⟨by rfl, ?_⟩) h0 ?_
        rotate_left
        · intro W hW
          go_simp
          all_goals with_reducible rfl
        try simp only [Act.put, List.setIfInBounds_toArray, List.set_cons_zero, List.set_cons_succ]
        refine wpAnyH_take (i := 3) (v := ?_) (by rw [List.getElem?_toArray]; rfl) (by kernel_rfl) (by kernel_rfl) (by kernel_rfl) (by exact fun _ _ _ h => h) (Or.inl ⟨by rfl, ?_⟩) h0 ?_
        rotate_left
        · intro W hW
          go_simp
          all_goals with_reducible rfl
        try simp only [Act.put, List.setIfInBounds_toArray, List.set_cons_zero, List.set_cons_succ]
        refine wpAnyH_take (i := 4) (v := ?_) (by rw [List.getElem?_toArray]; rfl) (by kernel_rfl) (by kernel_rfl) (by kernel_rfl) (by exact fun _ _ _ h => h) (Or.inl ⟨by rfl, ?_⟩) h0 ?_
        rotate_left
        · intro W hW
          go_simp
          all_goals with_reducible rfl
        try simp only [Act.put, List.setIfInBounds_toArray, List.set_cons_zero, List.set_cons_succ]
        refine wpAnyH_take (i := 5) (v := ?_) (by rw [List.getElem?_toArray]; rfl) (by kernel_rfl) (by kernel_rfl) (by kernel_rfl) (by exact fun _ _ _ h => h) (Or.inl ⟨by rfl, ?_⟩) h0 ?_
        rotate_left
        · intro W hW
          have c1 := hW.1
          go_simp
          all_goals with_reducible rfl
        try simp only [Act.put, List.setIfInBounds_toArray, List.set_cons_zero, List.set_cons_succ]
        refine wpAnyH_take (i := 6) (v := ?_) (by rw [List.getElem?_toArray]; rfl) (by kernel_rfl) (by kernel_rfl) (by kernel_rfl) (by exact fun _ _ _ h => h) (Or.inl ⟨by rfl, ?_⟩) h0 ?_
        rotate_left
        · intro W hW
          go_simp
          all_goals with_reducible rfl
        try simp only [Act.put, List.setIfInBounds_toArray, List.set_cons_zero, List.set_cons_succ]
        refine wpAnyH_take (i := 7) (v := ?_) (by rw [List.getElem?_toArray]; rfl) (by kernel_rfl) (by kernel_rfl) (by kernel_rfl) (by exact fun _ _ _ h => h) (Or.inl ⟨by rfl, ?_⟩) h0 ?_
        rotate_left
        · intro W hW
          go_simp
          all_goals with_reducible rfl
        try simp only [Act.put, List.setIfInBounds_toArray, List.set_cons_zero, List.set_cons_succ]
        refine wpAnyH_take (i := 8) (v := ?_) (by rw [List.getElem?_toArray]; rfl) (by kernel_rfl) (by kernel_rfl) (by kernel_rfl) (by exact fun _ _ _ h => h) (Or.inl ⟨by rfl, ?_⟩) h0 ?_
        rotate_left
        · intro W hW
          go_simp
          all_goals with_reducible rfl
        try simp only [Act.put, List.setIfInBounds_toArray, List.set_cons_zero, List.set_cons_succ]
        refine wpAnyH_take (i := 9) (v := ?_) (by rw [List.getElem?_toArray]; rfl) (by kernel_rfl) (by kernel_rfl) (by kernel_rfl) (by exact fun _ _ _ h => h) (Or.inl ⟨by rfl, ?_⟩) h0 ?_
        rotate_left
        · intro W hW
          go_simp
          all_goals with_reducible rfl
        try simp only [Act.put, List.setIfInBounds_toArray, List.set_cons_zero, List.set_cons_succ]
        refine wpAnyH_take (i := 10) (v := ?_) (by rw [List.getElem?_toArray]; rfl) (by kernel_rfl) (by kernel_rfl) (by kernel_rfl) (by exact fun _ _ _ h => h) (Or.inl ⟨by rfl, ?_⟩) h0 ?_
        rotate_left
        · intro W hW
          have c2 := hW.2
          go_simp
          all_goals with_reducible rfl
        try simp only [Act.put, List.setIfInBounds_toArray, List.set_cons_zero, List.set_cons_succ]
        refine wpAnyH_ready (rs := [11]) (by kernel_rfl) (by simp) ?_
        refine AllReadyH.cons (by rw [List.getElem?_toArray]; rfl) (fun KX hKK => ?_) AllReadyH.nil
        first | rw [if_pos (by rfl)] | skip
        go_wp2_with fail
        refine (Put_all PK.out PV.out PB.out M4.out.map (by have := LE.out; omega)).mono ?_
        rintro e w5 hq5
        obtain ⟨rfl, E', c', top', bl', m5, v5, n5, n5'⟩ := M4.out.put hq5
        have hS : rowOf w5 b (off + i * 64) 32 = hc Ky ∧ rowOf w5 b (off + i * 64 + 32) 32 = hc V := R9.out w5 m5.below
        have M5 := Lib.hid m5
        have NE := Lib.hid n5
        clear hq5 m5 n5 n5' v5 M4
        go_wp2_with fail
        refine hKK.out _ _ (hS) (fun h0 => ?_)
        clear hKK KX
        try simp only [Act.put, List.setIfInBounds_toArray, List.set_cons_zero, List.set_cons_succ]
        refine wpAnyH_done (by kernel_rfl) ?_ _
        clear h0
        go_wp2_with fail
        go_roundw
        case rel => exact ⟨i + 1, by go_num, by omega, E', c', top', bl', by have := NE.out; have := LE.out; omega, M5⟩
        case measure => simp [intOf]; omega
    · as_aux_lemma =>
        have hnl : ¬ (i : Int) < (L.length : Int) := by omega
        have LE := Lib.hid (show E.length ≤ 12 by have := d3.out; omega)
        have HG : Hid (1 ∉ bl) := fun hin => by have h1 := hM.out.bg _ hin; have h2 := HT.out.pos; omega
        have RR := Lib.hid (Root_all (HT.out.on hM.out.below HT.out.pos) hM.out.map HG.out)
        have EW := Lib.hid hM.out.map.e
        have lR := rootE_len E EW.out
        obtain ⟨R, hR⟩ : ∃ R, rootE E = R := ⟨_, rfl⟩
        rw [hR] at RR lR
        have HR := Lib.hid hR
        clear hR
        go_wp2_with fail
        refine RR.out.mono ?_
        rintro e w8 ⟨rfl, c8, m8⟩
        have LH8 := Lib.hid ((LhM.start hM.out).root c8 m8)
        clear c8 m8 RR hM
        have th := (HashAt.new w8 zero32).there zero32_len
        have hcl := hc_len R
        go_upto_region 11 with fail
        clear th
        obtain ⟨w9, hw⟩ : ∃ x, (w8.alloc (.cells (hc zero32).toArray 24)).setCells w8.heap.size 0 (hc R) = x := ⟨_, rfl⟩
        have LH9 := Lib.hid (LH8.out.hash hw.symm rfl lR)
        rw [hw]
        clear hw
        obtain ⟨rb, ho⟩ : ∃ o, w8.heap.size = o := ⟨_, rfl⟩
        rw [ho] at LH9 ⊢
        clear ho
        have rK := (HA.out.on LH9.out.map.below).row lK
        have GT := Lib.hid (Get_all HKK.out LH9.out.map.map)
        have lV := (vOf_ok EW.out.b K).1
        have BV := Lib.hid (vOf_ok EW.out.b K).2
        obtain ⟨V, hV⟩ : ∃ V, vOf E K = V := ⟨_, rfl⟩
        rw [hV] at GT lV BV
        have HV := Lib.hid hV
        clear hV
        go_wp2_with fail
        clear rK
        refine GT.out.mono ?_
        rintro e w10 ⟨rfl, b10⟩
        have LH10 := Lib.hid (LH9.out.on b10)
        clear b10 LH9 GT LH8
        have th := (HashAt.new w10 zero32).there zero32_len
        have hcl := hc_len V
        go_upto_region 12 with fail
        clear th
        obtain ⟨w11, hw⟩ : ∃ x, (w10.alloc (.cells (hc zero32).toArray 24)).setCells w10.heap.size 0 (hc V) = x := ⟨_, rfl⟩
        have LH11 := Lib.hid (LH10.out.hash hw.symm rfl lV)
        rw [hw]
        clear hw
        obtain ⟨ob, ho⟩ : ∃ o, w10.heap.size = o := ⟨_, rfl⟩
        rw [ho] at LH11 ⊢
        clear ho
        have rK := (HA.out.on LH11.out.map.below).row lK
        have KV := Lib.hid (Prove_all (HT.out.on LH11.out.map.below HT.out.pos) LH11.out.map HKK.out HG.out)
        go_wp2_with fail
        clear rK
        refine KV.out.mono ?_
        rintro e w12 ⟨M, q6, k6, Ss, rfl, pn6, hs6, m6, c6, f6⟩
        have th6 := (PfB.new (t := 48) w12 zero32 (.slice none 0 0)).there zero32_len
        have lM := pn6.ky.len
        have lp6 := pfRow_len pn6.ky.len (.slice q6 Ss.length k6)
        have PN := Lib.hid pn6
        go_upto_region 13 with fail
        clear th6
        obtain ⟨w13, hw⟩ : ∃ x, (w12.alloc (.cells (pfRow zero32 (.slice none 0 0)).toArray 48)).setCells w12.heap.size 0 (pfRow M (.slice q6 Ss.length k6)) = x := ⟨_, rfl⟩
        have LW12 := Lib.hid (LH11.out.proof pn6.ky.len hs6 m6 c6 f6 hw.symm)
        rw [hw]
        obtain ⟨pb, hpb⟩ : ∃ o, w12.heap.size = o := ⟨_, rfl⟩
        rw [hpb] at LW12 ⊢
        clear hw hpb pn6 hs6 m6 c6 f6 KV LH10 LH11
        have NSS := Lib.hid (PN.out.len)
        have OKS := Lib.hid (PN.out.ok)
        have HRO : Hid (rootH K V M Ss = R) := by show _ = _; rw [← HV.out, PN.out.rootOf EW.out EW.out HKK.out (fun k hk => rfl), HR.out]
        have CK1 : Hid (ckS R K V M Ss = true) := by show _ = _; unfold ckS; rw [OKS.out, HRO.out]; simp
        have lG := rootH_len K A M Ss
        have UE1 : Hid (updE R K V M Ss = 0) := by show _ = _; unfold updE; rw [if_pos OKS.out, if_pos CK1.out]
        have UH0 : updH R K V A M Ss = rootH K A M Ss := by unfold updH; rw [if_pos OKS.out, if_pos CK1.out]
        obtain ⟨G, hG⟩ : ∃ G, rootH K A M Ss = G := ⟨_, rfl⟩
        rw [hG] at lG UH0
        have HGD := Lib.hid hG
        have UH1 := Lib.hid UH0
        clear hG UH0
        go_cut [15] from 65 to 71 (fun s15 wx => ∃ (ab : Nat) (q7 : Option Addr) (k7 : Nat), s15 = .pointer (some ⟨ab, 0, none⟩) ∧ Hid (LwR w1 wx p m c E top bl [(ob, V), (rb, R)] pb M (.slice q6 Ss.length k6) Ss ab (.slice q7 Ss.length k7)))
        case first =>
          have LW13 := Lib.hid (LW12.out.on (Below.refl _ _).drew)
          have Bv : Hid (Below w13.drew.heap.size w13.drew w13.drew) := Below.refl _ _
          refine wp_region_held_drew (S := fun W => PfB 48 W pb M (.slice q6 Ss.length k6)) (by kernel_rfl) (LW13.out.pf) (fun h0 => ?_)
          have HSR : Hid (∀ W, Below w13.drew.heap.size w13.drew W → RdHs W q6 Ss) := fun W hb => LW13.out.hs.rd.2.1.on (fun i hi => (LW13.out.hs.ok.get i hi).1) hb
          clear LW12
          generalize w13.drew = v at *
          refine wpAnyH_take (i := 0) (v := ?_) (by rw [List.getElem?_toArray]; rfl) (by kernel_rfl) (by kernel_rfl) (by kernel_rfl) (by exact fun _ _ _ h => h) (Or.inl ⟨by rfl, ?_⟩) h0 ?_
          rotate_left
          · intro W hW
            go_simp
            all_goals with_reducible rfl
          try simp only [Act.put, List.setIfInBounds_toArray, List.set_cons_zero, List.set_cons_succ]
          refine wpAnyH_take (i := 1) (v := ?_) (by rw [List.getElem?_toArray]; rfl) (by kernel_rfl) (by kernel_rfl) (by kernel_rfl) (by exact fun _ _ _ h => h) (Or.inl ⟨by rfl, ?_⟩) h0 ?_
          rotate_left
          · intro W hW
            have cc := hW.mask lM
            go_simp
            all_goals with_reducible rfl
          try simp only [Act.put, List.setIfInBounds_toArray, List.set_cons_zero, List.set_cons_succ]
          refine wpAnyH_take (i := 3) (v := ?_) (by rw [List.getElem?_toArray]; rfl) (by kernel_rfl) (by kernel_rfl) (by kernel_rfl) (by exact fun _ _ _ h => h) (Or.inl ⟨by rfl, ?_⟩) h0 ?_
          rotate_left
          · intro W hW
            go_simp
            all_goals with_reducible rfl
          try simp only [Act.put, List.setIfInBounds_toArray, List.set_cons_zero, List.set_cons_succ]
          refine wpAnyH_take (i := 4) (v := ?_) (by rw [List.getElem?_toArray]; rfl) (by kernel_rfl) (by kernel_rfl) (by kernel_rfl) (by exact fun _ _ _ h => h) (Or.inl ⟨by rfl, ?_⟩) h0 ?_
          rotate_left
          · intro W hW
            have cc := hW.sides lM
            go_simp
            all_goals with_reducible rfl
          try simp only [Act.put, List.setIfInBounds_toArray, List.set_cons_zero, List.set_cons_succ]
          refine wpAnyH_ready (rs := [2, 7]) (by kernel_rfl) (by simp) ?_
          refine AllReadyH.cons (by rw [List.getElem?_toArray]; rfl) (fun KX hKK => ?_) (AllReadyH.cons (by rw [List.getElem?_toArray]; rfl) (fun KX hKK => ?_) (AllReadyH.nil))
          · first | rw [if_pos (by rfl)] | skip
            have b : Below v.heap.size v (v.alloc (.cells #[] 24)) := (Below.refl _ _).alloc (Nat.le_refl _) _
            have Bv2 := Lib.hid (Bv.out.trans (b.mono Bv.out.size))
            have OE := Lib.hid (own_empty v 24 32)
            have hvc := Bv.out.size
            clear b
            have hS := LW13.out.pf.on Bv2.out
            go_wp2_with fail
            refine hKK.out _ _ hS (fun h0 => ?_)
            clear hKK KX hS
            try simp only [Act.put, List.setIfInBounds_toArray, List.set_cons_zero, List.set_cons_succ]
            generalize hw : v.alloc (.cells #[] 24) = v2 at *
            clear hw
            obtain ⟨eb, heb, EB⟩ : ∃ o, v.heap.size = o ∧ Hid (v.heap.size ≤ o) := ⟨_, rfl, hvc⟩
            rw [heb] at OE ⊢
            clear heb hvc
            refine wpAnyH_ready (rs := [5, 7]) (by kernel_rfl) (by simp) ?_
            refine AllReadyH.cons (by rw [List.getElem?_toArray]; rfl) (fun KX hKK => ?_) (AllReadyH.cons (by rw [List.getElem?_toArray]; rfl) (fun KX hKK => ?_) (AllReadyH.nil))
            · first | rw [if_pos (by rfl)] | skip
              refine wp_append_row _ _ rfl Tryd.underlying46 hi.out hz0.out hz1.out hz2.out zero_cells (show v2.ownsRow 0 _ 32 (.slice (some ⟨eb, 0, none⟩) 0 0) 0 [] from OE.out) ((HSR.out _ Bv2.out).src (P := Tryd.prog) LW13.out.hs.ok Tryd.underlying46) ?b1 ?b2 ?_
              case b1 => have := NSS.out; unfold maxLen; omega
              case b2 => have := NSS.out; omega
              intro q7 k7 v25 own7 grow7' fr7'
              have grow7 : v2.grownBy v25 (Value.slice (some ⟨eb, 0, none⟩) 0 0).ownBlock := grow7'
              have fr7 : (Value.slice q7 (0 + Ss.length) k7).ownBlock = (Value.slice (some ⟨eb, 0, none⟩) 0 0).ownBlock ∨ (Value.slice q7 (0 + Ss.length) k7).ownBlock = some v2.heap.size := fr7'
              have Bv25 := Lib.hid (Bv2.out.grown grow7 Bv2.out.size (fun g hg => by simp [Value.ownBlock] at hg; have := EB.out; omega))
              have ON : Hid (v25.ownsRow 0 24 32 (.slice q7 Ss.length k7) Ss.length (hcs Ss)) := by
                have := own7; simp only [Nat.zero_add, List.nil_append] at this; exact this
              have FR : Hid (∀ g, (Value.slice q7 Ss.length k7).ownBlock = some g → v.heap.size ≤ g) := fun g hg => by
                rcases fr7 with e | e
                · simp only [Nat.zero_add] at e
                  rw [e] at hg; simp [Value.ownBlock] at hg; have := EB.out; omega
                · simp only [Nat.zero_add] at e
                  rw [e] at hg; simp at hg; have := Bv2.out.size; omega
              have hS := LW13.out.pf.on Bv25.out
              simp only [Nat.zero_add]
              clear own7 grow7 fr7 grow7' fr7' OE EB
              refine hKK.out _ _ hS (fun h0 => ?_)
              clear hKK KX hS
              try simp only [Act.put, List.setIfInBounds_toArray, List.set_cons_zero, List.set_cons_succ]
              refine wpAnyH_take (i := 6) (v := ?_) (by rw [List.getElem?_toArray]; rfl) (by kernel_rfl) (by kernel_rfl) (by kernel_rfl) (by exact fun _ _ _ h => h) (Or.inl ⟨by rfl, ?_⟩) h0 ?_
              rotate_left
              · intro W hW
                go_simp
                all_goals with_reducible rfl
              try simp only [Act.put, List.setIfInBounds_toArray, List.set_cons_zero, List.set_cons_succ]
              refine wpAnyH_ready (rs := [7]) (by kernel_rfl) (by simp) ?_
              refine AllReadyH.cons (by rw [List.getElem?_toArray]; rfl) (fun KX hKK => ?_) AllReadyH.nil
              first | rw [if_pos (by rfl)] | skip
              have b : Below v25.heap.size v25 (v25.alloc (.cells (pfRow zero32 (.slice none 0 0)).toArray 50)) := (Below.refl _ _).alloc (Nat.le_refl _) _
              have Bv257 := Lib.hid (Bv25.out.trans (b.mono Bv25.out.size))
              have PA := Lib.hid (PfB.new (t := 50) v25 zero32 (.slice none 0 0))
              have hvc := Bv25.out.size
              replace ON := Lib.hid (own_on ON.out b)
              clear b
              have hS := LW13.out.pf.on Bv257.out
              go_wp2_with fail
              refine hKK.out _ _ hS (fun h0 => ?_)
              clear hKK KX hS
              try simp only [Act.put, List.setIfInBounds_toArray, List.set_cons_zero, List.set_cons_succ]
              generalize hw : v25.alloc (.cells (pfRow zero32 (.slice none 0 0)).toArray 50) = v257 at *
              clear hw
              obtain ⟨ab, hab, AB⟩ : ∃ o, v25.heap.size = o ∧ Hid (v.heap.size ≤ o) := ⟨_, rfl, hvc⟩
              rw [hab] at PA ⊢
              clear hab hvc
              refine wpAnyH_ready (rs := [8]) (by kernel_rfl) (by simp) ?_
              refine AllReadyH.cons (by rw [List.getElem?_toArray]; rfl) (fun KX hKK => ?_) AllReadyH.nil
              first | rw [if_pos (by rfl)] | skip
              have th := PA.out.there zero32_len
              have lp7 := pfRow_len PN.out.ky.len (.slice q7 Ss.length k7)
              have P8 := Lib.hid (PA.out.put zero32_len PN.out.ky.len (.slice q7 Ss.length k7))
              have B8 : Hid (Below v.heap.size v (v257.setCells ab 0 (pfRow M (.slice q7 Ss.length k7)))) := below_setCells' _ AB.out _ _ Bv257.out
              have O8 : Hid ((v257.setCells ab 0 (pfRow M (.slice q7 Ss.length k7))).ownsRow 0 24 32 (.slice q7 Ss.length k7) Ss.length (hcs Ss)) := own_keep ON.out (fun j hj => setCells_other (fun e => own_ne ON.out PA.out (by decide) (by rw [hj, e])) _ _ _)
              have hS := LW13.out.pf.on B8.out
              go_wp2_with fail
              refine hKK.out _ _ hS (fun h0 => ?_)
              clear hKK KX hS th lp7
              try simp only [Act.put, List.setIfInBounds_toArray, List.set_cons_zero, List.set_cons_succ]
              refine wpAnyH_done (by kernel_rfl) ?_ _
              clear h0
              have LRX := Lib.hid (LW13.out.copied PN.out.ky.len Bv257.out ON.out FR.out AB.out P8.out B8.out O8.out)
              go_wp2_with fail
              go_meet
              case rel => exact ⟨ab, q7, k7, rfl, LRX⟩
            · first | rw [if_pos (by rfl)] | skip
              have b : Below v2.heap.size v2 (v2.alloc (.cells (pfRow zero32 (.slice none 0 0)).toArray 50)) := (Below.refl _ _).alloc (Nat.le_refl _) _
              have Bv27 := Lib.hid (Bv2.out.trans (b.mono Bv2.out.size))
              have PA := Lib.hid (PfB.new (t := 50) v2 zero32 (.slice none 0 0))
              have hvc := Bv2.out.size
              replace OE := Lib.hid (own_on OE.out b)
              clear b
              have hS := LW13.out.pf.on Bv27.out
              go_wp2_with fail
              refine hKK.out _ _ hS (fun h0 => ?_)
              clear hKK KX hS
              try simp only [Act.put, List.setIfInBounds_toArray, List.set_cons_zero, List.set_cons_succ]
              generalize hw : v2.alloc (.cells (pfRow zero32 (.slice none 0 0)).toArray 50) = v27 at *
              clear hw
              obtain ⟨ab, hab, AB⟩ : ∃ o, v2.heap.size = o ∧ Hid (v.heap.size ≤ o) := ⟨_, rfl, hvc⟩
              rw [hab] at PA ⊢
              clear hab hvc
              refine wpAnyH_ready (rs := [5]) (by kernel_rfl) (by simp) ?_
              refine AllReadyH.cons (by rw [List.getElem?_toArray]; rfl) (fun KX hKK => ?_) AllReadyH.nil
              first | rw [if_pos (by rfl)] | skip
              refine wp_append_row _ _ rfl Tryd.underlying46 hi.out hz0.out hz1.out hz2.out zero_cells (show v27.ownsRow 0 _ 32 (.slice (some ⟨eb, 0, none⟩) 0 0) 0 [] from OE.out) ((HSR.out _ Bv27.out).src (P := Tryd.prog) LW13.out.hs.ok Tryd.underlying46) ?b1 ?b2 ?_
              case b1 => have := NSS.out; unfold maxLen; omega
              case b2 => have := NSS.out; omega
              intro q7 k7 v257 own7 grow7' fr7'
              have grow7 : v27.grownBy v257 (Value.slice (some ⟨eb, 0, none⟩) 0 0).ownBlock := grow7'
              have fr7 : (Value.slice q7 (0 + Ss.length) k7).ownBlock = (Value.slice (some ⟨eb, 0, none⟩) 0 0).ownBlock ∨ (Value.slice q7 (0 + Ss.length) k7).ownBlock = some v27.heap.size := fr7'
              have Bv257 := Lib.hid (Bv27.out.grown grow7 Bv27.out.size (fun g hg => by simp [Value.ownBlock] at hg; have := EB.out; omega))
              have hne : eb ≠ ab := fun e => own_ne OE.out PA.out (by decide) (by simp [Value.ownBlock, e])
              replace PA := Lib.hid (PA.out.chg (show Chg v27 v257 [eb] from Chg.grown grow7 (fun k hk => by simp [Value.ownBlock] at hk; simp [hk])) (by simp; exact fun e => hne e.symm))
              clear hne
              have ON : Hid (v257.ownsRow 0 24 32 (.slice q7 Ss.length k7) Ss.length (hcs Ss)) := by
                have := own7; simp only [Nat.zero_add, List.nil_append] at this; exact this
              have FR : Hid (∀ g, (Value.slice q7 Ss.length k7).ownBlock = some g → v.heap.size ≤ g) := fun g hg => by
                rcases fr7 with e | e
                · simp only [Nat.zero_add] at e
                  rw [e] at hg; simp [Value.ownBlock] at hg; have := EB.out; omega
                · simp only [Nat.zero_add] at e
                  rw [e] at hg; simp at hg; have := Bv27.out.size; omega
              have hS := LW13.out.pf.on Bv257.out
              simp only [Nat.zero_add]
              clear own7 grow7 fr7 grow7' fr7' OE EB
              refine hKK.out _ _ hS (fun h0 => ?_)
              clear hKK KX hS
              try simp only [Act.put, List.setIfInBounds_toArray, List.set_cons_zero, List.set_cons_succ]
              refine wpAnyH_take (i := 6) (v := ?_) (by rw [List.getElem?_toArray]; rfl) (by kernel_rfl) (by kernel_rfl) (by kernel_rfl) (by exact fun _ _ _ h => h) (Or.inl ⟨by rfl, ?_⟩) h0 ?_
              rotate_left
              · intro W hW
                go_simp
                all_goals with_reducible rfl
              try simp only [Act.put, List.setIfInBounds_toArray, List.set_cons_zero, List.set_cons_succ]
              refine wpAnyH_ready (rs := [8]) (by kernel_rfl) (by simp) ?_
              refine AllReadyH.cons (by rw [List.getElem?_toArray]; rfl) (fun KX hKK => ?_) AllReadyH.nil
              first | rw [if_pos (by rfl)] | skip
              have th := PA.out.there zero32_len
              have lp7 := pfRow_len PN.out.ky.len (.slice q7 Ss.length k7)
              have P8 := Lib.hid (PA.out.put zero32_len PN.out.ky.len (.slice q7 Ss.length k7))
              have B8 : Hid (Below v.heap.size v (v257.setCells ab 0 (pfRow M (.slice q7 Ss.length k7)))) := below_setCells' _ AB.out _ _ Bv257.out
              have O8 : Hid ((v257.setCells ab 0 (pfRow M (.slice q7 Ss.length k7))).ownsRow 0 24 32 (.slice q7 Ss.length k7) Ss.length (hcs Ss)) := own_keep ON.out (fun j hj => setCells_other (fun e => own_ne ON.out PA.out (by decide) (by rw [hj, e])) _ _ _)
              have hS := LW13.out.pf.on B8.out
              go_wp2_with fail
              refine hKK.out _ _ hS (fun h0 => ?_)
              clear hKK KX hS th lp7
              try simp only [Act.put, List.setIfInBounds_toArray, List.set_cons_zero, List.set_cons_succ]
              refine wpAnyH_done (by kernel_rfl) ?_ _
              clear h0
              have LRX := Lib.hid (LW13.out.copied PN.out.ky.len Bv257.out ON.out FR.out AB.out P8.out B8.out O8.out)
              go_wp2_with fail
              go_meet
              case rel => exact ⟨ab, q7, k7, rfl, LRX⟩
          · first | rw [if_pos (by rfl)] | skip
            have b : Below v.heap.size v (v.alloc (.cells (pfRow zero32 (.slice none 0 0)).toArray 50)) := (Below.refl _ _).alloc (Nat.le_refl _) _
            have Bv7 := Lib.hid (Bv.out.trans (b.mono Bv.out.size))
            have PA := Lib.hid (PfB.new (t := 50) v zero32 (.slice none 0 0))
            have hvc := Bv.out.size
            clear b
            have hS := LW13.out.pf.on Bv7.out
            go_wp2_with fail
            refine hKK.out _ _ hS (fun h0 => ?_)
            clear hKK KX hS
            try simp only [Act.put, List.setIfInBounds_toArray, List.set_cons_zero, List.set_cons_succ]
            generalize hw : v.alloc (.cells (pfRow zero32 (.slice none 0 0)).toArray 50) = v7 at *
            clear hw
            obtain ⟨ab, hab, AB⟩ : ∃ o, v.heap.size = o ∧ Hid (v.heap.size ≤ o) := ⟨_, rfl, hvc⟩
            rw [hab] at PA ⊢
            clear hab hvc
            refine wpAnyH_ready (rs := [2]) (by kernel_rfl) (by simp) ?_
            refine AllReadyH.cons (by rw [List.getElem?_toArray]; rfl) (fun KX hKK => ?_) AllReadyH.nil
            first | rw [if_pos (by rfl)] | skip
            have b : Below v7.heap.size v7 (v7.alloc (.cells #[] 24)) := (Below.refl _ _).alloc (Nat.le_refl _) _
            have Bv27 := Lib.hid (Bv7.out.trans (b.mono Bv7.out.size))
            have OE := Lib.hid (own_empty v7 24 32)
            have hvc := Bv7.out.size
            replace PA := Lib.hid (PA.out.on b)
            clear b
            have hS := LW13.out.pf.on Bv27.out
            go_wp2_with fail
            refine hKK.out _ _ hS (fun h0 => ?_)
            clear hKK KX hS
            try simp only [Act.put, List.setIfInBounds_toArray, List.set_cons_zero, List.set_cons_succ]
            generalize hw : v7.alloc (.cells #[] 24) = v27 at *
            clear hw
            obtain ⟨eb, heb, EB⟩ : ∃ o, v7.heap.size = o ∧ Hid (v.heap.size ≤ o) := ⟨_, rfl, hvc⟩
            rw [heb] at OE ⊢
            clear heb hvc
            refine wpAnyH_ready (rs := [5]) (by kernel_rfl) (by simp) ?_
            refine AllReadyH.cons (by rw [List.getElem?_toArray]; rfl) (fun KX hKK => ?_) AllReadyH.nil
            first | rw [if_pos (by rfl)] | skip
            refine wp_append_row _ _ rfl Tryd.underlying46 hi.out hz0.out hz1.out hz2.out zero_cells (show v27.ownsRow 0 _ 32 (.slice (some ⟨eb, 0, none⟩) 0 0) 0 [] from OE.out) ((HSR.out _ Bv27.out).src (P := Tryd.prog) LW13.out.hs.ok Tryd.underlying46) ?b1 ?b2 ?_
            case b1 => have := NSS.out; unfold maxLen; omega
            case b2 => have := NSS.out; omega
            intro q7 k7 v257 own7 grow7' fr7'
            have grow7 : v27.grownBy v257 (Value.slice (some ⟨eb, 0, none⟩) 0 0).ownBlock := grow7'
            have fr7 : (Value.slice q7 (0 + Ss.length) k7).ownBlock = (Value.slice (some ⟨eb, 0, none⟩) 0 0).ownBlock ∨ (Value.slice q7 (0 + Ss.length) k7).ownBlock = some v27.heap.size := fr7'
            have Bv257 := Lib.hid (Bv27.out.grown grow7 Bv27.out.size (fun g hg => by simp [Value.ownBlock] at hg; have := EB.out; omega))
            have hne : eb ≠ ab := fun e => own_ne OE.out PA.out (by decide) (by simp [Value.ownBlock, e])
            replace PA := Lib.hid (PA.out.chg (show Chg v27 v257 [eb] from Chg.grown grow7 (fun k hk => by simp [Value.ownBlock] at hk; simp [hk])) (by simp; exact fun e => hne e.symm))
            clear hne
            have ON : Hid (v257.ownsRow 0 24 32 (.slice q7 Ss.length k7) Ss.length (hcs Ss)) := by
              have := own7; simp only [Nat.zero_add, List.nil_append] at this; exact this
            have FR : Hid (∀ g, (Value.slice q7 Ss.length k7).ownBlock = some g → v.heap.size ≤ g) := fun g hg => by
              rcases fr7 with e | e
              · simp only [Nat.zero_add] at e
                rw [e] at hg; simp [Value.ownBlock] at hg; have := EB.out; omega
              · simp only [Nat.zero_add] at e
                rw [e] at hg; simp at hg; have := Bv27.out.size; omega
            have hS := LW13.out.pf.on Bv257.out
            simp only [Nat.zero_add]
            clear own7 grow7 fr7 grow7' fr7' OE EB
            refine hKK.out _ _ hS (fun h0 => ?_)
            clear hKK KX hS
            try simp only [Act.put, List.setIfInBounds_toArray, List.set_cons_zero, List.set_cons_succ]
            refine wpAnyH_take (i := 6) (v := ?_) (by rw [List.getElem?_toArray]; rfl) (by kernel_rfl) (by kernel_rfl) (by kernel_rfl) (by exact fun _ _ _ h => h) (Or.inl ⟨by rfl, ?_⟩) h0 ?_
            rotate_left
            · intro W hW
              go_simp
              all_goals with_reducible rfl
            try simp only [Act.put, List.setIfInBounds_toArray, List.set_cons_zero, List.set_cons_succ]
            refine wpAnyH_ready (rs := [8]) (by kernel_rfl) (by simp) ?_
            refine AllReadyH.cons (by rw [List.getElem?_toArray]; rfl) (fun KX hKK => ?_) AllReadyH.nil
            first | rw [if_pos (by rfl)] | skip
            have th := PA.out.there zero32_len
            have lp7 := pfRow_len PN.out.ky.len (.slice q7 Ss.length k7)
            have P8 := Lib.hid (PA.out.put zero32_len PN.out.ky.len (.slice q7 Ss.length k7))
            have B8 : Hid (Below v.heap.size v (v257.setCells ab 0 (pfRow M (.slice q7 Ss.length k7)))) := below_setCells' _ AB.out _ _ Bv257.out
            have O8 : Hid ((v257.setCells ab 0 (pfRow M (.slice q7 Ss.length k7))).ownsRow 0 24 32 (.slice q7 Ss.length k7) Ss.length (hcs Ss)) := own_keep ON.out (fun j hj => setCells_other (fun e => own_ne ON.out PA.out (by decide) (by rw [hj, e])) _ _ _)
            have hS := LW13.out.pf.on B8.out
            go_wp2_with fail
            refine hKK.out _ _ hS (fun h0 => ?_)
            clear hKK KX hS th lp7
            try simp only [Act.put, List.setIfInBounds_toArray, List.set_cons_zero, List.set_cons_succ]
            refine wpAnyH_done (by kernel_rfl) ?_ _
            clear h0
            have LRX := Lib.hid (LW13.out.copied PN.out.ky.len Bv257.out ON.out FR.out AB.out P8.out B8.out O8.out)
            go_wp2_with fail
            go_meet
            case rel => exact ⟨ab, q7, k7, rfl, LRX⟩
        case rest =>
          obtain ⟨ab, q7, k7, rfl, LRC⟩ := hcut
          go_upto_region 14 with fail
          go_cut [106] from 72 to 106 (fun s106 wx => s106 = .bool false ∧ Hid (LwR w1 wx p m c E top bl [(ob, V), (rb, R)] pb M (.slice q6 Ss.length k6) Ss ab (.slice q7 Ss.length k7)))
          case first =>
            have CR := Lib.hid (Right_any (w := wc) (k := k6) lM PN.out.ky.by_ LRC.out.lw.hs.rd.2.1 PN.out.hs (by have := NSS.out; omega))
            rw [OKS.out] at CR
            have rP := LRC.out.lw.pf.whole lM
            go_wp2_with fail
            clear rP
            refine CR.out.mono ?_
            rintro e w14 ⟨rfl, bb⟩
            have LR14 := Lib.hid (LRC.out.on bb)
            clear bb CR LRC
            have CC := Lib.hid (pCheck_any (k := k6) (HT.out.on LR14.out.lw.map.below HT.out.pos) lR HKK.out.len lV PN.out.ky.len HKK.out.by_ BV.out PN.out.ky.by_ LR14.out.lw.hs.rd.2.1 PN.out.hs (by have := NSS.out; omega))
            rw [CK1.out] at CC
            have rR := (LR14.out.at (o := rb) (F := R) (by simp)).row lR
            have rK := (HA.out.on LR14.out.lw.map.below).row lK
            have rV := (LR14.out.at (o := ob) (F := V) (by simp)).row lV
            have rP := LR14.out.lw.pf.whole lM
            by_cases hBV : B = V
            · as_aux_lemma =>
                have dB : (B == V) = true := by rw [hBV]; simp
                clear hBV
                go_wp2_with fail
                clear rR rK rV rP
                refine CC.out.mono ?_
                rintro e w15 ⟨rfl, bb⟩
                have LR15 := Lib.hid (LR14.out.on bb)
                clear bb CC LR14
                have rB := (HB2.out.on LR15.out.lw.map.below).row lB
                have rV := (LR15.out.at (o := ob) (F := V) (by simp)).row lV
                go_wp2_with fail
                go_meet
                case rel => exact ⟨rfl, LR15⟩
            · as_aux_lemma =>
                have dB : (B == V) = false := by simpa using hBV
                go_wp2_with fail
                clear rR rK rV rP
                refine CC.out.mono ?_
                rintro e w15 ⟨rfl, bb⟩
                have LR15 := Lib.hid (LR14.out.on bb)
                clear bb CC LR14
                have CC := Lib.hid (pCheck_any (k := k6) (HT.out.on LR15.out.lw.map.below HT.out.pos) lR HKK.out.len lB PN.out.ky.len HKK.out.by_ BB.out PN.out.ky.by_ LR15.out.lw.hs.rd.2.1 PN.out.hs (by have := NSS.out; omega))
                have rR := (LR15.out.at (o := rb) (F := R) (by simp)).row lR
                have rK := (HA.out.on LR15.out.lw.map.below).row lK
                have rV := (LR15.out.at (o := ob) (F := V) (by simp)).row lV
                have rB := (HB2.out.on LR15.out.lw.map.below).row lB
                have rP := LR15.out.lw.pf.whole lM
                cases hck : ckS R K B M Ss with
                | false =>
                  rw [hck] at CC
                  go_wp2_with fail
                  refine CC.out.mono ?_
                  rintro e w16 ⟨rfl, bb⟩
                  have LR16 := Lib.hid (LR15.out.on bb)
                  go_wp2_with fail
                  go_meet
                  case rel => exact ⟨rfl, LR16⟩
                | true =>
                  rw [hck] at CC
                  have RB : Hid (rootH K V M Ss = rootH K B M Ss) := by
                    show _ = _
                    rw [HRO.out]
                    unfold ckS at hck
                    rw [Bool.and_eq_true, beq_iff_eq] at hck
                    exact hck.2.symm
                  have HNE := Lib.hid hBV
                  go_wp2_with fail
                  clear rR rK rV rB rP hBV hck
                  refine CC.out.mono ?_
                  rintro e w16 ⟨rfl, bb⟩
                  have LR16 := Lib.hid (LR15.out.on bb)
                  clear bb CC LR15
                  have rK := (HA.out.on LR16.out.lw.map.below).row lK
                  have rV := (LR16.out.at (o := ob) (F := V) (by simp)).row lV
                  have rB := (HB2.out.on LR16.out.lw.map.below).row lB
                  have rA := (HB1.out.on LR16.out.lw.map.below).row lA
                  have b17 : Below w16.heap.size w16 (w16.alloc (.cells (hc V ++ (hc B ++ hc A)).toArray 24)) := (Below.refl _ _).alloc (Nat.le_refl _) _
                  have LR17 := Lib.hid (LR16.out.on b17)
                  have r5 := LR17.out.r.whole lM
                  have RO := Lib.hid (road_any (q2 := q7) (k2 := k7) (cp := cp) (cv := 3) (Vs := [V, B, A]) ((HQ.out.on PPr_ok (by decide) LR17.out.lw.map.below).mono PPr_ok (fun g hg => by have := B0.out.size; have := LR17.out.lw.map.below.size; omega)) HOK.out d3.out HKK.out PN.out.ky LR17.out.hr.rd.2.1 PN.out.hs OKS.out NSS.out (three_rd w16 (three_ok lV lB lA BV.out BB.out HAK.out.by_)) (three_ok lV lB lA BV.out BB.out HAK.out.by_) (by simp))
                  clear b17 LR16
                  go_wp2_with fail
                  clear rK rV rB rA r5
                  refine RO.out.mono ?_
                  rintro e w18 ⟨qs, cs, Ls, rfl, tx, nl, tok, mem⟩
                  have LR18 := Lib.hid (LR17.out.on tx.below)
                  have CL := Lib.hid (clash_of tx tok nl (maps_clash OKS.out PN.out.hs HKK.out PN.out.ky lV lB HNE.out RB.out (mem 0 (by simp)) (mem 1 (by simp))))
                  clear tx nl tok mem LR17 RO
                  go_wp2_with fail
                  refine CL.out.mono ?_
                  rintro e w19 ⟨rfl, bb⟩
                  have LR19 := Lib.hid (LR18.out.on bb)
                  go_wp2_with fail
                  go_meet
                  case rel => exact ⟨rfl, LR19⟩
          case rest =>
            obtain ⟨rfl, LRD⟩ := hcut
            have CU := Lib.hid (pUpdate_any (k := k6) (HT.out.on LRD.out.lw.map.below HT.out.pos) lR HKK.out.len lV lA PN.out.ky.len HKK.out.by_ BV.out HAK.out.by_ PN.out.ky.by_ LRD.out.lw.hs.rd.2.1 PN.out.hs (by have := NSS.out; omega))
            rw [UE1.out, UH1.out] at CU
            have rR := (LRD.out.at (o := rb) (F := R) (by simp)).row lR
            have rK := (HA.out.on LRD.out.lw.map.below).row lK
            have rV := (LRD.out.at (o := ob) (F := V) (by simp)).row lV
            have rA := (HB1.out.on LRD.out.lw.map.below).row lA
            have rP := LRD.out.lw.pf.whole lM
            go_wp2_with fail
            clear rR rK rV rA rP
            refine CU.out.mono ?_
            rintro e w20 ⟨rfl, bb⟩
            have LR20 := Lib.hid (LRD.out.on bb)
            clear bb CU LRD
            have th := (HashAt.new w20 zero32).there zero32_len
            have hcl := hc_len G
            go_upto_region 17 with fail
            clear th
            obtain ⟨w21, hw⟩ : ∃ x, (w20.alloc (.cells (hc zero32).toArray 24)).setCells w20.heap.size 0 (hc G) = x := ⟨_, rfl⟩
            have LR21 := Lib.hid (LR20.out.hash hw.symm rfl lG)
            rw [hw]
            clear hw
            obtain ⟨gb, ho⟩ : ∃ o, w20.heap.size = o := ⟨_, rfl⟩
            rw [ho] at LR21 ⊢
            clear ho
            go_wp2_with fail
            refine (num6_any 0 w21).mono ?_
            rintro e wz ⟨rfl, hwz⟩
            obtain rfl := hwz.symm
            clear hwz
            have rK := (HA.out.on LR21.out.lw.map.below).row lK
            have rA := (HB1.out.on LR21.out.lw.map.below).row lA
            have PU := Lib.hid (Put_all HKK.out lA HAK.out.by_ LR21.out.lw.map.map (by have := LE.out; omega))
            go_wp2_with fail
            clear rK rA
            refine PU.out.mono ?_
            rintro e w22 hq22
            obtain ⟨rfl, E2, c2, top2, bl2, lr22, v22, n22⟩ := LR21.out.put hq22
            have LR22 := Lib.hid lr22
            have HG2 : Hid (1 ∉ bl2) := fun hin => by have h1 := lr22.lw.map.bg _ hin; have h2 := HT.out.pos; omega
            have GE : Hid (G = rootE E2) := by
              show _ = _
              rw [← HGD.out, ← PN.out.rootOf EW.out lr22.lw.map.map.e HKK.out (fun k hk => by rw [v22, if_neg hk]), v22, if_pos rfl]
            clear hq22 lr22 v22 n22 LR21 PU
            go_wp2_with fail
            refine (num6_any 0 w22).mono ?_
            rintro e wz ⟨rfl, hwz⟩
            obtain rfl := hwz.symm
            clear hwz
            have CU := Lib.hid (pUpdate_any (k := k6) (HT.out.on LR22.out.lw.map.below HT.out.pos) lG HKK.out.len lV lA PN.out.ky.len HKK.out.by_ BV.out HAK.out.by_ PN.out.ky.by_ LR22.out.lw.hs.rd.2.1 PN.out.hs (by have := NSS.out; omega))
            have lX := updH_len G K V A M Ss
            obtain ⟨X, hX⟩ : ∃ X, updH G K V A M Ss = X := ⟨_, rfl⟩
            obtain ⟨eX, hE⟩ : ∃ eX, updE G K V M Ss = eX := ⟨_, rfl⟩
            rw [hX, hE] at CU
            rw [hX] at lX
            have HE := Lib.hid hE
            have rG := (LR22.out.at (o := gb) (F := G) (by simp)).row lG
            have rK := (HA.out.on LR22.out.lw.map.below).row lK
            have rV := (LR22.out.at (o := ob) (F := V) (by simp)).row lV
            have rA := (HB1.out.on LR22.out.lw.map.below).row lA
            have rP := LR22.out.lw.pf.whole lM
            clear hX hE
            go_wp2_with fail
            clear rG rK rV rA rP
            refine CU.out.mono ?_
            rintro e w23 ⟨rfl, bb⟩
            have LR23 := Lib.hid (LR22.out.on bb)
            clear bb CU LR22
            have th := (HashAt.new w23 zero32).there zero32_len
            have hcl := hc_len X
            go_upto_region 20 with fail
            clear th
            obtain ⟨w24, hw⟩ : ∃ x, (w23.alloc (.cells (hc zero32).toArray 24)).setCells w23.heap.size 0 (hc X) = x := ⟨_, rfl⟩
            have LR24 := Lib.hid (LR23.out.hash hw.symm rfl lX)
            rw [hw]
            clear hw
            obtain ⟨xb, ho⟩ : ∃ o, w23.heap.size = o := ⟨_, rfl⟩
            rw [ho] at LR24 ⊢
            clear ho
            clear LR23
            have lX' := lX
            have dG : (G == G) = true := by simp
            by_cases hVA : A = V
            · as_aux_lemma =>
                have dV : (V == A) = true := by rw [hVA]; simp
                have hG : G = R := by rw [← HGD.out, ← HRO.out, hVA]
                obtain rfl : eX = 0 := by rw [← HE.out]; unfold updE; rw [if_pos OKS.out, hG, if_pos CK1.out]
                have dE : ((0 : Int) == 0) = true := rfl
                clear hVA hG
                have LR25 := Lib.hid (LR24.out.on (Below.refl _ _).drew)
                refine wp_region_held_drew (S := fun W => HashAt W gb G ∧ HashAt W (w.heap.size) K ∧ HashAt W ob V ∧ HashAt W (w.heap.size + 1) A ∧ HashAt W (w.heap.size + 1 + 1) B ∧ PfB 50 W ab M (.slice q7 Ss.length k7)) (by kernel_rfl) (⟨LR25.out.at (o := gb) (F := G) (by simp), HA.out.on LR25.out.lw.map.below, LR25.out.at (o := ob) (F := V) (by simp), HB1.out.on LR25.out.lw.map.below, HB2.out.on LR25.out.lw.map.below, LR25.out.r⟩) (fun h0 => ?_)
                clear LR24
                generalize w24.drew = w25 at *
                refine wpAnyH_take (i := 0) (v := ?_) (by rw [List.getElem?_toArray]; rfl) (by kernel_rfl) (by kernel_rfl) (by kernel_rfl) (by exact fun _ _ _ h => h) (Or.inl ⟨by rfl, ?_⟩) h0 ?_
                rotate_left
                · intro W hW
                  have cc := hW.1.row lG
                  go_simp
                  all_goals with_reducible rfl
                try simp only [Act.put, List.setIfInBounds_toArray, List.set_cons_zero, List.set_cons_succ]
                refine wpAnyH_take (i := 1) (v := ?_) (by rw [List.getElem?_toArray]; rfl) (by kernel_rfl) (by kernel_rfl) (by kernel_rfl) (by exact fun _ _ _ h => h) (Or.inl ⟨by rfl, ?_⟩) h0 ?_
                rotate_left
                · intro W hW
                  go_simp
                  all_goals with_reducible rfl
                try simp only [Act.put, List.setIfInBounds_toArray, List.set_cons_zero, List.set_cons_succ]
                refine wpAnyH_ready (rs := [2]) (by kernel_rfl) (by simp) ?_
                refine AllReadyH.cons (by rw [List.getElem?_toArray]; rfl) (fun KX hKK => ?_) AllReadyH.nil
                first | rw [if_pos (by rfl)] | skip
                have RR := Lib.hid (Root_all (HT.out.on LR25.out.lw.map.below HT.out.pos) LR25.out.lw.map.map HG2.out)
                rw [← GE.out] at RR
                go_wp2_with fail
                refine RR.out.mono ?_
                rintro e w26 ⟨rfl, c26, m26⟩
                have LR26 := Lib.hid (LR25.out.root c26 m26)
                have hS : HashAt w26 gb G ∧ HashAt w26 (w.heap.size) K ∧ HashAt w26 ob V ∧ HashAt w26 (w.heap.size + 1) A ∧ HashAt w26 (w.heap.size + 1 + 1) B ∧ PfB 50 w26 ab M (.slice q7 Ss.length k7) := ⟨LR26.out.at (o := gb) (F := G) (by simp), HA.out.on LR26.out.lw.map.below, LR26.out.at (o := ob) (F := V) (by simp), HB1.out.on LR26.out.lw.map.below, HB2.out.on LR26.out.lw.map.below, LR26.out.r⟩
                clear RR LR25 c26 m26
                go_wp2_with fail
                refine hKK.out _ _ (hS) (fun h0 => ?_)
                clear hKK KX
                try simp only [Act.put, List.setIfInBounds_toArray, List.set_cons_zero, List.set_cons_succ]
                refine wpAnyH_take (i := 3) (v := ?_) (by rw [List.getElem?_toArray]; rfl) (by kernel_rfl) (by kernel_rfl) (by kernel_rfl) (by exact fun _ _ _ h => h) (Or.inl ⟨by rfl, ?_⟩) h0 ?_
                rotate_left
                · intro W hW
                  have cc := dG
                  go_simp
                  all_goals with_reducible rfl
                try simp only [Act.put, List.setIfInBounds_toArray, List.set_cons_zero, List.set_cons_succ]
                refine wpAnyH_take (i := 4) (v := ?_) (by rw [List.getElem?_toArray]; rfl) (by kernel_rfl) (by kernel_rfl) (by kernel_rfl) (by exact fun _ _ _ h => h) (Or.inl ⟨by rfl, ?_⟩) h0 ?_
                rotate_left
                · intro W hW
                  go_simp
                  all_goals with_reducible rfl
                try simp only [Act.put, List.setIfInBounds_toArray, List.set_cons_zero, List.set_cons_succ]
                refine wpAnyH_take (i := 5) (v := ?_) (by rw [List.getElem?_toArray]; rfl) (by kernel_rfl) (by kernel_rfl) (by kernel_rfl) (by exact fun _ _ _ h => h) (Or.inl ⟨by rfl, ?_⟩) h0 ?_
                rotate_left
                · intro W hW
                  have cc := hW.2.2.1.row lV
                  go_simp
                  all_goals with_reducible rfl
                try simp only [Act.put, List.setIfInBounds_toArray, List.set_cons_zero, List.set_cons_succ]
                refine wpAnyH_take (i := 6) (v := ?_) (by rw [List.getElem?_toArray]; rfl) (by kernel_rfl) (by kernel_rfl) (by kernel_rfl) (by exact fun _ _ _ h => h) (Or.inl ⟨by rfl, ?_⟩) h0 ?_
                rotate_left
                · intro W hW
                  have cc := hW.2.2.2.1.row lA
                  go_simp
                  all_goals with_reducible rfl
                try simp only [Act.put, List.setIfInBounds_toArray, List.set_cons_zero, List.set_cons_succ]
                refine wpAnyH_take (i := 7) (v := ?_) (by rw [List.getElem?_toArray]; rfl) (by kernel_rfl) (by kernel_rfl) (by kernel_rfl) (by exact fun _ _ _ h => h) (Or.inl ⟨by rfl, ?_⟩) h0 ?_
                rotate_left
                · intro W hW
                  have cc := dV
                  go_simp
                  all_goals with_reducible rfl
                try simp only [Act.put, List.setIfInBounds_toArray, List.set_cons_zero, List.set_cons_succ]
                refine wpAnyH_take (i := 8) (v := ?_) (by rw [List.getElem?_toArray]; rfl) (by kernel_rfl) (by kernel_rfl) (by kernel_rfl) (by exact fun _ _ _ h => h) (Or.inl ⟨by rfl, ?_⟩) h0 ?_
                rotate_left
                · intro W hW
                  go_simp
                  all_goals with_reducible rfl
                try simp only [Act.put, List.setIfInBounds_toArray, List.set_cons_zero, List.set_cons_succ]
                refine wpAnyH_ready (rs := [9]) (by kernel_rfl) (by simp) ?_
                refine AllReadyH.cons (by rw [List.getElem?_toArray]; rfl) (fun KX hKK => ?_) AllReadyH.nil
                first | rw [if_pos (by rfl)] | skip
                go_wp2_with fail
                refine (num6_any _ w26).mono ?_
                rintro e wz ⟨rfl, hwz⟩
                obtain rfl := hwz.symm
                clear hwz
                have hS : HashAt w26 gb G ∧ HashAt w26 (w.heap.size) K ∧ HashAt w26 ob V ∧ HashAt w26 (w.heap.size + 1) A ∧ HashAt w26 (w.heap.size + 1 + 1) B ∧ PfB 50 w26 ab M (.slice q7 Ss.length k7) := ⟨LR26.out.at (o := gb) (F := G) (by simp), HA.out.on LR26.out.lw.map.below, LR26.out.at (o := ob) (F := V) (by simp), HB1.out.on LR26.out.lw.map.below, HB2.out.on LR26.out.lw.map.below, LR26.out.r⟩
                go_wp2_with fail
                refine hKK.out _ _ (hS) (fun h0 => ?_)
                clear hKK KX
                try simp only [Act.put, List.setIfInBounds_toArray, List.set_cons_zero, List.set_cons_succ]
                refine wpAnyH_take (i := 10) (v := ?_) (by rw [List.getElem?_toArray]; rfl) (by kernel_rfl) (by kernel_rfl) (by kernel_rfl) (by exact fun _ _ _ h => h) (Or.inl ⟨by rfl, ?_⟩) h0 ?_
                rotate_left
                · intro W hW
                  have cc := dE
                  go_simp
                  all_goals with_reducible rfl
                try simp only [Act.put, List.setIfInBounds_toArray, List.set_cons_zero, List.set_cons_succ]
                refine wpAnyH_take (i := 11) (v := ?_) (by rw [List.getElem?_toArray]; rfl) (by kernel_rfl) (by kernel_rfl) (by kernel_rfl) (by exact fun _ _ _ h => h) (Or.inl ⟨by rfl, ?_⟩) h0 ?_
                rotate_left
                · intro W hW
                  go_simp
                  all_goals with_reducible rfl
                try simp only [Act.put, List.setIfInBounds_toArray, List.set_cons_zero, List.set_cons_succ]
                refine wpAnyH_take (i := 12) (v := ?_) (by rw [List.getElem?_toArray]; rfl) (by kernel_rfl) (by kernel_rfl) (by kernel_rfl) (by exact fun _ _ _ h => h) (Or.inl ⟨by rfl, ?_⟩) h0 ?_
                rotate_left
                · intro W hW
                  go_simp
                  all_goals with_reducible rfl
                try simp only [Act.put, List.setIfInBounds_toArray, List.set_cons_zero, List.set_cons_succ]
                refine wpAnyH_take (i := 13) (v := undef) (by rw [List.getElem?_toArray]; rfl) (by kernel_rfl) (by kernel_rfl) (by kernel_rfl) (by exact fun _ _ _ h => h) (Or.inr ⟨by rfl, rfl⟩) h0 ?_
                try simp only [Act.put, List.setIfInBounds_toArray, List.set_cons_zero, List.set_cons_succ]
                refine wpAnyH_take (i := 14) (v := undef) (by rw [List.getElem?_toArray]; rfl) (by kernel_rfl) (by kernel_rfl) (by kernel_rfl) (by exact fun _ _ _ h => h) (Or.inr ⟨by rfl, rfl⟩) h0 ?_
                try simp only [Act.put, List.setIfInBounds_toArray, List.set_cons_zero, List.set_cons_succ]
                refine wpAnyH_take (i := 15) (v := undef) (by rw [List.getElem?_toArray]; rfl) (by kernel_rfl) (by kernel_rfl) (by kernel_rfl) (by exact fun _ _ _ h => h) (Or.inr ⟨by rfl, rfl⟩) h0 ?_
                try simp only [Act.put, List.setIfInBounds_toArray, List.set_cons_zero, List.set_cons_succ]
                refine wpAnyH_take (i := 16) (v := undef) (by rw [List.getElem?_toArray]; rfl) (by kernel_rfl) (by kernel_rfl) (by kernel_rfl) (by exact fun _ _ _ h => h) (Or.inr ⟨by rfl, rfl⟩) h0 ?_
                try simp only [Act.put, List.setIfInBounds_toArray, List.set_cons_zero, List.set_cons_succ]
                refine wpAnyH_take (i := 17) (v := undef) (by rw [List.getElem?_toArray]; rfl) (by kernel_rfl) (by kernel_rfl) (by kernel_rfl) (by exact fun _ _ _ h => h) (Or.inr ⟨by rfl, rfl⟩) h0 ?_
                try simp only [Act.put, List.setIfInBounds_toArray, List.set_cons_zero, List.set_cons_succ]
                refine wpAnyH_take (i := 18) (v := undef) (by rw [List.getElem?_toArray]; rfl) (by kernel_rfl) (by kernel_rfl) (by kernel_rfl) (by exact fun _ _ _ h => h) (Or.inr ⟨by rfl, rfl⟩) h0 ?_
                try simp only [Act.put, List.setIfInBounds_toArray, List.set_cons_zero, List.set_cons_succ]
                refine wpAnyH_take (i := 19) (v := undef) (by rw [List.getElem?_toArray]; rfl) (by kernel_rfl) (by kernel_rfl) (by kernel_rfl) (by exact fun _ _ _ h => h) (Or.inr ⟨by rfl, rfl⟩) h0 ?_
                try simp only [Act.put, List.setIfInBounds_toArray, List.set_cons_zero, List.set_cons_succ]
                refine wpAnyH_take (i := 20) (v := undef) (by rw [List.getElem?_toArray]; rfl) (by kernel_rfl) (by kernel_rfl) (by kernel_rfl) (by exact fun _ _ _ h => h) (Or.inr ⟨by rfl, rfl⟩) h0 ?_
                try simp only [Act.put, List.setIfInBounds_toArray, List.set_cons_zero, List.set_cons_succ]
                refine wpAnyH_take (i := 21) (v := undef) (by rw [List.getElem?_toArray]; rfl) (by kernel_rfl) (by kernel_rfl) (by kernel_rfl) (by exact fun _ _ _ h => h) (Or.inr ⟨by rfl, rfl⟩) h0 ?_
                try simp only [Act.put, List.setIfInBounds_toArray, List.set_cons_zero, List.set_cons_succ]
                refine wpAnyH_take (i := 22) (v := ?_) (by rw [List.getElem?_toArray]; rfl) (by kernel_rfl) (by kernel_rfl) (by kernel_rfl) (by exact fun _ _ _ h => h) (Or.inl ⟨by rfl, ?_⟩) h0 ?_
                rotate_left
                · intro W hW
                  go_simp
                  all_goals with_reducible rfl
                try simp only [Act.put, List.setIfInBounds_toArray, List.set_cons_zero, List.set_cons_succ]
                refine wpAnyH_take (i := 23) (v := ?_) (by rw [List.getElem?_toArray]; rfl) (by kernel_rfl) (by kernel_rfl) (by kernel_rfl) (by exact fun _ _ _ h => h) (Or.inl ⟨by rfl, ?_⟩) h0 ?_
                rotate_left
                · intro W hW
                  go_simp
                  all_goals with_reducible rfl
                try simp only [Act.put, List.setIfInBounds_toArray, List.set_cons_zero, List.set_cons_succ]
                refine wpAnyH_take (i := 24) (v := ?_) (by rw [List.getElem?_toArray]; rfl) (by kernel_rfl) (by kernel_rfl) (by kernel_rfl) (by exact fun _ _ _ h => h) (Or.inl ⟨by rfl, ?_⟩) h0 ?_
                rotate_left
                · intro W hW
                  go_simp
                  all_goals with_reducible rfl
                try simp only [Act.put, List.setIfInBounds_toArray, List.set_cons_zero, List.set_cons_succ]
                refine wpAnyH_done (by kernel_rfl) ?_ _
                clear h0
                go_wp2_with fail
                go_ret
                exact ⟨rfl, B0.out.trans (LR26.out.lw.map.below.mono B0.out.size)⟩
            · as_aux_lemma =>
                have dV : (V == A) = false := by simpa using fun h : V = A => hVA h.symm
                by_cases hGR : G = R
                · as_aux_lemma =>
                    obtain rfl : eX = 0 := by rw [← HE.out]; unfold updE; rw [if_pos OKS.out, hGR, if_pos CK1.out]
                    have dE : ((0 : Int) == 0) = true := rfl
                    have RB : Hid (rootH K V M Ss = rootH K A M Ss) := by show _ = _; rw [HRO.out, HGD.out, hGR]
                    have HNE := Lib.hid hVA
                    clear hVA hGR
                    have LR25 := Lib.hid (LR24.out.on (Below.refl _ _).drew)
                    refine wp_region_held_drew (S := fun W => HashAt W gb G ∧ HashAt W (w.heap.size) K ∧ HashAt W ob V ∧ HashAt W (w.heap.size + 1) A ∧ HashAt W (w.heap.size + 1 + 1) B ∧ PfB 50 W ab M (.slice q7 Ss.length k7)) (by kernel_rfl) (⟨LR25.out.at (o := gb) (F := G) (by simp), HA.out.on LR25.out.lw.map.below, LR25.out.at (o := ob) (F := V) (by simp), HB1.out.on LR25.out.lw.map.below, HB2.out.on LR25.out.lw.map.below, LR25.out.r⟩) (fun h0 => ?_)
                    clear LR24
                    generalize w24.drew = w25 at *
                    refine wpAnyH_take (i := 0) (v := ?_) (by rw [List.getElem?_toArray]; rfl) (by kernel_rfl) (by kernel_rfl) (by kernel_rfl) (by exact fun _ _ _ h => h) (Or.inl ⟨by rfl, ?_⟩) h0 ?_
                    rotate_left
                    · intro W hW
                      have cc := hW.1.row lG
                      go_simp
                      all_goals with_reducible rfl
                    try simp only [Act.put, List.setIfInBounds_toArray, List.set_cons_zero, List.set_cons_succ]
                    refine wpAnyH_take (i := 1) (v := ?_) (by rw [List.getElem?_toArray]; rfl) (by kernel_rfl) (by kernel_rfl) (by kernel_rfl) (by exact fun _ _ _ h => h) (Or.inl ⟨by rfl, ?_⟩) h0 ?_
                    rotate_left
                    · intro W hW
                      go_simp
                      all_goals with_reducible rfl
                    try simp only [Act.put, List.setIfInBounds_toArray, List.set_cons_zero, List.set_cons_succ]
                    refine wpAnyH_ready (rs := [2]) (by kernel_rfl) (by simp) ?_
                    refine AllReadyH.cons (by rw [List.getElem?_toArray]; rfl) (fun KX hKK => ?_) AllReadyH.nil
                    first | rw [if_pos (by rfl)] | skip
                    have RR := Lib.hid (Root_all (HT.out.on LR25.out.lw.map.below HT.out.pos) LR25.out.lw.map.map HG2.out)
                    rw [← GE.out] at RR
                    go_wp2_with fail
                    refine RR.out.mono ?_
                    rintro e w26 ⟨rfl, c26, m26⟩
                    have LR26 := Lib.hid (LR25.out.root c26 m26)
                    have hS : HashAt w26 gb G ∧ HashAt w26 (w.heap.size) K ∧ HashAt w26 ob V ∧ HashAt w26 (w.heap.size + 1) A ∧ HashAt w26 (w.heap.size + 1 + 1) B ∧ PfB 50 w26 ab M (.slice q7 Ss.length k7) := ⟨LR26.out.at (o := gb) (F := G) (by simp), HA.out.on LR26.out.lw.map.below, LR26.out.at (o := ob) (F := V) (by simp), HB1.out.on LR26.out.lw.map.below, HB2.out.on LR26.out.lw.map.below, LR26.out.r⟩
                    clear RR LR25 c26 m26
                    go_wp2_with fail
                    refine hKK.out _ _ (hS) (fun h0 => ?_)
                    clear hKK KX
                    try simp only [Act.put, List.setIfInBounds_toArray, List.set_cons_zero, List.set_cons_succ]
                    refine wpAnyH_take (i := 3) (v := ?_) (by rw [List.getElem?_toArray]; rfl) (by kernel_rfl) (by kernel_rfl) (by kernel_rfl) (by exact fun _ _ _ h => h) (Or.inl ⟨by rfl, ?_⟩) h0 ?_
                    rotate_left
                    · intro W hW
                      have cc := dG
                      go_simp
                      all_goals with_reducible rfl
                    try simp only [Act.put, List.setIfInBounds_toArray, List.set_cons_zero, List.set_cons_succ]
                    refine wpAnyH_take (i := 4) (v := ?_) (by rw [List.getElem?_toArray]; rfl) (by kernel_rfl) (by kernel_rfl) (by kernel_rfl) (by exact fun _ _ _ h => h) (Or.inl ⟨by rfl, ?_⟩) h0 ?_
                    rotate_left
                    · intro W hW
                      go_simp
                      all_goals with_reducible rfl
                    try simp only [Act.put, List.setIfInBounds_toArray, List.set_cons_zero, List.set_cons_succ]
                    refine wpAnyH_take (i := 5) (v := ?_) (by rw [List.getElem?_toArray]; rfl) (by kernel_rfl) (by kernel_rfl) (by kernel_rfl) (by exact fun _ _ _ h => h) (Or.inl ⟨by rfl, ?_⟩) h0 ?_
                    rotate_left
                    · intro W hW
                      have cc := hW.2.2.1.row lV
                      go_simp
                      all_goals with_reducible rfl
                    try simp only [Act.put, List.setIfInBounds_toArray, List.set_cons_zero, List.set_cons_succ]
                    refine wpAnyH_take (i := 6) (v := ?_) (by rw [List.getElem?_toArray]; rfl) (by kernel_rfl) (by kernel_rfl) (by kernel_rfl) (by exact fun _ _ _ h => h) (Or.inl ⟨by rfl, ?_⟩) h0 ?_
                    rotate_left
                    · intro W hW
                      have cc := hW.2.2.2.1.row lA
                      go_simp
                      all_goals with_reducible rfl
                    try simp only [Act.put, List.setIfInBounds_toArray, List.set_cons_zero, List.set_cons_succ]
                    refine wpAnyH_take (i := 7) (v := ?_) (by rw [List.getElem?_toArray]; rfl) (by kernel_rfl) (by kernel_rfl) (by kernel_rfl) (by exact fun _ _ _ h => h) (Or.inl ⟨by rfl, ?_⟩) h0 ?_
                    rotate_left
                    · intro W hW
                      have cc := dV
                      go_simp
                      all_goals with_reducible rfl
                    try simp only [Act.put, List.setIfInBounds_toArray, List.set_cons_zero, List.set_cons_succ]
                    refine wpAnyH_take (i := 8) (v := ?_) (by rw [List.getElem?_toArray]; rfl) (by kernel_rfl) (by kernel_rfl) (by kernel_rfl) (by exact fun _ _ _ h => h) (Or.inl ⟨by rfl, ?_⟩) h0 ?_
                    rotate_left
                    · intro W hW
                      go_simp
                      all_goals with_reducible rfl
                    try simp only [Act.put, List.setIfInBounds_toArray, List.set_cons_zero, List.set_cons_succ]
                    refine wpAnyH_ready (rs := [9]) (by kernel_rfl) (by simp) ?_
                    refine AllReadyH.cons (by rw [List.getElem?_toArray]; rfl) (fun KX hKK => ?_) AllReadyH.nil
                    first | rw [if_pos (by rfl)] | skip
                    go_wp2_with fail
                    refine (num6_any _ w26).mono ?_
                    rintro e wz ⟨rfl, hwz⟩
                    obtain rfl := hwz.symm
                    clear hwz
                    have hS : HashAt w26 gb G ∧ HashAt w26 (w.heap.size) K ∧ HashAt w26 ob V ∧ HashAt w26 (w.heap.size + 1) A ∧ HashAt w26 (w.heap.size + 1 + 1) B ∧ PfB 50 w26 ab M (.slice q7 Ss.length k7) := ⟨LR26.out.at (o := gb) (F := G) (by simp), HA.out.on LR26.out.lw.map.below, LR26.out.at (o := ob) (F := V) (by simp), HB1.out.on LR26.out.lw.map.below, HB2.out.on LR26.out.lw.map.below, LR26.out.r⟩
                    go_wp2_with fail
                    refine hKK.out _ _ (hS) (fun h0 => ?_)
                    clear hKK KX
                    try simp only [Act.put, List.setIfInBounds_toArray, List.set_cons_zero, List.set_cons_succ]
                    refine wpAnyH_take (i := 10) (v := ?_) (by rw [List.getElem?_toArray]; rfl) (by kernel_rfl) (by kernel_rfl) (by kernel_rfl) (by exact fun _ _ _ h => h) (Or.inl ⟨by rfl, ?_⟩) h0 ?_
                    rotate_left
                    · intro W hW
                      have cc := dE
                      go_simp
                      all_goals with_reducible rfl
                    try simp only [Act.put, List.setIfInBounds_toArray, List.set_cons_zero, List.set_cons_succ]
                    refine wpAnyH_take (i := 11) (v := ?_) (by rw [List.getElem?_toArray]; rfl) (by kernel_rfl) (by kernel_rfl) (by kernel_rfl) (by exact fun _ _ _ h => h) (Or.inl ⟨by rfl, ?_⟩) h0 ?_
                    rotate_left
                    · intro W hW
                      go_simp
                      all_goals with_reducible rfl
                    try simp only [Act.put, List.setIfInBounds_toArray, List.set_cons_zero, List.set_cons_succ]
                    refine wpAnyH_take (i := 12) (v := ?_) (by rw [List.getElem?_toArray]; rfl) (by kernel_rfl) (by kernel_rfl) (by kernel_rfl) (by exact fun _ _ _ h => h) (Or.inl ⟨by rfl, ?_⟩) h0 ?_
                    rotate_left
                    · intro W hW
                      go_simp
                      all_goals with_reducible rfl
                    try simp only [Act.put, List.setIfInBounds_toArray, List.set_cons_zero, List.set_cons_succ]
                    refine wpAnyH_take (i := 13) (v := ?_) (by rw [List.getElem?_toArray]; rfl) (by kernel_rfl) (by kernel_rfl) (by kernel_rfl) (by exact fun _ _ _ h => h) (Or.inl ⟨by rfl, ?_⟩) h0 ?_
                    rotate_left
                    · intro W hW
                      go_simp
                      all_goals with_reducible rfl
                    try simp only [Act.put, List.setIfInBounds_toArray, List.set_cons_zero, List.set_cons_succ]
                    refine wpAnyH_take (i := 14) (v := ?_) (by rw [List.getElem?_toArray]; rfl) (by kernel_rfl) (by kernel_rfl) (by kernel_rfl) (by exact fun _ _ _ h => h) (Or.inl ⟨by rfl, ?_⟩) h0 ?_
                    rotate_left
                    · intro W hW
                      have cc := hW.2.1.row lK
                      go_simp
                      all_goals with_reducible rfl
                    try simp only [Act.put, List.setIfInBounds_toArray, List.set_cons_zero, List.set_cons_succ]
                    refine wpAnyH_take (i := 15) (v := ?_) (by rw [List.getElem?_toArray]; rfl) (by kernel_rfl) (by kernel_rfl) (by kernel_rfl) (by exact fun _ _ _ h => h) (Or.inl ⟨by rfl, ?_⟩) h0 ?_
                    rotate_left
                    · intro W hW
                      have cc := hW.2.2.1.row lV
                      go_simp
                      all_goals with_reducible rfl
                    try simp only [Act.put, List.setIfInBounds_toArray, List.set_cons_zero, List.set_cons_succ]
                    refine wpAnyH_take (i := 16) (v := ?_) (by rw [List.getElem?_toArray]; rfl) (by kernel_rfl) (by kernel_rfl) (by kernel_rfl) (by exact fun _ _ _ h => h) (Or.inl ⟨by rfl, ?_⟩) h0 ?_
                    rotate_left
                    · intro W hW
                      have cc := hW.2.2.2.2.1.row lB
                      go_simp
                      all_goals with_reducible rfl
                    try simp only [Act.put, List.setIfInBounds_toArray, List.set_cons_zero, List.set_cons_succ]
                    refine wpAnyH_take (i := 17) (v := ?_) (by rw [List.getElem?_toArray]; rfl) (by kernel_rfl) (by kernel_rfl) (by kernel_rfl) (by exact fun _ _ _ h => h) (Or.inl ⟨by rfl, ?_⟩) h0 ?_
                    rotate_left
                    · intro W hW
                      have cc := hW.2.2.2.1.row lA
                      go_simp
                      all_goals with_reducible rfl
                    try simp only [Act.put, List.setIfInBounds_toArray, List.set_cons_zero, List.set_cons_succ]
                    refine wpAnyH_take (i := 19) (v := ?_) (by rw [List.getElem?_toArray]; rfl) (by kernel_rfl) (by kernel_rfl) (by kernel_rfl) (by exact fun _ _ _ h => h) (Or.inl ⟨by rfl, ?_⟩) h0 ?_
                    rotate_left
                    · intro W hW
                      have cc := hW.2.2.2.2.2.whole lM
                      go_simp
                      all_goals with_reducible rfl
                    try simp only [Act.put, List.setIfInBounds_toArray, List.set_cons_zero, List.set_cons_succ]
                    refine wpAnyH_ready (rs := [18]) (by kernel_rfl) (by simp) ?_
                    refine AllReadyH.cons (by rw [List.getElem?_toArray]; rfl) (fun KX hKK => ?_) AllReadyH.nil
                    first | rw [if_pos (by rfl)] | skip
                    have b27 : Below w26.heap.size w26 (w26.alloc (.cells (hc V ++ (hc B ++ hc A)).toArray 24)) := (Below.refl _ _).alloc (Nat.le_refl _) _
                    have LR27 := Lib.hid (LR26.out.on b27)
                    have R3 := Lib.hid (three_rd w26 (three_ok lV lB lA BV.out BB.out HAK.out.by_))
                    clear b27 LR26
                    have hS : HashAt (w26.alloc (.cells (hc V ++ (hc B ++ hc A)).toArray 24)) gb G ∧ HashAt (w26.alloc (.cells (hc V ++ (hc B ++ hc A)).toArray 24)) (w.heap.size) K ∧ HashAt (w26.alloc (.cells (hc V ++ (hc B ++ hc A)).toArray 24)) ob V ∧ HashAt (w26.alloc (.cells (hc V ++ (hc B ++ hc A)).toArray 24)) (w.heap.size + 1) A ∧ HashAt (w26.alloc (.cells (hc V ++ (hc B ++ hc A)).toArray 24)) (w.heap.size + 1 + 1) B ∧ PfB 50 (w26.alloc (.cells (hc V ++ (hc B ++ hc A)).toArray 24)) ab M (.slice q7 Ss.length k7) := ⟨LR27.out.at (o := gb) (F := G) (by simp), HA.out.on LR27.out.lw.map.below, LR27.out.at (o := ob) (F := V) (by simp), HB1.out.on LR27.out.lw.map.below, HB2.out.on LR27.out.lw.map.below, LR27.out.r⟩
                    go_wp2_with fail
                    refine hKK.out _ _ (hS) (fun h0 => ?_)
                    clear hKK KX
                    try simp only [Act.put, List.setIfInBounds_toArray, List.set_cons_zero, List.set_cons_succ]
                    generalize hw : w26.alloc (.cells (hc V ++ (hc B ++ hc A)).toArray 24) = w27 at *
                    clear hw
                    refine wpAnyH_ready (rs := [20]) (by kernel_rfl) (by simp) ?_
                    refine AllReadyH.cons (by rw [List.getElem?_toArray]; rfl) (fun KX hKK => ?_) AllReadyH.nil
                    first | rw [if_pos (by rfl)] | skip
                    have RO := Lib.hid (road_any (q2 := q7) (k2 := k7) (cp := cp) (cv := 3) (Vs := [V, B, A]) ((HQ.out.on PPr_ok (by decide) LR27.out.lw.map.below).mono PPr_ok (fun g hg => by have := B0.out.size; have := LR27.out.lw.map.below.size; omega)) HOK.out d3.out HKK.out PN.out.ky LR27.out.hr.rd.2.1 PN.out.hs OKS.out NSS.out R3.out (three_ok lV lB lA BV.out BB.out HAK.out.by_) (by simp))
                    go_wp2_with fail
                    refine RO.out.mono ?_
                    rintro e w28 ⟨qs, cs, Ls, rfl, tx, nl, tok, mem⟩
                    have LR28 := Lib.hid (LR27.out.on tx.below)
                    have CL := Lib.hid (clash_of tx tok nl (maps_clash OKS.out PN.out.hs HKK.out PN.out.ky lV lA HNE.out RB.out (mem 0 (by simp)) (mem 2 (by simp))))
                    have hS : HashAt w28 gb G ∧ HashAt w28 (w.heap.size) K ∧ HashAt w28 ob V ∧ HashAt w28 (w.heap.size + 1) A ∧ HashAt w28 (w.heap.size + 1 + 1) B ∧ PfB 50 w28 ab M (.slice q7 Ss.length k7) := ⟨LR28.out.at (o := gb) (F := G) (by simp), HA.out.on LR28.out.lw.map.below, LR28.out.at (o := ob) (F := V) (by simp), HB1.out.on LR28.out.lw.map.below, HB2.out.on LR28.out.lw.map.below, LR28.out.r⟩
                    clear tx nl tok mem LR27 RO
                    go_wp2_with fail
                    refine hKK.out _ _ (hS) (fun h0 => ?_)
                    clear hKK KX
                    try simp only [Act.put, List.setIfInBounds_toArray, List.set_cons_zero, List.set_cons_succ]
                    refine wpAnyH_ready (rs := [21]) (by kernel_rfl) (by simp) ?_
                    refine AllReadyH.cons (by rw [List.getElem?_toArray]; rfl) (fun KX hKK => ?_) AllReadyH.nil
                    first | rw [if_pos (by rfl)] | skip
                    go_wp2_with fail
                    refine CL.out.mono ?_
                    rintro e w29 ⟨rfl, bb⟩
                    have LR29 := Lib.hid (LR28.out.on bb)
                    have hS : HashAt w29 gb G ∧ HashAt w29 (w.heap.size) K ∧ HashAt w29 ob V ∧ HashAt w29 (w.heap.size + 1) A ∧ HashAt w29 (w.heap.size + 1 + 1) B ∧ PfB 50 w29 ab M (.slice q7 Ss.length k7) := ⟨LR29.out.at (o := gb) (F := G) (by simp), HA.out.on LR29.out.lw.map.below, LR29.out.at (o := ob) (F := V) (by simp), HB1.out.on LR29.out.lw.map.below, HB2.out.on LR29.out.lw.map.below, LR29.out.r⟩
                    clear bb LR28 CL
                    go_wp2_with fail
                    refine hKK.out _ _ (hS) (fun h0 => ?_)
                    clear hKK KX
                    try simp only [Act.put, List.setIfInBounds_toArray, List.set_cons_zero, List.set_cons_succ]
                    refine wpAnyH_take (i := 22) (v := ?_) (by rw [List.getElem?_toArray]; rfl) (by kernel_rfl) (by kernel_rfl) (by kernel_rfl) (by exact fun _ _ _ h => h) (Or.inl ⟨by rfl, ?_⟩) h0 ?_
                    rotate_left
                    · intro W hW
                      go_simp
                      all_goals with_reducible rfl
                    try simp only [Act.put, List.setIfInBounds_toArray, List.set_cons_zero, List.set_cons_succ]
                    refine wpAnyH_take (i := 23) (v := ?_) (by rw [List.getElem?_toArray]; rfl) (by kernel_rfl) (by kernel_rfl) (by kernel_rfl) (by exact fun _ _ _ h => h) (Or.inl ⟨by rfl, ?_⟩) h0 ?_
                    rotate_left
                    · intro W hW
                      go_simp
                      all_goals with_reducible rfl
                    try simp only [Act.put, List.setIfInBounds_toArray, List.set_cons_zero, List.set_cons_succ]
                    refine wpAnyH_take (i := 24) (v := ?_) (by rw [List.getElem?_toArray]; rfl) (by kernel_rfl) (by kernel_rfl) (by kernel_rfl) (by exact fun _ _ _ h => h) (Or.inl ⟨by rfl, ?_⟩) h0 ?_
                    rotate_left
                    · intro W hW
                      go_simp
                      all_goals with_reducible rfl
                    try simp only [Act.put, List.setIfInBounds_toArray, List.set_cons_zero, List.set_cons_succ]
                    refine wpAnyH_done (by kernel_rfl) ?_ _
                    clear h0
                    go_wp2_with fail
                    go_ret
                    exact ⟨rfl, B0.out.trans (LR29.out.lw.map.below.mono B0.out.size)⟩
                · as_aux_lemma =>
                    obtain rfl : eX = 22 := by
                      rw [← HE.out]; unfold updE; rw [if_pos OKS.out, if_neg ?_]
                      unfold ckS
                      rw [OKS.out, HRO.out]
                      simpa using fun h : R = G => hGR h.symm
                    have dE : ((22 : Int) == 0) = false := rfl
                    clear hVA hGR
                    have LR25 := Lib.hid (LR24.out.on (Below.refl _ _).drew)
                    refine wp_region_held_drew (S := fun W => HashAt W gb G ∧ HashAt W (w.heap.size) K ∧ HashAt W ob V ∧ HashAt W (w.heap.size + 1) A ∧ HashAt W (w.heap.size + 1 + 1) B ∧ PfB 50 W ab M (.slice q7 Ss.length k7)) (by kernel_rfl) (⟨LR25.out.at (o := gb) (F := G) (by simp), HA.out.on LR25.out.lw.map.below, LR25.out.at (o := ob) (F := V) (by simp), HB1.out.on LR25.out.lw.map.below, HB2.out.on LR25.out.lw.map.below, LR25.out.r⟩) (fun h0 => ?_)
                    clear LR24
                    generalize w24.drew = w25 at *
                    refine wpAnyH_take (i := 0) (v := ?_) (by rw [List.getElem?_toArray]; rfl) (by kernel_rfl) (by kernel_rfl) (by kernel_rfl) (by exact fun _ _ _ h => h) (Or.inl ⟨by rfl, ?_⟩) h0 ?_
                    rotate_left
                    · intro W hW
                      have cc := hW.1.row lG
                      go_simp
                      all_goals with_reducible rfl
                    try simp only [Act.put, List.setIfInBounds_toArray, List.set_cons_zero, List.set_cons_succ]
                    refine wpAnyH_take (i := 1) (v := ?_) (by rw [List.getElem?_toArray]; rfl) (by kernel_rfl) (by kernel_rfl) (by kernel_rfl) (by exact fun _ _ _ h => h) (Or.inl ⟨by rfl, ?_⟩) h0 ?_
                    rotate_left
                    · intro W hW
                      go_simp
                      all_goals with_reducible rfl
                    try simp only [Act.put, List.setIfInBounds_toArray, List.set_cons_zero, List.set_cons_succ]
                    refine wpAnyH_ready (rs := [2]) (by kernel_rfl) (by simp) ?_
                    refine AllReadyH.cons (by rw [List.getElem?_toArray]; rfl) (fun KX hKK => ?_) AllReadyH.nil
                    first | rw [if_pos (by rfl)] | skip
                    have RR := Lib.hid (Root_all (HT.out.on LR25.out.lw.map.below HT.out.pos) LR25.out.lw.map.map HG2.out)
                    rw [← GE.out] at RR
                    go_wp2_with fail
                    refine RR.out.mono ?_
                    rintro e w26 ⟨rfl, c26, m26⟩
                    have LR26 := Lib.hid (LR25.out.root c26 m26)
                    have hS : HashAt w26 gb G ∧ HashAt w26 (w.heap.size) K ∧ HashAt w26 ob V ∧ HashAt w26 (w.heap.size + 1) A ∧ HashAt w26 (w.heap.size + 1 + 1) B ∧ PfB 50 w26 ab M (.slice q7 Ss.length k7) := ⟨LR26.out.at (o := gb) (F := G) (by simp), HA.out.on LR26.out.lw.map.below, LR26.out.at (o := ob) (F := V) (by simp), HB1.out.on LR26.out.lw.map.below, HB2.out.on LR26.out.lw.map.below, LR26.out.r⟩
                    clear RR LR25 c26 m26
                    go_wp2_with fail
                    refine hKK.out _ _ (hS) (fun h0 => ?_)
                    clear hKK KX
                    try simp only [Act.put, List.setIfInBounds_toArray, List.set_cons_zero, List.set_cons_succ]
                    refine wpAnyH_take (i := 3) (v := ?_) (by rw [List.getElem?_toArray]; rfl) (by kernel_rfl) (by kernel_rfl) (by kernel_rfl) (by exact fun _ _ _ h => h) (Or.inl ⟨by rfl, ?_⟩) h0 ?_
                    rotate_left
                    · intro W hW
                      have cc := dG
                      go_simp
                      all_goals with_reducible rfl
                    try simp only [Act.put, List.setIfInBounds_toArray, List.set_cons_zero, List.set_cons_succ]
                    refine wpAnyH_take (i := 4) (v := ?_) (by rw [List.getElem?_toArray]; rfl) (by kernel_rfl) (by kernel_rfl) (by kernel_rfl) (by exact fun _ _ _ h => h) (Or.inl ⟨by rfl, ?_⟩) h0 ?_
                    rotate_left
                    · intro W hW
                      go_simp
                      all_goals with_reducible rfl
                    try simp only [Act.put, List.setIfInBounds_toArray, List.set_cons_zero, List.set_cons_succ]
                    refine wpAnyH_take (i := 5) (v := ?_) (by rw [List.getElem?_toArray]; rfl) (by kernel_rfl) (by kernel_rfl) (by kernel_rfl) (by exact fun _ _ _ h => h) (Or.inl ⟨by rfl, ?_⟩) h0 ?_
                    rotate_left
                    · intro W hW
                      have cc := hW.2.2.1.row lV
                      go_simp
                      all_goals with_reducible rfl
                    try simp only [Act.put, List.setIfInBounds_toArray, List.set_cons_zero, List.set_cons_succ]
                    refine wpAnyH_take (i := 6) (v := ?_) (by rw [List.getElem?_toArray]; rfl) (by kernel_rfl) (by kernel_rfl) (by kernel_rfl) (by exact fun _ _ _ h => h) (Or.inl ⟨by rfl, ?_⟩) h0 ?_
                    rotate_left
                    · intro W hW
                      have cc := hW.2.2.2.1.row lA
                      go_simp
                      all_goals with_reducible rfl
                    try simp only [Act.put, List.setIfInBounds_toArray, List.set_cons_zero, List.set_cons_succ]
                    refine wpAnyH_take (i := 7) (v := ?_) (by rw [List.getElem?_toArray]; rfl) (by kernel_rfl) (by kernel_rfl) (by kernel_rfl) (by exact fun _ _ _ h => h) (Or.inl ⟨by rfl, ?_⟩) h0 ?_
                    rotate_left
                    · intro W hW
                      have cc := dV
                      go_simp
                      all_goals with_reducible rfl
                    try simp only [Act.put, List.setIfInBounds_toArray, List.set_cons_zero, List.set_cons_succ]
                    refine wpAnyH_take (i := 8) (v := ?_) (by rw [List.getElem?_toArray]; rfl) (by kernel_rfl) (by kernel_rfl) (by kernel_rfl) (by exact fun _ _ _ h => h) (Or.inl ⟨by rfl, ?_⟩) h0 ?_
                    rotate_left
                    · intro W hW
                      go_simp
                      all_goals with_reducible rfl
                    try simp only [Act.put, List.setIfInBounds_toArray, List.set_cons_zero, List.set_cons_succ]
                    refine wpAnyH_ready (rs := [9]) (by kernel_rfl) (by simp) ?_
                    refine AllReadyH.cons (by rw [List.getElem?_toArray]; rfl) (fun KX hKK => ?_) AllReadyH.nil
                    first | rw [if_pos (by rfl)] | skip
                    go_wp2_with fail
                    refine (num6_any _ w26).mono ?_
                    rintro e wz ⟨rfl, hwz⟩
                    obtain rfl := hwz.symm
                    clear hwz
                    have hS : HashAt w26 gb G ∧ HashAt w26 (w.heap.size) K ∧ HashAt w26 ob V ∧ HashAt w26 (w.heap.size + 1) A ∧ HashAt w26 (w.heap.size + 1 + 1) B ∧ PfB 50 w26 ab M (.slice q7 Ss.length k7) := ⟨LR26.out.at (o := gb) (F := G) (by simp), HA.out.on LR26.out.lw.map.below, LR26.out.at (o := ob) (F := V) (by simp), HB1.out.on LR26.out.lw.map.below, HB2.out.on LR26.out.lw.map.below, LR26.out.r⟩
                    go_wp2_with fail
                    refine hKK.out _ _ (hS) (fun h0 => ?_)
                    clear hKK KX
                    try simp only [Act.put, List.setIfInBounds_toArray, List.set_cons_zero, List.set_cons_succ]
                    refine wpAnyH_take (i := 10) (v := ?_) (by rw [List.getElem?_toArray]; rfl) (by kernel_rfl) (by kernel_rfl) (by kernel_rfl) (by exact fun _ _ _ h => h) (Or.inl ⟨by rfl, ?_⟩) h0 ?_
                    rotate_left
                    · intro W hW
                      have cc := dE
                      go_simp
                      all_goals with_reducible rfl
                    try simp only [Act.put, List.setIfInBounds_toArray, List.set_cons_zero, List.set_cons_succ]
                    refine wpAnyH_take (i := 11) (v := ?_) (by rw [List.getElem?_toArray]; rfl) (by kernel_rfl) (by kernel_rfl) (by kernel_rfl) (by exact fun _ _ _ h => h) (Or.inl ⟨by rfl, ?_⟩) h0 ?_
                    rotate_left
                    · intro W hW
                      go_simp
                      all_goals with_reducible rfl
                    try simp only [Act.put, List.setIfInBounds_toArray, List.set_cons_zero, List.set_cons_succ]
                    refine wpAnyH_take (i := 12) (v := ?_) (by rw [List.getElem?_toArray]; rfl) (by kernel_rfl) (by kernel_rfl) (by kernel_rfl) (by exact fun _ _ _ h => h) (Or.inl ⟨by rfl, ?_⟩) h0 ?_
                    rotate_left
                    · intro W hW
                      go_simp
                      all_goals with_reducible rfl
                    try simp only [Act.put, List.setIfInBounds_toArray, List.set_cons_zero, List.set_cons_succ]
                    refine wpAnyH_take (i := 13) (v := undef) (by rw [List.getElem?_toArray]; rfl) (by kernel_rfl) (by kernel_rfl) (by kernel_rfl) (by exact fun _ _ _ h => h) (Or.inr ⟨by rfl, rfl⟩) h0 ?_
                    try simp only [Act.put, List.setIfInBounds_toArray, List.set_cons_zero, List.set_cons_succ]
                    refine wpAnyH_take (i := 14) (v := undef) (by rw [List.getElem?_toArray]; rfl) (by kernel_rfl) (by kernel_rfl) (by kernel_rfl) (by exact fun _ _ _ h => h) (Or.inr ⟨by rfl, rfl⟩) h0 ?_
                    try simp only [Act.put, List.setIfInBounds_toArray, List.set_cons_zero, List.set_cons_succ]
                    refine wpAnyH_take (i := 15) (v := undef) (by rw [List.getElem?_toArray]; rfl) (by kernel_rfl) (by kernel_rfl) (by kernel_rfl) (by exact fun _ _ _ h => h) (Or.inr ⟨by rfl, rfl⟩) h0 ?_
                    try simp only [Act.put, List.setIfInBounds_toArray, List.set_cons_zero, List.set_cons_succ]
                    refine wpAnyH_take (i := 16) (v := undef) (by rw [List.getElem?_toArray]; rfl) (by kernel_rfl) (by kernel_rfl) (by kernel_rfl) (by exact fun _ _ _ h => h) (Or.inr ⟨by rfl, rfl⟩) h0 ?_
                    try simp only [Act.put, List.setIfInBounds_toArray, List.set_cons_zero, List.set_cons_succ]
                    refine wpAnyH_take (i := 17) (v := undef) (by rw [List.getElem?_toArray]; rfl) (by kernel_rfl) (by kernel_rfl) (by kernel_rfl) (by exact fun _ _ _ h => h) (Or.inr ⟨by rfl, rfl⟩) h0 ?_
                    try simp only [Act.put, List.setIfInBounds_toArray, List.set_cons_zero, List.set_cons_succ]
                    refine wpAnyH_take (i := 18) (v := undef) (by rw [List.getElem?_toArray]; rfl) (by kernel_rfl) (by kernel_rfl) (by kernel_rfl) (by exact fun _ _ _ h => h) (Or.inr ⟨by rfl, rfl⟩) h0 ?_
                    try simp only [Act.put, List.setIfInBounds_toArray, List.set_cons_zero, List.set_cons_succ]
                    refine wpAnyH_take (i := 19) (v := undef) (by rw [List.getElem?_toArray]; rfl) (by kernel_rfl) (by kernel_rfl) (by kernel_rfl) (by exact fun _ _ _ h => h) (Or.inr ⟨by rfl, rfl⟩) h0 ?_
                    try simp only [Act.put, List.setIfInBounds_toArray, List.set_cons_zero, List.set_cons_succ]
                    refine wpAnyH_take (i := 20) (v := undef) (by rw [List.getElem?_toArray]; rfl) (by kernel_rfl) (by kernel_rfl) (by kernel_rfl) (by exact fun _ _ _ h => h) (Or.inr ⟨by rfl, rfl⟩) h0 ?_
                    try simp only [Act.put, List.setIfInBounds_toArray, List.set_cons_zero, List.set_cons_succ]
                    refine wpAnyH_take (i := 21) (v := undef) (by rw [List.getElem?_toArray]; rfl) (by kernel_rfl) (by kernel_rfl) (by kernel_rfl) (by exact fun _ _ _ h => h) (Or.inr ⟨by rfl, rfl⟩) h0 ?_
                    try simp only [Act.put, List.setIfInBounds_toArray, List.set_cons_zero, List.set_cons_succ]
                    refine wpAnyH_take (i := 22) (v := ?_) (by rw [List.getElem?_toArray]; rfl) (by kernel_rfl) (by kernel_rfl) (by kernel_rfl) (by exact fun _ _ _ h => h) (Or.inl ⟨by rfl, ?_⟩) h0 ?_
                    rotate_left
                    · intro W hW
                      go_simp
                      all_goals with_reducible rfl
                    try simp only [Act.put, List.setIfInBounds_toArray, List.set_cons_zero, List.set_cons_succ]
                    refine wpAnyH_take (i := 23) (v := ?_) (by rw [List.getElem?_toArray]; rfl) (by kernel_rfl) (by kernel_rfl) (by kernel_rfl) (by exact fun _ _ _ h => h) (Or.inl ⟨by rfl, ?_⟩) h0 ?_
                    rotate_left
                    · intro W hW
                      go_simp
                      all_goals with_reducible rfl
                    try simp only [Act.put, List.setIfInBounds_toArray, List.set_cons_zero, List.set_cons_succ]
                    refine wpAnyH_take (i := 24) (v := ?_) (by rw [List.getElem?_toArray]; rfl) (by kernel_rfl) (by kernel_rfl) (by kernel_rfl) (by exact fun _ _ _ h => h) (Or.inl ⟨by rfl, ?_⟩) h0 ?_
                    rotate_left
                    · intro W hW
                      go_simp
                      all_goals with_reducible rfl
                    try simp only [Act.put, List.setIfInBounds_toArray, List.set_cons_zero, List.set_cons_succ]
                    refine wpAnyH_done (by kernel_rfl) ?_ _
                    clear h0
                    go_wp2_with fail
                    go_ret
                    exact ⟨rfl, B0.out.trans (LR26.out.lw.map.below.mono B0.out.size)⟩

end Go.Proofs.YtjlodnecdngdfaaDoor
