/-
  The walk of basculelaw06.ProofOthers.; What a row's list of variables gives: the table of digest's rounds.; Steps: rows of 97 cells, each with a slice of hashes; the law's copy of them.; The law's copy of steps.
-/
import Derived.Test.YtjlodnecdngdfaaDoorTie
import Derived.Test.YtjlodnecdngdfaaDoorCards
import Derived.ProofKit
import Derived.LaidMore
import Derived.Stop.Joined
import Derived.SevenTiedAt
import Derived.Lib.LaidTab
import Derived.Test.YtjlodnecdngdfaaDoorPq2
import Derived.Test.YtjlodnecdngdfaaDoorPq9
import Derived.Test.YtjlodnecdngdfaaDoorPq17
namespace Go.Proofs.YtjlodnecdngdfaaDoor
open Go.RowKit
set_option maxRecDepth 100000

set_option maxHeartbeats 64000000 in
theorem ProofOthers_walk {w : World} {q : Option Addr} {cp : Nat} {L : List (List Int × List Int)} {K A B : List Int} (hq : RwF 64 pr0 PPr w (fun g => g < w.heap.size) q L) (ok : ∀ x ∈ L, PrOk x) (hl : L.length ≤ 3000000000000) (hKy : KyOk K) (hA : KyOk A) (lB : B.length = 32) (bB : Bytes B) (hT : Tbl w) :
    Calls Tryd.prog 7 #[.slice q L.length cp, .agg (hc K).toArray, .agg (hc A).toArray, .agg (hc B).toArray] w fun e w' => e = .returned (.bool true) ∧ Below w.heap.size w w' := by
  have HA := Lib.hid (((HashAt.new w K).alloc (.cells (hc A).toArray 24)).alloc (.cells (hc B).toArray 24))
  have HB1 := ((HashAt.new (w.alloc (.cells (hc K).toArray 24)) A).alloc (.cells (hc B).toArray 24))
  have HB2 := HashAt.new ((w.alloc (.cells (hc K).toArray 24)).alloc (.cells (hc A).toArray 24)) B
  have B0 := Lib.hid ((((Below.refl w.heap.size w).alloc (Nat.le_refl _) (.cells (hc K).toArray 24)).alloc (by simp) (.cells (hc A).toArray 24)).alloc (by simp; omega) (.cells (hc B).toArray 24))
  have HQ := Lib.hid (hq.on PPr_ok (by decide) B0.out)
  simp only [World.size_alloc] at HB1 HB2
  replace HB1 := Lib.hid HB1
  replace HB2 := Lib.hid HB2
  have lK := hKy.len
  have lA := hA.len
  have hlK := hc_len K
  have hlA := hc_len A
  have hlB := hc_len B
  have HT := Lib.hid (hT.on B0.out hT.pos)
  have HKK := Lib.hid hKy
  have HAK := Lib.hid hA
  have BB := Lib.hid bB
  have HOK := Lib.hid ok
  clear hq hA hKy bB hT ok
  go_enter Tryd.func7, Tryd.ntmps7
  go_upto_region 1 with fail
  obtain ⟨w1, hw1⟩ : ∃ x, (((w.alloc (.cells (hc K).toArray 24)).alloc (.cells (hc A).toArray 24)).alloc (.cells (hc B).toArray 24)) = x := ⟨_, rfl⟩
  rw [hw1] at HA HB1 HB2 B0 HQ HT ⊢
  clear hw1
  by_cases h12 : L.length > 12
  · have d1 : decide ((L.length : Int) > 12) = true := decide_eq_true (by omega)
    have d2 : (12 : Int) < (L.length : Int) := by omega
    go_wp2_with fail
    refine (knows6_any HT.out).mono ?_
    rintro e w2 ⟨rfl, hb2⟩
    go_wp2_with fail
    go_ret
    exact ⟨rfl, B0.out.trans (hb2.mono B0.out.size)⟩
  have d1 : decide ((L.length : Int) > 12) = false := decide_eq_false (by omega)
  have d2 : ¬ (12 : Int) < (L.length : Int) := by omega
  have d3 : L.length ≤ 12 := by omega
  clear h12
  go_wp2_with fail
  clear d1 d2
  refine New_nil.mono ?_
  rintro e w2 ⟨p, m, rfl, hp, hm, hb2, hms⟩
  have M2 := Lib.hid (MpW_new hb2 hp hm hms)
  clear hp hm hb2 hms
  go_wp2_with fail
  refine (num6_any 0 w2).mono ?_
  rintro e wz ⟨rfl, hwz⟩
  obtain rfl := hwz.symm
  clear hwz
  go_wp2_with fail
  refine (knows6_any (HT.out.on M2.out.below HT.out.pos)).mono ?_
  rintro e w3 ⟨rfl, hb3⟩
  have M3 := Lib.hid (M2.out.on hb3)
  clear hb3 M2
  go_wp2_with fail
  go_loopw [11] (fun iv wr => ∃ i : Nat, iv = .int .i64 (i : Int) ∧ i ≤ L.length ∧ ∃ E c top bl, E.length ≤ i ∧ Hid (MpW w1 wr p m E c top bl)) (fun iv _ => L.length - (intOf iv).toNat)
  case atStart => exact ⟨0, rfl, by omega, [], 0, none, [], by simp, M3⟩
  case round =>
    clear M3
    obtain ⟨i, rfl, hil, E, c, top, bl, hle, hM⟩ := hrel
    by_cases hlt : i < L.length
    · as_aux_lemma =>
        have hltI : (i : Int) < (L.length : Int) := by omega
        obtain ⟨b, off, r, rfl, -, hr, hrow, rfl⟩ := (HQ.out.on PPr_ok (by decide) hM.out.below).get (d := pr0) hlt
        have OKX := Lib.hid (HOK.out _ (getD_mem' (d := pr0) hlt))
        have hh := rowOf_half OKX.out.k.len OKX.out.l hrow
        have R9 : Hid (∀ W, Below w1.heap.size w1 W → rowOf W b (off + i * 64) 32 = hc (L.getD i pr0).1 ∧ rowOf W b (off + i * 64 + 32) 32 = hc (L.getD i pr0).2) := by
          intro W hW
          obtain ⟨b2, off2, r2, e2, -, hr2, hrow2, e3⟩ := (HQ.out.on PPr_ok (by decide) hW).get (d := pr0) hlt
          simp only [Option.some.injEq, Addr.mk.injEq] at e2
          obtain ⟨rfl, rfl, -⟩ := e2
          exact rowOf_half OKX.out.k.len OKX.out.l (hrow2.trans e3)
        obtain ⟨Ky, hK0⟩ : ∃ Ky, (L.getD i pr0).1 = Ky := ⟨_, rfl⟩
        obtain ⟨V, hV0⟩ : ∃ V, (L.getD i pr0).2 = V := ⟨_, rfl⟩
        rw [hK0, hV0] at R9 hh
        have lKy : Ky.length = 32 := by rw [← hK0]; exact OKX.out.k.len
        have lV : V.length = 32 := by rw [← hV0]; exact OKX.out.l
        have hlKy := hc_len Ky
        have hlV := hc_len V
        have PK : Hid (KyOk Ky) := by show KyOk Ky; rw [← hK0]; exact OKX.out.k
        have PV : Hid (V.length = 32) := lV
        have PB : Hid (Bytes V) := by show Bytes V; rw [← hV0]; exact OKX.out.b
        have g0 : (0 : Int) ≤ (i : Int) := by omega
        have LE := Lib.hid (show E.length ≤ 12 ∧ E.length ≤ i from ⟨by omega, hle⟩)
        have M4 := Lib.hid (hM.out.on ((Below.refl _ _).drew))
        have hS4 : rowOf wr.drew b (off + i * 64) 32 = hc Ky ∧ rowOf wr.drew b (off + i * 64 + 32) 32 = hc V := R9.out _ (hM.out.below.drew)
        clear hh hrow hr hK0 hV0 OKX
        go_wp2_with fail
        refine wp_region_held_drew (S := fun W => rowOf W b (off + i * 64) 32 = hc Ky ∧ rowOf W b (off + i * 64 + 32) 32 = hc V) (by kernel_rfl) (hS4) (fun h0 => ?_)
        generalize wr.drew = w4 at *
        refine wpAnyH_take (i := 0) (v := ?_) (by rw [List.getElem?_toArray]; rfl) (by kernel_rfl) (by kernel_rfl) (by kernel_rfl) (by exact fun _ _ _ h => h) (Or.inl ⟨by rfl, ?_⟩) h0 ?_
        rotate_left
        · intro W hW
          go_simp
          all_goals with_reducible rfl
        try simp only [Act.put, List.setIfInBounds_toArray, List.set_cons_zero, List.set_cons_succ]
        refine wpAnyH_take (i := 1) (v := ?_) (by rw [List.getElem?_toArray]; rfl) (by kernel_rfl) (by kernel_rfl) (by kernel_rfl) (by exact fun _ _ _ h => h) (Or.inl ⟨by rfl, ?_⟩) h0 ?_
        rotate_left
        · intro W hW
          go_simp
          all_goals with_reducible rfl
        try simp only [Act.put, List.setIfInBounds_toArray, List.set_cons_zero, List.set_cons_succ]
        refine wpAnyH_take (i := 2) (v := ?_) (by rw [List.getElem?_toArray]; rfl) (by kernel_rfl) (by kernel_rfl) (by kernel_rfl) (by exact fun _ _ _ h => h) (Or.inl ⟨by rfl, ?_⟩) h0 ?_
        rotate_left
        · intro W hW
          go_simp
          all_goals with_reducible rfl
        try simp only [Act.put, List.setIfInBounds_toArray, List.set_cons_zero, List.set_cons_succ]
        refine wpAnyH_take (i := 3) (v := ?_) (by rw [List.getElem?_toArray]; rfl) (by kernel_rfl) (by kernel_rfl) (by kernel_rfl) (by exact fun _ _ _ h => h) (Or.inl ⟨by rfl, ?_⟩) h0 ?_
        rotate_left
        · intro W hW
          go_simp
          all_goals with_reducible rfl
        try simp only [Act.put, List.setIfInBounds_toArray, List.set_cons_zero, List.set_cons_succ]
        refine wpAnyH_take (i := 4) (v := ?_) (by rw [List.getElem?_toArray]; rfl) (by kernel_rfl) (by kernel_rfl) (by kernel_rfl) (by exact fun _ _ _ h => h) (Or.inl ⟨by rfl, ?_⟩) h0 ?_
        rotate_left
        · intro W hW
          go_simp
          all_goals with_reducible rfl
        try simp only [Act.put, List.setIfInBounds_toArray, List.set_cons_zero, List.set_cons_succ]
        refine wpAnyH_take (i := 5) (v := ?_) (by rw [List.getElem?_toArray]; rfl) (by kernel_rfl) (by kernel_rfl) (by kernel_rfl) (by exact fun _ _ _ h => h) (Or.inl ⟨by rfl, ?_⟩) h0 ?_
        rotate_left
        · intro W hW
          have c1 := hW.1
          go_simp
          all_goals with_reducible rfl
        try simp only [Act.put, List.setIfInBounds_toArray, List.set_cons_zero, List.set_cons_succ]
        refine wpAnyH_take (i := 6) (v := ?_) (by rw [List.getElem?_toArray]; rfl) (by kernel_rfl) (by kernel_rfl) (by kernel_rfl) (by exact fun _ _ _ h => h) (Or.inl ⟨by rfl, ?_⟩) h0 ?_
        rotate_left
        · intro W hW
          go_simp
          all_goals with_reducible rfl
        try simp only [Act.put, List.setIfInBounds_toArray, List.set_cons_zero, List.set_cons_succ]
        refine wpAnyH_take (i := 7) (v := ?_) (by rw [List.getElem?_toArray]; rfl) (by kernel_rfl) (by kernel_rfl) (by kernel_rfl) (by exact fun _ _ _ h => h) (Or.inl ⟨by rfl, ?_⟩) h0 ?_
        rotate_left
        · intro W hW
          go_simp
          all_goals with_reducible rfl
        try simp only [Act.put, List.setIfInBounds_toArray, List.set_cons_zero, List.set_cons_succ]
        refine wpAnyH_take (i := 8) (v := ?_) (by rw [List.getElem?_toArray]; rfl) (by kernel_rfl) (by kernel_rfl) (by kernel_rfl) (by exact fun _ _ _ h => h) (Or.inl ⟨by rfl, ?_⟩) h0 ?_
        rotate_left
        · intro W hW
          go_simp
          all_goals with_reducible rfl
        try simp only [Act.put, List.setIfInBounds_toArray, List.set_cons_zero, List.set_cons_succ]
        refine wpAnyH_take (i := 9) (v := ?_) (by rw [List.getElem?_toArray]; rfl) (by kernel_rfl) (by kernel_rfl) (by kernel_rfl) (by exact fun _ _ _ h => h) (Or.inl ⟨by rfl, ?_⟩) h0 ?_
        rotate_left
        · intro W hW
          go_simp
          all_goals with_reducible rfl
        try simp only [Act.put, List.setIfInBounds_toArray, List.set_cons_zero, List.set_cons_succ]
        refine wpAnyH_take (i := 10) (v := ?_) (by rw [List.getElem?_toArray]; rfl) (by kernel_rfl) (by kernel_rfl) (by kernel_rfl) (by exact fun _ _ _ h => h) (Or.inl ⟨by rfl, ?_⟩) h0 ?_
        rotate_left
        · intro W hW
          have c2 := hW.2
          go_simp
          all_goals with_reducible rfl
        try simp only [Act.put, List.setIfInBounds_toArray, List.set_cons_zero, List.set_cons_succ]
        refine wpAnyH_ready (rs := [11]) (by kernel_rfl) (by simp) ?_
        refine AllReadyH.cons (by rw [List.getElem?_toArray]; rfl) (fun KX hKK => ?_) AllReadyH.nil
        first | rw [if_pos (by rfl)] | skip
        go_wp2_with fail
        refine (Put_all PK.out PV.out PB.out M4.out.map (by have := LE.out; omega)).mono ?_
        rintro e w5 hq5
        obtain ⟨rfl, E', c', top', bl', m5, v5, n5, n5'⟩ := M4.out.put hq5
        have hS : rowOf w5 b (off + i * 64) 32 = hc Ky ∧ rowOf w5 b (off + i * 64 + 32) 32 = hc V := R9.out w5 m5.below
        have M5 := Lib.hid m5
        have NE := Lib.hid n5
        clear hq5 m5 n5 n5' v5 M4
        go_wp2_with fail
        refine hKK.out _ _ (hS) (fun h0 => ?_)
        clear hKK KX
        try simp only [Act.put, List.setIfInBounds_toArray, List.set_cons_zero, List.set_cons_succ]
        refine wpAnyH_done (by kernel_rfl) ?_ _
        clear h0
        go_wp2_with fail
        go_roundw
        case rel => exact ⟨i + 1, by go_num, by omega, E', c', top', bl', by have := NE.out; have := LE.out; omega, M5⟩
        case measure => simp [intOf]; omega
    · as_aux_lemma =>
        have hnl : ¬ (i : Int) < (L.length : Int) := by omega
        have LE := Lib.hid (show E.length ≤ 12 by omega)
        have HG : Hid (1 ∉ bl) := fun hin => by have h1 := hM.out.bg _ hin; have h2 := HT.out.pos; omega
        have rK := (HA.out.on hM.out.below).row lK
        have KV := Lib.hid (Prove_all (HT.out.on hM.out.below HT.out.pos) hM.out HKK.out HG.out)
        go_wp2_with fail
        clear rK
        refine KV.out.mono ?_
        rintro e w6 ⟨M, q6, k6, Ss, rfl, pn6, hs6, m6, c6, f6⟩
        have th6 := (PfB.new (t := 48) w6 zero32 (.slice none 0 0)).there zero32_len
        have lM := pn6.ky.len
        have lp6 := pfRow_len pn6.ky.len (.slice q6 Ss.length k6)
        have PN := Lib.hid pn6
        go_upto_region 11 with fail
        clear th6
        obtain ⟨w7, hw⟩ : ∃ x, (w6.alloc (.cells (pfRow zero32 (.slice none 0 0)).toArray 48)).setCells w6.heap.size 0 (pfRow M (.slice q6 Ss.length k6)) = x := ⟨_, rfl⟩
        have LW7 := Lib.hid (LwM.start hM.out pn6.ky.len hs6 m6 f6 hw.symm)
        rw [hw]
        obtain ⟨pb, hpb⟩ : ∃ o, w6.heap.size = o := ⟨_, rfl⟩
        rw [hpb] at LW7 ⊢
        clear hw hpb pn6 hs6 m6 c6 f6 KV
        have rK := (HA.out.on LW7.out.map.below).row lK
        have GE := Lib.hid (Get_all HKK.out LW7.out.map.map)
        have lV := (vOf_ok LW7.out.map.map.e.b K).1
        have BV := Lib.hid (vOf_ok LW7.out.map.map.e.b K).2
        have EW := Lib.hid LW7.out.map.map.e
        have CKA := Lib.hid (fun G => PN.out.check (G := G) EW.out HKK.out)
        obtain ⟨V, hV⟩ : ∃ V, vOf E K = V := ⟨_, rfl⟩
        rw [hV] at GE lV BV CKA
        have HV := Lib.hid hV
        clear hV
        go_wp2_with fail
        clear rK
        refine GE.out.mono ?_
        rintro e w8 ⟨rfl, b8⟩
        have LW8 := Lib.hid (LW7.out.on b8)
        clear b8 LW7 GE
        have th := (HashAt.new w8 zero32).there zero32_len
        have hcl := hc_len V
        go_upto_region 12 with fail
        clear th
        obtain ⟨w9, hw⟩ : ∃ x, (w8.alloc (.cells (hc zero32).toArray 24)).setCells w8.heap.size 0 (hc V) = x := ⟨_, rfl⟩
        have LW9 := Lib.hid (LW8.out.hash hw.symm rfl lV)
        rw [hw]
        clear hw
        obtain ⟨ob, ho⟩ : ∃ o, w8.heap.size = o := ⟨_, rfl⟩
        rw [ho] at LW9 ⊢
        clear ho
        have RR := Lib.hid (Root_all (HT.out.on LW9.out.map.below HT.out.pos) LW9.out.map.map HG.out)
        have lR := rootE_len E EW.out
        obtain ⟨R, hR⟩ : ∃ R, rootE E = R := ⟨_, rfl⟩
        rw [hR] at RR lR CKA
        clear hR
        go_wp2_with fail
        refine RR.out.mono ?_
        rintro e w10 ⟨rfl, c10, m10⟩
        have LW10 := Lib.hid (LW9.out.root c10 m10)
        clear c10 m10 LW9 RR LW8
        have th := (HashAt.new w10 zero32).there zero32_len
        have hcl := hc_len R
        go_upto_region 13 with fail
        clear th
        obtain ⟨w11, hw⟩ : ∃ x, (w10.alloc (.cells (hc zero32).toArray 24)).setCells w10.heap.size 0 (hc R) = x := ⟨_, rfl⟩
        have LW11 := Lib.hid (LW10.out.hash hw.symm rfl lR)
        rw [hw]
        clear hw
        obtain ⟨rb, ho⟩ : ∃ o, w10.heap.size = o := ⟨_, rfl⟩
        rw [ho] at LW11 ⊢
        clear ho
        have rA := (HB1.out.on LW11.out.map.below).row lA
        have rB := (HB2.out.on LW11.out.map.below).row lB
        have PU := Lib.hid (Put_all HAK.out lB BB.out LW11.out.map.map (by have := LE.out; omega))
        go_wp2_with fail
        clear rA rB
        refine PU.out.mono ?_
        rintro e w12 hq12
        obtain ⟨rfl, E2, c2, top2, bl2, lw12, v12, n12⟩ := LW11.out.put hq12
        have LW12 := Lib.hid lw12
        have EW2 := Lib.hid lw12.map.map.e
        have HG2 : Hid (1 ∉ bl2) := fun hin => by have h1 := lw12.map.bg _ hin; have h2 := HT.out.pos; omega
        have lR2 := rootE_len E2 EW2.out
        obtain ⟨R2, hR2⟩ : ∃ R2, rootE E2 = R2 := ⟨_, rfl⟩
        rw [hR2] at lR2
        have HR2 := Lib.hid hR2
        have lV2 := (vOf_ok EW2.out.b K).1
        have BV2 := Lib.hid (vOf_ok EW2.out.b K).2
        obtain ⟨V2, hV2⟩ : ∃ V2, vOf E2 K = V2 := ⟨_, rfl⟩
        rw [hV2] at lV2 BV2
        have HV2 := Lib.hid hV2
        have CK1 : Hid (ckS R K V M Ss = true) := by show _ = _; rw [CKA.out R]; simp
        have CK2 := Lib.hid (CKA.out R2)
        clear hq12 lw12 v12 n12 LW11 PU hR2 hV2 LW10
        go_upto_region 14 with fail
        by_cases hr : R2 = R
        · as_aux_lemma =>
            have er : (R2 == R) = true := by rw [hr]; simp
            clear hr CK2
            have LW13 := Lib.hid (LW12.out.on (Below.refl _ _).drew)
            refine wp_region_held_drew (S := fun W => HashAt W rb R) (by kernel_rfl) (LW13.out.at (by simp)) (fun h0 => ?_)
            clear LW12
            generalize w12.drew = w13 at *
            refine wpAnyH_take (i := 0) (v := ?_) (by rw [List.getElem?_toArray]; rfl) (by kernel_rfl) (by kernel_rfl) (by kernel_rfl) (by exact fun _ _ _ h => h) (Or.inl ⟨by rfl, ?_⟩) h0 ?_
            rotate_left
            · intro W hW
              go_simp
              all_goals with_reducible rfl
            try simp only [Act.put, List.setIfInBounds_toArray, List.set_cons_zero, List.set_cons_succ]
            refine wpAnyH_take (i := 2) (v := ?_) (by rw [List.getElem?_toArray]; rfl) (by kernel_rfl) (by kernel_rfl) (by kernel_rfl) (by exact fun _ _ _ h => h) (Or.inl ⟨by rfl, ?_⟩) h0 ?_
            rotate_left
            · intro W hW
              have cc := hW.row lR
              go_simp
              all_goals with_reducible rfl
            try simp only [Act.put, List.setIfInBounds_toArray, List.set_cons_zero, List.set_cons_succ]
            refine wpAnyH_ready (rs := [1]) (by kernel_rfl) (by simp) ?_
            refine AllReadyH.cons (by rw [List.getElem?_toArray]; rfl) (fun KX hKK => ?_) AllReadyH.nil
            first | rw [if_pos (by rfl)] | skip
            go_wp2_with fail
            refine (Root_all (HT.out.on LW13.out.map.below HT.out.pos) LW13.out.map.map HG2.out).mono ?_
            rintro e w14 ⟨rfl, c14, m14⟩
            have LW14 := Lib.hid (LW13.out.root c14 m14)
            rw [HR2.out]
            have hS : HashAt w14 rb R := LW14.out.at (by simp)
            clear c14 m14 LW13
            go_wp2_with fail
            refine hKK.out _ _ (hS) (fun h0 => ?_)
            clear hKK KX
            try simp only [Act.put, List.setIfInBounds_toArray, List.set_cons_zero, List.set_cons_succ]
            refine wpAnyH_take (i := 3) (v := ?_) (by rw [List.getElem?_toArray]; rfl) (by kernel_rfl) (by kernel_rfl) (by kernel_rfl) (by exact fun _ _ _ h => h) (Or.inl ⟨by rfl, ?_⟩) h0 ?_
            rotate_left
            · intro W hW
              have cc := er
              go_simp
              all_goals with_reducible rfl
            try simp only [Act.put, List.setIfInBounds_toArray, List.set_cons_zero, List.set_cons_succ]
            refine wpAnyH_done (by kernel_rfl) ?_ _
            clear h0 er
            have rR := (LW14.out.at (o := rb) (F := R) (by simp)).row lR
            have rK := (HA.out.on LW14.out.map.below).row lK
            have rV := (LW14.out.at (o := ob) (F := V) (by simp)).row lV
            have rP := LW14.out.pf.whole PN.out.ky.len
            have lp := pfRow_len PN.out.ky.len (.slice q6 Ss.length k6)
            have CK := Lib.hid (pCheck_any (k := k6) (HT.out.on LW14.out.map.below HT.out.pos) lR HKK.out.len lV PN.out.ky.len HKK.out.by_ BV.out PN.out.ky.by_ LW14.out.hs.rd.2.1 PN.out.hs (by have := PN.out.len; omega))
            rw [CK1.out] at CK
            go_wp2_with fail
            clear rR rK rV rP lp
            refine CK.out.mono ?_
            rintro e w15 ⟨rfl, b15⟩
            go_wp2_with fail
            go_ret
            exact ⟨rfl, B0.out.trans ((LW14.out.on b15).map.below.mono B0.out.size)⟩
        · as_aux_lemma =>
            have er : (R2 == R) = false := by simpa using hr
            have e2 : (R == R2) = false := by simpa using fun h => hr h.symm
            rw [e2] at CK2
            clear hr e2
            have LW13 := Lib.hid (LW12.out.on (Below.refl _ _).drew)
            refine wp_region_held_drew (S := fun W => HashAt W rb R) (by kernel_rfl) (LW13.out.at (by simp)) (fun h0 => ?_)
            clear LW12
            generalize w12.drew = w13 at *
            refine wpAnyH_take (i := 0) (v := ?_) (by rw [List.getElem?_toArray]; rfl) (by kernel_rfl) (by kernel_rfl) (by kernel_rfl) (by exact fun _ _ _ h => h) (Or.inl ⟨by rfl, ?_⟩) h0 ?_
            rotate_left
            · intro W hW
              go_simp
              all_goals with_reducible rfl
            try simp only [Act.put, List.setIfInBounds_toArray, List.set_cons_zero, List.set_cons_succ]
            refine wpAnyH_take (i := 2) (v := ?_) (by rw [List.getElem?_toArray]; rfl) (by kernel_rfl) (by kernel_rfl) (by kernel_rfl) (by exact fun _ _ _ h => h) (Or.inl ⟨by rfl, ?_⟩) h0 ?_
            rotate_left
            · intro W hW
              have cc := hW.row lR
              go_simp
              all_goals with_reducible rfl
            try simp only [Act.put, List.setIfInBounds_toArray, List.set_cons_zero, List.set_cons_succ]
            refine wpAnyH_ready (rs := [1]) (by kernel_rfl) (by simp) ?_
            refine AllReadyH.cons (by rw [List.getElem?_toArray]; rfl) (fun KX hKK => ?_) AllReadyH.nil
            first | rw [if_pos (by rfl)] | skip
            go_wp2_with fail
            refine (Root_all (HT.out.on LW13.out.map.below HT.out.pos) LW13.out.map.map HG2.out).mono ?_
            rintro e w14 ⟨rfl, c14, m14⟩
            have LW14 := Lib.hid (LW13.out.root c14 m14)
            rw [HR2.out]
            have hS : HashAt w14 rb R := LW14.out.at (by simp)
            clear c14 m14 LW13
            go_wp2_with fail
            refine hKK.out _ _ (hS) (fun h0 => ?_)
            clear hKK KX
            try simp only [Act.put, List.setIfInBounds_toArray, List.set_cons_zero, List.set_cons_succ]
            refine wpAnyH_take (i := 3) (v := ?_) (by rw [List.getElem?_toArray]; rfl) (by kernel_rfl) (by kernel_rfl) (by kernel_rfl) (by exact fun _ _ _ h => h) (Or.inl ⟨by rfl, ?_⟩) h0 ?_
            rotate_left
            · intro W hW
              have cc := er
              go_simp
              all_goals with_reducible rfl
            try simp only [Act.put, List.setIfInBounds_toArray, List.set_cons_zero, List.set_cons_succ]
            refine wpAnyH_done (by kernel_rfl) ?_ _
            clear h0 er
            have LW15 := Lib.hid (LW14.out.on (Below.refl _ _).drew)
            have lM := PN.out.ky.len
            have lp := pfRow_len PN.out.ky.len (.slice q6 Ss.length k6)
            go_wp2_with fail
            refine wp_region_held_drew (S := fun W => HashAt W rb R ∧ HashAt W (w.heap.size) K ∧ HashAt W ob V ∧ PfB 48 W pb M (.slice q6 Ss.length k6)) (by kernel_rfl) (⟨LW15.out.at (by simp), HA.out.on LW15.out.map.below, LW15.out.at (by simp), LW15.out.pf⟩) (fun h0 => ?_)
            clear LW14
            generalize w14.drew = w15 at *
            refine wpAnyH_take (i := 0) (v := ?_) (by rw [List.getElem?_toArray]; rfl) (by kernel_rfl) (by kernel_rfl) (by kernel_rfl) (by exact fun _ _ _ h => h) (Or.inl ⟨by rfl, ?_⟩) h0 ?_
            rotate_left
            · intro W hW
              have cc := hW.1.row lR
              go_simp
              all_goals with_reducible rfl
            try simp only [Act.put, List.setIfInBounds_toArray, List.set_cons_zero, List.set_cons_succ]
            refine wpAnyH_take (i := 1) (v := ?_) (by rw [List.getElem?_toArray]; rfl) (by kernel_rfl) (by kernel_rfl) (by kernel_rfl) (by exact fun _ _ _ h => h) (Or.inl ⟨by rfl, ?_⟩) h0 ?_
            rotate_left
            · intro W hW
              have cc := hW.2.1.row lK
              go_simp
              all_goals with_reducible rfl
            try simp only [Act.put, List.setIfInBounds_toArray, List.set_cons_zero, List.set_cons_succ]
            refine wpAnyH_take (i := 2) (v := ?_) (by rw [List.getElem?_toArray]; rfl) (by kernel_rfl) (by kernel_rfl) (by kernel_rfl) (by exact fun _ _ _ h => h) (Or.inl ⟨by rfl, ?_⟩) h0 ?_
            rotate_left
            · intro W hW
              have cc := hW.2.2.1.row lV
              go_simp
              all_goals with_reducible rfl
            try simp only [Act.put, List.setIfInBounds_toArray, List.set_cons_zero, List.set_cons_succ]
            refine wpAnyH_take (i := 3) (v := ?_) (by rw [List.getElem?_toArray]; rfl) (by kernel_rfl) (by kernel_rfl) (by kernel_rfl) (by exact fun _ _ _ h => h) (Or.inl ⟨by rfl, ?_⟩) h0 ?_
            rotate_left
            · intro W hW
              have cc := hW.2.2.2.whole lM
              go_simp
              all_goals with_reducible rfl
            try simp only [Act.put, List.setIfInBounds_toArray, List.set_cons_zero, List.set_cons_succ]
            refine wpAnyH_ready (rs := [4]) (by kernel_rfl) (by simp) ?_
            refine AllReadyH.cons (by rw [List.getElem?_toArray]; rfl) (fun KX hKK => ?_) AllReadyH.nil
            first | rw [if_pos (by rfl)] | skip
            have CC := Lib.hid (pCheck_any (k := k6) (HT.out.on LW15.out.map.below HT.out.pos) lR HKK.out.len lV PN.out.ky.len HKK.out.by_ BV.out PN.out.ky.by_ LW15.out.hs.rd.2.1 PN.out.hs (by have := PN.out.len; omega))
            rw [CK1.out] at CC
            go_wp2_with fail
            refine CC.out.mono ?_
            rintro e w16 ⟨rfl, bb⟩
            have LW16 := Lib.hid (LW15.out.on bb)
            clear bb
            have hS : HashAt w16 rb R ∧ HashAt w16 (w.heap.size) K ∧ HashAt w16 ob V ∧ PfB 48 w16 pb M (.slice q6 Ss.length k6) := ⟨LW16.out.at (by simp), HA.out.on LW16.out.map.below, LW16.out.at (by simp), LW16.out.pf⟩
            clear CC LW15
            go_wp2_with fail
            refine hKK.out _ _ (hS) (fun h0 => ?_)
            clear hKK KX
            try simp only [Act.put, List.setIfInBounds_toArray, List.set_cons_zero, List.set_cons_succ]
            refine wpAnyH_take (i := 5) (v := ?_) (by rw [List.getElem?_toArray]; rfl) (by kernel_rfl) (by kernel_rfl) (by kernel_rfl) (by exact fun _ _ _ h => h) (Or.inl ⟨by rfl, ?_⟩) h0 ?_
            rotate_left
            · intro W hW
              go_simp
              all_goals with_reducible rfl
            try simp only [Act.put, List.setIfInBounds_toArray, List.set_cons_zero, List.set_cons_succ]
            refine wpAnyH_take (i := 6) (v := ?_) (by rw [List.getElem?_toArray]; rfl) (by kernel_rfl) (by kernel_rfl) (by kernel_rfl) (by exact fun _ _ _ h => h) (Or.inl ⟨by rfl, ?_⟩) h0 ?_
            rotate_left
            · intro W hW
              go_simp
              all_goals with_reducible rfl
            try simp only [Act.put, List.setIfInBounds_toArray, List.set_cons_zero, List.set_cons_succ]
            refine wpAnyH_take (i := 8) (v := ?_) (by rw [List.getElem?_toArray]; rfl) (by kernel_rfl) (by kernel_rfl) (by kernel_rfl) (by exact fun _ _ _ h => h) (Or.inl ⟨by rfl, ?_⟩) h0 ?_
            rotate_left
            · intro W hW
              have cc := hW.2.1.row lK
              go_simp
              all_goals with_reducible rfl
            try simp only [Act.put, List.setIfInBounds_toArray, List.set_cons_zero, List.set_cons_succ]
            refine wpAnyH_take (i := 9) (v := ?_) (by rw [List.getElem?_toArray]; rfl) (by kernel_rfl) (by kernel_rfl) (by kernel_rfl) (by exact fun _ _ _ h => h) (Or.inl ⟨by rfl, ?_⟩) h0 ?_
            rotate_left
            · intro W hW
              have cc := hW.2.2.1.row lV
              go_simp
              all_goals with_reducible rfl
            try simp only [Act.put, List.setIfInBounds_toArray, List.set_cons_zero, List.set_cons_succ]
            refine wpAnyH_take (i := 10) (v := ?_) (by rw [List.getElem?_toArray]; rfl) (by kernel_rfl) (by kernel_rfl) (by kernel_rfl) (by exact fun _ _ _ h => h) (Or.inl ⟨by rfl, ?_⟩) h0 ?_
            rotate_left
            · intro W hW
              have cc := hW.2.2.2.whole lM
              go_simp
              all_goals with_reducible rfl
            try simp only [Act.put, List.setIfInBounds_toArray, List.set_cons_zero, List.set_cons_succ]
            refine wpAnyH_ready (rs := [7]) (by kernel_rfl) (by simp) ?_
            refine AllReadyH.cons (by rw [List.getElem?_toArray]; rfl) (fun KX hKK => ?_) AllReadyH.nil
            first | rw [if_pos (by rfl)] | skip
            have CC := Lib.hid (Root_all (HT.out.on LW16.out.map.below HT.out.pos) LW16.out.map.map HG2.out)
            rw [HR2.out] at CC
            go_wp2_with fail
            refine CC.out.mono ?_
            rintro e w17 ⟨rfl, cc2, mm2⟩
            have LW17 := Lib.hid (LW16.out.root cc2 mm2)
            clear cc2 mm2
            have hS : HashAt w17 rb R ∧ HashAt w17 (w.heap.size) K ∧ HashAt w17 ob V ∧ PfB 48 w17 pb M (.slice q6 Ss.length k6) := ⟨LW17.out.at (by simp), HA.out.on LW17.out.map.below, LW17.out.at (by simp), LW17.out.pf⟩
            clear CC LW16
            go_wp2_with fail
            refine hKK.out _ _ (hS) (fun h0 => ?_)
            clear hKK KX
            try simp only [Act.put, List.setIfInBounds_toArray, List.set_cons_zero, List.set_cons_succ]
            refine wpAnyH_ready (rs := [11]) (by kernel_rfl) (by simp) ?_
            refine AllReadyH.cons (by rw [List.getElem?_toArray]; rfl) (fun KX hKK => ?_) AllReadyH.nil
            first | rw [if_pos (by rfl)] | skip
            have CC := Lib.hid (pCheck_any (k := k6) (HT.out.on LW17.out.map.below HT.out.pos) lR2 HKK.out.len lV PN.out.ky.len HKK.out.by_ BV.out PN.out.ky.by_ LW17.out.hs.rd.2.1 PN.out.hs (by have := PN.out.len; omega))
            rw [CK2.out] at CC
            go_wp2_with fail
            refine CC.out.mono ?_
            rintro e w18 ⟨rfl, bb⟩
            have LW18 := Lib.hid (LW17.out.on bb)
            clear bb
            have hS : HashAt w18 rb R ∧ HashAt w18 (w.heap.size) K ∧ HashAt w18 ob V ∧ PfB 48 w18 pb M (.slice q6 Ss.length k6) := ⟨LW18.out.at (by simp), HA.out.on LW18.out.map.below, LW18.out.at (by simp), LW18.out.pf⟩
            clear CC LW17
            go_wp2_with fail
            refine hKK.out _ _ (hS) (fun h0 => ?_)
            clear hKK KX
            try simp only [Act.put, List.setIfInBounds_toArray, List.set_cons_zero, List.set_cons_succ]
            refine wpAnyH_take (i := 12) (v := ?_) (by rw [List.getElem?_toArray]; rfl) (by kernel_rfl) (by kernel_rfl) (by kernel_rfl) (by exact fun _ _ _ h => h) (Or.inl ⟨by rfl, ?_⟩) h0 ?_
            rotate_left
            · intro W hW
              go_simp
              all_goals with_reducible rfl
            try simp only [Act.put, List.setIfInBounds_toArray, List.set_cons_zero, List.set_cons_succ]
            refine wpAnyH_take (i := 13) (v := ?_) (by rw [List.getElem?_toArray]; rfl) (by kernel_rfl) (by kernel_rfl) (by kernel_rfl) (by exact fun _ _ _ h => h) (Or.inl ⟨by rfl, ?_⟩) h0 ?_
            rotate_left
            · intro W hW
              go_simp
              all_goals with_reducible rfl
            try simp only [Act.put, List.setIfInBounds_toArray, List.set_cons_zero, List.set_cons_succ]
            refine wpAnyH_take (i := 14) (v := ?_) (by rw [List.getElem?_toArray]; rfl) (by kernel_rfl) (by kernel_rfl) (by kernel_rfl) (by exact fun _ _ _ h => h) (Or.inl ⟨by rfl, ?_⟩) h0 ?_
            rotate_left
            · intro W hW
              go_simp
              all_goals with_reducible rfl
            try simp only [Act.put, List.setIfInBounds_toArray, List.set_cons_zero, List.set_cons_succ]
            refine wpAnyH_take (i := 15) (v := ?_) (by rw [List.getElem?_toArray]; rfl) (by kernel_rfl) (by kernel_rfl) (by kernel_rfl) (by exact fun _ _ _ h => h) (Or.inl ⟨by rfl, ?_⟩) h0 ?_
            rotate_left
            · intro W hW
              go_simp
              all_goals with_reducible rfl
            try simp only [Act.put, List.setIfInBounds_toArray, List.set_cons_zero, List.set_cons_succ]
            refine wpAnyH_take (i := 17) (v := ?_) (by rw [List.getElem?_toArray]; rfl) (by kernel_rfl) (by kernel_rfl) (by kernel_rfl) (by exact fun _ _ _ h => h) (Or.inl ⟨by rfl, ?_⟩) h0 ?_
            rotate_left
            · intro W hW
              have cc := hW.2.1.row lK
              go_simp
              all_goals with_reducible rfl
            try simp only [Act.put, List.setIfInBounds_toArray, List.set_cons_zero, List.set_cons_succ]
            refine wpAnyH_take (i := 18) (v := ?_) (by rw [List.getElem?_toArray]; rfl) (by kernel_rfl) (by kernel_rfl) (by kernel_rfl) (by exact fun _ _ _ h => h) (Or.inl ⟨by rfl, ?_⟩) h0 ?_
            rotate_left
            · intro W hW
              go_simp
              all_goals with_reducible rfl
            try simp only [Act.put, List.setIfInBounds_toArray, List.set_cons_zero, List.set_cons_succ]
            refine wpAnyH_take (i := 19) (v := ?_) (by rw [List.getElem?_toArray]; rfl) (by kernel_rfl) (by kernel_rfl) (by kernel_rfl) (by exact fun _ _ _ h => h) (Or.inl ⟨by rfl, ?_⟩) h0 ?_
            rotate_left
            · intro W hW
              have cc := hW.2.1.row lK
              go_simp
              all_goals with_reducible rfl
            try simp only [Act.put, List.setIfInBounds_toArray, List.set_cons_zero, List.set_cons_succ]
            refine wpAnyH_take (i := 21) (v := ?_) (by rw [List.getElem?_toArray]; rfl) (by kernel_rfl) (by kernel_rfl) (by kernel_rfl) (by exact fun _ _ _ h => h) (Or.inl ⟨by rfl, ?_⟩) h0 ?_
            rotate_left
            · intro W hW
              go_simp
              all_goals with_reducible rfl
            try simp only [Act.put, List.setIfInBounds_toArray, List.set_cons_zero, List.set_cons_succ]
            refine wpAnyH_take (i := 22) (v := ?_) (by rw [List.getElem?_toArray]; rfl) (by kernel_rfl) (by kernel_rfl) (by kernel_rfl) (by exact fun _ _ _ h => h) (Or.inl ⟨by rfl, ?_⟩) h0 ?_
            rotate_left
            · intro W hW
              have cc := hW.2.1.row lK
              go_simp
              all_goals with_reducible rfl
            try simp only [Act.put, List.setIfInBounds_toArray, List.set_cons_zero, List.set_cons_succ]
            refine wpAnyH_ready (rs := [16]) (by kernel_rfl) (by simp) ?_
            refine AllReadyH.cons (by rw [List.getElem?_toArray]; rfl) (fun KX hKK => ?_) AllReadyH.nil
            first | rw [if_pos (by rfl)] | skip
            have CC := Lib.hid (Root_all (HT.out.on LW18.out.map.below HT.out.pos) LW18.out.map.map HG2.out)
            rw [HR2.out] at CC
            go_wp2_with fail
            refine CC.out.mono ?_
            rintro e w18b ⟨rfl, cc2, mm2⟩
            have LW18b := Lib.hid (LW18.out.root cc2 mm2)
            clear cc2 mm2
            have hS : HashAt w18b rb R ∧ HashAt w18b (w.heap.size) K ∧ HashAt w18b ob V ∧ PfB 48 w18b pb M (.slice q6 Ss.length k6) := ⟨LW18b.out.at (by simp), HA.out.on LW18b.out.map.below, LW18b.out.at (by simp), LW18b.out.pf⟩
            clear CC LW18
            go_wp2_with fail
            refine hKK.out _ _ (hS) (fun h0 => ?_)
            clear hKK KX
            try simp only [Act.put, List.setIfInBounds_toArray, List.set_cons_zero, List.set_cons_succ]
            refine wpAnyH_ready (rs := [20]) (by kernel_rfl) (by simp) ?_
            refine AllReadyH.cons (by rw [List.getElem?_toArray]; rfl) (fun KX hKK => ?_) AllReadyH.nil
            first | rw [if_pos (by rfl)] | skip
            have CC := Lib.hid (Get_all HKK.out LW18b.out.map.map)
            rw [HV2.out] at CC
            go_wp2_with fail
            refine CC.out.mono ?_
            rintro e w19 ⟨rfl, bb⟩
            have LW19 := Lib.hid (LW18b.out.on bb)
            clear bb
            have hS : HashAt w19 rb R ∧ HashAt w19 (w.heap.size) K ∧ HashAt w19 ob V ∧ PfB 48 w19 pb M (.slice q6 Ss.length k6) := ⟨LW19.out.at (by simp), HA.out.on LW19.out.map.below, LW19.out.at (by simp), LW19.out.pf⟩
            clear CC LW18b
            go_wp2_with fail
            refine hKK.out _ _ (hS) (fun h0 => ?_)
            clear hKK KX
            try simp only [Act.put, List.setIfInBounds_toArray, List.set_cons_zero, List.set_cons_succ]
            refine wpAnyH_ready (rs := [23]) (by kernel_rfl) (by simp) ?_
            refine AllReadyH.cons (by rw [List.getElem?_toArray]; rfl) (fun KX hKK => ?_) AllReadyH.nil
            first | rw [if_pos (by rfl)] | skip
            have CC := Lib.hid (Prove_all (HT.out.on LW19.out.map.below HT.out.pos) LW19.out.map HKK.out HG2.out)
            go_wp2_with fail
            refine CC.out.mono ?_
            rintro e w20 ⟨M2, q20, k20, S2, rfl, pn20, hs20, m20, c20, f20⟩
            have LW20 := Lib.hid (LW19.out.root c20 m20.map)
            have PN2 := Lib.hid pn20
            have RD2 := Lib.hid hs20.rd.2.1
            have lp2 := pfRow_len pn20.ky.len (.slice q20 S2.length k20)
            have hS : HashAt w20 rb R ∧ HashAt w20 (w.heap.size) K ∧ HashAt w20 ob V ∧ PfB 48 w20 pb M (.slice q6 Ss.length k6) := ⟨LW20.out.at (by simp), HA.out.on LW20.out.map.below, LW20.out.at (by simp), LW20.out.pf⟩
            clear CC LW19 pn20 hs20 m20 c20 f20
            go_wp2_with fail
            refine hKK.out _ _ (hS) (fun h0 => ?_)
            clear hKK KX
            try simp only [Act.put, List.setIfInBounds_toArray, List.set_cons_zero, List.set_cons_succ]
            refine wpAnyH_ready (rs := [24]) (by kernel_rfl) (by simp) ?_
            refine AllReadyH.cons (by rw [List.getElem?_toArray]; rfl) (fun KX hKK => ?_) AllReadyH.nil
            first | rw [if_pos (by rfl)] | skip
            have CC := Lib.hid (pCheck_any (k := k20) (HT.out.on LW20.out.map.below HT.out.pos) lR2 HKK.out.len lV2 PN2.out.ky.len HKK.out.by_ BV2.out PN2.out.ky.by_ RD2.out PN2.out.hs (by have := PN2.out.len; omega))
            have ck3 : ckS R2 K V2 M2 S2 = true := by
              have := PN2.out.check (G := R2) EW2.out HKK.out
              rw [HV2.out, HR2.out] at this
              rw [this]; simp
            rw [ck3] at CC
            go_wp2_with fail
            refine CC.out.mono ?_
            rintro e w21 ⟨rfl, bb⟩
            have LW21 := Lib.hid (LW20.out.on bb)
            have hS : HashAt w21 rb R ∧ HashAt w21 (w.heap.size) K ∧ HashAt w21 ob V ∧ PfB 48 w21 pb M (.slice q6 Ss.length k6) := ⟨LW21.out.at (by simp), HA.out.on LW21.out.map.below, LW21.out.at (by simp), LW21.out.pf⟩
            clear CC LW20 bb ck3
            go_wp2_with fail
            refine hKK.out _ _ (hS) (fun h0 => ?_)
            clear hKK KX
            try simp only [Act.put, List.setIfInBounds_toArray, List.set_cons_zero, List.set_cons_succ]
            refine wpAnyH_take (i := 25) (v := ?_) (by rw [List.getElem?_toArray]; rfl) (by kernel_rfl) (by kernel_rfl) (by kernel_rfl) (by exact fun _ _ _ h => h) (Or.inl ⟨by rfl, ?_⟩) h0 ?_
            rotate_left
            · intro W hW
              go_simp
              all_goals with_reducible rfl
            try simp only [Act.put, List.setIfInBounds_toArray, List.set_cons_zero, List.set_cons_succ]
            refine wpAnyH_take (i := 26) (v := ?_) (by rw [List.getElem?_toArray]; rfl) (by kernel_rfl) (by kernel_rfl) (by kernel_rfl) (by exact fun _ _ _ h => h) (Or.inl ⟨by rfl, ?_⟩) h0 ?_
            rotate_left
            · intro W hW
              go_simp
              all_goals with_reducible rfl
            try simp only [Act.put, List.setIfInBounds_toArray, List.set_cons_zero, List.set_cons_succ]
            refine wpAnyH_done (by kernel_rfl) ?_ _
            clear h0
            go_wp2_with fail
            go_ret
            exact ⟨rfl, B0.out.trans (LW21.out.map.below.mono B0.out.size)⟩

end Go.Proofs.YtjlodnecdngdfaaDoor
namespace Go.Proofs.YtjlodnecdngdfaaDoor
open Go.ChangeShapes Go.WideShapes Go.ChangeAt Go.RowKit
set_option maxRecDepth 100000

def rootsL : List (String × DataW Unit) := [("bascule/digest.roots", Rows.laid_bascule_digest_roots)]
theorem gRoots : Tryd.prog.globalNamed "bascule/digest.roots" = some 1 := by kernel_rfl
theorem gRootsType : (Tryd.prog.globals[1]?).map (·.type) = some 107 := by kernel_rfl
theorem rootsData : (Rows.laid_bascule_digest_roots : DataW Unit) = Lib.tabData .u32 rootsZ := by rfl
theorem tbl_of {W : World} (h : laidMetH Tryd.prog rootsL W) : Tbl W := by
  have h' : laidMetH Tryd.prog (("bascule/digest.roots", Lib.tabData .u32 rootsZ) :: []) W := by rw [← rootsData]; exact h
  have := Lib.tabIs_of_head (rest := []) gRoots gRootsType Tryd.underlying107 Tryd.underlying105 (by kernel_rfl) (by kernel_rfl) h'
  intro i hi
  exact this.cell gRoots i (by have : rootsZ.length = 64 := rfl; omega)
/-- The door's own heap meets the condition. -/
theorem door_met (os : Os) (args : Array Value) : laidMetH Tryd.prog rootsL ((World.doorLaid Tryd.prog 400 os).forCall (fun _ _ => 0) ⟨#[], args, []⟩).memory :=
  laidMetH_of_parts3 (fuel := 8) (laidMet_of_run' 8 (by kernel_rfl) (by kernel_rfl)) (by kernel_rfl) (by kernel_rfl)
end Go.Proofs.YtjlodnecdngdfaaDoor
namespace Go.Proofs.YtjlodnecdngdfaaDoor
set_option maxRecDepth 100000
open Go.RowKit

structure Sp where
  key : List Int
  old : List Int
  mask : List Int
  sides : List (List Int)
structure Sp.ok (s : Sp) : Prop where
  key : s.key.length = 32
  old : s.old.length = 32
  mask : s.mask.length = 32
  bk : Bytes s.key
  bo : Bytes s.old
  bm : Bytes s.mask
  hs : HsOk s.sides
  n32 : s.sides.length * 32 ≤ 140737488355328
def sp0 : Sp := ⟨[], [], [], []⟩
def spRow (s : Sp) (v : Value) : List Value := hc s.key ++ (hc s.old ++ pfRow s.mask v)
theorem spRow_len {s : Sp} (h : s.ok) (v : Value) : (spRow s v).length = 97 := by simp [spRow, pfRow, hc_len, h.key, h.old, h.mask]
theorem rowOf_sub (w : World) (b o : Nat) {j n m : Nat} (h : j + n ≤ m) : rowOf w b (o + j) n = ((rowOf w b o m).drop j).take n := by
  unfold rowOf
  cases w.heap[b]? with
  | none => simp
  | some x =>
    cases x with
    | cells cs t fr =>
      simp only [Array.toList_extract, List.extract_eq_take_drop]
      rw [List.drop_take, List.drop_drop, List.take_take]
      congr 1
      omega
    | _ => simp
theorem sp_key {w : World} {b o : Nat} {s : Sp} {v : Value} (ok : s.ok) (h : rowOf w b o 97 = spRow s v) : rowOf w b o 32 = hc s.key := by
  have e := rowOf_sub w b o (j := 0) (n := 32) (m := 97) (by omega)
  rw [Nat.add_zero] at e
  rw [e, h, List.drop_zero]
  exact List.take_left' (by rw [hc_len, ok.key])
theorem sp_old {w : World} {b o : Nat} {s : Sp} {v : Value} (ok : s.ok) (h : rowOf w b o 97 = spRow s v) : rowOf w b (o + 32) 32 = hc s.old := by
  rw [rowOf_sub w b o (j := 32) (n := 32) (m := 97) (by omega), h]
  exact take_midd (hc s.key) (hc s.old) (pfRow s.mask v) (by rw [hc_len, ok.key]) (by rw [hc_len, ok.old])
theorem sp_pf {w : World} {b o : Nat} {s : Sp} {v : Value} (ok : s.ok) (h : rowOf w b o 97 = spRow s v) : rowOf w b (o + 64) 33 = pfRow s.mask v := by
  rw [rowOf_sub w b o (j := 64) (n := 33) (m := 97) (by omega), h]
  have := take_midd (hc s.key ++ hc s.old) (pfRow s.mask v) [] (o := 64) (n := 33) (by simp [hc_len, ok.key, ok.old]) (pfRow_len ok.mask v)
  simpa [spRow] using this
/-- A slice of steps. -/
def RdSp (w : World) (q : Option Addr) (L : List Sp) : Prop := L = [] ∨ ∃ b off, q = some ⟨b, off, none⟩ ∧ ∀ i, i < L.length → ∃ qi ki, rowOf w b (off + i * 97) 97 = spRow (L.getD i sp0) (.slice qi (L.getD i sp0).sides.length ki) ∧ RdHs w qi (L.getD i sp0).sides
def SpOk (L : List Sp) : Prop := ∀ s ∈ L, s.ok
theorem SpOk.get {L : List Sp} (h : SpOk L) {i : Nat} (hi : i < L.length) : (L.getD i sp0).ok := by
  have e : L.getD i sp0 = L[i] := by simp [List.getD, hi]
  rw [e]
  exact h _ (List.getElem_mem hi)
theorem RdSp.on {w w' : World} {q : Option Addr} {L : List Sp} (h : RdSp w q L) (ok : SpOk L) (hb : Below w.heap.size w w') : RdSp w' q L := by
  rcases h with h | ⟨b, off, e, hx⟩
  · exact .inl h
  · refine .inr ⟨b, off, e, fun i hi => ?_⟩
    obtain ⟨qi, ki, h1, h2⟩ := hx i hi
    exact ⟨qi, ki, by rw [rowOf_on (by rw [h1, spRow_len (ok.get hi)]; omega) hb]; exact h1, h2.on (fun j hj => ((ok.get hi).hs.get j hj).1) hb⟩
/-- Rows behind each other. -/
def rowsN (f : Nat → List Value) : Nat → List Value
  | 0 => []
  | k + 1 => rowsN f k ++ f k
theorem rowsN_len {f : Nat → List Value} : ∀ k, (∀ j, j < k → (f j).length = 97) → (rowsN f k).length = k * 97
  | 0, _ => rfl
  | k + 1, h => by
    rw [rowsN, List.length_append, rowsN_len k (fun j hj => h j (by omega)), h k (by omega)]
    omega
theorem rowsN_cong {f g : Nat → List Value} : ∀ k, (∀ j, j < k → f j = g j) → rowsN f k = rowsN g k
  | 0, _ => rfl
  | k + 1, h => by rw [rowsN, rowsN, rowsN_cong k (fun j hj => h j (by omega)), h k (by omega)]
theorem rowsN_mid {f : Nat → List Value} : ∀ k (tail : List Value), (∀ j, j < k → (f j).length = 97) → ∀ i, i < k → ((rowsN f k ++ tail).drop (i * 97)).take 97 = f i
  | 0, _, _, i, hi => by omega
  | k + 1, tail, h, i, hi => by
    have hl := rowsN_len k (fun j hj => h j (by omega))
    rw [rowsN, List.append_assoc]
    by_cases e : i = k
    · subst e
      rw [List.drop_left' hl]
      exact List.take_left' (h i (by omega))
    · exact rowsN_mid k (f k ++ tail) (fun j hj => h j (by omega)) i (by omega)
def spF (L : List Sp) (Q : Nat → Option Addr × Nat) (j : Nat) : List Value := spRow (L.getD j sp0) (.slice (Q j).1 (L.getD j sp0).sides.length (Q j).2)
/-- k steps were copied. -/
structure OwP (w wr : World) (v : Value) (L : List Sp) (k : Nat) (Q : Nat → Option Addr × Nat) : Prop where
  own : wr.ownsRow 0 68 97 v k (rowsN (spF L Q) k)
  each : ∀ j, j < k → HsS w wr (.slice (Q j).1 (L.getD j sp0).sides.length (Q j).2) (L.getD j sp0).sides
  fresh : ∀ g, v.ownBlock = some g → w.heap.size ≤ g
  below : Below w.heap.size w wr
theorem OwP.start (w : World) (L : List Sp) (Q : Nat → Option Addr × Nat) : OwP w w (.slice none 0 0) L 0 Q := ⟨World.ownsRow_nil w 0 _ 97, fun j hj => by omega, by simp [Value.ownBlock], Below.refl _ _⟩
theorem OwP.on {w wr w1 : World} {v : Value} {L : List Sp} {k : Nat} {Q : Nat → Option Addr × Nat} (h : OwP w wr v L k Q) (hb : Below wr.heap.size wr w1) : OwP w w1 v L k Q :=
  ⟨own_on h.own hb, fun j hj => (h.each j hj).on hb, h.fresh, h.below.trans (hb.mono h.below.size)⟩
theorem OwP.rd {w wr : World} {q : Option Addr} {n c : Nat} {L : List Sp} {Q : Nat → Option Addr × Nat} (ok : SpOk L) (h : OwP w wr (.slice q n c) L L.length Q) : n = L.length ∧ RdSp wr q L := by
  rcases h.own.2 with ⟨e, h0⟩ | ⟨g, cap, cur, e, _, hg, hnc, hcm, hcs', htake⟩
  · simp only [Value.slice.injEq] at e
    obtain ⟨rfl, rfl, rfl⟩ := e
    exact ⟨h0.symm, .inl (List.eq_nil_of_length_eq_zero h0)⟩
  · simp only [Value.slice.injEq] at e
    obtain ⟨rfl, rfl, rfl⟩ := e
    refine ⟨rfl, .inr ⟨g, 0, rfl, fun i hi => ⟨(Q i).1, (Q i).2, ?_, (h.each i hi).rd.2.1⟩⟩⟩
    have hl : ∀ j, j < L.length → (spF L Q j).length = 97 := fun j hj => spRow_len (ok.get hj) _
    have hc2 : cur = (rowsN (spF L Q) L.length ++ cur.toList.drop (L.length * 97)).toArray := by
      apply Array.ext'
      show cur.toList = rowsN (spF L Q) L.length ++ cur.toList.drop (L.length * 97)
      rw [← htake, List.take_append_drop]
    rw [hc2] at hg
    rw [rowOf_block hg, Nat.zero_add]
    have := rowsN_mid L.length (cur.toList.drop (L.length * 97)) hl i hi
    show _ = spF L Q i
    rw [← this]
    simp [List.take_drop]
theorem HsS.base {w w1 wr : World} {v : Value} {Ss : List (List Int)} (h : HsS w1 wr v Ss) (hb : Below w.heap.size w w1) : HsS w wr v Ss :=
  ⟨h.own, h.ok, fun g hg => Nat.le_trans hb.size (h.fresh g hg), hb.trans (h.below.mono hb.size)⟩
theorem HsS.keep {w wr w1 : World} {u v : Value} {n : Nat} {xs : List Value} {Ss : List (List Int)} (h : HsS w wr u Ss) (hv : wr.ownsRow 0 68 97 v n xs) (hg : wr.grownBy w1 v.ownBlock) (hb : Below w.heap.size w w1) : HsS w w1 u Ss :=
  ⟨own_keep h.own (fun g e => hg.block g (own_lt h.own e) (fun e2 => own_two h.own hv (by decide) e e2.symm)), h.ok, h.fresh, hb⟩
theorem HsS.keepN {w wr w1 : World} {u v : Value} {Ss : List (List Int)} (h : HsS w wr u Ss) (hg : wr.grownBy w1 v.ownBlock) (hv : v = .slice none 0 0 ∨ v.ownBlock = none) (hb : Below w.heap.size w w1) : HsS w w1 u Ss := by
  have e : v.ownBlock = none := by rcases hv with rfl | e; simp [Value.ownBlock]; exact e
  rw [e] at hg
  exact ⟨own_keep h.own (fun g e' => hg.block g (own_lt h.own e') (by simp)), h.ok, h.fresh, hb⟩

def stPlaces : List (Nat × Nat) := [(0, 32), (32, 32), (64, 33)]
def st0 : List Value := hc zero32 ++ (hc zero32 ++ pfRow zero32 (.slice none 0 0))
theorem Tryd.built_st (ps : List (Nat × Value)) : Tryd.prog.built 68 ps = Instr.fill (fun i => stPlaces.toArray[i]?) st0.toArray ps := by kernel_rfl
@[go_sem ↓] theorem Tryd.build_st (ps : Array (Nat × Value)) : Instr.build 68 ps = rowBuild 68 ps := rfl
theorem Tryd.run_st (w : World) (s : Sp) (ok : s.ok) (v : Value) (_hv : v.cells = #[v]) :
    (rowBuild 68 #[(0, .agg (hc s.key).toArray), (1, .agg (hc s.old).toArray), (2, .agg (pfRow s.mask v).toArray)]).run Tryd.prog w = .ok (.agg (spRow s v).toArray) w := by
  refine run_build w _ _ _ ?_
  rw [Tryd.built_st]
  show Instr.fill _ _ ((0, Value.agg (hc s.key).toArray) :: (1, Value.agg (hc s.old).toArray) :: (2, Value.agg (pfRow s.mask v).toArray) :: []) = _
  have z1 : st0 = [] ++ (hc zero32 ++ (hc zero32 ++ pfRow zero32 (.slice none 0 0))) := rfl
  rw [z1, fill_at (i := 0) (off := 0) (size := 32) (vs := hc s.key) rfl rfl rfl rfl (by rw [hc_len, ok.key])]
  rw [List.nil_append, fill_at (i := 1) (off := 32) (size := 32) (vs := hc s.old) rfl rfl (by rw [hc_len, ok.key]) rfl (by rw [hc_len, ok.old])]
  rw [show (hc s.key ++ (hc s.old ++ pfRow zero32 (.slice none 0 0)) : List Value) = (hc s.key ++ hc s.old) ++ (pfRow zero32 (.slice none 0 0) ++ []) by simp]
  rw [fill_at (i := 2) (off := 64) (size := 33) (vs := pfRow s.mask v) rfl rfl (by simp [hc_len, ok.key, ok.old]) rfl (pfRow_len ok.mask v)]
  simp [spRow, Instr.fill]
theorem Tryd.zero_st (w : World) : (zeroValue 68).run Tryd.prog w = .ok (.agg st0.toArray) w := by kernel_rfl
@[go_sem ↓] theorem Tryd.slice_st (ps : Array (Nat × Value)) : Instr.buildSlice 66 1 ps = rowNew 66 ps := rfl
theorem Tryd.run_slice_st (w : World) (R : List Value) (hR : R.length = 97) :
    (rowNew 66 #[(0, .agg R.toArray)]).run Tryd.prog w = .ok (.slice (some ⟨w.heap.size, 0, none⟩) 1 1) (w.alloc (.cells R.toArray 68)) :=
  run_bs_one w Tryd.underlying66 (by kernel_rfl) (Tryd.zero_st w) (n := 97) (by decide) (by decide) hR
theorem Tryd.infoSt : (Tryd.prog.info? 68).map (fun i => (i.zero, i.size, i.bytes)) = some (some (.agg st0.toArray), 97, 120) := by kernel_rfl
theorem st0_cells : (Value.agg st0.toArray).cells.size = 97 := by rfl
end Go.Proofs.YtjlodnecdngdfaaDoor
namespace Go.Proofs.YtjlodnecdngdfaaDoor
set_option maxRecDepth 100000
open Go.RowKit

theorem sp_one (s : Sp) (q : Option Addr) (n k : Nat) : ∀ u ∈ spRow s (.slice q n k), u.oneCell' = true := by
  intro u hu
  simp only [spRow, pfRow, List.mem_append, List.mem_cons, List.not_mem_nil, or_false] at hu
  rcases hu with hu | hu | hu | rfl
  · exact (Array.all_eq_true_iff_forall_mem.1 (hc_one _)) u (by simpa using hu)
  · exact (Array.all_eq_true_iff_forall_mem.1 (hc_one _)) u (by simpa using hu)
  · exact (Array.all_eq_true_iff_forall_mem.1 (hc_one _)) u (by simpa using hu)
  · rfl
theorem src_one {P : Program} {tx e' : TypeId} {w : World} {R : List Value} (hk : P.underlying tx = some (.slice e')) (hR : R.length = 97) (h1 : ∀ u ∈ R, u.oneCell' = true) : Src P 97 tx (.slice (some ⟨w.heap.size, 0, none⟩) 1 1) 1 R (w.alloc (.cells R.toArray 68)) := by
  refine Src.ofSlice _ hk _ _ _ _ (by rw [hR]) (fun j u hu => ?_) h1
  rw [addr_add, Joins.cell_of_block (heap_alloc_new w (.cells R.toArray 68)), Nat.zero_add]
  simpa using hu

end Go.Proofs.YtjlodnecdngdfaaDoor
