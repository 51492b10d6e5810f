/-
  The walk of basculelaw06.ProofTrail.; The walk of basculelaw05.SmtNil.
-/
import Derived.Test.YtjlodnecdngdfaaDoorPq8
import Derived.Test.YtjlodnecdngdfaaDoorPq12
import Derived.Test.YtjlodnecdngdfaaDoorPq17
import Derived.Test.YtjlodnecdngdfaaDoorPq19
namespace Go.Proofs.YtjlodnecdngdfaaDoor
open Go.RowKit
set_option maxRecDepth 100000

theorem OwP.base {w wr : World} {L : List Sp} {Q : Nat → Option Addr × Nat} (_ : OwP w w (.slice none 0 0) L 0 Q) (hb : Below w.heap.size w wr) : OwP w wr (.slice none 0 0) L 0 Q := ⟨World.ownsRow_nil wr 0 _ 97, fun j hj => by omega, by simp [Value.ownBlock], hb⟩
theorem HsS.base2 {w wr : World} (_ : HsS w w (.slice none 0 0) []) (hb : Below w.heap.size w wr) : HsS w wr (.slice none 0 0) [] := ⟨World.ownsRow_nil wr 0 _ 32, HsOk.nil, by simp [Value.ownBlock], hb⟩
set_option maxHeartbeats 64000000 in
theorem ProofTrail_walk {w : World} {q q2 : Option Addr} {cp cp2 : Nat} {L L2 : List (List Int × List Int)} (hq : RwF 64 pr0 PPr w (fun g => g < w.heap.size) q L) (ok : ∀ x ∈ L, PrOk x) (hl : L.length ≤ 3000000000000) (hq2 : RwF 64 pr0 PPr w (fun g => g < w.heap.size) q2 L2) (ok2 : ∀ x ∈ L2, PrOk x) (hl2 : L2.length ≤ 3000000000000) (hT : Tbl w) :
    Calls Tryd.prog 6 #[.slice q L.length cp, .slice q2 L2.length cp2] w fun e w' => e = .returned (.bool true) ∧ Below w.heap.size w w' := by
  obtain ⟨i0, hi, hz0, hz1, hz2⟩ := info_parts Tryd.infoSt
  replace hi := Lib.hid hi
  replace hz0 := Lib.hid hz0
  replace hz1 := Lib.hid hz1
  replace hz2 := Lib.hid hz2
  obtain ⟨j0, hj, hy0, hy1, hy2⟩ := info_parts Tryd.infoHs
  replace hj := Lib.hid hj
  replace hy0 := Lib.hid hy0
  replace hy1 := Lib.hid hy1
  replace hy2 := Lib.hid hy2
  have HQ := Lib.hid hq
  have HQ2 := Lib.hid hq2
  have HT := Lib.hid hT
  have HOK := Lib.hid ok
  have HOK2 := Lib.hid ok2
  clear hq hq2 hT ok ok2
  go_enter Tryd.func6, Tryd.ntmps6
  by_cases h8 : L.length > 8 ∨ L2.length > 8
  · have hor : (8 : Int) < (L.length : Int) ∨ (¬ (8 : Int) < (L.length : Int) ∧ (8 : Int) < (L2.length : Int)) := by omega
    clear h8
    rcases hor with d2 | ⟨d2, d4⟩
    all_goals (
      go_wp2_with fail
      refine (knows6_any HT.out).mono ?_
      rintro e w2 ⟨rfl, hb2⟩
      go_wp2_with fail
      go_ret
      exact ⟨rfl, hb2⟩)
  have d2 : ¬ (8 : Int) < (L.length : Int) := by omega
  have d4 : ¬ (8 : Int) < (L2.length : Int) := by omega
  have d3 : L.length ≤ 8 := by omega
  have d5 : L2.length ≤ 8 := by omega
  clear h8
  go_wp2_with fail
  clear d2 d4
  refine New_nil.mono ?_
  rintro e w2 ⟨p, m, rfl, hp, hm, hb2, hms⟩
  have M2 := Lib.hid (MpW_new hb2 hp hm hms)
  clear hp hm hb2 hms
  go_wp2_with fail
  refine (num6_any 0 w2).mono ?_
  rintro e wz ⟨rfl, hwz⟩
  obtain rfl := hwz.symm
  clear hwz
  go_wp2_with fail
  refine (knows6_any (HT.out.on M2.out.below HT.out.pos)).mono ?_
  rintro e w3 ⟨rfl, hb3⟩
  have M3 := Lib.hid (M2.out.on hb3)
  clear hb3 M2
  go_wp2_with fail
  go_loopw [7] (fun iv wr => ∃ i : Nat, iv = .int .i64 (i : Int) ∧ i ≤ L.length ∧ ∃ E c top bl, E.length ≤ i ∧ Hid (MpW w wr p m E c top bl)) (fun iv _ => L.length - (intOf iv).toNat)
  case atStart => exact ⟨0, rfl, by omega, [], 0, none, [], by simp, M3⟩
  case round =>
    clear M3
    obtain ⟨i, rfl, hil, E, c, top, bl, hle, hM⟩ := hrel
    by_cases hlt : i < L.length
    · as_aux_lemma =>
        have hltI : (i : Int) < (L.length : Int) := by omega
        obtain ⟨b, off, r, rfl, -, hr, hrow, rfl⟩ := (HQ.out.on PPr_ok (by decide) hM.out.below).get (d := pr0) hlt
        have OKX := Lib.hid (HOK.out _ (getD_mem' (d := pr0) hlt))
        have hh := rowOf_half OKX.out.k.len OKX.out.l hrow
        have R9 : Hid (∀ W, Below w.heap.size w W → rowOf W b (off + i * 64) 32 = hc (L.getD i pr0).1 ∧ rowOf W b (off + i * 64 + 32) 32 = hc (L.getD i pr0).2) := by
          intro W hW
          obtain ⟨b2, off2, r2, e2, -, hr2, hrow2, e3⟩ := (HQ.out.on PPr_ok (by decide) hW).get (d := pr0) hlt
          simp only [Option.some.injEq, Addr.mk.injEq] at e2
          obtain ⟨rfl, rfl, -⟩ := e2
          exact rowOf_half OKX.out.k.len OKX.out.l (hrow2.trans e3)
        obtain ⟨Ky, hK0⟩ : ∃ Ky, (L.getD i pr0).1 = Ky := ⟨_, rfl⟩
        obtain ⟨V, hV0⟩ : ∃ V, (L.getD i pr0).2 = V := ⟨_, rfl⟩
        rw [hK0, hV0] at R9 hh
        have lKy : Ky.length = 32 := by rw [← hK0]; exact OKX.out.k.len
        have lV : V.length = 32 := by rw [← hV0]; exact OKX.out.l
        have hlKy := hc_len Ky
        have hlV := hc_len V
        have PK : Hid (KyOk Ky) := by show KyOk Ky; rw [← hK0]; exact OKX.out.k
        have PV : Hid (V.length = 32) := lV
        have PB : Hid (Bytes V) := by show Bytes V; rw [← hV0]; exact OKX.out.b
        have g0 : (0 : Int) ≤ (i : Int) := by omega
        have LE := Lib.hid (show E.length ≤ 8 ∧ E.length ≤ i from ⟨by omega, hle⟩)
        have M4 := Lib.hid (hM.out.on ((Below.refl _ _).drew))
        have hS4 : rowOf wr.drew b (off + i * 64) 32 = hc Ky ∧ rowOf wr.drew b (off + i * 64 + 32) 32 = hc V := R9.out _ (hM.out.below.drew)
        clear hh hrow hr hK0 hV0 OKX
        go_wp2_with fail
        refine wp_region_held_drew (S := fun W => rowOf W b (off + i * 64) 32 = hc Ky ∧ rowOf W b (off + i * 64 + 32) 32 = hc V) (by kernel_rfl) (hS4) (fun h0 => ?_)
        generalize wr.drew = w4 at *
        refine wpAnyH_take (i := 0) (v := ?_) (by rw [List.getElem?_toArray]; rfl) (by kernel_rfl) (by kernel_rfl) (by kernel_rfl) (by exact fun _ _ _ h => h) (Or.inl ⟨by rfl, ?_⟩) h0 ?_
        rotate_left
        · intro W hW
          go_simp
          all_goals with_reducible rfl
        try simp only [Act.put, List.setIfInBounds_toArray, List.set_cons_zero, List.set_cons_succ]
        refine wpAnyH_take (i := 1) (v := ?_) (by rw [List.getElem?_toArray]; rfl) (by kernel_rfl) (by kernel_rfl) (by kernel_rfl) (by exact fun _ _ _ h => h) (Or.inl ⟨by rfl, ?_⟩) h0 ?_
        rotate_left
        · intro W hW
          go_simp
          all_goals with_reducible rfl
        try simp only [Act.put, List.setIfInBounds_toArray, List.set_cons_zero, List.set_cons_succ]
        refine wpAnyH_take (i := 2) (v := ?_) (by rw [List.getElem?_toArray]; rfl) (by kernel_rfl) (by kernel_rfl) (by kernel_rfl) (by exact fun _ _ _ h => h) (Or.inl ⟨by rfl, ?_⟩) h0 ?_
        rotate_left
        · intro W hW
          go_simp
          all_goals with_reducible rfl
        try simp only [Act.put, List.setIfInBounds_toArray, List.set_cons_zero, List.set_cons_succ]
        refine wpAnyH_take (i := 3) (v := ?_) (by rw [List.getElem?_toArray]; rfl) (by kernel_rfl) (by kernel_rfl) (by kernel_rfl) (by exact fun _ _ _ h => h) (Or.inl ⟨by rfl, ?_⟩) h0 ?_
        rotate_left
        · intro W hW
          go_simp
          all_goals with_reducible rfl
        try simp only [Act.put, List.setIfInBounds_toArray, List.set_cons_zero, List.set_cons_succ]
        refine wpAnyH_take (i := 4) (v := ?_) (by rw [List.getElem?_toArray]; rfl) (by kernel_rfl) (by kernel_rfl) (by kernel_rfl) (by exact fun _ _ _ h => h) (Or.inl ⟨by rfl, ?_⟩) h0 ?_
        rotate_left
        · intro W hW
          go_simp
          all_goals with_reducible rfl
        try simp only [Act.put, List.setIfInBounds_toArray, List.set_cons_zero, List.set_cons_succ]
        refine wpAnyH_take (i := 5) (v := ?_) (by rw [List.getElem?_toArray]; rfl) (by kernel_rfl) (by kernel_rfl) (by kernel_rfl) (by exact fun _ _ _ h => h) (Or.inl ⟨by rfl, ?_⟩) h0 ?_
        rotate_left
        · intro W hW
          have c1 := hW.1
          go_simp
          all_goals with_reducible rfl
        try simp only [Act.put, List.setIfInBounds_toArray, List.set_cons_zero, List.set_cons_succ]
        refine wpAnyH_take (i := 6) (v := ?_) (by rw [List.getElem?_toArray]; rfl) (by kernel_rfl) (by kernel_rfl) (by kernel_rfl) (by exact fun _ _ _ h => h) (Or.inl ⟨by rfl, ?_⟩) h0 ?_
        rotate_left
        · intro W hW
          go_simp
          all_goals with_reducible rfl
        try simp only [Act.put, List.setIfInBounds_toArray, List.set_cons_zero, List.set_cons_succ]
        refine wpAnyH_take (i := 7) (v := ?_) (by rw [List.getElem?_toArray]; rfl) (by kernel_rfl) (by kernel_rfl) (by kernel_rfl) (by exact fun _ _ _ h => h) (Or.inl ⟨by rfl, ?_⟩) h0 ?_
        rotate_left
        · intro W hW
          go_simp
          all_goals with_reducible rfl
        try simp only [Act.put, List.setIfInBounds_toArray, List.set_cons_zero, List.set_cons_succ]
        refine wpAnyH_take (i := 8) (v := ?_) (by rw [List.getElem?_toArray]; rfl) (by kernel_rfl) (by kernel_rfl) (by kernel_rfl) (by exact fun _ _ _ h => h) (Or.inl ⟨by rfl, ?_⟩) h0 ?_
        rotate_left
        · intro W hW
          go_simp
          all_goals with_reducible rfl
        try simp only [Act.put, List.setIfInBounds_toArray, List.set_cons_zero, List.set_cons_succ]
        refine wpAnyH_take (i := 9) (v := ?_) (by rw [List.getElem?_toArray]; rfl) (by kernel_rfl) (by kernel_rfl) (by kernel_rfl) (by exact fun _ _ _ h => h) (Or.inl ⟨by rfl, ?_⟩) h0 ?_
        rotate_left
        · intro W hW
          go_simp
          all_goals with_reducible rfl
        try simp only [Act.put, List.setIfInBounds_toArray, List.set_cons_zero, List.set_cons_succ]
        refine wpAnyH_take (i := 10) (v := ?_) (by rw [List.getElem?_toArray]; rfl) (by kernel_rfl) (by kernel_rfl) (by kernel_rfl) (by exact fun _ _ _ h => h) (Or.inl ⟨by rfl, ?_⟩) h0 ?_
        rotate_left
        · intro W hW
          have c2 := hW.2
          go_simp
          all_goals with_reducible rfl
        try simp only [Act.put, List.setIfInBounds_toArray, List.set_cons_zero, List.set_cons_succ]
        refine wpAnyH_ready (rs := [11]) (by kernel_rfl) (by simp) ?_
        refine AllReadyH.cons (by rw [List.getElem?_toArray]; rfl) (fun KX hKK => ?_) AllReadyH.nil
        first | rw [if_pos (by rfl)] | skip
        go_wp2_with fail
        refine (Put_all PK.out PV.out PB.out M4.out.map (by have := LE.out; omega)).mono ?_
        rintro e w5 hq5
        obtain ⟨rfl, E', c', top', bl', m5, v5, n5, n5'⟩ := M4.out.put hq5
        have hS : rowOf w5 b (off + i * 64) 32 = hc Ky ∧ rowOf w5 b (off + i * 64 + 32) 32 = hc V := R9.out w5 m5.below
        have M5 := Lib.hid m5
        have NE := Lib.hid n5
        clear hq5 m5 n5 n5' v5 M4
        go_wp2_with fail
        refine hKK.out _ _ (hS) (fun h0 => ?_)
        clear hKK KX
        try simp only [Act.put, List.setIfInBounds_toArray, List.set_cons_zero, List.set_cons_succ]
        refine wpAnyH_done (by kernel_rfl) ?_ _
        clear h0
        go_wp2_with fail
        go_roundw
        case rel => exact ⟨i + 1, by go_num, by omega, E', c', top', bl', by have := NE.out; have := LE.out; omega, M5⟩
        case measure => simp [intOf]; omega
    · as_aux_lemma =>
        have hnl : ¬ (i : Int) < (L.length : Int) := by omega
        have LE := Lib.hid (show E.length ≤ 8 by omega)
        have HG : Hid (1 ∉ bl) := fun hin => by have h1 := hM.out.bg _ hin; have h2 := HT.out.pos; omega
        have RR := Lib.hid (Root_all (HT.out.on hM.out.below HT.out.pos) hM.out.map HG.out)
        have lR := rootE_len E hM.out.map.e
        obtain ⟨R, hR⟩ : ∃ R, rootE E = R := ⟨_, rfl⟩
        rw [hR] at RR lR
        have HR0 := Lib.hid hR
        clear hR
        go_wp2_with fail
        refine RR.out.mono ?_
        rintro e w6 ⟨rfl, c6, m6⟩
        have M6 := Lib.hid (hM.out.chg c6 m6)
        have th := (HashAt.new w6 zero32).there zero32_len
        have hcl := hc_len R
        clear c6 m6 RR
        go_upto_region 11 with fail
        clear th
        have b7 : Below w6.heap.size w6 ((w6.alloc (.cells (hc zero32).toArray 24)).setCells w6.heap.size 0 (hc R)) := below_setCells' w6.heap.size (Nat.le_refl _) (hc R) 0 ((Below.refl _ _).alloc (Nat.le_refl _) (.cells (hc zero32).toArray 24))
        have H7 := (HashAt.new w6 zero32).put zero32_len lR
        have M7 := M6.out.on b7
        have T0 : Hid (TrM w ((w6.alloc (.cells (hc zero32).toArray 24)).setCells w6.heap.size 0 (hc R)) p m c E top bl w6.heap.size R (.slice none 0 0) [] (fun _ => (none, 0)) (.slice none 0 0) []) := Lib.hid
          ⟨M7, H7, fun hi => by have := (M6.out.noin _ hi).2; omega, M6.out.below.size, (OwP.start w [] (fun _ => (none, 0))).base M7.below, by simp [Value.ownBlock], fun j hj => by simp at hj, (HsS.start w).base2 M7.below, by simp [Value.ownBlock]⟩
        clear b7 H7 M7
        generalize (w6.alloc (.cells (hc zero32).toArray 24)).setCells w6.heap.size 0 (hc R) = w7 at *
        obtain ⟨rb, hrb⟩ : ∃ rb, w6.heap.size = rb := ⟨_, rfl⟩
        rw [hrb] at T0 ⊢
        clear hrb
        go_wp2_with fail
        go_loopw [9, 10, 11] (fun sv_ nv iv wr => ∃ i : Nat, iv = .int .i64 (i : Int) ∧ i ≤ L2.length ∧ ∃ E c top bl LS Q Ns qs cs qn cn, sv_ = .slice qs i cs ∧ nv = .slice qn i cn ∧ E.length ≤ 8 + i ∧ Hid (LS.length = i ∧ Ns.length = i ∧ walkR R LS Ns = (rootE E, 0) ∧ SpOk LS) ∧ Hid (TrM w wr p m c E top bl rb R (.slice qs i cs) LS Q (.slice qn i cn) Ns)) (fun _ _ iv _ => L2.length - (intOf iv).toNat)
        case atStart => exact ⟨0, rfl, by omega, E, c, top, bl, [], fun _ => (none, 0), [], none, 0, none, 0, rfl, rfl, by omega, ⟨rfl, rfl, by rw [HR0.out]; rfl, fun s hs => by cases hs⟩, T0⟩
        case round =>
          clear T0 HR0 hM M6 HG LE hnl hle hil hlt
          obtain ⟨i, rfl, hil, E, c, top, bl, LS, Q, Ns, qs, cs, qn, cn, rfl, rfl, hle, HLS, hT2⟩ := hrel
          by_cases hlt : i < L2.length
          · as_aux_lemma =>
              have hltI : (i : Int) < (L2.length : Int) := by omega
              obtain ⟨b, off, r, rfl, -, hr, hrow, rfl⟩ := (HQ2.out.on PPr_ok (by decide) hT2.out.map.below).get (d := pr0) hlt
              have OKX := Lib.hid (HOK2.out _ (getD_mem' (d := pr0) hlt))
              have R9 : Hid (∀ W, Below w.heap.size w W → rowOf W b (off + i * 64) 32 = hc (L2.getD i pr0).1 ∧ rowOf W b (off + i * 64 + 32) 32 = hc (L2.getD i pr0).2) := by
                intro W hW
                obtain ⟨b2, off2, r2, e2, -, hr2, hrow2, e3⟩ := (HQ2.out.on PPr_ok (by decide) hW).get (d := pr0) hlt
                simp only [Option.some.injEq, Addr.mk.injEq] at e2
                obtain ⟨rfl, rfl, -⟩ := e2
                exact rowOf_half OKX.out.k.len OKX.out.l (hrow2.trans e3)
              obtain ⟨Ky, hK0⟩ : ∃ Ky, (L2.getD i pr0).1 = Ky := ⟨_, rfl⟩
              obtain ⟨V, hV0⟩ : ∃ V, (L2.getD i pr0).2 = V := ⟨_, rfl⟩
              rw [hK0, hV0] at R9
              have lKy : Ky.length = 32 := by rw [← hK0]; exact OKX.out.k.len
              have lV : V.length = 32 := by rw [← hV0]; exact OKX.out.l
              have hlKy := hc_len Ky
              have hlV := hc_len V
              have PK : Hid (KyOk Ky) := by show KyOk Ky; rw [← hK0]; exact OKX.out.k
              have PV1 : Hid (V.length = 32) := lV
              have PB : Hid (Bytes V) := by show Bytes V; rw [← hV0]; exact OKX.out.b
              have g0 : (0 : Int) ≤ (i : Int) := by omega
              have LE := Lib.hid (show E.length ≤ 16 ∧ E.length ≤ 8 + i from ⟨by omega, hle⟩)
              have EW := Lib.hid hT2.out.map.map.e
              have lV0 := (vOf_ok EW.out.b Ky).1
              obtain ⟨V0, hVV⟩ : ∃ V0, vOf E Ky = V0 := ⟨_, rfl⟩
              rw [hVV] at lV0
              have HV0 := Lib.hid hVV
              have hlV0 := hc_len V0
              have TM4 := Lib.hid (hT2.out.on (Below.refl _ _).drew)
              have HG : Hid (1 ∉ bl) := fun hin => by have h1 := hT2.out.map.bg _ hin; have h2 := HT.out.pos; omega
              clear hrow hr hK0 hV0 OKX hVV hT2 hle
              go_wp2_with fail
              refine wp_region_held_drew (S := fun W => Below w.heap.size w W) (by kernel_rfl) (TM4.out.map.below) (fun h0 => ?_)
              generalize wr.drew = w4 at *
              refine wpAnyH_take (i := 0) (v := ?_) (by rw [List.getElem?_toArray]; rfl) (by kernel_rfl) (by kernel_rfl) (by kernel_rfl) (by exact fun _ _ _ h => h) (Or.inl ⟨by rfl, ?_⟩) h0 ?_
              rotate_left
              · intro W hW
                go_simp
                all_goals with_reducible rfl
              try simp only [Act.put, List.setIfInBounds_toArray, List.set_cons_zero, List.set_cons_succ]
              refine wpAnyH_take (i := 1) (v := ?_) (by rw [List.getElem?_toArray]; rfl) (by kernel_rfl) (by kernel_rfl) (by kernel_rfl) (by exact fun _ _ _ h => h) (Or.inl ⟨by rfl, ?_⟩) h0 ?_
              rotate_left
              · intro W hW
                go_simp
                all_goals with_reducible rfl
              try simp only [Act.put, List.setIfInBounds_toArray, List.set_cons_zero, List.set_cons_succ]
              refine wpAnyH_take (i := 2) (v := ?_) (by rw [List.getElem?_toArray]; rfl) (by kernel_rfl) (by kernel_rfl) (by kernel_rfl) (by exact fun _ _ _ h => h) (Or.inl ⟨by rfl, ?_⟩) h0 ?_
              rotate_left
              · intro W hW
                go_simp
                all_goals with_reducible rfl
              try simp only [Act.put, List.setIfInBounds_toArray, List.set_cons_zero, List.set_cons_succ]
              refine wpAnyH_take (i := 3) (v := ?_) (by rw [List.getElem?_toArray]; rfl) (by kernel_rfl) (by kernel_rfl) (by kernel_rfl) (by exact fun _ _ _ h => h) (Or.inl ⟨by rfl, ?_⟩) h0 ?_
              rotate_left
              · intro W hW
                go_simp
                all_goals with_reducible rfl
              try simp only [Act.put, List.setIfInBounds_toArray, List.set_cons_zero, List.set_cons_succ]
              refine wpAnyH_take (i := 4) (v := ?_) (by rw [List.getElem?_toArray]; rfl) (by kernel_rfl) (by kernel_rfl) (by kernel_rfl) (by exact fun _ _ _ h => h) (Or.inl ⟨by rfl, ?_⟩) h0 ?_
              rotate_left
              · intro W hW
                go_simp
                all_goals with_reducible rfl
              try simp only [Act.put, List.setIfInBounds_toArray, List.set_cons_zero, List.set_cons_succ]
              refine wpAnyH_take (i := 5) (v := ?_) (by rw [List.getElem?_toArray]; rfl) (by kernel_rfl) (by kernel_rfl) (by kernel_rfl) (by exact fun _ _ _ h => h) (Or.inl ⟨by rfl, ?_⟩) h0 ?_
              rotate_left
              · intro W hW
                have cc := (R9.out W hW).1
                go_simp
                all_goals with_reducible rfl
              try simp only [Act.put, List.setIfInBounds_toArray, List.set_cons_zero, List.set_cons_succ]
              refine wpAnyH_take (i := 6) (v := ?_) (by rw [List.getElem?_toArray]; rfl) (by kernel_rfl) (by kernel_rfl) (by kernel_rfl) (by exact fun _ _ _ h => h) (Or.inl ⟨by rfl, ?_⟩) h0 ?_
              rotate_left
              · intro W hW
                go_simp
                all_goals with_reducible rfl
              try simp only [Act.put, List.setIfInBounds_toArray, List.set_cons_zero, List.set_cons_succ]
              refine wpAnyH_take (i := 7) (v := ?_) (by rw [List.getElem?_toArray]; rfl) (by kernel_rfl) (by kernel_rfl) (by kernel_rfl) (by exact fun _ _ _ h => h) (Or.inl ⟨by rfl, ?_⟩) h0 ?_
              rotate_left
              · intro W hW
                go_simp
                all_goals with_reducible rfl
              try simp only [Act.put, List.setIfInBounds_toArray, List.set_cons_zero, List.set_cons_succ]
              refine wpAnyH_take (i := 8) (v := ?_) (by rw [List.getElem?_toArray]; rfl) (by kernel_rfl) (by kernel_rfl) (by kernel_rfl) (by exact fun _ _ _ h => h) (Or.inl ⟨by rfl, ?_⟩) h0 ?_
              rotate_left
              · intro W hW
                go_simp
                all_goals with_reducible rfl
              try simp only [Act.put, List.setIfInBounds_toArray, List.set_cons_zero, List.set_cons_succ]
              refine wpAnyH_take (i := 9) (v := ?_) (by rw [List.getElem?_toArray]; rfl) (by kernel_rfl) (by kernel_rfl) (by kernel_rfl) (by exact fun _ _ _ h => h) (Or.inl ⟨by rfl, ?_⟩) h0 ?_
              rotate_left
              · intro W hW
                go_simp
                all_goals with_reducible rfl
              try simp only [Act.put, List.setIfInBounds_toArray, List.set_cons_zero, List.set_cons_succ]
              refine wpAnyH_take (i := 10) (v := ?_) (by rw [List.getElem?_toArray]; rfl) (by kernel_rfl) (by kernel_rfl) (by kernel_rfl) (by exact fun _ _ _ h => h) (Or.inl ⟨by rfl, ?_⟩) h0 ?_
              rotate_left
              · intro W hW
                go_simp
                all_goals with_reducible rfl
              try simp only [Act.put, List.setIfInBounds_toArray, List.set_cons_zero, List.set_cons_succ]
              refine wpAnyH_take (i := 11) (v := ?_) (by rw [List.getElem?_toArray]; rfl) (by kernel_rfl) (by kernel_rfl) (by kernel_rfl) (by exact fun _ _ _ h => h) (Or.inl ⟨by rfl, ?_⟩) h0 ?_
              rotate_left
              · intro W hW
                have cc := (R9.out W hW).1
                go_simp
                all_goals with_reducible rfl
              try simp only [Act.put, List.setIfInBounds_toArray, List.set_cons_zero, List.set_cons_succ]
              refine wpAnyH_take (i := 13) (v := ?_) (by rw [List.getElem?_toArray]; rfl) (by kernel_rfl) (by kernel_rfl) (by kernel_rfl) (by exact fun _ _ _ h => h) (Or.inl ⟨by rfl, ?_⟩) h0 ?_
              rotate_left
              · intro W hW
                go_simp
                all_goals with_reducible rfl
              try simp only [Act.put, List.setIfInBounds_toArray, List.set_cons_zero, List.set_cons_succ]
              refine wpAnyH_take (i := 14) (v := ?_) (by rw [List.getElem?_toArray]; rfl) (by kernel_rfl) (by kernel_rfl) (by kernel_rfl) (by exact fun _ _ _ h => h) (Or.inl ⟨by rfl, ?_⟩) h0 ?_
              rotate_left
              · intro W hW
                go_simp
                all_goals with_reducible rfl
              try simp only [Act.put, List.setIfInBounds_toArray, List.set_cons_zero, List.set_cons_succ]
              refine wpAnyH_take (i := 15) (v := ?_) (by rw [List.getElem?_toArray]; rfl) (by kernel_rfl) (by kernel_rfl) (by kernel_rfl) (by exact fun _ _ _ h => h) (Or.inl ⟨by rfl, ?_⟩) h0 ?_
              rotate_left
              · intro W hW
                go_simp
                all_goals with_reducible rfl
              try simp only [Act.put, List.setIfInBounds_toArray, List.set_cons_zero, List.set_cons_succ]
              refine wpAnyH_take (i := 16) (v := ?_) (by rw [List.getElem?_toArray]; rfl) (by kernel_rfl) (by kernel_rfl) (by kernel_rfl) (by exact fun _ _ _ h => h) (Or.inl ⟨by rfl, ?_⟩) h0 ?_
              rotate_left
              · intro W hW
                go_simp
                all_goals with_reducible rfl
              try simp only [Act.put, List.setIfInBounds_toArray, List.set_cons_zero, List.set_cons_succ]
              refine wpAnyH_take (i := 17) (v := ?_) (by rw [List.getElem?_toArray]; rfl) (by kernel_rfl) (by kernel_rfl) (by kernel_rfl) (by exact fun _ _ _ h => h) (Or.inl ⟨by rfl, ?_⟩) h0 ?_
              rotate_left
              · intro W hW
                go_simp
                all_goals with_reducible rfl
              try simp only [Act.put, List.setIfInBounds_toArray, List.set_cons_zero, List.set_cons_succ]
              refine wpAnyH_take (i := 18) (v := ?_) (by rw [List.getElem?_toArray]; rfl) (by kernel_rfl) (by kernel_rfl) (by kernel_rfl) (by exact fun _ _ _ h => h) (Or.inl ⟨by rfl, ?_⟩) h0 ?_
              rotate_left
              · intro W hW
                have cc := (R9.out W hW).1
                go_simp
                all_goals with_reducible rfl
              try simp only [Act.put, List.setIfInBounds_toArray, List.set_cons_zero, List.set_cons_succ]
              refine wpAnyH_ready (rs := [12]) (by kernel_rfl) (by simp) ?_
              refine AllReadyH.cons (by rw [List.getElem?_toArray]; rfl) (fun KX hKK => ?_) AllReadyH.nil
              first | rw [if_pos (by rfl)] | skip
              have GE := Lib.hid (Get_all PK.out TM4.out.map.map)
              rw [HV0.out] at GE
              go_wp2_with fail
              refine GE.out.mono ?_
              rintro e w5 ⟨rfl, b5⟩
              have TM5 := Lib.hid (TM4.out.on b5)
              clear b5 TM4 GE
              go_wp2_with fail
              refine hKK.out _ _ (TM5.out.map.below) (fun h0 => ?_)
              clear hKK KX
              try simp only [Act.put, List.setIfInBounds_toArray, List.set_cons_zero, List.set_cons_succ]
              refine wpAnyH_ready (rs := [19]) (by kernel_rfl) (by simp) ?_
              refine AllReadyH.cons (by rw [List.getElem?_toArray]; rfl) (fun KX hKK => ?_) AllReadyH.nil
              first | rw [if_pos (by rfl)] | skip
              have PV := Lib.hid (Prove_all (HT.out.on TM5.out.map.below HT.out.pos) TM5.out.map PK.out HG.out)
              go_wp2_with fail
              refine PV.out.mono ?_
              rintro e w6 ⟨M, q6, k6, Ss, rfl, pn6, hs6, m6, c6, f6⟩
              have TM6 := Lib.hid (TM5.out.root c6 m6.map)
              have PN := Lib.hid pn6
              have HS6 := Lib.hid hs6
              have HF6 : Hid (∀ g, (Value.slice q6 Ss.length k6).ownBlock = some g → g ∉ p :: m :: bl ∧ (Value.slice qn i cn).ownBlock ≠ some g) := fun g hg => by
                have h1 := f6 g hg
                exact ⟨fun hi => by have := (TM5.out.map.noin g hi).2; omega, fun e => by have := own_lt TM5.out.nw.own e; omega⟩
              clear pn6 hs6 m6 c6 f6 PV TM5
              go_wp2_with fail
              refine hKK.out _ _ (TM6.out.map.below) (fun h0 => ?_)
              clear hKK KX
              try simp only [Act.put, List.setIfInBounds_toArray, List.set_cons_zero, List.set_cons_succ]
              have OKS : Hid (Sp.ok ⟨Ky, V0, M, Ss⟩) := by show Sp.ok ⟨Ky, V0, M, Ss⟩; rw [← HV0.out]; exact PN.out.spOk EW.out PK.out
              have hRl : (spRow ⟨Ky, V0, M, Ss⟩ (.slice q6 Ss.length k6)).length = 97 := spRow_len OKS.out _
              have hst : ∀ W, (rowBuild 68 #[(0, .agg (hc Ky).toArray), (1, .agg (hc V0).toArray), (2, .agg (pfRow M (.slice q6 Ss.length k6)).toArray)]).run Tryd.prog W = .ok (.agg (spRow ⟨Ky, V0, M, Ss⟩ (.slice q6 Ss.length k6)).toArray) W := fun W => Tryd.run_st W ⟨Ky, V0, M, Ss⟩ OKS.out _ rfl
              have hRo := Lib.hid (sp_one ⟨Ky, V0, M, Ss⟩ q6 Ss.length k6)
              obtain ⟨RW, hRW⟩ : ∃ RW, spRow ⟨Ky, V0, M, Ss⟩ (.slice q6 Ss.length k6) = RW := ⟨_, rfl⟩
              have HRW := Lib.hid hRW
              rw [hRW] at hst hRl hRo
              clear hRW
              refine wpAnyH_take (i := 20) (v := ?_) (by rw [List.getElem?_toArray]; rfl) (by kernel_rfl) (by kernel_rfl) (by kernel_rfl) (by exact fun _ _ _ h => h) (Or.inl ⟨by rfl, ?_⟩) h0 ?_
              rotate_left
              · intro W hW
                go_simp
                all_goals with_reducible rfl
              try simp only [Act.put, List.setIfInBounds_toArray, List.set_cons_zero, List.set_cons_succ]
              refine wpAnyH_ready (rs := [21]) (by kernel_rfl) (by simp) ?_
              refine AllReadyH.cons (by rw [List.getElem?_toArray]; rfl) (fun KX hKK => ?_) AllReadyH.nil
              first | rw [if_pos (by rfl)] | skip
              have hsl := Tryd.run_slice_st w6 RW hRl
              have b3 : Below w6.heap.size w6 (w6.alloc (.cells RW.toArray 68)) := (Below.refl _ _).alloc (Nat.le_refl _) _
              have TM7 := Lib.hid (TM6.out.on b3)
              have HS7 := Lib.hid (HS6.out.on b3)
              have X3 := Lib.hid (src_one (P := Tryd.prog) (w := w6) Tryd.underlying66 hRl hRo.out)
              have hB7 := TM7.out.map.below
              go_wp2_with fail
              refine hKK.out _ _ (hB7) (fun h0 => ?_)
              clear hKK KX
              try simp only [Act.put, List.setIfInBounds_toArray, List.set_cons_zero, List.set_cons_succ]
              clear hsl hB7 b3 TM6 HS6
              generalize w6.alloc (.cells RW.toArray 68) = w7 at *
              refine wpAnyH_ready (rs := [22]) (by kernel_rfl) (by simp) ?_
              refine AllReadyH.cons (by rw [List.getElem?_toArray]; rfl) (fun KX hKK => ?_) AllReadyH.nil
              first | rw [if_pos (by rfl)] | skip
              have OW : w7.ownsRow 0 68 97 (.slice qs i cs) i (rowsN (spF LS Q) i) := by have := TM7.out.st.own; rw [HLS.out.1] at this; exact this
              refine wp_append_row _ _ rfl Tryd.underlying66 hi.out hz0.out hz1.out hz2.out st0_cells OW X3.out ?b1 ?b2 ?_
              case b1 => unfold maxLen; omega
              case b2 => omega
              intro q8 k8 w8 own8 grow8 fr8
              have TM8 := Lib.hid (TM7.out.step (s := ⟨Ky, V0, M, Ss⟩) HLS.out.1.symm HS7.out HF6.out (by rw [HRW.out]; exact own8) grow8 fr8)
              clear own8 grow8 fr8 OW
              refine hKK.out _ _ (TM8.out.map.below) (fun h0 => ?_)
              clear hKK KX
              try simp only [Act.put, List.setIfInBounds_toArray, List.set_cons_zero, List.set_cons_succ]
              clear TM7 HS7 HF6 X3 hRo HRW hst hRl
              refine wpAnyH_take (i := 23) (v := ?_) (by rw [List.getElem?_toArray]; rfl) (by kernel_rfl) (by kernel_rfl) (by kernel_rfl) (by exact fun _ _ _ h => h) (Or.inl ⟨by rfl, ?_⟩) h0 ?_
              rotate_left
              · intro W hW
                go_simp
                all_goals with_reducible rfl
              try simp only [Act.put, List.setIfInBounds_toArray, List.set_cons_zero, List.set_cons_succ]
              refine wpAnyH_done (by kernel_rfl) ?_ _
              clear h0
              have cc := (R9.out w8 TM8.out.map.below).2
              have TM9 := Lib.hid (TM8.out.on ((Below.refl _ _).alloc (Nat.le_refl _) (.cells (hc V).toArray 24)))
              have R4 := Lib.hid (one_hs (w := w8) lV PB.out)
              have OWN : Hid ((w8.alloc (.cells (hc V).toArray 24)).ownsRow 0 24 32 (.slice qn i cn) i (hcs Ns)) := by have := TM9.out.nw.own; rw [HLS.out.2.1] at this; exact this
              have SR : Hid (Src Tryd.prog 32 46 (.slice (some ⟨w8.heap.size, 0, none⟩) 1 1) 1 (hcs [V]) (w8.alloc (.cells (hc V).toArray 24))) := R4.out.src (HsOk.one lV PB.out) Tryd.underlying46
              go_wp2_with (at_builtin; refine wpList_append_row rfl _ _ rfl Tryd.underlying46 hj.out hy0.out hy1.out hy2.out zero_cells OWN.out SR.out ?b1 ?b2 ?_)
              case b1 => unfold maxLen; omega
              case b2 => omega
              clear cc
              intro q10 k10 w10 own10 grow10 fr10
              have TM10 := Lib.hid (TM9.out.now HLS.out.2.1.symm lV PB.out own10 grow10 (by first | exact fr10 | simpa using fr10))
              clear own10 grow10 fr10 TM9 TM8 R4 OWN SR
              go_wp2_with fail
              replace TM10 := Lib.hid (TM10.out.on (Below.refl _ _).drew)
              refine wp_region_held_drew (S := fun W => Below w.heap.size w W) (by kernel_rfl) (TM10.out.map.below) (fun h0 => ?_)
              generalize w10.drew = w11 at *
              refine wpAnyH_take (i := 0) (v := ?_) (by rw [List.getElem?_toArray]; rfl) (by kernel_rfl) (by kernel_rfl) (by kernel_rfl) (by exact fun _ _ _ h => h) (Or.inl ⟨by rfl, ?_⟩) h0 ?_
              rotate_left
              · intro W hW
                go_simp
                all_goals with_reducible rfl
              try simp only [Act.put, List.setIfInBounds_toArray, List.set_cons_zero, List.set_cons_succ]
              refine wpAnyH_take (i := 1) (v := ?_) (by rw [List.getElem?_toArray]; rfl) (by kernel_rfl) (by kernel_rfl) (by kernel_rfl) (by exact fun _ _ _ h => h) (Or.inl ⟨by rfl, ?_⟩) h0 ?_
              rotate_left
              · intro W hW
                go_simp
                all_goals with_reducible rfl
              try simp only [Act.put, List.setIfInBounds_toArray, List.set_cons_zero, List.set_cons_succ]
              refine wpAnyH_take (i := 2) (v := ?_) (by rw [List.getElem?_toArray]; rfl) (by kernel_rfl) (by kernel_rfl) (by kernel_rfl) (by exact fun _ _ _ h => h) (Or.inl ⟨by rfl, ?_⟩) h0 ?_
              rotate_left
              · intro W hW
                go_simp
                all_goals with_reducible rfl
              try simp only [Act.put, List.setIfInBounds_toArray, List.set_cons_zero, List.set_cons_succ]
              refine wpAnyH_take (i := 3) (v := ?_) (by rw [List.getElem?_toArray]; rfl) (by kernel_rfl) (by kernel_rfl) (by kernel_rfl) (by exact fun _ _ _ h => h) (Or.inl ⟨by rfl, ?_⟩) h0 ?_
              rotate_left
              · intro W hW
                go_simp
                all_goals with_reducible rfl
              try simp only [Act.put, List.setIfInBounds_toArray, List.set_cons_zero, List.set_cons_succ]
              refine wpAnyH_take (i := 4) (v := ?_) (by rw [List.getElem?_toArray]; rfl) (by kernel_rfl) (by kernel_rfl) (by kernel_rfl) (by exact fun _ _ _ h => h) (Or.inl ⟨by rfl, ?_⟩) h0 ?_
              rotate_left
              · intro W hW
                go_simp
                all_goals with_reducible rfl
              try simp only [Act.put, List.setIfInBounds_toArray, List.set_cons_zero, List.set_cons_succ]
              refine wpAnyH_take (i := 5) (v := ?_) (by rw [List.getElem?_toArray]; rfl) (by kernel_rfl) (by kernel_rfl) (by kernel_rfl) (by exact fun _ _ _ h => h) (Or.inl ⟨by rfl, ?_⟩) h0 ?_
              rotate_left
              · intro W hW
                have cc := (R9.out W hW).1
                go_simp
                all_goals with_reducible rfl
              try simp only [Act.put, List.setIfInBounds_toArray, List.set_cons_zero, List.set_cons_succ]
              refine wpAnyH_take (i := 6) (v := ?_) (by rw [List.getElem?_toArray]; rfl) (by kernel_rfl) (by kernel_rfl) (by kernel_rfl) (by exact fun _ _ _ h => h) (Or.inl ⟨by rfl, ?_⟩) h0 ?_
              rotate_left
              · intro W hW
                go_simp
                all_goals with_reducible rfl
              try simp only [Act.put, List.setIfInBounds_toArray, List.set_cons_zero, List.set_cons_succ]
              refine wpAnyH_take (i := 7) (v := ?_) (by rw [List.getElem?_toArray]; rfl) (by kernel_rfl) (by kernel_rfl) (by kernel_rfl) (by exact fun _ _ _ h => h) (Or.inl ⟨by rfl, ?_⟩) h0 ?_
              rotate_left
              · intro W hW
                go_simp
                all_goals with_reducible rfl
              try simp only [Act.put, List.setIfInBounds_toArray, List.set_cons_zero, List.set_cons_succ]
              refine wpAnyH_take (i := 8) (v := ?_) (by rw [List.getElem?_toArray]; rfl) (by kernel_rfl) (by kernel_rfl) (by kernel_rfl) (by exact fun _ _ _ h => h) (Or.inl ⟨by rfl, ?_⟩) h0 ?_
              rotate_left
              · intro W hW
                go_simp
                all_goals with_reducible rfl
              try simp only [Act.put, List.setIfInBounds_toArray, List.set_cons_zero, List.set_cons_succ]
              refine wpAnyH_take (i := 9) (v := ?_) (by rw [List.getElem?_toArray]; rfl) (by kernel_rfl) (by kernel_rfl) (by kernel_rfl) (by exact fun _ _ _ h => h) (Or.inl ⟨by rfl, ?_⟩) h0 ?_
              rotate_left
              · intro W hW
                go_simp
                all_goals with_reducible rfl
              try simp only [Act.put, List.setIfInBounds_toArray, List.set_cons_zero, List.set_cons_succ]
              refine wpAnyH_take (i := 10) (v := ?_) (by rw [List.getElem?_toArray]; rfl) (by kernel_rfl) (by kernel_rfl) (by kernel_rfl) (by exact fun _ _ _ h => h) (Or.inl ⟨by rfl, ?_⟩) h0 ?_
              rotate_left
              · intro W hW
                have cc := (R9.out W hW).2
                go_simp
                all_goals with_reducible rfl
              try simp only [Act.put, List.setIfInBounds_toArray, List.set_cons_zero, List.set_cons_succ]
              refine wpAnyH_ready (rs := [11]) (by kernel_rfl) (by simp) ?_
              refine AllReadyH.cons (by rw [List.getElem?_toArray]; rfl) (fun KX hKK => ?_) AllReadyH.nil
              first | rw [if_pos (by rfl)] | skip
              have PU := Lib.hid (Put_all PK.out PV1.out PB.out TM10.out.map.map (by have := LE.out; omega))
              go_wp2_with fail
              refine PU.out.mono ?_
              rintro e w12 hq12
              obtain ⟨rfl, E2, c2, top2, bl2, t12, v12, n12⟩ := TM10.out.put hq12
              have TM12 := Lib.hid t12
              have V12 := Lib.hid v12
              have N12 := Lib.hid n12
              clear hq12 t12 v12 n12 PU TM10
              go_wp2_with fail
              refine hKK.out _ _ (TM12.out.map.below) (fun h0 => ?_)
              clear hKK KX
              try simp only [Act.put, List.setIfInBounds_toArray, List.set_cons_zero, List.set_cons_succ]
              refine wpAnyH_done (by kernel_rfl) ?_ _
              clear h0
              go_wp2_with fail
              go_roundw
              case rel =>
                have hst := PN.out.step EW.out TM12.out.map.map.e PK.out V12.out
                rw [HV0.out] at hst
                refine ⟨i + 1, by go_num, by omega, E2, c2, top2, bl2, _, _, _, _, _, _, _, rfl, rfl, by have := N12.out; have := LE.out; omega, ⟨by simp [HLS.out.1], by simp [HLS.out.2.1], ?_, ?_⟩, TM12⟩
                · have := walkR_snoc (N := V) (HLS.out.1.trans HLS.out.2.1.symm) HLS.out.2.2.1 hst.1
                  rw [this, hst.2]
                · intro s hs
                  rcases List.mem_append.1 hs with hs | hs
                  · exact HLS.out.2.2.2 s hs
                  · rw [List.mem_singleton.1 hs]; exact OKS.out
              case measure => simp [intOf]; omega
          · as_aux_lemma =>
              have hnl : ¬ (i : Int) < (L2.length : Int) := by omega
              have HG : Hid (1 ∉ bl) := fun hin => by have h1 := hT2.out.map.bg _ hin; have h2 := HT.out.pos; omega
              have lRE := rootE_len E hT2.out.map.map.e
              have WR := HLS.out.2.2.1
              obtain ⟨RE, hRE⟩ : ∃ RE, rootE E = RE := ⟨_, rfl⟩
              rw [hRE] at lRE WR
              have HRE := Lib.hid hRE
              have rR := hT2.out.hr.row lR
              have hl12 : i ≤ 12 := by omega
              have WK := Lib.hid (pWalk_any (c := cs) (cn := cn) (HT.out.on hT2.out.map.below HT.out.pos) lR (OwP.rd (n := i) HLS.out.2.2.2 hT2.out.st).2 HLS.out.2.2.2 (by rw [HLS.out.1]; exact hl12) hT2.out.nw.rd.2.1 hT2.out.nw.ok (by rw [HLS.out.2.1]; omega))
              rw [WR, HLS.out.1, HLS.out.2.1] at WK
              clear hRE hl12 WR
              go_wp2_with fail
              refine WK.out.mono ?_
              rintro e w13 ⟨rfl, b13⟩
              have TM13 := Lib.hid (hT2.out.on b13)
              have th := (HashAt.new w13 zero32).there zero32_len
              have hcl := hc_len RE
              clear b13 WK rR
              go_upto_region 20 with fail
              clear th
              have b14 : Below w13.heap.size w13 ((w13.alloc (.cells (hc zero32).toArray 24)).setCells w13.heap.size 0 (hc RE)) := below_setCells' w13.heap.size (Nat.le_refl _) (hc RE) 0 ((Below.refl _ _).alloc (Nat.le_refl _) (.cells (hc zero32).toArray 24))
              have TM15 := Lib.hid (TM13.out.on b14)
              have H15 := Lib.hid ((HashAt.new w13 zero32).put zero32_len lRE)
              have HBN : Hid (w13.heap.size ∉ bl) := fun hi => by have := (TM13.out.map.noin w13.heap.size (by simp [hi])).2; omega
              clear b14 TM13
              generalize (w13.alloc (.cells (hc zero32).toArray 24)).setCells w13.heap.size 0 (hc RE) = w15 at *
              obtain ⟨hb, hhb⟩ : ∃ hb, w13.heap.size = hb := ⟨_, rfl⟩
              rw [hhb] at HBN H15 ⊢
              clear hhb
              have TM16 := Lib.hid (TM15.out.on (Below.refl _ _).drew)
              have H16 : HashAt w15.drew hb RE := H15.out.on (Below.refl _ _).drew
              have eRR : (RE == RE) = true := by simp
              go_wp2_with fail
              refine wp_region_held_drew (S := fun W => HashAt W hb RE) (by kernel_rfl) (H16) (fun h0 => ?_)
              clear TM15 H15 H16
              generalize w15.drew = w16 at *
              refine wpAnyH_take (i := 0) (v := ?_) (by rw [List.getElem?_toArray]; rfl) (by kernel_rfl) (by kernel_rfl) (by kernel_rfl) (by exact fun _ _ _ h => h) (Or.inl ⟨by rfl, ?_⟩) h0 ?_
              rotate_left
              · intro W hW
                go_simp
                all_goals with_reducible rfl
              try simp only [Act.put, List.setIfInBounds_toArray, List.set_cons_zero, List.set_cons_succ]
              refine wpAnyH_ready (rs := [1]) (by kernel_rfl) (by simp) ?_
              refine AllReadyH.cons (by rw [List.getElem?_toArray]; rfl) (fun KX hKK => ?_) AllReadyH.nil
              first | rw [if_pos (by rfl)] | skip
              go_wp2_with fail
              refine (num6_any 0 w16).mono ?_
              rintro e wz ⟨rfl, hwz⟩
              obtain rfl := hwz.symm
              clear hwz
              go_wp2_with fail
              refine hKK.out _ _ (h0) (fun h0 => ?_)
              clear hKK KX
              try simp only [Act.put, List.setIfInBounds_toArray, List.set_cons_zero, List.set_cons_succ]
              refine wpAnyH_take (i := 2) (v := ?_) (by rw [List.getElem?_toArray]; rfl) (by kernel_rfl) (by kernel_rfl) (by kernel_rfl) (by exact fun _ _ _ h => h) (Or.inl ⟨by rfl, ?_⟩) h0 ?_
              rotate_left
              · intro W hW
                go_simp
                all_goals with_reducible rfl
              try simp only [Act.put, List.setIfInBounds_toArray, List.set_cons_zero, List.set_cons_succ]
              refine wpAnyH_take (i := 3) (v := ?_) (by rw [List.getElem?_toArray]; rfl) (by kernel_rfl) (by kernel_rfl) (by kernel_rfl) (by exact fun _ _ _ h => h) (Or.inl ⟨by rfl, ?_⟩) h0 ?_
              rotate_left
              · intro W hW
                go_simp
                all_goals with_reducible rfl
              try simp only [Act.put, List.setIfInBounds_toArray, List.set_cons_zero, List.set_cons_succ]
              refine wpAnyH_take (i := 4) (v := ?_) (by rw [List.getElem?_toArray]; rfl) (by kernel_rfl) (by kernel_rfl) (by kernel_rfl) (by exact fun _ _ _ h => h) (Or.inl ⟨by rfl, ?_⟩) h0 ?_
              rotate_left
              · intro W hW
                have cc := hW.row lRE
                go_simp
                all_goals with_reducible rfl
              try simp only [Act.put, List.setIfInBounds_toArray, List.set_cons_zero, List.set_cons_succ]
              refine wpAnyH_take (i := 5) (v := ?_) (by rw [List.getElem?_toArray]; rfl) (by kernel_rfl) (by kernel_rfl) (by kernel_rfl) (by exact fun _ _ _ h => h) (Or.inl ⟨by rfl, ?_⟩) h0 ?_
              rotate_left
              · intro W hW
                go_simp
                all_goals with_reducible rfl
              try simp only [Act.put, List.setIfInBounds_toArray, List.set_cons_zero, List.set_cons_succ]
              refine wpAnyH_ready (rs := [6]) (by kernel_rfl) (by simp) ?_
              refine AllReadyH.cons (by rw [List.getElem?_toArray]; rfl) (fun KX hKK => ?_) AllReadyH.nil
              first | rw [if_pos (by rfl)] | skip
              have RO := Lib.hid (Root_all (HT.out.on TM16.out.map.below HT.out.pos) TM16.out.map.map HG.out)
              rw [HRE.out] at RO
              go_wp2_with fail
              refine RO.out.mono ?_
              rintro e w17 ⟨rfl, c17, m17⟩
              have TM17 := Lib.hid (TM16.out.root c17 m17)
              have H17 : HashAt w17 hb RE := h0.chg' c17 (HBN.out)
              clear c17 m17 RO TM16
              go_wp2_with fail
              refine hKK.out _ _ (H17) (fun h0 => ?_)
              clear hKK KX
              try simp only [Act.put, List.setIfInBounds_toArray, List.set_cons_zero, List.set_cons_succ]
              refine wpAnyH_take (i := 7) (v := ?_) (by rw [List.getElem?_toArray]; rfl) (by kernel_rfl) (by kernel_rfl) (by kernel_rfl) (by exact fun _ _ _ h => h) (Or.inl ⟨by rfl, ?_⟩) h0 ?_
              rotate_left
              · intro W hW
                go_simp
                all_goals with_reducible rfl
              try simp only [Act.put, List.setIfInBounds_toArray, List.set_cons_zero, List.set_cons_succ]
              refine wpAnyH_take (i := 8) (v := ?_) (by rw [List.getElem?_toArray]; rfl) (by kernel_rfl) (by kernel_rfl) (by kernel_rfl) (by exact fun _ _ _ h => h) (Or.inl ⟨by rfl, ?_⟩) h0 ?_
              rotate_left
              · intro W hW
                go_simp
                all_goals with_reducible rfl
              try simp only [Act.put, List.setIfInBounds_toArray, List.set_cons_zero, List.set_cons_succ]
              refine wpAnyH_take (i := 9) (v := ?_) (by rw [List.getElem?_toArray]; rfl) (by kernel_rfl) (by kernel_rfl) (by kernel_rfl) (by exact fun _ _ _ h => h) (Or.inl ⟨by rfl, ?_⟩) h0 ?_
              rotate_left
              · intro W hW
                go_simp
                all_goals with_reducible rfl
              try simp only [Act.put, List.setIfInBounds_toArray, List.set_cons_zero, List.set_cons_succ]
              refine wpAnyH_done (by kernel_rfl) ?_ _
              clear h0
              go_wp2_with fail
              go_ret
              exact ⟨rfl, TM17.out.map.below⟩

end Go.Proofs.YtjlodnecdngdfaaDoor
namespace Go.Proofs.YtjlodnecdngdfaaDoor
open Go.RowKit
set_option maxRecDepth 100000

/-- Ahead of each round. -/
structure NlS (w wr : World) (A B : List Int) (v : Value) : Prop where
  below : Below w.heap.size w wr
  ha : HashAt wr w.heap.size A
  hb : HashAt wr (w.heap.size + 1) B
  nm : Nm wr v
theorem NlS.on {w W W' : World} {A B : List Int} {v : Value} (h : NlS w W A B v) (hx : Below W.heap.size W W') : NlS w W' A B v := ⟨h.below.trans (hx.mono h.below.size), h.ha.on hx, h.hb.on hx, h.nm.on hx⟩

set_option maxHeartbeats 8000000 in
theorem Nil_walk {w : World} {A B : List Int} (hA : A.length = 32) (hB : B.length = 32) (hT : Tbl w) :
    Calls Tryd.prog 4 #[.agg (hc A).toArray, .agg (hc B).toArray] w fun e w' => e = .returned (.bool true) ∧ Below w.heap.size w w' := by
  have HB := HashAt.new (w.alloc (.cells (hc A).toArray 24)) B
  simp only [World.size_alloc] at HB
  have H0 : Hid (NlS w ((w.alloc (.cells (hc A).toArray 24)).alloc (.cells (hc B).toArray 24)) A B (.pointer none)) :=
    ⟨((Below.refl w.heap.size w).alloc (Nat.le_refl _) (.cells (hc A).toArray 24)).alloc (by simp) (.cells (hc B).toArray 24), (HashAt.new w A).alloc (.cells (hc B).toArray 24), HB, .inl rfl⟩
  have HT := Lib.hid hT
  have hlA := hc_len A
  have hlB := hc_len B
  have z32 := zero32_len
  have ezz : (zero32 == zero32) = true := beq_self_eq_true _
  clear HB hT
  go_enter Tryd.func4, Tryd.ntmps4
  go_wp2_with fail
  go_loopw [5, 6] (fun mv iv wr => ∃ (i : Nat) (u : Value), iv = .int .i64 (i : Int) ∧ u = mv ∧ i ≤ 2 ∧ Hid (NlS w wr A B u)) (fun _ iv _ => 2 - (intOf iv).toNat)
  case atStart => exact ⟨0, _, rfl, rfl, by omega, H0⟩
  case round =>
    clear H0
    obtain ⟨i, u, rfl, rfl, hi, hS⟩ := hrel
    by_cases hlt : i < 2
    · have ra := hS.out.ha.row hA
      go_wp2_with fail
      refine (Prove_N hS.out.nm).mono ?_
      rintro e w2 ⟨rfl, hb2⟩
      have S2 := hS.out.on hb2
      have P2 := PfB.new (t := 48) w2 zero32 (.slice none 0 0)
      have th := P2.there zero32_len
      have P3 := Lib.hid (P2.put zero32_len zero32_len (.slice none 0 0))
      have B3 : Below w2.heap.size w2 ((w2.alloc (.cells (pfRow zero32 (.slice none 0 0)).toArray 48)).setCells w2.heap.size 0 (pfRow zero32 (.slice none 0 0))) := below_setCells' _ (Nat.le_refl _) _ _ ((Below.refl _ _).alloc (Nat.le_refl _) _)
      have S3 := Lib.hid (S2.on B3)
      have lp := pfRow_len zero32_len (.slice none 0 0)
      clear hb2 S2 P2 B3 hS ra
      go_wp2_with fail
      clear th
      obtain ⟨q, hq⟩ : ∃ q, q = w2.heap.size := ⟨_, rfl⟩
      rw [← hq] at P3 S3 ⊢
      generalize (w2.alloc (.cells (pfRow zero32 (.slice none 0 0)).toArray 48)).setCells q 0 (pfRow zero32 (.slice none 0 0)) = w3 at *
      clear hq
      refine wp_region_held_drew (S := fun W => NlS w W A B u ∧ PfB 48 W q zero32 (.slice none 0 0)) (by kernel_rfl) (⟨S3.out.on ((Below.refl _ _).drew), P3.out.on ((Below.refl _ _).drew)⟩) (fun h0 => ?_)
      refine wpAnyH_take (i := 0) (v := ?_) (by rw [List.getElem?_toArray]; rfl) (by kernel_rfl) (by kernel_rfl) (by kernel_rfl) (by exact fun _ _ _ h => h) (Or.inl ⟨by rfl, ?_⟩) h0 ?_
      rotate_left
      · intro W hW
        go_simp
        all_goals with_reducible rfl
      try simp only [Act.put, List.setIfInBounds_toArray, List.set_cons_zero, List.set_cons_succ]
      refine wpAnyH_take (i := 1) (v := ?_) (by rw [List.getElem?_toArray]; rfl) (by kernel_rfl) (by kernel_rfl) (by kernel_rfl) (by exact fun _ _ _ h => h) (Or.inl ⟨by rfl, ?_⟩) h0 ?_
      rotate_left
      · intro W hW
        have ca := hW.1.ha.row hA
        go_simp
        all_goals with_reducible rfl
      try simp only [Act.put, List.setIfInBounds_toArray, List.set_cons_zero, List.set_cons_succ]
      refine wpAnyH_take (i := 2) (v := ?_) (by rw [List.getElem?_toArray]; rfl) (by kernel_rfl) (by kernel_rfl) (by kernel_rfl) (by exact fun _ _ _ h => h) (Or.inl ⟨by rfl, ?_⟩) h0 ?_
      rotate_left
      · intro W hW
        have cb := hW.1.hb.row hB
        go_simp
        all_goals with_reducible rfl
      try simp only [Act.put, List.setIfInBounds_toArray, List.set_cons_zero, List.set_cons_succ]
      refine wpAnyH_ready (rs := [3]) (by kernel_rfl) (by simp) ?_
      refine AllReadyH.cons (by rw [List.getElem?_toArray]; rfl) (fun K hK => ?_) AllReadyH.nil
      rw [if_pos (by rfl)]
      go_wp2_with fail
      refine (Put_N h0.1.nm).mono ?_
      rintro e w30 ⟨rfl, hb30⟩
      go_wp2_with fail
      refine hK.out _ _ (⟨h0.1.on hb30, h0.2.on hb30⟩) (fun h30x => ?_)
      clear hK K
      try simp only [Act.put, List.setIfInBounds_toArray, List.set_cons_zero, List.set_cons_succ]
      refine wpAnyH_ready (rs := [4]) (by kernel_rfl) (by simp) ?_
      refine AllReadyH.cons (by rw [List.getElem?_toArray]; rfl) (fun K hK => ?_) AllReadyH.nil
      rw [if_pos (by rfl)]
      go_wp2_with fail
      refine (num5_any 1 _).mono ?_
      rintro e wx ⟨rfl, hwx⟩
      obtain rfl := hwx.symm
      clear hwx
      go_wp2_with fail
      refine hK.out _ _ (h30x) (fun h4x => ?_)
      clear hK K
      try simp only [Act.put, List.setIfInBounds_toArray, List.set_cons_zero, List.set_cons_succ]
      refine wpAnyH_take (i := 5) (v := ?_) (by rw [List.getElem?_toArray]; rfl) (by kernel_rfl) (by kernel_rfl) (by kernel_rfl) (by exact fun _ _ _ h => h) (Or.inl ⟨by rfl, ?_⟩) h4x ?_
      rotate_left
      · intro W hW
        go_simp
        all_goals with_reducible rfl
      try simp only [Act.put, List.setIfInBounds_toArray, List.set_cons_zero, List.set_cons_succ]
      refine wpAnyH_take (i := 6) (v := ?_) (by rw [List.getElem?_toArray]; rfl) (by kernel_rfl) (by kernel_rfl) (by kernel_rfl) (by exact fun _ _ _ h => h) (Or.inl ⟨by rfl, ?_⟩) h4x ?_
      rotate_left
      · intro W hW
        go_simp
        all_goals with_reducible rfl
      try simp only [Act.put, List.setIfInBounds_toArray, List.set_cons_zero, List.set_cons_succ]
      refine wpAnyH_take (i := 7) (v := ?_) (by rw [List.getElem?_toArray]; rfl) (by kernel_rfl) (by kernel_rfl) (by kernel_rfl) (by exact fun _ _ _ h => h) (Or.inl ⟨by rfl, ?_⟩) h4x ?_
      rotate_left
      · intro W hW
        go_simp
        all_goals with_reducible rfl
      try simp only [Act.put, List.setIfInBounds_toArray, List.set_cons_zero, List.set_cons_succ]
      refine wpAnyH_take (i := 8) (v := ?_) (by rw [List.getElem?_toArray]; rfl) (by kernel_rfl) (by kernel_rfl) (by kernel_rfl) (by exact fun _ _ _ h => h) (Or.inl ⟨by rfl, ?_⟩) h4x ?_
      rotate_left
      · intro W hW
        have ca := hW.1.ha.row hA
        go_simp
        all_goals with_reducible rfl
      try simp only [Act.put, List.setIfInBounds_toArray, List.set_cons_zero, List.set_cons_succ]
      refine wpAnyH_take (i := 10) (v := ?_) (by rw [List.getElem?_toArray]; rfl) (by kernel_rfl) (by kernel_rfl) (by kernel_rfl) (by exact fun _ _ _ h => h) (Or.inl ⟨by rfl, ?_⟩) h4x ?_
      rotate_left
      · intro W hW
        go_simp
        all_goals with_reducible rfl
      try simp only [Act.put, List.setIfInBounds_toArray, List.set_cons_zero, List.set_cons_succ]
      refine wpAnyH_ready (rs := [9]) (by kernel_rfl) (by simp) ?_
      refine AllReadyH.cons (by rw [List.getElem?_toArray]; rfl) (fun K hK => ?_) AllReadyH.nil
      rw [if_pos (by rfl)]
      go_wp2_with fail
      refine (Get_N h4x.1.nm).mono ?_
      rintro e w9 ⟨rfl, hb9⟩
      go_wp2_with fail
      refine hK.out _ _ (⟨h4x.1.on hb9, h4x.2.on hb9⟩) (fun h9x => ?_)
      clear hK K
      try simp only [Act.put, List.setIfInBounds_toArray, List.set_cons_zero, List.set_cons_succ]
      refine wpAnyH_take (i := 11) (v := ?_) (by rw [List.getElem?_toArray]; rfl) (by kernel_rfl) (by kernel_rfl) (by kernel_rfl) (by exact fun _ _ _ h => h) (Or.inl ⟨by rfl, ?_⟩) h9x ?_
      rotate_left
      · intro W hW
        go_simp
        all_goals with_reducible rfl
      try simp only [Act.put, List.setIfInBounds_toArray, List.set_cons_zero, List.set_cons_succ]
      refine wpAnyH_take (i := 12) (v := ?_) (by rw [List.getElem?_toArray]; rfl) (by kernel_rfl) (by kernel_rfl) (by kernel_rfl) (by exact fun _ _ _ h => h) (Or.inl ⟨by rfl, ?_⟩) h9x ?_
      rotate_left
      · intro W hW
        go_simp
        all_goals with_reducible rfl
      try simp only [Act.put, List.setIfInBounds_toArray, List.set_cons_zero, List.set_cons_succ]
      refine wpAnyH_take (i := 13) (v := ?_) (by rw [List.getElem?_toArray]; rfl) (by kernel_rfl) (by kernel_rfl) (by kernel_rfl) (by exact fun _ _ _ h => h) (Or.inl ⟨by rfl, ?_⟩) h9x ?_
      rotate_left
      · intro W hW
        go_simp
        all_goals with_reducible rfl
      try simp only [Act.put, List.setIfInBounds_toArray, List.set_cons_zero, List.set_cons_succ]
      refine wpAnyH_take (i := 14) (v := ?_) (by rw [List.getElem?_toArray]; rfl) (by kernel_rfl) (by kernel_rfl) (by kernel_rfl) (by exact fun _ _ _ h => h) (Or.inl ⟨by rfl, ?_⟩) h9x ?_
      rotate_left
      · intro W hW
        go_simp
        all_goals with_reducible rfl
      try simp only [Act.put, List.setIfInBounds_toArray, List.set_cons_zero, List.set_cons_succ]
      refine wpAnyH_take (i := 16) (v := ?_) (by rw [List.getElem?_toArray]; rfl) (by kernel_rfl) (by kernel_rfl) (by kernel_rfl) (by exact fun _ _ _ h => h) (Or.inl ⟨by rfl, ?_⟩) h9x ?_
      rotate_left
      · intro W hW
        go_simp
        all_goals with_reducible rfl
      try simp only [Act.put, List.setIfInBounds_toArray, List.set_cons_zero, List.set_cons_succ]
      refine wpAnyH_ready (rs := [15]) (by kernel_rfl) (by simp) ?_
      refine AllReadyH.cons (by rw [List.getElem?_toArray]; rfl) (fun K hK => ?_) AllReadyH.nil
      rw [if_pos (by rfl)]
      go_wp2_with fail
      refine (Root_N h9x.1.nm).mono ?_
      rintro e w15 ⟨rfl, hb15⟩
      go_wp2_with fail
      refine hK.out _ _ (⟨h9x.1.on hb15, h9x.2.on hb15⟩) (fun h15x => ?_)
      clear hK K
      try simp only [Act.put, List.setIfInBounds_toArray, List.set_cons_zero, List.set_cons_succ]
      refine wpAnyH_take (i := 17) (v := ?_) (by rw [List.getElem?_toArray]; rfl) (by kernel_rfl) (by kernel_rfl) (by kernel_rfl) (by exact fun _ _ _ h => h) (Or.inl ⟨by rfl, ?_⟩) h15x ?_
      rotate_left
      · intro W hW
        go_simp
        all_goals with_reducible rfl
      try simp only [Act.put, List.setIfInBounds_toArray, List.set_cons_zero, List.set_cons_succ]
      refine wpAnyH_take (i := 18) (v := ?_) (by rw [List.getElem?_toArray]; rfl) (by kernel_rfl) (by kernel_rfl) (by kernel_rfl) (by exact fun _ _ _ h => h) (Or.inl ⟨by rfl, ?_⟩) h15x ?_
      rotate_left
      · intro W hW
        go_simp
        all_goals with_reducible rfl
      try simp only [Act.put, List.setIfInBounds_toArray, List.set_cons_zero, List.set_cons_succ]
      refine wpAnyH_take (i := 19) (v := ?_) (by rw [List.getElem?_toArray]; rfl) (by kernel_rfl) (by kernel_rfl) (by kernel_rfl) (by exact fun _ _ _ h => h) (Or.inl ⟨by rfl, ?_⟩) h15x ?_
      rotate_left
      · intro W hW
        go_simp
        all_goals with_reducible rfl
      try simp only [Act.put, List.setIfInBounds_toArray, List.set_cons_zero, List.set_cons_succ]
      refine wpAnyH_take (i := 20) (v := ?_) (by rw [List.getElem?_toArray]; rfl) (by kernel_rfl) (by kernel_rfl) (by kernel_rfl) (by exact fun _ _ _ h => h) (Or.inl ⟨by rfl, ?_⟩) h15x ?_
      rotate_left
      · intro W hW
        go_simp
        all_goals with_reducible rfl
      try simp only [Act.put, List.setIfInBounds_toArray, List.set_cons_zero, List.set_cons_succ]
      refine wpAnyH_take (i := 23) (v := ?_) (by rw [List.getElem?_toArray]; rfl) (by kernel_rfl) (by kernel_rfl) (by kernel_rfl) (by exact fun _ _ _ h => h) (Or.inl ⟨by rfl, ?_⟩) h15x ?_
      rotate_left
      · intro W hW
        go_simp
        all_goals with_reducible rfl
      try simp only [Act.put, List.setIfInBounds_toArray, List.set_cons_zero, List.set_cons_succ]
      refine wpAnyH_take (i := 24) (v := ?_) (by rw [List.getElem?_toArray]; rfl) (by kernel_rfl) (by kernel_rfl) (by kernel_rfl) (by exact fun _ _ _ h => h) (Or.inl ⟨by rfl, ?_⟩) h15x ?_
      rotate_left
      · intro W hW
        have cs := hW.2.sides zero32_len
        go_simp
        all_goals with_reducible rfl
      try simp only [Act.put, List.setIfInBounds_toArray, List.set_cons_zero, List.set_cons_succ]
      refine wpAnyH_take (i := 25) (v := ?_) (by rw [List.getElem?_toArray]; rfl) (by kernel_rfl) (by kernel_rfl) (by kernel_rfl) (by exact fun _ _ _ h => h) (Or.inl ⟨by rfl, ?_⟩) h15x ?_
      rotate_left
      · intro W hW
        go_simp
        all_goals with_reducible rfl
      try simp only [Act.put, List.setIfInBounds_toArray, List.set_cons_zero, List.set_cons_succ]
      refine wpAnyH_ready (rs := [21]) (by kernel_rfl) (by simp) ?_
      refine AllReadyH.cons (by rw [List.getElem?_toArray]; rfl) (fun K hK => ?_) AllReadyH.nil
      rw [if_pos (by rfl)]
      go_wp2_with fail
      refine (Pairs_N h15x.1.nm).mono ?_
      rintro e wx ⟨rfl, hwx⟩
      obtain rfl := hwx.symm
      clear hwx
      go_wp2_with fail
      refine hK.out _ _ (h15x) (fun h21x => ?_)
      clear hK K
      try simp only [Act.put, List.setIfInBounds_toArray, List.set_cons_zero, List.set_cons_succ]
      refine wpAnyH_take (i := 22) (v := ?_) (by rw [List.getElem?_toArray]; rfl) (by kernel_rfl) (by kernel_rfl) (by kernel_rfl) (by exact fun _ _ _ h => h) (Or.inl ⟨by rfl, ?_⟩) h21x ?_
      rotate_left
      · intro W hW
        go_simp
        all_goals with_reducible rfl
      try simp only [Act.put, List.setIfInBounds_toArray, List.set_cons_zero, List.set_cons_succ]
      refine wpAnyH_take (i := 26) (v := ?_) (by rw [List.getElem?_toArray]; rfl) (by kernel_rfl) (by kernel_rfl) (by kernel_rfl) (by exact fun _ _ _ h => h) (Or.inl ⟨by rfl, ?_⟩) h21x ?_
      rotate_left
      · intro W hW
        go_simp
        all_goals with_reducible rfl
      try simp only [Act.put, List.setIfInBounds_toArray, List.set_cons_zero, List.set_cons_succ]
      refine wpAnyH_take (i := 27) (v := ?_) (by rw [List.getElem?_toArray]; rfl) (by kernel_rfl) (by kernel_rfl) (by kernel_rfl) (by exact fun _ _ _ h => h) (Or.inl ⟨by rfl, ?_⟩) h21x ?_
      rotate_left
      · intro W hW
        go_simp
        all_goals with_reducible rfl
      try simp only [Act.put, List.setIfInBounds_toArray, List.set_cons_zero, List.set_cons_succ]
      refine wpAnyH_take (i := 28) (v := ?_) (by rw [List.getElem?_toArray]; rfl) (by kernel_rfl) (by kernel_rfl) (by kernel_rfl) (by exact fun _ _ _ h => h) (Or.inl ⟨by rfl, ?_⟩) h21x ?_
      rotate_left
      · intro W hW
        go_simp
        all_goals with_reducible rfl
      try simp only [Act.put, List.setIfInBounds_toArray, List.set_cons_zero, List.set_cons_succ]
      refine wpAnyH_take (i := 29) (v := ?_) (by rw [List.getElem?_toArray]; rfl) (by kernel_rfl) (by kernel_rfl) (by kernel_rfl) (by exact fun _ _ _ h => h) (Or.inl ⟨by rfl, ?_⟩) h21x ?_
      rotate_left
      · intro W hW
        go_simp
        all_goals with_reducible rfl
      try simp only [Act.put, List.setIfInBounds_toArray, List.set_cons_zero, List.set_cons_succ]
      refine wpAnyH_take (i := 30) (v := ?_) (by rw [List.getElem?_toArray]; rfl) (by kernel_rfl) (by kernel_rfl) (by kernel_rfl) (by exact fun _ _ _ h => h) (Or.inl ⟨by rfl, ?_⟩) h21x ?_
      rotate_left
      · intro W hW
        go_simp
        all_goals with_reducible rfl
      try simp only [Act.put, List.setIfInBounds_toArray, List.set_cons_zero, List.set_cons_succ]
      refine wpAnyH_take (i := 31) (v := ?_) (by rw [List.getElem?_toArray]; rfl) (by kernel_rfl) (by kernel_rfl) (by kernel_rfl) (by exact fun _ _ _ h => h) (Or.inl ⟨by rfl, ?_⟩) h21x ?_
      rotate_left
      · intro W hW
        have cm := hW.2.mask zero32_len
        go_simp
        all_goals with_reducible rfl
      try simp only [Act.put, List.setIfInBounds_toArray, List.set_cons_zero, List.set_cons_succ]
      refine wpAnyH_take (i := 32) (v := ?_) (by rw [List.getElem?_toArray]; rfl) (by kernel_rfl) (by kernel_rfl) (by kernel_rfl) (by exact fun _ _ _ h => h) (Or.inl ⟨by rfl, ?_⟩) h21x ?_
      rotate_left
      · intro W hW
        go_simp
        all_goals with_reducible rfl
      try simp only [Act.put, List.setIfInBounds_toArray, List.set_cons_zero, List.set_cons_succ]
      refine wpAnyH_take (i := 33) (v := ?_) (by rw [List.getElem?_toArray]; rfl) (by kernel_rfl) (by kernel_rfl) (by kernel_rfl) (by exact fun _ _ _ h => h) (Or.inl ⟨by rfl, ?_⟩) h21x ?_
      rotate_left
      · intro W hW
        go_simp
        all_goals with_reducible rfl
      try simp only [Act.put, List.setIfInBounds_toArray, List.set_cons_zero, List.set_cons_succ]
      refine wpAnyH_take (i := 34) (v := ?_) (by rw [List.getElem?_toArray]; rfl) (by kernel_rfl) (by kernel_rfl) (by kernel_rfl) (by exact fun _ _ _ h => h) (Or.inl ⟨by rfl, ?_⟩) h21x ?_
      rotate_left
      · intro W hW
        go_simp
        all_goals with_reducible rfl
      try simp only [Act.put, List.setIfInBounds_toArray, List.set_cons_zero, List.set_cons_succ]
      refine wpAnyH_done (by kernel_rfl) ?_ _
      have S8 := Lib.hid h21x.1
      clear h21x P3 S3
      go_wp2_with fail
      go_roundw
      case rel => exact ⟨i + 1, _, by go_num, rfl, by omega, ⟨(S8.out.on ((Below.refl _ _).alloc (Nat.le_refl _) _)).below, (S8.out.on ((Below.refl _ _).alloc (Nat.le_refl _) _)).ha, (S8.out.on ((Below.refl _ _).alloc (Nat.le_refl _) _)).hb, .inr ⟨_, rfl, (Joins.cell_of_block (heap_alloc_new _ _) 0).trans rfl⟩⟩⟩
      case measure => simp [intOf] <;> omega
    · obtain rfl : i = 2 := by omega
      have S9 := hS
      clear hS
      go_wp2_with fail
      refine (knows5_any (HT.out.on S9.out.below HT.out.pos)).mono ?_
      rintro e w9 ⟨rfl, hb9⟩
      have BE := Lib.hid (S9.out.below.trans (hb9.mono S9.out.below.size))
      clear hb9
      go_wp2_with fail
      go_ret
      exact ⟨rfl, BE.out⟩
end Go.Proofs.YtjlodnecdngdfaaDoor
