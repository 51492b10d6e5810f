/-
  The walk of basculelaw05.SmtSame.
-/
import Derived.Test.YtlncolpcehjdeaaDoorSo15
namespace Go.Proofs.YtlncolpcehjdeaaDoor
open Go.RowKit
set_option maxRecDepth 100000

theorem getD_memS {α : Type} {L : List α} {d : α} {i : Nat} (hi : i < L.length) : L.getD i d ∈ L := by
  have e : L.getD i d = L[i] := by simp [List.getD, hi]
  rw [e]; exact List.getElem_mem hi
set_option maxHeartbeats 16000000 in
theorem Same_walk {w : World} {q : Option Addr} {cp : Nat} {L : List (List Int × List Int)} (hq : RwF 64 pr0 PPr w (fun g => g < w.heap.size) q L) (ok : ∀ x ∈ L, PrOk x) (hl : L.length ≤ 3000000000000) (hT : Tbl w) :
    Calls Tryd.prog 4 #[.slice q L.length cp] w fun e w' => e = .returned (.bool true) ∧ Below w.heap.size w w' := by
  have B0 := Lib.hid (Below.refl w.heap.size w)
  have HQ := Lib.hid hq
  have HT := Lib.hid hT
  have HOK := Lib.hid ok
  clear hq hT ok
  go_enter Tryd.func4, Tryd.ntmps4
  go_upto_region 1 with fail
  obtain ⟨w1, hw1⟩ : ∃ x, w = x := ⟨_, rfl⟩
  rw [hw1] at HQ HT ⊢
  have HW1 := Lib.hid hw1
  clear hw1 B0
  by_cases h12 : L.length > 12
  · have d1 : decide ((L.length : Int) > 12) = true := decide_eq_true (by omega)
    have d2 : (12 : Int) < (L.length : Int) := by omega
    go_wp2_with fail
    refine (knows5_any HT.out).mono ?_
    rintro e w2 ⟨rfl, hb2⟩
    go_wp2_with fail
    go_ret
    exact ⟨rfl, by have e := HW1.out; rw [e]; exact hb2⟩
  have d1 : decide ((L.length : Int) > 12) = false := decide_eq_false (by omega)
  have d2 : ¬ (12 : Int) < (L.length : Int) := by omega
  have d3 : L.length ≤ 12 := by omega
  clear h12
  go_wp2_with fail
  clear d1 d2
  refine New_nil.mono ?_
  rintro e w2 ⟨p, m, rfl, hp, hm, hb2, hms⟩
  have M2 := Lib.hid (MpW_new hb2 hp hm hms)
  clear hp hm hb2 hms
  go_wp2_with fail
  refine (num5_any 0 w2).mono ?_
  rintro e wz ⟨rfl, hwz⟩
  obtain rfl := hwz.symm
  clear hwz
  go_wp2_with fail
  refine (knows5_any (HT.out.on M2.out.below HT.out.pos)).mono ?_
  rintro e w3 ⟨rfl, hb3⟩
  have M3 := Lib.hid (M2.out.on hb3)
  clear hb3 M2
  go_wp2_with fail
  go_loopw [5] (fun iv wr => ∃ i : Nat, iv = .int .i64 (i : Int) ∧ i ≤ L.length ∧ ∃ E c top bl, E.length ≤ i ∧ Hid (MpW w1 wr p m E c top bl)) (fun iv _ => L.length - (intOf iv).toNat)
  case atStart => exact ⟨0, rfl, by omega, [], 0, none, [], by simp, M3⟩
  case round =>
    clear M3
    obtain ⟨i, rfl, hil, E, c, top, bl, hle, hM⟩ := hrel
    by_cases hlt : i < L.length
    · have hltI : (i : Int) < (L.length : Int) := by omega
      obtain ⟨b, off, r, rfl, -, hr, hrow, rfl⟩ := (HQ.out.on PPr_ok (by decide) hM.out.below).get (d := pr0) hlt
      have OKX := Lib.hid (HOK.out _ (getD_memS (d := pr0) hlt))
      have hh := rowOf_half OKX.out.k.len OKX.out.l hrow
      have R9 : Hid (∀ W, Below w1.heap.size w1 W → rowOf W b (off + i * 64) 32 = hc (L.getD i pr0).1 ∧ rowOf W b (off + i * 64 + 32) 32 = hc (L.getD i pr0).2) := by
        intro W hW
        obtain ⟨b2, off2, r2, e2, -, hr2, hrow2, e3⟩ := (HQ.out.on PPr_ok (by decide) hW).get (d := pr0) hlt
        simp only [Option.some.injEq, Addr.mk.injEq] at e2
        obtain ⟨rfl, rfl, -⟩ := e2
        exact rowOf_half OKX.out.k.len OKX.out.l (hrow2.trans e3)
      obtain ⟨Ky, hK0⟩ : ∃ Ky, (L.getD i pr0).1 = Ky := ⟨_, rfl⟩
      obtain ⟨V, hV0⟩ : ∃ V, (L.getD i pr0).2 = V := ⟨_, rfl⟩
      rw [hK0, hV0] at R9 hh
      have lK : Ky.length = 32 := by rw [← hK0]; exact OKX.out.k.len
      have lV : V.length = 32 := by rw [← hV0]; exact OKX.out.l
      have hlK := hc_len Ky
      have hlV := hc_len V
      have PK : Hid (KyOk Ky) := by show KyOk Ky; rw [← hK0]; exact OKX.out.k
      have PV : Hid (V.length = 32) := lV
      have PB : Hid (Bytes V) := by show Bytes V; rw [← hV0]; exact OKX.out.b
      have g0 : (0 : Int) ≤ (i : Int) := by omega
      have LE := Lib.hid (show E.length ≤ 12 ∧ E.length ≤ i from ⟨by omega, hle⟩)
      have M4 := Lib.hid (hM.out.on ((Below.refl _ _).drew))
      have hS4 : rowOf wr.drew b (off + i * 64) 32 = hc Ky ∧ rowOf wr.drew b (off + i * 64 + 32) 32 = hc V := R9.out _ (hM.out.below.drew)
      clear hh hrow hr hK0 hV0 OKX
      go_wp2_with fail
      refine wp_region_held_drew (S := fun W => rowOf W b (off + i * 64) 32 = hc Ky ∧ rowOf W b (off + i * 64 + 32) 32 = hc V) (by kernel_rfl) (hS4) (fun h0 => ?_)
      generalize wr.drew = w4 at *
      refine wpAnyH_take (i := 0) (v := ?_) (by rw [List.getElem?_toArray]; rfl) (by kernel_rfl) (by kernel_rfl) (by kernel_rfl) (by exact fun _ _ _ h => h) (Or.inl ⟨by rfl, ?_⟩) h0 ?_
      rotate_left
      · intro W hW
        go_simp
        all_goals with_reducible rfl
      try simp only [Act.put, List.setIfInBounds_toArray, List.set_cons_zero, List.set_cons_succ]
      refine wpAnyH_take (i := 1) (v := ?_) (by rw [List.getElem?_toArray]; rfl) (by kernel_rfl) (by kernel_rfl) (by kernel_rfl) (by exact fun _ _ _ h => h) (Or.inl ⟨by rfl, ?_⟩) h0 ?_
      rotate_left
      · intro W hW
        go_simp
        all_goals with_reducible rfl
      try simp only [Act.put, List.setIfInBounds_toArray, List.set_cons_zero, List.set_cons_succ]
      refine wpAnyH_take (i := 2) (v := ?_) (by rw [List.getElem?_toArray]; rfl) (by kernel_rfl) (by kernel_rfl) (by kernel_rfl) (by exact fun _ _ _ h => h) (Or.inl ⟨by rfl, ?_⟩) h0 ?_
      rotate_left
      · intro W hW
        go_simp
        all_goals with_reducible rfl
      try simp only [Act.put, List.setIfInBounds_toArray, List.set_cons_zero, List.set_cons_succ]
      refine wpAnyH_take (i := 3) (v := ?_) (by rw [List.getElem?_toArray]; rfl) (by kernel_rfl) (by kernel_rfl) (by kernel_rfl) (by exact fun _ _ _ h => h) (Or.inl ⟨by rfl, ?_⟩) h0 ?_
      rotate_left
      · intro W hW
        go_simp
        all_goals with_reducible rfl
      try simp only [Act.put, List.setIfInBounds_toArray, List.set_cons_zero, List.set_cons_succ]
      refine wpAnyH_take (i := 4) (v := ?_) (by rw [List.getElem?_toArray]; rfl) (by kernel_rfl) (by kernel_rfl) (by kernel_rfl) (by exact fun _ _ _ h => h) (Or.inl ⟨by rfl, ?_⟩) h0 ?_
      rotate_left
      · intro W hW
        go_simp
        all_goals with_reducible rfl
      try simp only [Act.put, List.setIfInBounds_toArray, List.set_cons_zero, List.set_cons_succ]
      refine wpAnyH_take (i := 5) (v := ?_) (by rw [List.getElem?_toArray]; rfl) (by kernel_rfl) (by kernel_rfl) (by kernel_rfl) (by exact fun _ _ _ h => h) (Or.inl ⟨by rfl, ?_⟩) h0 ?_
      rotate_left
      · intro W hW
        have c1 := hW.1
        go_simp
        all_goals with_reducible rfl
      try simp only [Act.put, List.setIfInBounds_toArray, List.set_cons_zero, List.set_cons_succ]
      refine wpAnyH_take (i := 6) (v := ?_) (by rw [List.getElem?_toArray]; rfl) (by kernel_rfl) (by kernel_rfl) (by kernel_rfl) (by exact fun _ _ _ h => h) (Or.inl ⟨by rfl, ?_⟩) h0 ?_
      rotate_left
      · intro W hW
        go_simp
        all_goals with_reducible rfl
      try simp only [Act.put, List.setIfInBounds_toArray, List.set_cons_zero, List.set_cons_succ]
      refine wpAnyH_take (i := 7) (v := ?_) (by rw [List.getElem?_toArray]; rfl) (by kernel_rfl) (by kernel_rfl) (by kernel_rfl) (by exact fun _ _ _ h => h) (Or.inl ⟨by rfl, ?_⟩) h0 ?_
      rotate_left
      · intro W hW
        go_simp
        all_goals with_reducible rfl
      try simp only [Act.put, List.setIfInBounds_toArray, List.set_cons_zero, List.set_cons_succ]
      refine wpAnyH_take (i := 8) (v := ?_) (by rw [List.getElem?_toArray]; rfl) (by kernel_rfl) (by kernel_rfl) (by kernel_rfl) (by exact fun _ _ _ h => h) (Or.inl ⟨by rfl, ?_⟩) h0 ?_
      rotate_left
      · intro W hW
        go_simp
        all_goals with_reducible rfl
      try simp only [Act.put, List.setIfInBounds_toArray, List.set_cons_zero, List.set_cons_succ]
      refine wpAnyH_take (i := 9) (v := ?_) (by rw [List.getElem?_toArray]; rfl) (by kernel_rfl) (by kernel_rfl) (by kernel_rfl) (by exact fun _ _ _ h => h) (Or.inl ⟨by rfl, ?_⟩) h0 ?_
      rotate_left
      · intro W hW
        go_simp
        all_goals with_reducible rfl
      try simp only [Act.put, List.setIfInBounds_toArray, List.set_cons_zero, List.set_cons_succ]
      refine wpAnyH_take (i := 10) (v := ?_) (by rw [List.getElem?_toArray]; rfl) (by kernel_rfl) (by kernel_rfl) (by kernel_rfl) (by exact fun _ _ _ h => h) (Or.inl ⟨by rfl, ?_⟩) h0 ?_
      rotate_left
      · intro W hW
        have c2 := hW.2
        go_simp
        all_goals with_reducible rfl
      try simp only [Act.put, List.setIfInBounds_toArray, List.set_cons_zero, List.set_cons_succ]
      refine wpAnyH_ready (rs := [11]) (by kernel_rfl) (by simp) ?_
      refine AllReadyH.cons (by rw [List.getElem?_toArray]; rfl) (fun K hK => ?_) AllReadyH.nil
      rw [if_pos (by rfl)]
      go_wp2_with fail
      refine (Put_all PK.out PV.out PB.out M4.out.map (by have := LE.out; omega)).mono ?_
      rintro e w5 hq5
      obtain ⟨rfl, E', c', top', bl', m5, v5, n5, n5'⟩ := M4.out.put hq5
      have hS : rowOf w5 b (off + i * 64) 32 = hc Ky ∧ rowOf w5 b (off + i * 64 + 32) 32 = hc V := R9.out w5 m5.below
      have M5 := Lib.hid m5
      have NE := Lib.hid n5
      clear hq5 m5 n5 n5' v5 M4
      go_wp2_with fail
      refine hK.out _ _ hS (fun h0 => ?_)
      clear hK K hS
      try simp only [Act.put, List.setIfInBounds_toArray, List.set_cons_zero, List.set_cons_succ]
      refine wpAnyH_done (by kernel_rfl) ?_ _
      clear h0
      go_wp2_with fail
      go_roundw
      case rel => exact ⟨i + 1, by go_num, by omega, E', c', top', bl', by have := NE.out; have := LE.out; omega, M5⟩
      case measure => simp [intOf]; omega
    · have hnl : ¬ (i : Int) < (L.length : Int) := by omega
      have LE := Lib.hid (show E.length ≤ 12 by omega)
      have LE2 := Lib.hid (show E.length ≤ L.length by omega)
      have PA := Lib.hid (Pairs_all hM.out.map (by have := LE.out; omega))
      go_wp2_with fail
      refine PA.out.mono ?_
      rintro e w6 ⟨v6, L6, rfl, hp6, -, own6, hb6, fr6⟩
      have M6 := Lib.hid (hM.out.on hb6)
      have HP6 := Lib.hid hp6
      obtain ⟨q6, c6, rfl, rp6, -, -, ob6, rp60⟩ := rdP_own (fun x hx => hM.out.map.e.b.ok x (hp6.mem_iff.1 hx)) own6
      have RP6 := Lib.hid rp6
      have OK6 : Hid (EnOk L6) := fun x hx => hM.out.map.e.b.ok x (hp6.mem_iff.1 hx)
      have KB6 : Hid (∀ x ∈ L6, Bytes x.k) := fun x hx => hM.out.map.e.b.kb x (hp6.mem_iff.1 hx)
      have EW := Lib.hid hM.out.map.e
      have NG : Hid (∀ g, q6.map (·.block) = some g → g ∉ p :: m :: bl) := fun g hg hin => by
        have h1 := fr6 g (ob6 g hg)
        rcases List.mem_cons.1 hin with rfl | hin
        · have := hM.out.map.s.lp; omega
        · rcases List.mem_cons.1 hin with rfl | hin
          · have := hM.out.map.s.lm; omega
          · have := hM.out.map.t.lt g hin; omega
      have VB6 : Hid (∀ x ∈ L6, Bytes x.v) := fun x hx => hM.out.map.e.b.vb x (hp6.mem_iff.1 hx)
      have ND6 : Hid ((L6.map (·.k)).Nodup) := (hp6.map En.k).nodup_iff.2 hM.out.map.e.nd
      have LQ6 := Lib.hid rp60
      clear hp6 own6 fr6 rp6 ob6 PA rp60
      go_wp2_with fail
      refine (New_all RP6.out OK6.out KB6.out VB6.out ND6.out (by have := HP6.out.length_eq; have := LE.out; omega)).mono ?_
      rintro e w7 ⟨p2, m2, E2, c2, top2, bl2, rfl, hm2, hv2, -⟩
      have M7 := Lib.hid (M6.out.on hm2.below)
      have N7 := Lib.hid hm2
      have RP7 := Lib.hid (RP6.out.on hm2.below)
      have RE := Lib.hid (rootE_congr EW.out hm2.map.e (fun k => by rw [hv2 k, vR_perm HP6.out EW.out]))
      have HT7 := Lib.hid (HT.out.on M7.out.below HT.out.pos)
      have G2 : Hid (1 ∉ bl2) := fun h => by have := hm2.bg _ h; have := HT.out.pos; have := M6.out.below.size; omega
      have G1 : Hid (1 ∉ bl) := fun h => by have := M6.out.bg _ h; have := HT.out.pos; omega
      have RA := Lib.hid (Root_all HT7.out N7.out.map G2.out)
      have LT6 : Hid (∀ g ∈ p :: m :: bl, g < w6.heap.size) := fun g hin => by
        rcases List.mem_cons.1 hin with rfl | hin
        · exact M6.out.map.s.lp
        · rcases List.mem_cons.1 hin with rfl | hin
          · exact M6.out.map.s.lm
          · exact M6.out.map.t.lt g hin
      clear hm2 hv2
      go_wp2_with fail
      refine (num5_any 0 w7).mono ?_
      rintro e wz ⟨rfl, hwz⟩
      obtain rfl := hwz.symm
      clear hwz
      go_wp2_with fail
      refine RA.out.mono ?_
      rintro e w8 ⟨rfl, hc8, -⟩
      have M8m := Lib.hid (M7.out.map.chg hc8 (fun h => by have := N7.out.bg _ h; have := M6.out.map.s.lp; omega) (fun h => by have := N7.out.bg _ h; have := M6.out.map.s.lm; omega) (fun g hg h => by have := N7.out.bg _ h; have := M6.out.map.t.lt g hg; omega))
      have M8 : Hid (MpW w1 w8 p m E c top bl) := ⟨M8m.out, M7.out.below.trans (hc8.toBelow M7.out.below.size (fun k hk => by have := N7.out.bg _ hk; have := M6.out.below.size; omega)), M7.out.pg, M7.out.mg, M7.out.bg⟩
      have RP8 := Lib.hid (RP7.out.chg hc8 (fun g hg h => by have := N7.out.bg _ h; have := LQ6.out g hg; omega))
      have HT8 := Lib.hid (HT.out.on M8.out.below HT.out.pos)
      have RB := Lib.hid (Root_all HT8.out M8.out.map G1.out)
      rw [RE.out]
      clear hc8 M8m RA
      have lX : (rootE E).length = 32 := rootE_len E EW.out
      have RX := Lib.hid (show rootE E = rootE E from rfl)
      obtain ⟨X, hX⟩ : ∃ X, rootE E = X := ⟨_, rfl⟩
      rw [hX] at lX RB ⊢
      clear hX RX RE
      have hlX := hc_len X
      go_wp2_with fail
      refine RB.out.mono ?_
      rintro e w9 ⟨rfl, hc9, hm9⟩
      have M9 := Lib.hid (M8.out.chg hc9 hm9)
      have RP9 := Lib.hid (RP8.out.chg hc9 (fun g hg h => NG.out g hg (by simp [h])))
      have bxx : (X == X) = true := by simp
      clear hc9 hm9 RB
      go_wp2_with fail
      clear bxx
      go_loopw [9] (fun iv wr => ∃ i : Nat, iv = .int .i64 (i : Int) ∧ i ≤ L6.length ∧ Hid (MpW w1 wr p m E c top bl) ∧ Hid (Below w9.heap.size w9 wr)) (fun iv _ => L6.length - (intOf iv).toNat)
      case atStart => exact ⟨0, rfl, by omega, M9, Lib.hid (Below.refl _ _)⟩
      case round =>
        obtain ⟨i, rfl, hil2, hM2, hB2⟩ := hrel
        by_cases hlt : i < L6.length
        · have hltI : (i : Int) < (L6.length : Int) := by omega
          have HLT := Lib.hid hlt
          have hb6 : L6.length ≤ 12 := by have := HP6.out.length_eq; have := LE.out; omega
          have MD := Lib.hid (hM2.out.on ((Below.refl _ _).drew))
          have BD := Lib.hid (hB2.out.drew)
          obtain ⟨b6, off6, rfl, hl6, hx6⟩ := RP9.out.resolve_left (fun h => by rw [h] at hlt; simp at hlt)
          have R17 : Hid (∀ W, Below wr.drew.heap.size wr.drew W → rowOf W b6 (off6 + i * 64) 32 = hc (L6.getD i e0).k ∧ rowOf W b6 (off6 + i * 64 + 32) 32 = hc (L6.getD i e0).v) := fun W hW => RdP.half OK6.out hx6 hl6 hlt (BD.out.trans (hW.mono BD.out.size))
          have HV := perm_vOf HP6.out EW.out hlt
          have okk := OK6.out _ (getD_memE hlt)
          have KK : Hid (KyOk (L6.getD i e0).k) := ⟨okk.1, KB6.out _ (getD_memE hlt)⟩
          have nz := EW.out.nz _ (HP6.out.mem_iff.1 (getD_memE hlt))
          have bvz : ((L6.getD i e0).v == zero32) = false := by simpa using nz
          clear hl6 hx6 hM2 hB2 nz
          have GE := Get_all KK.out MD.out.map
          rw [HV] at GE
          have GE17 := Lib.hid GE
          clear GE HV
          obtain ⟨Kx, hKx⟩ : ∃ Kx, (L6.getD i e0).k = Kx := ⟨_, rfl⟩
          obtain ⟨Vx, hVx⟩ : ∃ Vx, (L6.getD i e0).v = Vx := ⟨_, rfl⟩
          rw [hKx, hVx] at R17 okk
          rw [hKx, hVx] at GE17
          rw [hVx] at bvz
          rw [hKx] at KK
          clear hKx hVx
          have lK := okk.1
          have lV := okk.2
          have hlK := hc_len Kx
          have hlV := hc_len Vx
          clear okk
          have g0 : (0 : Int) ≤ (i : Int) := by omega
          have bvv : (Vx == Vx) = true := by simp
          go_wp2_with fail
          refine wp_region_held_drew (S := fun W => Below wr.drew.heap.size wr.drew W) (by kernel_rfl) ((Below.refl _ _)) (fun h0 => ?_)
          generalize wr.drew = wd at *
          refine wpAnyH_take (i := 0) (v := ?_) (by rw [List.getElem?_toArray]; rfl) (by kernel_rfl) (by kernel_rfl) (by kernel_rfl) (by exact fun _ _ _ h => h) (Or.inl ⟨by rfl, ?_⟩) h0 ?_
          rotate_left
          · intro W hW
            go_simp
            all_goals with_reducible rfl
          try simp only [Act.put, List.setIfInBounds_toArray, List.set_cons_zero, List.set_cons_succ]
          refine wpAnyH_take (i := 1) (v := ?_) (by rw [List.getElem?_toArray]; rfl) (by kernel_rfl) (by kernel_rfl) (by kernel_rfl) (by exact fun _ _ _ h => h) (Or.inl ⟨by rfl, ?_⟩) h0 ?_
          rotate_left
          · intro W hW
            go_simp
            all_goals with_reducible rfl
          try simp only [Act.put, List.setIfInBounds_toArray, List.set_cons_zero, List.set_cons_succ]
          refine wpAnyH_take (i := 2) (v := ?_) (by rw [List.getElem?_toArray]; rfl) (by kernel_rfl) (by kernel_rfl) (by kernel_rfl) (by exact fun _ _ _ h => h) (Or.inl ⟨by rfl, ?_⟩) h0 ?_
          rotate_left
          · intro W hW
            go_simp
            all_goals with_reducible rfl
          try simp only [Act.put, List.setIfInBounds_toArray, List.set_cons_zero, List.set_cons_succ]
          refine wpAnyH_take (i := 3) (v := ?_) (by rw [List.getElem?_toArray]; rfl) (by kernel_rfl) (by kernel_rfl) (by kernel_rfl) (by exact fun _ _ _ h => h) (Or.inl ⟨by rfl, ?_⟩) h0 ?_
          rotate_left
          · intro W hW
            go_simp
            all_goals with_reducible rfl
          try simp only [Act.put, List.setIfInBounds_toArray, List.set_cons_zero, List.set_cons_succ]
          refine wpAnyH_take (i := 4) (v := ?_) (by rw [List.getElem?_toArray]; rfl) (by kernel_rfl) (by kernel_rfl) (by kernel_rfl) (by exact fun _ _ _ h => h) (Or.inl ⟨by rfl, ?_⟩) h0 ?_
          rotate_left
          · intro W hW
            go_simp
            all_goals with_reducible rfl
          try simp only [Act.put, List.setIfInBounds_toArray, List.set_cons_zero, List.set_cons_succ]
          refine wpAnyH_take (i := 5) (v := ?_) (by rw [List.getElem?_toArray]; rfl) (by kernel_rfl) (by kernel_rfl) (by kernel_rfl) (by exact fun _ _ _ h => h) (Or.inl ⟨by rfl, ?_⟩) h0 ?_
          rotate_left
          · intro W hW
            have cc := (R17.out _ hW).1
            go_simp
            all_goals with_reducible rfl
          try simp only [Act.put, List.setIfInBounds_toArray, List.set_cons_zero, List.set_cons_succ]
          refine wpAnyH_take (i := 7) (v := ?_) (by rw [List.getElem?_toArray]; rfl) (by kernel_rfl) (by kernel_rfl) (by kernel_rfl) (by exact fun _ _ _ h => h) (Or.inl ⟨by rfl, ?_⟩) h0 ?_
          rotate_left
          · intro W hW
            go_simp
            all_goals with_reducible rfl
          try simp only [Act.put, List.setIfInBounds_toArray, List.set_cons_zero, List.set_cons_succ]
          refine wpAnyH_take (i := 8) (v := ?_) (by rw [List.getElem?_toArray]; rfl) (by kernel_rfl) (by kernel_rfl) (by kernel_rfl) (by exact fun _ _ _ h => h) (Or.inl ⟨by rfl, ?_⟩) h0 ?_
          rotate_left
          · intro W hW
            go_simp
            all_goals with_reducible rfl
          try simp only [Act.put, List.setIfInBounds_toArray, List.set_cons_zero, List.set_cons_succ]
          refine wpAnyH_take (i := 9) (v := ?_) (by rw [List.getElem?_toArray]; rfl) (by kernel_rfl) (by kernel_rfl) (by kernel_rfl) (by exact fun _ _ _ h => h) (Or.inl ⟨by rfl, ?_⟩) h0 ?_
          rotate_left
          · intro W hW
            go_simp
            all_goals with_reducible rfl
          try simp only [Act.put, List.setIfInBounds_toArray, List.set_cons_zero, List.set_cons_succ]
          refine wpAnyH_take (i := 10) (v := ?_) (by rw [List.getElem?_toArray]; rfl) (by kernel_rfl) (by kernel_rfl) (by kernel_rfl) (by exact fun _ _ _ h => h) (Or.inl ⟨by rfl, ?_⟩) h0 ?_
          rotate_left
          · intro W hW
            go_simp
            all_goals with_reducible rfl
          try simp only [Act.put, List.setIfInBounds_toArray, List.set_cons_zero, List.set_cons_succ]
          refine wpAnyH_take (i := 11) (v := ?_) (by rw [List.getElem?_toArray]; rfl) (by kernel_rfl) (by kernel_rfl) (by kernel_rfl) (by exact fun _ _ _ h => h) (Or.inl ⟨by rfl, ?_⟩) h0 ?_
          rotate_left
          · intro W hW
            have cc := (R17.out _ hW).2
            go_simp
            all_goals with_reducible rfl
          try simp only [Act.put, List.setIfInBounds_toArray, List.set_cons_zero, List.set_cons_succ]
          refine wpAnyH_ready (rs := [6]) (by kernel_rfl) (by simp) ?_
          refine AllReadyH.cons (by rw [List.getElem?_toArray]; rfl) (fun K hK => ?_) AllReadyH.nil
          rw [if_pos (by rfl)]
          go_wp2_with fail
          refine GE17.out.mono ?_
          rintro e w12 ⟨rfl, hb12⟩
          go_wp2_with fail
          refine hK.out _ _ (hb12) (fun h0 => ?_)
          clear hK K
          try simp only [Act.put, List.setIfInBounds_toArray, List.set_cons_zero, List.set_cons_succ]
          refine wpAnyH_take (i := 12) (v := ?_) (by rw [List.getElem?_toArray]; rfl) (by kernel_rfl) (by kernel_rfl) (by kernel_rfl) (by exact fun _ _ _ h => h) (Or.inl ⟨by rfl, ?_⟩) h0 ?_
          rotate_left
          · intro W hW
            have cc := bvv
            go_simp
            all_goals with_reducible rfl
          try simp only [Act.put, List.setIfInBounds_toArray, List.set_cons_zero, List.set_cons_succ]
          refine wpAnyH_take (i := 13) (v := ?_) (by rw [List.getElem?_toArray]; rfl) (by kernel_rfl) (by kernel_rfl) (by kernel_rfl) (by exact fun _ _ _ h => h) (Or.inl ⟨by rfl, ?_⟩) h0 ?_
          rotate_left
          · intro W hW
            go_simp
            all_goals with_reducible rfl
          try simp only [Act.put, List.setIfInBounds_toArray, List.set_cons_zero, List.set_cons_succ]
          refine wpAnyH_take (i := 14) (v := ?_) (by rw [List.getElem?_toArray]; rfl) (by kernel_rfl) (by kernel_rfl) (by kernel_rfl) (by exact fun _ _ _ h => h) (Or.inl ⟨by rfl, ?_⟩) h0 ?_
          rotate_left
          · intro W hW
            go_simp
            all_goals with_reducible rfl
          try simp only [Act.put, List.setIfInBounds_toArray, List.set_cons_zero, List.set_cons_succ]
          refine wpAnyH_take (i := 15) (v := ?_) (by rw [List.getElem?_toArray]; rfl) (by kernel_rfl) (by kernel_rfl) (by kernel_rfl) (by exact fun _ _ _ h => h) (Or.inl ⟨by rfl, ?_⟩) h0 ?_
          rotate_left
          · intro W hW
            go_simp
            all_goals with_reducible rfl
          try simp only [Act.put, List.setIfInBounds_toArray, List.set_cons_zero, List.set_cons_succ]
          refine wpAnyH_take (i := 16) (v := ?_) (by rw [List.getElem?_toArray]; rfl) (by kernel_rfl) (by kernel_rfl) (by kernel_rfl) (by exact fun _ _ _ h => h) (Or.inl ⟨by rfl, ?_⟩) h0 ?_
          rotate_left
          · intro W hW
            go_simp
            all_goals with_reducible rfl
          try simp only [Act.put, List.setIfInBounds_toArray, List.set_cons_zero, List.set_cons_succ]
          refine wpAnyH_take (i := 17) (v := ?_) (by rw [List.getElem?_toArray]; rfl) (by kernel_rfl) (by kernel_rfl) (by kernel_rfl) (by exact fun _ _ _ h => h) (Or.inl ⟨by rfl, ?_⟩) h0 ?_
          rotate_left
          · intro W hW
            go_simp
            all_goals with_reducible rfl
          try simp only [Act.put, List.setIfInBounds_toArray, List.set_cons_zero, List.set_cons_succ]
          refine wpAnyH_take (i := 18) (v := ?_) (by rw [List.getElem?_toArray]; rfl) (by kernel_rfl) (by kernel_rfl) (by kernel_rfl) (by exact fun _ _ _ h => h) (Or.inl ⟨by rfl, ?_⟩) h0 ?_
          rotate_left
          · intro W hW
            have cc := (R17.out _ hW).2
            go_simp
            all_goals with_reducible rfl
          try simp only [Act.put, List.setIfInBounds_toArray, List.set_cons_zero, List.set_cons_succ]
          refine wpAnyH_take (i := 19) (v := ?_) (by rw [List.getElem?_toArray]; rfl) (by kernel_rfl) (by kernel_rfl) (by kernel_rfl) (by exact fun _ _ _ h => h) (Or.inl ⟨by rfl, ?_⟩) h0 ?_
          rotate_left
          · intro W hW
            go_simp
            all_goals with_reducible rfl
          try simp only [Act.put, List.setIfInBounds_toArray, List.set_cons_zero, List.set_cons_succ]
          refine wpAnyH_take (i := 20) (v := ?_) (by rw [List.getElem?_toArray]; rfl) (by kernel_rfl) (by kernel_rfl) (by kernel_rfl) (by exact fun _ _ _ h => h) (Or.inl ⟨by rfl, ?_⟩) h0 ?_
          rotate_left
          · intro W hW
            have cc := bvz
            go_simp
            all_goals with_reducible rfl
          try simp only [Act.put, List.setIfInBounds_toArray, List.set_cons_zero, List.set_cons_succ]
          refine wpAnyH_take (i := 21) (v := ?_) (by rw [List.getElem?_toArray]; rfl) (by kernel_rfl) (by kernel_rfl) (by kernel_rfl) (by exact fun _ _ _ h => h) (Or.inl ⟨by rfl, ?_⟩) h0 ?_
          rotate_left
          · intro W hW
            go_simp
            all_goals with_reducible rfl
          try simp only [Act.put, List.setIfInBounds_toArray, List.set_cons_zero, List.set_cons_succ]
          refine wpAnyH_done (by kernel_rfl) ?_ _
          clear h0
          go_wp2_with fail
          go_roundw
          case rel => exact ⟨i + 1, by go_num, by have := HLT.out; omega, Lib.hid (MD.out.on hb12), Lib.hid (BD.out.trans (hb12.mono BD.out.size))⟩
          case measure => have := HLT.out; simp [intOf]; omega
        · have hnl : ¬ (i : Int) < (L6.length : Int) := by omega
          have k1 : (L6.length : Int) ≤ (L.length : Int) := by have := HP6.out.length_eq; have := LE2.out; omega
          go_wp2_with fail
          go_ret
          exact ⟨by simp, by have e := HW1.out; rw [e]; exact hM2.out.below⟩
end Go.Proofs.YtlncolpcehjdeaaDoor
