/-
  The walk of basculelaw05.SmtOthers.; What a row's list of variables gives: the table of digest's rounds.; Package smt: New of any row of pairs under unlike keys.
-/
import Derived.Test.YtlncolpcehjdeaaDoorTie
import Derived.Test.YtlncolpcehjdeaaDoorCards
import Derived.ProofKit
import Derived.LaidMore
import Derived.Stop.Joined
import Derived.SevenTiedAt
import Derived.Lib.LaidTab
import Derived.Test.YtlncolpcehjdeaaDoorSo2
import Derived.Test.YtlncolpcehjdeaaDoorSo6
import Derived.Test.YtlncolpcehjdeaaDoorSo13
import Derived.Test.YtlncolpcehjdeaaDoorSo14
namespace Go.Proofs.YtlncolpcehjdeaaDoor
open Go.RowKit
set_option maxRecDepth 100000

theorem getD_mem' {α : Type} {L : List α} {d : α} {i : Nat} (hi : i < L.length) : L.getD i d ∈ L := by
  have e : L.getD i d = L[i] := by simp [List.getD, hi]
  rw [e]; exact List.getElem_mem hi
set_option maxHeartbeats 16000000 in
theorem Others_walk {w : World} {q : Option Addr} {cp : Nat} {L : List (List Int × List Int)} {A B : List Int} (hq : RwF 64 pr0 PPr w (fun g => g < w.heap.size) q L) (ok : ∀ x ∈ L, PrOk x) (hl : L.length ≤ 3000000000000) (hA : KyOk A) (lB : B.length = 32) (bB : Bytes B) (hT : Tbl w) :
    Calls Tryd.prog 5 #[.slice q L.length cp, .agg (hc A).toArray, .agg (hc B).toArray] w fun e w' => e = .returned (.bool true) ∧ Below w.heap.size w w' := by
  have HA := Lib.hid ((HashAt.new w A).alloc (.cells (hc B).toArray 24))
  have HB := Lib.hid (HashAt.new (w.alloc (.cells (hc A).toArray 24)) B)
  have B0 := Lib.hid (((Below.refl w.heap.size w).alloc (Nat.le_refl _) (.cells (hc A).toArray 24)).alloc (by simp) (.cells (hc B).toArray 24))
  have HQ := Lib.hid (hq.on PPr_ok (by decide) B0.out)
  simp only [World.size_alloc] at HB
  have lA := hA.len
  have hlA := hc_len A
  have hlB := hc_len B
  have HT := Lib.hid (hT.on B0.out hT.pos)
  have HAK := Lib.hid hA
  have BB := Lib.hid bB
  have HOK := Lib.hid ok
  clear hq hA bB hT ok
  go_enter Tryd.func5, Tryd.ntmps5
  go_upto_region 1 with fail
  obtain ⟨w1, hw1⟩ : ∃ x, (w.alloc (.cells (hc A).toArray 24)).alloc (.cells (hc B).toArray 24) = x := ⟨_, rfl⟩
  rw [hw1] at HA HB B0 HQ HT ⊢
  clear hw1
  by_cases h12 : L.length > 12
  · have d1 : decide ((L.length : Int) > 12) = true := decide_eq_true (by omega)
    have d2 : (12 : Int) < (L.length : Int) := by omega
    go_wp2_with fail
    refine (knows5_any HT.out).mono ?_
    rintro e w2 ⟨rfl, hb2⟩
    go_wp2_with fail
    go_ret
    exact ⟨rfl, B0.out.trans (hb2.mono B0.out.size)⟩
  have d1 : decide ((L.length : Int) > 12) = false := decide_eq_false (by omega)
  have d2 : ¬ (12 : Int) < (L.length : Int) := by omega
  have d3 : L.length ≤ 12 := by omega
  clear h12
  go_wp2_with fail
  clear d1 d2
  refine New_nil.mono ?_
  rintro e w2 ⟨p, m, rfl, hp, hm, hb2, hms⟩
  have M2 := Lib.hid (MpW_new hb2 hp hm hms)
  clear hp hm hb2 hms
  go_wp2_with fail
  refine (num5_any 0 w2).mono ?_
  rintro e wz ⟨rfl, hwz⟩
  obtain rfl := hwz.symm
  clear hwz
  go_wp2_with fail
  refine (knows5_any (HT.out.on M2.out.below HT.out.pos)).mono ?_
  rintro e w3 ⟨rfl, hb3⟩
  have M3 := Lib.hid (M2.out.on hb3)
  clear hb3 M2
  go_wp2_with fail
  go_loopw [9] (fun iv wr => ∃ i : Nat, iv = .int .i64 (i : Int) ∧ i ≤ L.length ∧ ∃ E c top bl, E.length ≤ i ∧ Hid (MpW w1 wr p m E c top bl)) (fun iv _ => L.length - (intOf iv).toNat)
  case atStart => exact ⟨0, rfl, by omega, [], 0, none, [], by simp, M3⟩
  case round =>
    clear M3
    obtain ⟨i, rfl, hil, E, c, top, bl, hle, hM⟩ := hrel
    by_cases hlt : i < L.length
    · have hltI : (i : Int) < (L.length : Int) := by omega
      obtain ⟨b, off, r, rfl, -, hr, hrow, rfl⟩ := (HQ.out.on PPr_ok (by decide) hM.out.below).get (d := pr0) hlt
      have OKX := Lib.hid (HOK.out _ (getD_mem' (d := pr0) hlt))
      have hh := rowOf_half OKX.out.k.len OKX.out.l hrow
      have R9 : Hid (∀ W, Below w1.heap.size w1 W → rowOf W b (off + i * 64) 32 = hc (L.getD i pr0).1 ∧ rowOf W b (off + i * 64 + 32) 32 = hc (L.getD i pr0).2) := by
        intro W hW
        obtain ⟨b2, off2, r2, e2, -, hr2, hrow2, e3⟩ := (HQ.out.on PPr_ok (by decide) hW).get (d := pr0) hlt
        simp only [Option.some.injEq, Addr.mk.injEq] at e2
        obtain ⟨rfl, rfl, -⟩ := e2
        exact rowOf_half OKX.out.k.len OKX.out.l (hrow2.trans e3)
      obtain ⟨Ky, hK0⟩ : ∃ Ky, (L.getD i pr0).1 = Ky := ⟨_, rfl⟩
      obtain ⟨V, hV0⟩ : ∃ V, (L.getD i pr0).2 = V := ⟨_, rfl⟩
      rw [hK0, hV0] at R9 hh
      have lK : Ky.length = 32 := by rw [← hK0]; exact OKX.out.k.len
      have lV : V.length = 32 := by rw [← hV0]; exact OKX.out.l
      have hlK := hc_len Ky
      have hlV := hc_len V
      have PK : Hid (KyOk Ky) := by show KyOk Ky; rw [← hK0]; exact OKX.out.k
      have PV : Hid (V.length = 32) := lV
      have PB : Hid (Bytes V) := by show Bytes V; rw [← hV0]; exact OKX.out.b
      have g0 : (0 : Int) ≤ (i : Int) := by omega
      have LE := Lib.hid (show E.length ≤ 12 ∧ E.length ≤ i from ⟨by omega, hle⟩)
      have M4 := Lib.hid (hM.out.on ((Below.refl _ _).drew))
      have hS4 : rowOf wr.drew b (off + i * 64) 32 = hc Ky ∧ rowOf wr.drew b (off + i * 64 + 32) 32 = hc V := R9.out _ (hM.out.below.drew)
      clear hh hrow hr hK0 hV0 OKX
      go_wp2_with fail
      refine wp_region_held_drew (S := fun W => rowOf W b (off + i * 64) 32 = hc Ky ∧ rowOf W b (off + i * 64 + 32) 32 = hc V) (by kernel_rfl) (hS4) (fun h0 => ?_)
      generalize wr.drew = w4 at *
      refine wpAnyH_take (i := 0) (v := ?_) (by rw [List.getElem?_toArray]; rfl) (by kernel_rfl) (by kernel_rfl) (by kernel_rfl) (by exact fun _ _ _ h => h) (Or.inl ⟨by rfl, ?_⟩) h0 ?_
      rotate_left
      · intro W hW
        go_simp
        all_goals with_reducible rfl
      try simp only [Act.put, List.setIfInBounds_toArray, List.set_cons_zero, List.set_cons_succ]
      refine wpAnyH_take (i := 1) (v := ?_) (by rw [List.getElem?_toArray]; rfl) (by kernel_rfl) (by kernel_rfl) (by kernel_rfl) (by exact fun _ _ _ h => h) (Or.inl ⟨by rfl, ?_⟩) h0 ?_
      rotate_left
      · intro W hW
        go_simp
        all_goals with_reducible rfl
      try simp only [Act.put, List.setIfInBounds_toArray, List.set_cons_zero, List.set_cons_succ]
      refine wpAnyH_take (i := 2) (v := ?_) (by rw [List.getElem?_toArray]; rfl) (by kernel_rfl) (by kernel_rfl) (by kernel_rfl) (by exact fun _ _ _ h => h) (Or.inl ⟨by rfl, ?_⟩) h0 ?_
      rotate_left
      · intro W hW
        go_simp
        all_goals with_reducible rfl
      try simp only [Act.put, List.setIfInBounds_toArray, List.set_cons_zero, List.set_cons_succ]
      refine wpAnyH_take (i := 3) (v := ?_) (by rw [List.getElem?_toArray]; rfl) (by kernel_rfl) (by kernel_rfl) (by kernel_rfl) (by exact fun _ _ _ h => h) (Or.inl ⟨by rfl, ?_⟩) h0 ?_
      rotate_left
      · intro W hW
        go_simp
        all_goals with_reducible rfl
      try simp only [Act.put, List.setIfInBounds_toArray, List.set_cons_zero, List.set_cons_succ]
      refine wpAnyH_take (i := 4) (v := ?_) (by rw [List.getElem?_toArray]; rfl) (by kernel_rfl) (by kernel_rfl) (by kernel_rfl) (by exact fun _ _ _ h => h) (Or.inl ⟨by rfl, ?_⟩) h0 ?_
      rotate_left
      · intro W hW
        go_simp
        all_goals with_reducible rfl
      try simp only [Act.put, List.setIfInBounds_toArray, List.set_cons_zero, List.set_cons_succ]
      refine wpAnyH_take (i := 5) (v := ?_) (by rw [List.getElem?_toArray]; rfl) (by kernel_rfl) (by kernel_rfl) (by kernel_rfl) (by exact fun _ _ _ h => h) (Or.inl ⟨by rfl, ?_⟩) h0 ?_
      rotate_left
      · intro W hW
        have c1 := hW.1
        go_simp
        all_goals with_reducible rfl
      try simp only [Act.put, List.setIfInBounds_toArray, List.set_cons_zero, List.set_cons_succ]
      refine wpAnyH_take (i := 6) (v := ?_) (by rw [List.getElem?_toArray]; rfl) (by kernel_rfl) (by kernel_rfl) (by kernel_rfl) (by exact fun _ _ _ h => h) (Or.inl ⟨by rfl, ?_⟩) h0 ?_
      rotate_left
      · intro W hW
        go_simp
        all_goals with_reducible rfl
      try simp only [Act.put, List.setIfInBounds_toArray, List.set_cons_zero, List.set_cons_succ]
      refine wpAnyH_take (i := 7) (v := ?_) (by rw [List.getElem?_toArray]; rfl) (by kernel_rfl) (by kernel_rfl) (by kernel_rfl) (by exact fun _ _ _ h => h) (Or.inl ⟨by rfl, ?_⟩) h0 ?_
      rotate_left
      · intro W hW
        go_simp
        all_goals with_reducible rfl
      try simp only [Act.put, List.setIfInBounds_toArray, List.set_cons_zero, List.set_cons_succ]
      refine wpAnyH_take (i := 8) (v := ?_) (by rw [List.getElem?_toArray]; rfl) (by kernel_rfl) (by kernel_rfl) (by kernel_rfl) (by exact fun _ _ _ h => h) (Or.inl ⟨by rfl, ?_⟩) h0 ?_
      rotate_left
      · intro W hW
        go_simp
        all_goals with_reducible rfl
      try simp only [Act.put, List.setIfInBounds_toArray, List.set_cons_zero, List.set_cons_succ]
      refine wpAnyH_take (i := 9) (v := ?_) (by rw [List.getElem?_toArray]; rfl) (by kernel_rfl) (by kernel_rfl) (by kernel_rfl) (by exact fun _ _ _ h => h) (Or.inl ⟨by rfl, ?_⟩) h0 ?_
      rotate_left
      · intro W hW
        go_simp
        all_goals with_reducible rfl
      try simp only [Act.put, List.setIfInBounds_toArray, List.set_cons_zero, List.set_cons_succ]
      refine wpAnyH_take (i := 10) (v := ?_) (by rw [List.getElem?_toArray]; rfl) (by kernel_rfl) (by kernel_rfl) (by kernel_rfl) (by exact fun _ _ _ h => h) (Or.inl ⟨by rfl, ?_⟩) h0 ?_
      rotate_left
      · intro W hW
        have c2 := hW.2
        go_simp
        all_goals with_reducible rfl
      try simp only [Act.put, List.setIfInBounds_toArray, List.set_cons_zero, List.set_cons_succ]
      refine wpAnyH_ready (rs := [11]) (by kernel_rfl) (by simp) ?_
      refine AllReadyH.cons (by rw [List.getElem?_toArray]; rfl) (fun K hK => ?_) AllReadyH.nil
      rw [if_pos (by rfl)]
      go_wp2_with fail
      refine (Put_all PK.out PV.out PB.out M4.out.map (by have := LE.out; omega)).mono ?_
      rintro e w5 hq5
      obtain ⟨rfl, E', c', top', bl', m5, v5, n5, n5'⟩ := M4.out.put hq5
      have hS : rowOf w5 b (off + i * 64) 32 = hc Ky ∧ rowOf w5 b (off + i * 64 + 32) 32 = hc V := R9.out w5 m5.below
      have M5 := Lib.hid m5
      have NE := Lib.hid n5
      clear hq5 m5 n5 n5' v5 M4
      go_wp2_with fail
      refine hK.out _ _ hS (fun h0 => ?_)
      clear hK K hS
      try simp only [Act.put, List.setIfInBounds_toArray, List.set_cons_zero, List.set_cons_succ]
      refine wpAnyH_done (by kernel_rfl) ?_ _
      clear h0
      go_wp2_with fail
      go_roundw
      case rel => exact ⟨i + 1, by go_num, by omega, E', c', top', bl', by have := NE.out; have := LE.out; omega, M5⟩
      case measure => simp [intOf]; omega
    · have hnl : ¬ (i : Int) < (L.length : Int) := by omega
      have LE := Lib.hid (show E.length ≤ 12 by omega)
      have PA := Lib.hid (Pairs_all hM.out.map (by have := LE.out; omega))
      go_wp2_with fail
      refine PA.out.mono ?_
      rintro e w6 ⟨v6, L6, rfl, hp6, -, own6, hb6, fr6⟩
      have M6 := Lib.hid (hM.out.on hb6)
      have HP6 := Lib.hid hp6
      obtain ⟨q6, c6, rfl, rp6, -, -, ob6, -⟩ := rdP_own (fun x hx => hM.out.map.e.b.ok x (hp6.mem_iff.1 hx)) own6
      have RP6 := Lib.hid rp6
      have OK6 : Hid (EnOk L6) := fun x hx => hM.out.map.e.b.ok x (hp6.mem_iff.1 hx)
      have KB6 : Hid (∀ x ∈ L6, Bytes x.k) := fun x hx => hM.out.map.e.b.kb x (hp6.mem_iff.1 hx)
      have EW := Lib.hid hM.out.map.e
      have NG : Hid (∀ g, q6.map (·.block) = some g → g ∉ p :: m :: bl) := fun g hg hin => by
        have h1 := fr6 g (ob6 g hg)
        rcases List.mem_cons.1 hin with rfl | hin
        · have := hM.out.map.s.lp; omega
        · rcases List.mem_cons.1 hin with rfl | hin
          · have := hM.out.map.s.lm; omega
          · have := hM.out.map.t.lt g hin; omega
      have PU := fun W (h : MapS W p m E c top bl) => Put_all HAK.out lB BB.out h (by have := LE.out; omega)
      have HPU := Lib.hid PU
      clear hp6 own6 fr6 rp6 ob6 PA PU
      go_wp2_with fail
      refine wp_region_held_drew (S := fun W => Below w1.heap.size w1 W) (by kernel_rfl) ((M6.out.below.drew)) (fun h0 => ?_)
      have M7 := Lib.hid (M6.out.on ((Below.refl _ _).drew))
      have RP7 := Lib.hid (RP6.out.on ((Below.refl _ _).drew))
      generalize w6.drew = w7 at *
      refine wpAnyH_take (i := 0) (v := ?_) (by rw [List.getElem?_toArray]; rfl) (by kernel_rfl) (by kernel_rfl) (by kernel_rfl) (by exact fun _ _ _ h => h) (Or.inl ⟨by rfl, ?_⟩) h0 ?_
      rotate_left
      · intro W hW
        go_simp
        all_goals with_reducible rfl
      try simp only [Act.put, List.setIfInBounds_toArray, List.set_cons_zero, List.set_cons_succ]
      refine wpAnyH_take (i := 1) (v := ?_) (by rw [List.getElem?_toArray]; rfl) (by kernel_rfl) (by kernel_rfl) (by kernel_rfl) (by exact fun _ _ _ h => h) (Or.inl ⟨by rfl, ?_⟩) h0 ?_
      rotate_left
      · intro W hW
        have c1 := (HA.out.on hW).row lA
        go_simp
        all_goals with_reducible rfl
      try simp only [Act.put, List.setIfInBounds_toArray, List.set_cons_zero, List.set_cons_succ]
      refine wpAnyH_take (i := 2) (v := ?_) (by rw [List.getElem?_toArray]; rfl) (by kernel_rfl) (by kernel_rfl) (by kernel_rfl) (by exact fun _ _ _ h => h) (Or.inl ⟨by rfl, ?_⟩) h0 ?_
      rotate_left
      · intro W hW
        have c2 := (HB.out.on hW).row lB
        go_simp
        all_goals with_reducible rfl
      try simp only [Act.put, List.setIfInBounds_toArray, List.set_cons_zero, List.set_cons_succ]
      refine wpAnyH_ready (rs := [3]) (by kernel_rfl) (by simp) ?_
      refine AllReadyH.cons (by rw [List.getElem?_toArray]; rfl) (fun K hK => ?_) AllReadyH.nil
      rw [if_pos (by rfl)]
      go_wp2_with fail
      refine (HPU.out _ M7.out.map).mono ?_
      rintro e w8 hq8
      have RP8 := Lib.hid (RP7.out.chg hq8.2.1 NG.out)
      obtain ⟨rfl, E8, c8, top8, bl8, m8, v8, n8, n8'⟩ := M7.out.put hq8
      have hS : Below w1.heap.size w1 w8 := m8.below
      have M8 := Lib.hid m8
      have V8 := Lib.hid v8
      have N8 := Lib.hid n8
      have N8' := Lib.hid n8'
      have g8 := Get_all HAK.out m8.map
      rw [show vOf E8 A = B by rw [v8 A, if_pos rfl]] at g8
      have GE8 := Lib.hid g8
      clear hq8 m8 v8 n8 n8' g8
      go_wp2_with fail
      refine hK.out _ _ hS (fun h0 => ?_)
      clear hK K hS
      try simp only [Act.put, List.setIfInBounds_toArray, List.set_cons_zero, List.set_cons_succ]
      refine wpAnyH_ready (rs := [4]) (by kernel_rfl) (by simp) ?_
      refine AllReadyH.cons (by rw [List.getElem?_toArray]; rfl) (fun K hK => ?_) AllReadyH.nil
      rw [if_pos (by rfl)]
      go_wp2_with fail
      refine (num5_any 0 w8).mono ?_
      rintro e wz ⟨rfl, hwz⟩
      obtain rfl := hwz.symm
      clear hwz
      go_wp2_with fail
      refine hK.out _ _ h0 (fun h0 => ?_)
      clear hK K
      try simp only [Act.put, List.setIfInBounds_toArray, List.set_cons_zero, List.set_cons_succ]
      refine wpAnyH_take (i := 5) (v := ?_) (by rw [List.getElem?_toArray]; rfl) (by kernel_rfl) (by kernel_rfl) (by kernel_rfl) (by exact fun _ _ _ h => h) (Or.inl ⟨by rfl, ?_⟩) h0 ?_
      rotate_left
      · intro W hW
        go_simp
        all_goals with_reducible rfl
      try simp only [Act.put, List.setIfInBounds_toArray, List.set_cons_zero, List.set_cons_succ]
      refine wpAnyH_take (i := 6) (v := ?_) (by rw [List.getElem?_toArray]; rfl) (by kernel_rfl) (by kernel_rfl) (by kernel_rfl) (by exact fun _ _ _ h => h) (Or.inl ⟨by rfl, ?_⟩) h0 ?_
      rotate_left
      · intro W hW
        go_simp
        all_goals with_reducible rfl
      try simp only [Act.put, List.setIfInBounds_toArray, List.set_cons_zero, List.set_cons_succ]
      refine wpAnyH_take (i := 7) (v := ?_) (by rw [List.getElem?_toArray]; rfl) (by kernel_rfl) (by kernel_rfl) (by kernel_rfl) (by exact fun _ _ _ h => h) (Or.inl ⟨by rfl, ?_⟩) h0 ?_
      rotate_left
      · intro W hW
        go_simp
        all_goals with_reducible rfl
      try simp only [Act.put, List.setIfInBounds_toArray, List.set_cons_zero, List.set_cons_succ]
      refine wpAnyH_take (i := 8) (v := ?_) (by rw [List.getElem?_toArray]; rfl) (by kernel_rfl) (by kernel_rfl) (by kernel_rfl) (by exact fun _ _ _ h => h) (Or.inl ⟨by rfl, ?_⟩) h0 ?_
      rotate_left
      · intro W hW
        have c1 := (HA.out.on hW).row lA
        go_simp
        all_goals with_reducible rfl
      try simp only [Act.put, List.setIfInBounds_toArray, List.set_cons_zero, List.set_cons_succ]
      refine wpAnyH_take (i := 10) (v := ?_) (by rw [List.getElem?_toArray]; rfl) (by kernel_rfl) (by kernel_rfl) (by kernel_rfl) (by exact fun _ _ _ h => h) (Or.inl ⟨by rfl, ?_⟩) h0 ?_
      rotate_left
      · intro W hW
        have c2 := (HB.out.on hW).row lB
        go_simp
        all_goals with_reducible rfl
      try simp only [Act.put, List.setIfInBounds_toArray, List.set_cons_zero, List.set_cons_succ]
      refine wpAnyH_ready (rs := [9]) (by kernel_rfl) (by simp) ?_
      refine AllReadyH.cons (by rw [List.getElem?_toArray]; rfl) (fun K hK => ?_) AllReadyH.nil
      first | rw [if_pos (by rfl)] | skip
      go_wp2_with fail
      refine GE8.out.mono ?_
      rintro e w9 ⟨rfl, hb9⟩
      have hS : Below w1.heap.size w1 w9 := h0.trans (hb9.mono h0.size)
      have M9 := Lib.hid (M8.out.on hb9)
      have RP9 := Lib.hid (RP8.out.on hb9)
      go_wp2_with fail
      refine hK.out _ _ hS (fun h0 => ?_)
      clear hK K hS
      try simp only [Act.put, List.setIfInBounds_toArray, List.set_cons_zero, List.set_cons_succ]
      refine wpAnyH_take (i := 11) (v := ?_) (by rw [List.getElem?_toArray]; rfl) (by kernel_rfl) (by kernel_rfl) (by kernel_rfl) (by exact fun _ _ _ h => h) (Or.inl ⟨by rfl, ?_⟩) h0 ?_
      rotate_left
      · intro W hW
        have bb : (B == B) = true := beq_self_eq_true _
        go_simp
        all_goals with_reducible rfl
      try simp only [Act.put, List.setIfInBounds_toArray, List.set_cons_zero, List.set_cons_succ]
      refine wpAnyH_take (i := 12) (v := ?_) (by rw [List.getElem?_toArray]; rfl) (by kernel_rfl) (by kernel_rfl) (by kernel_rfl) (by exact fun _ _ _ h => h) (Or.inl ⟨by rfl, ?_⟩) h0 ?_
      rotate_left
      · intro W hW
        go_simp
        all_goals with_reducible rfl
      try simp only [Act.put, List.setIfInBounds_toArray, List.set_cons_zero, List.set_cons_succ]
      refine wpAnyH_done (by kernel_rfl) ?_ _
      clear h0
      go_wp2_with fail
      go_loopw [11] (fun iv wr => ∃ i : Nat, iv = .int .i64 (i : Int) ∧ i ≤ L6.length ∧ Hid (MpW w1 wr p m E8 c8 top8 bl8) ∧ Hid (Below w9.heap.size w9 wr)) (fun iv _ => L6.length - (intOf iv).toNat)
      case atStart => exact ⟨0, rfl, by omega, M9, Lib.hid (Below.refl _ _)⟩
      case round =>
        obtain ⟨i, rfl, hil, hM2, hB2⟩ := hrel
        by_cases hlt : i < L6.length
        · have hltI : (i : Int) < (L6.length : Int) := by omega
          have HLT := Lib.hid hlt
          have hb6 : L6.length ≤ 12 := by have := HP6.out.length_eq; have := LE.out; omega
          have MD := Lib.hid (hM2.out.on ((Below.refl _ _).drew))
          have BD := Lib.hid (hB2.out.drew)
          obtain ⟨b6, off6, rfl, hl6, hx6⟩ := RP9.out.resolve_left (fun h => by rw [h] at hlt; simp at hlt)
          have R16 : Hid (∀ W, Below wr.drew.heap.size wr.drew W → rowOf W b6 (off6 + i * 64) 32 = hc (L6.getD i e0).k ∧ rowOf W b6 (off6 + i * 64 + 32) 32 = hc (L6.getD i e0).v) := fun W hW => RdP.half OK6.out hx6 hl6 hlt (BD.out.trans (hW.mono BD.out.size))
          have HAr := Lib.hid (HA.out.on MD.out.below)
          have HV := perm_vOf HP6.out EW.out hlt
          have HK8 := V8.out (L6.getD i e0).k
          have okk := OK6.out _ (getD_memE hlt)
          have KK : Hid (KyOk (L6.getD i e0).k) := ⟨okk.1, KB6.out _ (getD_memE hlt)⟩
          rw [HV] at HK8
          clear hl6 hx6 HV hM2 hB2
          obtain ⟨Kx, hKx⟩ : ∃ Kx, (L6.getD i e0).k = Kx := ⟨_, rfl⟩
          obtain ⟨Vx, hVx⟩ : ∃ Vx, (L6.getD i e0).v = Vx := ⟨_, rfl⟩
          rw [hKx, hVx] at R16 okk
          rw [hKx, hVx] at HK8
          rw [hKx] at KK
          clear hKx hVx
          have lK := okk.1
          have lV := okk.2
          have hlK := hc_len Kx
          have hlV := hc_len Vx
          clear okk
          have g0 : (0 : Int) ≤ (i : Int) := by omega
          by_cases hkA : Kx = A
          · have hne : (Kx == A) = true := by rw [hkA]; simp
            clear hkA HK8
            go_wp2_with fail
            refine wp_region_held_drew (S := fun W => Below wr.drew.heap.size wr.drew W) (by kernel_rfl) ((Below.refl _ _)) (fun h0 => ?_)
            generalize wr.drew = wd at *
            refine wpAnyH_take (i := 0) (v := ?_) (by rw [List.getElem?_toArray]; rfl) (by kernel_rfl) (by kernel_rfl) (by kernel_rfl) (by exact fun _ _ _ h => h) (Or.inl ⟨by rfl, ?_⟩) h0 ?_
            rotate_left
            · intro W hW
              go_simp
              all_goals with_reducible rfl
            try simp only [Act.put, List.setIfInBounds_toArray, List.set_cons_zero, List.set_cons_succ]
            refine wpAnyH_take (i := 1) (v := ?_) (by rw [List.getElem?_toArray]; rfl) (by kernel_rfl) (by kernel_rfl) (by kernel_rfl) (by exact fun _ _ _ h => h) (Or.inl ⟨by rfl, ?_⟩) h0 ?_
            rotate_left
            · intro W hW
              go_simp
              all_goals with_reducible rfl
            try simp only [Act.put, List.setIfInBounds_toArray, List.set_cons_zero, List.set_cons_succ]
            refine wpAnyH_take (i := 2) (v := ?_) (by rw [List.getElem?_toArray]; rfl) (by kernel_rfl) (by kernel_rfl) (by kernel_rfl) (by exact fun _ _ _ h => h) (Or.inl ⟨by rfl, ?_⟩) h0 ?_
            rotate_left
            · intro W hW
              go_simp
              all_goals with_reducible rfl
            try simp only [Act.put, List.setIfInBounds_toArray, List.set_cons_zero, List.set_cons_succ]
            refine wpAnyH_take (i := 3) (v := ?_) (by rw [List.getElem?_toArray]; rfl) (by kernel_rfl) (by kernel_rfl) (by kernel_rfl) (by exact fun _ _ _ h => h) (Or.inl ⟨by rfl, ?_⟩) h0 ?_
            rotate_left
            · intro W hW
              go_simp
              all_goals with_reducible rfl
            try simp only [Act.put, List.setIfInBounds_toArray, List.set_cons_zero, List.set_cons_succ]
            refine wpAnyH_take (i := 4) (v := ?_) (by rw [List.getElem?_toArray]; rfl) (by kernel_rfl) (by kernel_rfl) (by kernel_rfl) (by exact fun _ _ _ h => h) (Or.inl ⟨by rfl, ?_⟩) h0 ?_
            rotate_left
            · intro W hW
              have cc := (R16.out _ hW).1
              go_simp
              all_goals with_reducible rfl
            try simp only [Act.put, List.setIfInBounds_toArray, List.set_cons_zero, List.set_cons_succ]
            refine wpAnyH_take (i := 5) (v := ?_) (by rw [List.getElem?_toArray]; rfl) (by kernel_rfl) (by kernel_rfl) (by kernel_rfl) (by exact fun _ _ _ h => h) (Or.inl ⟨by rfl, ?_⟩) h0 ?_
            rotate_left
            · intro W hW
              have cc := (HAr.out.on hW).row lA
              go_simp
              all_goals with_reducible rfl
            try simp only [Act.put, List.setIfInBounds_toArray, List.set_cons_zero, List.set_cons_succ]
            refine wpAnyH_take (i := 6) (v := ?_) (by rw [List.getElem?_toArray]; rfl) (by kernel_rfl) (by kernel_rfl) (by kernel_rfl) (by exact fun _ _ _ h => h) (Or.inl ⟨by rfl, ?_⟩) h0 ?_
            rotate_left
            · intro W hW
              have cc := hne
              go_simp
              all_goals with_reducible rfl
            try simp only [Act.put, List.setIfInBounds_toArray, List.set_cons_zero, List.set_cons_succ]
            refine wpAnyH_take (i := 7) (v := ?_) (by rw [List.getElem?_toArray]; rfl) (by kernel_rfl) (by kernel_rfl) (by kernel_rfl) (by exact fun _ _ _ h => h) (Or.inl ⟨by rfl, ?_⟩) h0 ?_
            rotate_left
            · intro W hW
              go_simp
              all_goals with_reducible rfl
            try simp only [Act.put, List.setIfInBounds_toArray, List.set_cons_zero, List.set_cons_succ]
            refine wpAnyH_take (i := 8) (v := undef) (by rw [List.getElem?_toArray]; rfl) (by kernel_rfl) (by kernel_rfl) (by kernel_rfl) (by exact fun _ _ _ h => h) (Or.inr ⟨by rfl, rfl⟩) h0 ?_
            try simp only [Act.put, List.setIfInBounds_toArray, List.set_cons_zero, List.set_cons_succ]
            refine wpAnyH_take (i := 9) (v := undef) (by rw [List.getElem?_toArray]; rfl) (by kernel_rfl) (by kernel_rfl) (by kernel_rfl) (by exact fun _ _ _ h => h) (Or.inr ⟨by rfl, rfl⟩) h0 ?_
            try simp only [Act.put, List.setIfInBounds_toArray, List.set_cons_zero, List.set_cons_succ]
            refine wpAnyH_take (i := 10) (v := undef) (by rw [List.getElem?_toArray]; rfl) (by kernel_rfl) (by kernel_rfl) (by kernel_rfl) (by exact fun _ _ _ h => h) (Or.inr ⟨by rfl, rfl⟩) h0 ?_
            try simp only [Act.put, List.setIfInBounds_toArray, List.set_cons_zero, List.set_cons_succ]
            refine wpAnyH_take (i := 11) (v := undef) (by rw [List.getElem?_toArray]; rfl) (by kernel_rfl) (by kernel_rfl) (by kernel_rfl) (by exact fun _ _ _ h => h) (Or.inr ⟨by rfl, rfl⟩) h0 ?_
            try simp only [Act.put, List.setIfInBounds_toArray, List.set_cons_zero, List.set_cons_succ]
            refine wpAnyH_take (i := 12) (v := undef) (by rw [List.getElem?_toArray]; rfl) (by kernel_rfl) (by kernel_rfl) (by kernel_rfl) (by exact fun _ _ _ h => h) (Or.inr ⟨by rfl, rfl⟩) h0 ?_
            try simp only [Act.put, List.setIfInBounds_toArray, List.set_cons_zero, List.set_cons_succ]
            refine wpAnyH_take (i := 13) (v := undef) (by rw [List.getElem?_toArray]; rfl) (by kernel_rfl) (by kernel_rfl) (by kernel_rfl) (by exact fun _ _ _ h => h) (Or.inr ⟨by rfl, rfl⟩) h0 ?_
            try simp only [Act.put, List.setIfInBounds_toArray, List.set_cons_zero, List.set_cons_succ]
            refine wpAnyH_take (i := 14) (v := undef) (by rw [List.getElem?_toArray]; rfl) (by kernel_rfl) (by kernel_rfl) (by kernel_rfl) (by exact fun _ _ _ h => h) (Or.inr ⟨by rfl, rfl⟩) h0 ?_
            try simp only [Act.put, List.setIfInBounds_toArray, List.set_cons_zero, List.set_cons_succ]
            refine wpAnyH_take (i := 15) (v := undef) (by rw [List.getElem?_toArray]; rfl) (by kernel_rfl) (by kernel_rfl) (by kernel_rfl) (by exact fun _ _ _ h => h) (Or.inr ⟨by rfl, rfl⟩) h0 ?_
            try simp only [Act.put, List.setIfInBounds_toArray, List.set_cons_zero, List.set_cons_succ]
            refine wpAnyH_take (i := 16) (v := undef) (by rw [List.getElem?_toArray]; rfl) (by kernel_rfl) (by kernel_rfl) (by kernel_rfl) (by exact fun _ _ _ h => h) (Or.inr ⟨by rfl, rfl⟩) h0 ?_
            try simp only [Act.put, List.setIfInBounds_toArray, List.set_cons_zero, List.set_cons_succ]
            refine wpAnyH_take (i := 17) (v := undef) (by rw [List.getElem?_toArray]; rfl) (by kernel_rfl) (by kernel_rfl) (by kernel_rfl) (by exact fun _ _ _ h => h) (Or.inr ⟨by rfl, rfl⟩) h0 ?_
            try simp only [Act.put, List.setIfInBounds_toArray, List.set_cons_zero, List.set_cons_succ]
            refine wpAnyH_take (i := 18) (v := undef) (by rw [List.getElem?_toArray]; rfl) (by kernel_rfl) (by kernel_rfl) (by kernel_rfl) (by exact fun _ _ _ h => h) (Or.inr ⟨by rfl, rfl⟩) h0 ?_
            try simp only [Act.put, List.setIfInBounds_toArray, List.set_cons_zero, List.set_cons_succ]
            refine wpAnyH_take (i := 19) (v := undef) (by rw [List.getElem?_toArray]; rfl) (by kernel_rfl) (by kernel_rfl) (by kernel_rfl) (by exact fun _ _ _ h => h) (Or.inr ⟨by rfl, rfl⟩) h0 ?_
            try simp only [Act.put, List.setIfInBounds_toArray, List.set_cons_zero, List.set_cons_succ]
            refine wpAnyH_take (i := 20) (v := undef) (by rw [List.getElem?_toArray]; rfl) (by kernel_rfl) (by kernel_rfl) (by kernel_rfl) (by exact fun _ _ _ h => h) (Or.inr ⟨by rfl, rfl⟩) h0 ?_
            try simp only [Act.put, List.setIfInBounds_toArray, List.set_cons_zero, List.set_cons_succ]
            refine wpAnyH_take (i := 21) (v := ?_) (by rw [List.getElem?_toArray]; rfl) (by kernel_rfl) (by kernel_rfl) (by kernel_rfl) (by exact fun _ _ _ h => h) (Or.inl ⟨by rfl, ?_⟩) h0 ?_
            rotate_left
            · intro W hW
              go_simp
              all_goals with_reducible rfl
            try simp only [Act.put, List.setIfInBounds_toArray, List.set_cons_zero, List.set_cons_succ]
            refine wpAnyH_done (by kernel_rfl) ?_ _
            clear h0
            go_wp2_with fail
            go_roundw
            case rel => exact ⟨i + 1, by go_num, by have := HLT.out; omega, MD, BD⟩
            case measure => have := HLT.out; simp [intOf]; omega
          · have hne : (Kx == A) = false := by simpa using hkA
            rw [if_neg hkA] at HK8
            have GE := Get_all KK.out MD.out.map
            rw [HK8] at GE
            have GE16 := Lib.hid GE
            have bvv : (Vx == Vx) = true := by simp
            clear hkA HK8 GE
            go_wp2_with fail
            refine wp_region_held_drew (S := fun W => Below wr.drew.heap.size wr.drew W) (by kernel_rfl) ((Below.refl _ _)) (fun h0 => ?_)
            generalize wr.drew = wd at *
            refine wpAnyH_take (i := 0) (v := ?_) (by rw [List.getElem?_toArray]; rfl) (by kernel_rfl) (by kernel_rfl) (by kernel_rfl) (by exact fun _ _ _ h => h) (Or.inl ⟨by rfl, ?_⟩) h0 ?_
            rotate_left
            · intro W hW
              go_simp
              all_goals with_reducible rfl
            try simp only [Act.put, List.setIfInBounds_toArray, List.set_cons_zero, List.set_cons_succ]
            refine wpAnyH_take (i := 1) (v := ?_) (by rw [List.getElem?_toArray]; rfl) (by kernel_rfl) (by kernel_rfl) (by kernel_rfl) (by exact fun _ _ _ h => h) (Or.inl ⟨by rfl, ?_⟩) h0 ?_
            rotate_left
            · intro W hW
              go_simp
              all_goals with_reducible rfl
            try simp only [Act.put, List.setIfInBounds_toArray, List.set_cons_zero, List.set_cons_succ]
            refine wpAnyH_take (i := 2) (v := ?_) (by rw [List.getElem?_toArray]; rfl) (by kernel_rfl) (by kernel_rfl) (by kernel_rfl) (by exact fun _ _ _ h => h) (Or.inl ⟨by rfl, ?_⟩) h0 ?_
            rotate_left
            · intro W hW
              go_simp
              all_goals with_reducible rfl
            try simp only [Act.put, List.setIfInBounds_toArray, List.set_cons_zero, List.set_cons_succ]
            refine wpAnyH_take (i := 3) (v := ?_) (by rw [List.getElem?_toArray]; rfl) (by kernel_rfl) (by kernel_rfl) (by kernel_rfl) (by exact fun _ _ _ h => h) (Or.inl ⟨by rfl, ?_⟩) h0 ?_
            rotate_left
            · intro W hW
              go_simp
              all_goals with_reducible rfl
            try simp only [Act.put, List.setIfInBounds_toArray, List.set_cons_zero, List.set_cons_succ]
            refine wpAnyH_take (i := 4) (v := ?_) (by rw [List.getElem?_toArray]; rfl) (by kernel_rfl) (by kernel_rfl) (by kernel_rfl) (by exact fun _ _ _ h => h) (Or.inl ⟨by rfl, ?_⟩) h0 ?_
            rotate_left
            · intro W hW
              have cc := (R16.out _ hW).1
              go_simp
              all_goals with_reducible rfl
            try simp only [Act.put, List.setIfInBounds_toArray, List.set_cons_zero, List.set_cons_succ]
            refine wpAnyH_take (i := 5) (v := ?_) (by rw [List.getElem?_toArray]; rfl) (by kernel_rfl) (by kernel_rfl) (by kernel_rfl) (by exact fun _ _ _ h => h) (Or.inl ⟨by rfl, ?_⟩) h0 ?_
            rotate_left
            · intro W hW
              have cc := (HAr.out.on hW).row lA
              go_simp
              all_goals with_reducible rfl
            try simp only [Act.put, List.setIfInBounds_toArray, List.set_cons_zero, List.set_cons_succ]
            refine wpAnyH_take (i := 6) (v := ?_) (by rw [List.getElem?_toArray]; rfl) (by kernel_rfl) (by kernel_rfl) (by kernel_rfl) (by exact fun _ _ _ h => h) (Or.inl ⟨by rfl, ?_⟩) h0 ?_
            rotate_left
            · intro W hW
              have cc := hne
              go_simp
              all_goals with_reducible rfl
            try simp only [Act.put, List.setIfInBounds_toArray, List.set_cons_zero, List.set_cons_succ]
            refine wpAnyH_take (i := 7) (v := ?_) (by rw [List.getElem?_toArray]; rfl) (by kernel_rfl) (by kernel_rfl) (by kernel_rfl) (by exact fun _ _ _ h => h) (Or.inl ⟨by rfl, ?_⟩) h0 ?_
            rotate_left
            · intro W hW
              go_simp
              all_goals with_reducible rfl
            try simp only [Act.put, List.setIfInBounds_toArray, List.set_cons_zero, List.set_cons_succ]
            refine wpAnyH_take (i := 8) (v := ?_) (by rw [List.getElem?_toArray]; rfl) (by kernel_rfl) (by kernel_rfl) (by kernel_rfl) (by exact fun _ _ _ h => h) (Or.inl ⟨by rfl, ?_⟩) h0 ?_
            rotate_left
            · intro W hW
              go_simp
              all_goals with_reducible rfl
            try simp only [Act.put, List.setIfInBounds_toArray, List.set_cons_zero, List.set_cons_succ]
            refine wpAnyH_take (i := 9) (v := ?_) (by rw [List.getElem?_toArray]; rfl) (by kernel_rfl) (by kernel_rfl) (by kernel_rfl) (by exact fun _ _ _ h => h) (Or.inl ⟨by rfl, ?_⟩) h0 ?_
            rotate_left
            · intro W hW
              go_simp
              all_goals with_reducible rfl
            try simp only [Act.put, List.setIfInBounds_toArray, List.set_cons_zero, List.set_cons_succ]
            refine wpAnyH_take (i := 10) (v := ?_) (by rw [List.getElem?_toArray]; rfl) (by kernel_rfl) (by kernel_rfl) (by kernel_rfl) (by exact fun _ _ _ h => h) (Or.inl ⟨by rfl, ?_⟩) h0 ?_
            rotate_left
            · intro W hW
              go_simp
              all_goals with_reducible rfl
            try simp only [Act.put, List.setIfInBounds_toArray, List.set_cons_zero, List.set_cons_succ]
            refine wpAnyH_take (i := 11) (v := ?_) (by rw [List.getElem?_toArray]; rfl) (by kernel_rfl) (by kernel_rfl) (by kernel_rfl) (by exact fun _ _ _ h => h) (Or.inl ⟨by rfl, ?_⟩) h0 ?_
            rotate_left
            · intro W hW
              go_simp
              all_goals with_reducible rfl
            try simp only [Act.put, List.setIfInBounds_toArray, List.set_cons_zero, List.set_cons_succ]
            refine wpAnyH_take (i := 12) (v := ?_) (by rw [List.getElem?_toArray]; rfl) (by kernel_rfl) (by kernel_rfl) (by kernel_rfl) (by exact fun _ _ _ h => h) (Or.inl ⟨by rfl, ?_⟩) h0 ?_
            rotate_left
            · intro W hW
              go_simp
              all_goals with_reducible rfl
            try simp only [Act.put, List.setIfInBounds_toArray, List.set_cons_zero, List.set_cons_succ]
            refine wpAnyH_take (i := 13) (v := ?_) (by rw [List.getElem?_toArray]; rfl) (by kernel_rfl) (by kernel_rfl) (by kernel_rfl) (by exact fun _ _ _ h => h) (Or.inl ⟨by rfl, ?_⟩) h0 ?_
            rotate_left
            · intro W hW
              have cc := (R16.out _ hW).1
              go_simp
              all_goals with_reducible rfl
            try simp only [Act.put, List.setIfInBounds_toArray, List.set_cons_zero, List.set_cons_succ]
            refine wpAnyH_take (i := 15) (v := ?_) (by rw [List.getElem?_toArray]; rfl) (by kernel_rfl) (by kernel_rfl) (by kernel_rfl) (by exact fun _ _ _ h => h) (Or.inl ⟨by rfl, ?_⟩) h0 ?_
            rotate_left
            · intro W hW
              go_simp
              all_goals with_reducible rfl
            try simp only [Act.put, List.setIfInBounds_toArray, List.set_cons_zero, List.set_cons_succ]
            refine wpAnyH_take (i := 16) (v := ?_) (by rw [List.getElem?_toArray]; rfl) (by kernel_rfl) (by kernel_rfl) (by kernel_rfl) (by exact fun _ _ _ h => h) (Or.inl ⟨by rfl, ?_⟩) h0 ?_
            rotate_left
            · intro W hW
              go_simp
              all_goals with_reducible rfl
            try simp only [Act.put, List.setIfInBounds_toArray, List.set_cons_zero, List.set_cons_succ]
            refine wpAnyH_take (i := 17) (v := ?_) (by rw [List.getElem?_toArray]; rfl) (by kernel_rfl) (by kernel_rfl) (by kernel_rfl) (by exact fun _ _ _ h => h) (Or.inl ⟨by rfl, ?_⟩) h0 ?_
            rotate_left
            · intro W hW
              go_simp
              all_goals with_reducible rfl
            try simp only [Act.put, List.setIfInBounds_toArray, List.set_cons_zero, List.set_cons_succ]
            refine wpAnyH_take (i := 18) (v := ?_) (by rw [List.getElem?_toArray]; rfl) (by kernel_rfl) (by kernel_rfl) (by kernel_rfl) (by exact fun _ _ _ h => h) (Or.inl ⟨by rfl, ?_⟩) h0 ?_
            rotate_left
            · intro W hW
              go_simp
              all_goals with_reducible rfl
            try simp only [Act.put, List.setIfInBounds_toArray, List.set_cons_zero, List.set_cons_succ]
            refine wpAnyH_take (i := 19) (v := ?_) (by rw [List.getElem?_toArray]; rfl) (by kernel_rfl) (by kernel_rfl) (by kernel_rfl) (by exact fun _ _ _ h => h) (Or.inl ⟨by rfl, ?_⟩) h0 ?_
            rotate_left
            · intro W hW
              have cc := (R16.out _ hW).2
              go_simp
              all_goals with_reducible rfl
            try simp only [Act.put, List.setIfInBounds_toArray, List.set_cons_zero, List.set_cons_succ]
            refine wpAnyH_ready (rs := [14]) (by kernel_rfl) (by simp) ?_
            refine AllReadyH.cons (by rw [List.getElem?_toArray]; rfl) (fun K hK => ?_) AllReadyH.nil
            rw [if_pos (by rfl)]
            go_wp2_with fail
            refine GE16.out.mono ?_
            rintro e w10 ⟨rfl, hb10⟩
            go_wp2_with fail
            refine hK.out _ _ (hb10) (fun h0 => ?_)
            clear hK K
            try simp only [Act.put, List.setIfInBounds_toArray, List.set_cons_zero, List.set_cons_succ]
            refine wpAnyH_take (i := 20) (v := ?_) (by rw [List.getElem?_toArray]; rfl) (by kernel_rfl) (by kernel_rfl) (by kernel_rfl) (by exact fun _ _ _ h => h) (Or.inl ⟨by rfl, ?_⟩) h0 ?_
            rotate_left
            · intro W hW
              have cc := bvv
              go_simp
              all_goals with_reducible rfl
            try simp only [Act.put, List.setIfInBounds_toArray, List.set_cons_zero, List.set_cons_succ]
            refine wpAnyH_take (i := 21) (v := ?_) (by rw [List.getElem?_toArray]; rfl) (by kernel_rfl) (by kernel_rfl) (by kernel_rfl) (by exact fun _ _ _ h => h) (Or.inl ⟨by rfl, ?_⟩) h0 ?_
            rotate_left
            · intro W hW
              go_simp
              all_goals with_reducible rfl
            try simp only [Act.put, List.setIfInBounds_toArray, List.set_cons_zero, List.set_cons_succ]
            refine wpAnyH_done (by kernel_rfl) ?_ _
            clear h0
            go_wp2_with fail
            go_roundw
            case rel => exact ⟨i + 1, by go_num, by have := HLT.out; omega, Lib.hid (MD.out.on hb10), Lib.hid (BD.out.trans (hb10.mono BD.out.size))⟩
            case measure => have := HLT.out; simp [intOf]; omega
        · have hnl : ¬ (i : Int) < (L6.length : Int) := by omega
          have PB8 := Lib.hid (fun W (h : MapS W p m E8 c8 top8 bl8) => Pairs_all h (by have := LE.out; have := N8.out; omega))
          have e6 := HP6.out.length_eq
          have hLE := LE.out
          have hN1 := N8.out
          have hN2 := N8'.out
          go_wp2_with fail
          refine (PB8.out _ hM2.out.map).mono ?_
          rintro e w10 ⟨v10, L10, rfl, hp10, -, own10, hb10, -⟩
          have M10 := Lib.hid (hM2.out.on hb10)
          obtain ⟨q10, c10, rfl, -⟩ := rdP_own (fun x hx => M10.out.map.e.b.ok x (hp10.mem_iff.1 hx)) own10
          have e10 := hp10.length_eq
          have k1 : (L10.length : Int) ≤ (L6.length : Int) + 1 := by omega
          have k2 : (L6.length : Int) ≤ 13 := by omega
          have k3 : (0 : Int) ≤ (L6.length : Int) := by omega
          have d10 : decide ((L10.length : Int) ≤ (L6.length : Int) + 1) = true := decide_eq_true k1
          clear hp10 own10 hb10
          go_wp2_with fail
          refine (PB8.out _ M10.out.map).mono ?_
          rintro e w11 ⟨v11, L11, rfl, hp11, -, own11, hb11, -⟩
          have M11 := Lib.hid (M10.out.on hb11)
          obtain ⟨q11, c11, rfl, -⟩ := rdP_own (fun x hx => M11.out.map.e.b.ok x (hp11.mem_iff.1 hx)) own11
          have e11 := hp11.length_eq
          have k4 : (L11.length : Int) ≥ (L6.length : Int) - 1 := by omega
          have d11 : decide ((L11.length : Int) ≥ (L6.length : Int) - 1) = true := decide_eq_true k4
          clear hp11 own11 hb11
          go_wp2_with fail
          go_ret
          exact ⟨by (try simp [d11]); (try omega), B0.out.trans (M11.out.below.mono B0.out.size)⟩
end Go.Proofs.YtlncolpcehjdeaaDoor
namespace Go.Proofs.YtlncolpcehjdeaaDoor
open Go.ChangeShapes Go.WideShapes Go.ChangeAt Go.RowKit
set_option maxRecDepth 100000

def rootsL : List (String × DataW Unit) := [("bascule/digest.roots", Rows.laid_bascule_digest_roots)]
theorem gRoots : Tryd.prog.globalNamed "bascule/digest.roots" = some 1 := by kernel_rfl
theorem gRootsType : (Tryd.prog.globals[1]?).map (·.type) = some 109 := by kernel_rfl
theorem rootsData : (Rows.laid_bascule_digest_roots : DataW Unit) = Lib.tabData .u32 rootsZ := by rfl
theorem tbl_of {W : World} (h : laidMetH Tryd.prog rootsL W) : Tbl W := by
  have h' : laidMetH Tryd.prog (("bascule/digest.roots", Lib.tabData .u32 rootsZ) :: []) W := by rw [← rootsData]; exact h
  have := Lib.tabIs_of_head (rest := []) gRoots gRootsType Tryd.underlying109 Tryd.underlying107 (by kernel_rfl) (by kernel_rfl) h'
  intro i hi
  exact this.cell gRoots i (by have : rootsZ.length = 64 := rfl; omega)
/-- The door's own heap meets the condition. -/
theorem door_met (os : Os) (args : Array Value) : laidMetH Tryd.prog rootsL ((World.doorLaid Tryd.prog 400 os).forCall (fun _ _ => 0) ⟨#[], args, []⟩).memory :=
  laidMetH_of_parts3 (fuel := 8) (laidMet_of_run' 8 (by kernel_rfl) (by kernel_rfl)) (by kernel_rfl) (by kernel_rfl)
end Go.Proofs.YtlncolpcehjdeaaDoor
namespace Go.Proofs.YtlncolpcehjdeaaDoor
open Go.RowKit
set_option maxRecDepth 100000

theorem zero_unitN (w : World) : (zeroValue 74).run Tryd.prog w = .ok (.agg #[]) w := by kernel_rfl
/-- Keys that were seen, each at its time. -/
def sEn (x : En × Nat) : MapEntry := { key := .agg (hc x.1.k).toArray, val := .agg #[], born := x.2 }
def sme (L : List En) : Array MapEntry := (L.zipIdx.map sEn).toArray
theorem sme_more (L : List En) (x : En) : sme (L ++ [x]) = (sme L).push (sEn (x, L.length)) := by
  unfold sme
  rw [List.zipIdx_append]
  simp
theorem askS_no {K : List Int} (hK : K.length = 32) (w : World) : ∀ (S : List (En × Nat)) (i : Nat), (∀ x ∈ S, x.1.k.length = 32) → (∀ x ∈ S, K ≠ x.1.k) → (Instr.findAsking 24 (.agg (hc K).toArray) (S.map sEn) i).run Tryd.prog w = .ok none w
  | [], _, _, _ => rfl
  | e :: S, i, h, hn => by
    have he := h e (by simp)
    have hq : (Op.equal 24 (.agg (hc K).toArray) (.agg (hc e.1.k).toArray)).run Tryd.prog w = .ok (K == e.1.k) w := Tryd.eq_hash w K e.1.k hK he
    rw [List.map_cons, Instr.findAsking]
    simp only [Sem.run_bind, sEn, hq, Result.andThen_ok]
    rw [beq_eq_false_iff_ne.2 (hn e (by simp))]
    exact askS_no hK w S (i + 1) (fun x hx => h x (by simp [hx])) (fun x hx => hn x (by simp [hx]))
theorem mem_zipIdx_fst {L : List En} {x : En × Nat} (h : x ∈ L.zipIdx) : x.1 ∈ L := by
  have := List.mem_map_of_mem (f := Prod.fst) h
  simpa using this
theorem findS_no {K : List Int} (hK : K.length = 32) (w : World) {L : List En} (h : ∀ x ∈ L, x.k.length = 32) (hn : ∀ x ∈ L, K ≠ x.k) : (Instr.findKey 24 (.agg (hc K).toArray) (sme L).toList).run Tryd.prog w = .ok none w := by
  unfold Instr.findKey
  simp only [Sem.run_bind, run_underlying Tryd.underlying24, Result.andThen_ok]
  cases L with
  | nil => rfl
  | cons e L =>
    have := askS_no hK w ((e :: L).zipIdx) 0 (fun x hx => h _ (mem_zipIdx_fst hx)) (fun x hx => hn _ (mem_zipIdx_fst hx))
    exact this
section
variable {w : World} {b c : Nat} {L : List En} {K : List Int}
theorem look_seen (hb : w.heap[b]? = some (.map (sme L) c)) (hK : K.length = 32) (h : ∀ x ∈ L, x.k.length = 32) (hn : ∀ x ∈ L, K ≠ x.k) : (Instr.lookup 73 (.map (some b)) (.agg (hc K).toArray) true).run Tryd.prog w = .ok (.tuple #[.agg #[], .bool false]) w :=
  run_lookup_at (r := none) true Tryd.underlying73 hb (ck_any hK _ w) (findS_no hK w h hn) (zero_unitN w)
theorem upd_seen {x : En} (hb : w.heap[b]? = some (.map (sme L) L.length)) (hK : x.k.length = 32) (h : ∀ y ∈ L, y.k.length = 32) (hn : ∀ y ∈ L, x.k ≠ y.k) : (Instr.mapUpdate 73 (.map (some b)) (.agg (hc x.k).toArray) (.agg #[])).run Tryd.prog w = .ok () (putMap w b (sme (L ++ [x])) (L.length + 1)) := by
  rw [run_mapUpdate_new (v := .agg #[]) Tryd.underlying73 hb (ck_any hK _ w) (findS_no hK w h hn), sme_more]
  rfl
end
section
variable {w wr w' : World} {p m c : Nat} {E : List En} {top : Option Addr} {bl : List Nat}
theorem MpW.put2 {K V : List Int} {e : Ending} (h : MpW w wr p m E c top bl) (hq : PutQ wr p m E bl K V e w') :
    e = .returned (.int .i64 0) ∧ Chg wr w' (p :: m :: bl) ∧ ∃ E' c' top' bl', MpW w w' p m E' c' top' bl' ∧ (∀ g ∈ bl', g ∈ bl ∨ wr.heap.size ≤ g) ∧ (∀ k, vOf E' k = if k = K then V else vOf E k) ∧ E'.length ≤ E.length + 1 ∧ E.length ≤ E'.length + 1 := by
  obtain ⟨he, hc, E', c', top', bl', hm, hin, hv, h1, h2⟩ := hq
  refine ⟨he, hc, E', c', top', bl', ⟨hm, h.below.trans (hc.toBelow h.below.size (fun k hk => ?_)), h.pg, h.mg, fun g hg => ?_⟩, hin, hv, h1, h2⟩
  · rcases List.mem_cons.1 hk with rfl | hk
    · exact h.pg
    · rcases List.mem_cons.1 hk with rfl | hk
      · exact h.mg
      · exact h.bg k hk
  · rcases hin g hg with hg | hg
    · exact h.bg g hg
    · have := h.below.size; omega
theorem MpW.side {S : Nat} (h : MpW w wr p m E c top bl) (hp : p ≠ S) (hm : m ≠ S) (hb : S ∉ bl) (hS : w.heap.size ≤ S) (es : Array MapEntry) (d : Nat) : MpW w (putMap wr S es d) p m E c top bl :=
  ⟨h.map.chg (putMap_chg wr S es d) (by simpa using hp) (by simpa using hm) (fun g hg => by
    intro hx
    obtain rfl := List.mem_singleton.1 hx
    exact hb hg), h.below.trans ((putMap_chg wr S es d).toBelow h.below.size (fun k hk => by obtain rfl := List.mem_singleton.1 hk; exact hS)), h.pg, h.mg, h.bg⟩
end
theorem vR_take {L : List En} {i : Nat} (hi : i < L.length) (nd : (L.map (·.k)).Nodup) (k : List Int) : vR (L.take (i + 1)) k = if k = (L.getD i e0).k then (L.getD i e0).v else vR (L.take i) k := by
  have e : L.take (i + 1) = L.take i ++ [L.getD i e0] := by
    rw [List.take_add_one]
    simp [List.getD, hi]
  rw [e]
  have hno : ∀ x ∈ L.take i, x.k ≠ (L.getD i e0).k := fun x hx hk => by
    have h2 : L = L.take i ++ L.getD i e0 :: L.drop (i + 1) := by
      rw [← List.take_append_drop i L]
      congr 1
      · simp
      · rw [List.take_append_drop, List.drop_eq_getElem_cons hi]
        simp [List.getD, hi]
    rw [h2, List.map_append, List.map_cons, List.nodup_append] at nd
    exact nd.2.2 _ (List.mem_map_of_mem (f := (·.k)) hx) _ (by simp) hk
  by_cases hk : k = (L.getD i e0).k
  · rw [if_pos hk, hk, vR_app hno]
    unfold vR
    rw [if_pos rfl]
  · rw [if_neg hk, vR_left (fun x hx => by obtain rfl := List.mem_singleton.1 hx; exact fun e => hk e.symm)]
theorem take_noK {L : List En} {i : Nat} (hi : i < L.length) (nd : (L.map (·.k)).Nodup) : ∀ x ∈ L.take i, (L.getD i e0).k ≠ x.k := fun x hx hk => by
  have h2 : L = L.take i ++ L.getD i e0 :: L.drop (i + 1) := by
    rw [← List.take_append_drop i L]
    congr 1
    · simp
    · rw [List.take_append_drop, List.drop_eq_getElem_cons hi]
      simp [List.getD, hi]
  rw [h2, List.map_append, List.map_cons, List.nodup_append] at nd
  exact nd.2.2 _ (List.mem_map_of_mem (f := (·.k)) hx) _ (by simp) hk.symm

set_option maxHeartbeats 16000000 in
theorem New_all {w : World} {L : List En} {q : Option Addr} {cp : Nat} (hr : RdP w q L) (ok : EnOk L) (kb : ∀ x ∈ L, Bytes x.k) (vb : ∀ x ∈ L, Bytes x.v) (nd : (L.map (·.k)).Nodup) (hl : L.length ≤ 4096) :
    Calls Tryd.prog 10 #[.slice q L.length cp] w fun e w' => ∃ p m E c top bl, e = .returned (.tuple #[.pointer (some ⟨p, 0, none⟩), .int .i64 0]) ∧ MpW w w' p m E c top bl ∧ (∀ k, vOf E k = vR L k) ∧ E.length ≤ L.length := by
  have hmm := @run_makeMap Tryd.prog
  have B3 := Lib.hid ((((Below.refl w.heap.size w).alloc (Nat.le_refl _) (.map #[] 0)).alloc (by simp) (.cells #[.map (some w.heap.size), .pointer none] 72)).alloc (by simp; omega) (.map #[] 0))
  have M3 : MpS (((w.alloc (.map #[] 0)).alloc (.cells #[.map (some w.heap.size), .pointer none] 72)).alloc (.map #[] 0)) (w.heap.size + 1) w.heap.size #[] 0 none := by
    refine ⟨?_, ?_⟩
    · rw [Below.heap_alloc _ _ _ (by simp)]
      have := heap_alloc_new (w.alloc (.map #[] 0)) (.cells #[.map (some w.heap.size), .pointer none] 72)
      simpa using this
    · rw [Below.heap_alloc _ _ _ (by simp; omega), Below.heap_alloc _ _ _ (by simp)]
      exact heap_alloc_new w _
  have MW3 := Lib.hid (MpW_new B3.out (by omega) (Nat.le_refl _) M3)
  have E3 : Hid ((((w.alloc (.map #[] 0)).alloc (.cells #[.map (some w.heap.size), .pointer none] 72)).alloc (.map #[] 0)).heap[w.heap.size + 1 + 1]? = some (.map (sme (L.take 0)) 0)) := by
    have := heap_alloc_last ((w.alloc (.map #[] 0)).alloc (.cells #[.map (some w.heap.size), .pointer none] 72)) (.map #[] 0)
    show _ = _
    rw [List.take_zero, show sme [] = #[] from rfl]
    simpa using this
  have HR := Lib.hid hr
  have OK := Lib.hid ok
  have KB := Lib.hid kb
  have VB := Lib.hid vb
  have ND := Lib.hid nd
  have hs3 : Hid ((((w.alloc (.map #[] 0)).alloc (.cells #[.map (some w.heap.size), .pointer none] 72)).alloc (.map #[] 0)).heap.size = w.heap.size + 3) := by show _ = _; simp
  have z32 := zero32_len
  have d1 : decide ((L.length : Int) > 4096) = false := decide_eq_false (by omega)
  have d2 : ¬ (4096 : Int) < (L.length : Int) := by omega
  clear hr ok kb vb nd M3
  go_enter Tryd.func10, Tryd.ntmps10
  go_wp2_with fail
  clear hmm d1 d2
  generalize ((w.alloc (.map #[] 0)).alloc (.cells #[.map (some w.heap.size), .pointer none] 72)).alloc (.map #[] 0) = w3 at *
  go_loopw [7, 8, 9, 19] (fun _ _ _ iv wr => ∃ i : Nat, iv = .int .i64 (i : Int) ∧ i ≤ L.length ∧ ∃ E c top bl, E.length ≤ i ∧ Hid (∀ k, vOf E k = vR (L.take i) k) ∧ Hid (MpW w wr (w.heap.size + 1) w.heap.size E c top bl) ∧ Hid (wr.heap[w.heap.size + 1 + 1]? = some (.map (sme (L.take i)) i)) ∧ Hid (w.heap.size + 1 + 1 ∉ bl) ∧ Hid (w.heap.size + 3 ≤ wr.heap.size)) (fun _ _ _ iv _ => L.length - (intOf iv).toNat)
  case atStart => exact ⟨0, rfl, by omega, [], 0, none, [], by simp, fun k => rfl, MW3, E3, (by simp : w.heap.size + 1 + 1 ∉ ([] : List Nat)), Nat.le_of_eq hs3.out.symm⟩
  case round =>
    clear MW3 E3 hs3 B3
    obtain ⟨i, rfl, hil, E, c, top, bl, hle, hV, hM, hE, hS, hZ⟩ := hrel
    by_cases hlt : i < L.length
    · have hltI : (i : Int) < (L.length : Int) := by omega
      obtain ⟨b, off, rfl, hb, hx⟩ := HR.out.resolve_left (fun h => by rw [h] at hlt; simp at hlt)
      have hrow := hx i hlt
      have okx := OK.out _ (getD_memE hlt)
      have PK : Hid (KyOk (L.getD i e0).k) := ⟨okx.1, KB.out _ (getD_memE hlt)⟩
      have PB := Lib.hid (VB.out _ (getD_memE hlt))
      have VT := Lib.hid (vR_take hlt ND.out)
      have NT := Lib.hid (take_noK hlt ND.out)
      have TK : Hid (L.take (i + 1) = L.take i ++ [L.getD i e0]) := by
        show _ = _
        rw [List.take_add_one]
        simp [List.getD, hlt]
      have TL : Hid ((L.take i).length = i) := by show _ = _; rw [List.length_take]; omega
      have r3 : rowOf wr b (off + i * 64) 64 = prRow (L.getD i e0).k (L.getD i e0).v := by
        rw [← hrow]
        unfold rowOf
        rw [hM.out.below.block b hb]
      clear hx hb hrow
      have E3 : wr.heap[w.heap.size + 1 + 1]? = some (.map (sme (L.take i)) (L.take i).length) := by rw [TL.out]; exact hE.out
      have hkl : ∀ y ∈ L.take i, y.k.length = 32 := fun y hy => (OK.out y (List.mem_of_mem_take hy)).1
      obtain ⟨x, hxd⟩ : ∃ x, L.getD i e0 = x := ⟨_, rfl⟩
      rw [hxd] at okx PK PB VT NT TK r3
      clear hxd
      have k32 := okx.1
      have v32 := okx.2
      have hlk := hc_len x.k
      have hlv := hc_len x.v
      have g0 : (0 : Int) ≤ (i : Int) := by omega
      have A4 := PrB.new wr zero32 zero32
      have th4 := A4.there zero32_len zero32_len
      have P4 := A4.put zero32_len zero32_len k32 v32
      have k4 := P4.key k32
      have B4 : Below wr.heap.size wr ((wr.alloc (.cells (prRow zero32 zero32).toArray 53)).setCells wr.heap.size 0 (prRow x.k x.v)) := below_setCells' _ (Nat.le_refl _) _ _ ((Below.refl _ _).alloc (Nat.le_refl _) _)
      have hle3 : w.heap.size + 1 + 1 < wr.heap.size := by have := hZ.out; omega
      have E4 : ((wr.alloc (.cells (prRow zero32 zero32).toArray 53)).setCells wr.heap.size 0 (prRow x.k x.v)).heap[w.heap.size + 1 + 1]? = some (.map (sme (L.take i)) (L.take i).length) := by rw [B4.block _ hle3]; exact E3
      have hl4 := look_seen E4 k32 hkl NT.out
      have hst := run_storeCells_pr (P := Tryd.prog) _ wr.heap.size x.k x.v k32 v32 th4
      have hsz4 : ((wr.alloc (.cells (prRow zero32 zero32).toArray 53)).setCells wr.heap.size 0 (prRow x.k x.v)).heap.size = wr.heap.size + 1 := by rw [size_setCells]; simp
      have hpl := prRow_len k32 v32
      have hb5 : Below ((wr.alloc (.cells (prRow zero32 zero32).toArray 53)).setCells wr.heap.size 0 (prRow x.k x.v)).heap.size ((wr.alloc (.cells (prRow zero32 zero32).toArray 53)).setCells wr.heap.size 0 (prRow x.k x.v)) (((wr.alloc (.cells (prRow zero32 zero32).toArray 53)).setCells wr.heap.size 0 (prRow x.k x.v)).alloc (.cells #[] 74)) := (Below.refl _ _).alloc (Nat.le_refl _) _
      have P5 := P4.on hb5
      have k5 := P5.key k32
      have E5 : (((wr.alloc (.cells (prRow zero32 zero32).toArray 53)).setCells wr.heap.size 0 (prRow x.k x.v)).alloc (.cells #[] 74)).heap[w.heap.size + 1 + 1]? = some (.map (sme (L.take i)) (L.take i).length) := by rw [hb5.block _ (by rw [hsz4]; omega)]; exact E4
      have hu5 := upd_seen E5 k32 hkl NT.out
      rw [← TK.out, TL.out] at hu5
      have M5 := Lib.hid (hM.out.on (B4.trans (hb5.mono B4.size)))
      have Q5 := Lib.hid P5
      have Q4 := Lib.hid E5
      have sz5 : Hid (w.heap.size + 1 + 1 < (((wr.alloc (.cells (prRow zero32 zero32).toArray 53)).setCells wr.heap.size 0 (prRow x.k x.v)).alloc (.cells #[] 74)).heap.size ∧ wr.heap.size < (((wr.alloc (.cells (prRow zero32 zero32).toArray 53)).setCells wr.heap.size 0 (prRow x.k x.v)).alloc (.cells #[] 74)).heap.size ∧ w.heap.size + 3 ≤ wr.heap.size) := by
        refine ⟨?_, ?_, hZ.out⟩ <;> simp [hsz4] <;> omega
      clear A4 P4 E4 hb5 P5 E5 B4 th4 E3 hM hE hZ
      have HX := Lib.hid (show prRow x.k x.v = prRow x.k x.v from rfl)
      obtain ⟨R, hR⟩ : ∃ R, prRow x.k x.v = R := ⟨_, rfl⟩
      rw [hR] at r3 hst k4 hl4 hsz4 hpl k5 hu5 M5 Q5 Q4 sz5
      clear hR HX
      go_wp2_with fail
      have Q6 : Hid (PrB (putMap (((wr.alloc (.cells (prRow zero32 zero32).toArray 53)).setCells wr.heap.size 0 R).alloc (.cells #[] 74)) (w.heap.size + 1 + 1) (sme (L.take (i + 1))) (i + 1)) wr.heap.size x.k x.v) := by
        show _ = _
        rw [putMap_other (by have := sz5.out.2.2; omega)]; exact Q5.out
      have E6 : Hid ((putMap (((wr.alloc (.cells (prRow zero32 zero32).toArray 53)).setCells wr.heap.size 0 R).alloc (.cells #[] 74)) (w.heap.size + 1 + 1) (sme (L.take (i + 1))) (i + 1)).heap[w.heap.size + 1 + 1]? = some (.map (sme (L.take (i + 1))) (i + 1))) := putMap_there sz5.out.1
      have M6 := Lib.hid (M5.out.side (by omega) (by omega) hS.out (by omega) (sme (L.take (i + 1))) (i + 1))
      have sz6 : Hid (w.heap.size + 1 + 1 < (putMap (((wr.alloc (.cells (prRow zero32 zero32).toArray 53)).setCells wr.heap.size 0 R).alloc (.cells #[] 74)) (w.heap.size + 1 + 1) (sme (L.take (i + 1))) (i + 1)).heap.size ∧ w.heap.size + 3 ≤ (putMap (((wr.alloc (.cells (prRow zero32 zero32).toArray 53)).setCells wr.heap.size 0 R).alloc (.cells #[] 74)) (w.heap.size + 1 + 1) (sme (L.take (i + 1))) (i + 1)).heap.size) := by
        have h := sz5.out
        refine ⟨?_, ?_⟩ <;> rw [putMap_size] <;> omega
      have k6 := Q6.out.key k32
      have v6 := Q6.out.val k32 v32
      clear Q5 M5 hu5 k5 hst k4 hl4 hsz4 r3 Q4 sz5
      generalize putMap (((wr.alloc (.cells (prRow zero32 zero32).toArray 53)).setCells wr.heap.size 0 R).alloc (.cells #[] 74)) (w.heap.size + 1 + 1) (sme (L.take (i + 1))) (i + 1) = w6 at *
      have e1 := run_rowLoad (P := Tryd.prog) w6 wr.heap.size 0 32 (by rw [k6]; simp [hc_len, k32])
      rw [k6] at e1
      rw [e1]
      simp only [Result.andThen_ok]
      clear e1
      go_wp2_with fail
      refine (Put_all PK.out v32 PB.out M6.out.map (by omega)).mono ?_
      rintro e w7 hq7
      obtain ⟨rfl, hc7, E', c', top', bl', hm7, hin, hv7, hn7, -⟩ := M6.out.put2 hq7
      have S7 : Hid (w.heap.size + 1 + 1 ∉ bl') := fun h => by
        rcases hin _ h with h | h
        · exact hS.out h
        · have := sz6.out.1; omega
      have E7 : Hid (w7.heap[w.heap.size + 1 + 1]? = some (.map (sme (L.take (i + 1))) (i + 1))) := by
        show _ = _
        rw [hc7.block _ sz6.out.1 (fun h => by
          rcases List.mem_cons.1 h with h | h
          · omega
          · rcases List.mem_cons.1 h with h | h
            · omega
            · exact hS.out h)]
        exact E6.out
      have M7 := Lib.hid hm7
      have V7 : Hid (∀ k, vOf E' k = vR (L.take (i + 1)) k) := fun k => by rw [hv7 k, hV.out k, VT.out k]
      have Z7 : Hid (w.heap.size + 3 ≤ w7.heap.size) := by
        show _ ≤ _
        have := sz6.out.2
        have := hc7.size
        omega
      clear hc7 hm7 hin hv7 k6 v6 Q6 M6 E6 sz6 hq7
      go_wp2_with fail
      go_roundw
      case rel => exact ⟨i + 1, by go_num, by omega, E', c', top', bl', by omega, V7, M7, E7, S7, Z7⟩
      case measure => simp [intOf]; omega
    · have hnl : ¬ (i : Int) < (L.length : Int) := by omega
      have e : L.take i = L := List.take_of_length_le (by omega)
      rw [e] at hV
      go_wp2_with fail
      refine bodyPost_ret (v := .tuple #[.pointer (some ⟨w.heap.size + 1, 0, none⟩), .int .i64 0]) (by simp [results, Tryd.results10, go_sem]) rfl ⟨_, rfl, _, E, ⟨c, top, bl, hM.out⟩, hV.out, by omega⟩
end Go.Proofs.YtlncolpcehjdeaaDoor
