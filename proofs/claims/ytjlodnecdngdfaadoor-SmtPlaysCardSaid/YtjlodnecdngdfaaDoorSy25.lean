/-
  The walk of basculelaw05.SmtPlays.; What a row's list of variables gives: the table of digest's rounds.
-/
import Derived.Test.YtjlodnecdngdfaaDoorTie
import Derived.Test.YtjlodnecdngdfaaDoorCards
import Derived.ProofKit
import Derived.LaidMore
import Derived.Stop.Joined
import Derived.SevenTiedAt
import Derived.Lib.LaidTab
import Derived.Test.YtjlodnecdngdfaaDoorSy2
import Derived.Test.YtjlodnecdngdfaaDoorSy6
import Derived.Test.YtjlodnecdngdfaaDoorSy12
import Derived.Test.YtjlodnecdngdfaaDoorSy21
import Derived.Test.YtjlodnecdngdfaaDoorSy23
import Derived.Test.YtjlodnecdngdfaaDoorSy24
namespace Go.Proofs.YtjlodnecdngdfaaDoor
open Go.RowKit
set_option maxRecDepth 100000

theorem rdq_of {w : World} {F : Fp} {q : Option Addr} {L : PrL} (h : RwF 64 pr0 PPr w F q L) : RdQ w q L := by
  by_cases h0 : L.length = 0
  · exact .inl (List.eq_nil_of_length_eq_zero h0)
  · obtain ⟨b, off, r, rfl, -, -, hr, e⟩ := h.get (d := pr0) (i := 0) (by omega)
    refine .inr ⟨b, off, rfl, fun i hi => ?_⟩
    obtain ⟨b2, off2, r2, e2, -, -, hr2, e3⟩ := h.get (d := pr0) hi
    simp only [Option.some.injEq, Addr.mk.injEq] at e2
    obtain ⟨rfl, rfl, -⟩ := e2
    exact hr2.trans e3
theorem RmS.base {w0 w1 wr : World} {pm : Nat} {v : Value} {LP : PrL} (h : RmS w1 wr pm v LP) (hb : Below w0.heap.size w0 w1) : RmS w0 wr pm v LP :=
  ⟨h.blk, h.own, h.ok, h.srt, Nat.le_trans hb.size h.lo, fun g hg => Nat.le_trans hb.size (h.fresh g hg), hb.trans (h.below.mono hb.size)⟩
theorem SmS.start {w1 w2 w3 w4 : World} {p m c : Nat} {E : List En} {top : Option Addr} {bl : List Nat} {pm : Nat} {v : Value} {LP : PrL} (b12 : Below w1.heap.size w1 w2) (hM : MpW w2 w3 p m E c top bl) (hR : RmS w3 w4 pm v LP) : SmS w1 w4 p m c E top bl pm v LP := by
  have hlt : ∀ g ∈ p :: m :: bl, g < w3.heap.size := fun g hg => by
    rcases List.mem_cons.1 hg with rfl | hg
    · exact hM.map.s.lp
    · rcases List.mem_cons.1 hg with rfl | hg
      · exact hM.map.s.lm
      · exact hM.map.t.lt g hg
  have h4 := hM.on hR.below
  have hs := b12.size
  exact ⟨⟨h4.map, b12.trans (h4.below.mono hs), Nat.le_trans hs h4.pg, Nat.le_trans hs h4.mg, fun g hg => Nat.le_trans hs (h4.bg g hg)⟩, hR.base (b12.trans (hM.below.mono hs)), fun hm => by have := hlt _ hm; have := hR.lo; omega, fun g hg hm => by have := hlt _ hm; have := hR.fresh g hg; omega⟩
set_option maxHeartbeats 64000000 in
theorem SmtPlays_walk {w : World} {q1 q2 : Option Addr} {c1 c2 : Nat} {L N : PrL} {K : List Int} (hL : RdQ w q1 L) (okL : PrsOk L) (hN : RdQ w q2 N) (okN : PrsOk N) (nL : L.length ≤ 3000000000000) (nN : N.length ≤ 3000000000000) (hKy : KyOk K) (hT : Tbl w) :
    Calls Tryd.prog 3 #[.slice q1 L.length c1, .slice q2 N.length c2, .agg (hc K).toArray] w fun e w' => e = .returned (.bool true) ∧ Below w.heap.size w w' := by
  have b0 : Below w.heap.size w (w.alloc (.cells (hc K).toArray 24)) := (Below.refl _ _).alloc (Nat.le_refl _) _
  have B0 := Lib.hid b0
  have HA := Lib.hid (HashAt.new w K)
  have HL := Lib.hid (hL.on okL b0)
  have HN := Lib.hid (hN.on okN b0)
  have OKL := Lib.hid okL
  have OKN := Lib.hid okN
  have HT := Lib.hid (hT.on b0 hT.pos)
  have HKY := Lib.hid hKy
  have lK := hKy.len
  have hlK := hc_len K
  clear hL okL hN okN hKy hT b0
  go_enter Tryd.func3, Tryd.ntmps3
  go_upto_region 1 with fail
  obtain ⟨kb, hkb⟩ : ∃ kb, w.heap.size = kb := ⟨_, rfl⟩
  rw [hkb] at HA
  try rw [hkb]
  clear hkb
  generalize w.alloc (.cells (hc K).toArray 24) = w1 at *
  by_cases hb1 : 6 < L.length
  · as_aux_lemma =>
      have d1 : (6 : Int) < (L.length : Int) := by omega
      go_wp2_with fail
      refine (knows5_any HT.out).mono ?_
      rintro e wz ⟨rfl, bz⟩
      go_wp2_with fail
      go_ret
      exact ⟨rfl, B0.out.trans (bz.mono B0.out.size)⟩
  · by_cases hb2 : 4 < N.length
    · as_aux_lemma =>
        have d1 : ¬ (6 : Int) < (L.length : Int) := by omega
        have d2 : (4 : Int) < (N.length : Int) := by omega
        go_wp2_with fail
        refine (knows5_any HT.out).mono ?_
        rintro e wz ⟨rfl, bz⟩
        go_wp2_with fail
        go_ret
        exact ⟨rfl, B0.out.trans (bz.mono B0.out.size)⟩
    · skip
      have d1 : ¬ (6 : Int) < (L.length : Int) := by omega
      have d2 : ¬ (4 : Int) < (N.length : Int) := by omega
      go_wp2_with fail
      clear d1 d2
      refine (Own5_any (c := c1) (HL.out.on OKL.out (Below.refl _ _)) OKL.out (by omega)).mono ?_
      rintro e w2 ⟨q3, k3, rfl, own3, b2⟩
      have B2 := Lib.hid b2
      have OKE := Lib.hid (toEs_ok OKL.out)
      rw [← toEs_len L] at own3
      obtain ⟨q3', k3', ev3, rd3, -, -, -, -⟩ := rdP_own OKE.out own3
      have NW := Lib.hid (New_both (cp := k3') rd3 OKE.out (fun x hx => by obtain ⟨y, hy, rfl⟩ := List.mem_map.1 hx; exact (OKL.out y hy).k.by_) (fun x hx => by obtain ⟨y, hy, rfl⟩ := List.mem_map.1 hx; exact (OKL.out y hy).b) (by rw [toEs_len]; omega))
      rw [toEs_len] at NW ev3
      rw [ev3]
      clear own3 ev3 rd3 b2
      go_wp2_with fail
      refine NW.out.mono ?_
      rintro e w3 hq3
      clear NW
      by_cases nd : (ksP L).Nodup
      · as_aux_lemma =>
          obtain ⟨-, p, m, E, c, top, bl, rfl, mp3, vE, nE⟩ := hq3.resolve_right (fun h => h.1 (toEs_nd.2 nd))
          have B3 := Lib.hid (B2.out.trans (mp3.below.mono B2.out.size))
          have MP3 := Lib.hid mp3
          have VE := Lib.hid vE
          have NE := Lib.hid nE
          have N5 := Lib.hid (New5_any (c := c1) (HL.out.on OKL.out B3.out) OKL.out (by omega))
          clear hq3 mp3 vE nE
          go_wp2_with fail
          refine N5.out.mono ?_
          rintro e w4 hq4
          obtain ⟨-, pm, v, rfl, rm4⟩ := hq4.resolve_right (fun h => h.1 nd)
          have SM0 := Lib.hid (SmS.start B2.out MP3.out rm4)
          have EQ0 : Hid (∀ k, vOf E k = vP (putsR L) k) := fun k => by
            have := puts_v OKL.out nd k L.length (Nat.le_refl _)
            rw [List.take_length] at this
            rw [VE.out k, this]
          have NZ0 : Hid (NzR (putsR L)) := by
            have := (putsR_ok OKL.out L.length (Nat.le_refl _)).2.2
            rw [List.take_length] at this
            exact this
          have LE0 : Hid (E.length ≤ 6 + 0 ∧ (putsR L).length ≤ 6 + 0) := by
            have h1 := NE.out
            rw [toEs_len] at h1
            have h2 := putsR_len L
            exact ⟨by omega, by omega⟩
          clear hq4 rm4 N5 MP3 VE NE B3
          go_wp2_with fail
          refine (num5_any 0 _).mono ?_
          rintro e wn ⟨rfl, h⟩
          obtain rfl := h.symm
          clear h
          go_wp2_with fail
          go_loopw [10] (fun iv wr => ∃ (i c : Nat) (E : List En) (top : Option Addr) (bl : List Nat) (v : Value) (LP : PrL), iv = .int .i64 (i : Int) ∧ i ≤ N.length ∧ Hid (SmS w1 wr p m c E top bl pm v LP) ∧ Hid (∀ k, vOf E k = vP LP k) ∧ Hid (NzR LP) ∧ Hid (E.length ≤ 6 + i ∧ LP.length ≤ 6 + i)) (fun iv _ => N.length - (intOf iv).toNat)
          case atStart => exact ⟨0, c, E, top, bl, v, _, rfl, by omega, SM0, EQ0, NZ0, LE0⟩
          case round =>
            clear SM0 EQ0 NZ0 LE0
            obtain ⟨i, c, E, top, bl, v, LP, rfl, hil, SM, EQ, NZ, LE⟩ := hrel
            by_cases hlt : i < N.length
            · as_aux_lemma =>
                have hltI : (i : Int) < (N.length : Int) := by omega
                obtain ⟨b, off, rfl, rd0⟩ := HN.out.resolve_left (fun e => by rw [e] at hlt; simp at hlt)
                have OKX := Lib.hid (prOk_get OKN.out hlt)
                have RN9 : Hid (∀ W, Below w1.heap.size w1 W → rowOf W b (off + i * 64) 32 = hc (N.getD i pr0).1 ∧ rowOf W b (off + i * 64 + 32) 32 = hc (N.getD i pr0).2) := fun W hW => rowOf_half OKX.out.k.len OKX.out.l ((rd0.on OKN.out hW) i hlt)
                obtain ⟨Ki, hK0⟩ : ∃ Ki, (N.getD i pr0).1 = Ki := ⟨_, rfl⟩
                obtain ⟨V, hV0⟩ : ∃ V, (N.getD i pr0).2 = V := ⟨_, rfl⟩
                rw [hK0, hV0] at RN9
                have lKi : Ki.length = 32 := by rw [← hK0]; exact OKX.out.k.len
                have lV : V.length = 32 := by rw [← hV0]; exact OKX.out.l
                have hlKi := hc_len Ki
                have hlV := hc_len V
                have PK : Hid (KyOk Ki) := by show KyOk Ki; rw [← hK0]; exact OKX.out.k
                have PB : Hid (Bytes V) := by show Bytes V; rw [← hV0]; exact OKX.out.b
                have g0 : (0 : Int) ≤ (i : Int) := by omega
                have SM4 := Lib.hid (SM.out.on (Below.refl _ _).drew)
                have hS4 : (rowOf wr.drew b (off + i * 64) 32 = hc Ki ∧ rowOf wr.drew b (off + i * 64 + 32) 32 = hc V) ∧ HashAt wr.drew kb K := ⟨RN9.out _ SM4.out.map.below, HA.out.on SM4.out.map.below⟩
                clear rd0 hK0 hV0 OKX SM
                go_upto_region 12 with fail
                refine wp_region_held_drew (S := fun W => (rowOf W b (off + i * 64) 32 = hc Ki ∧ rowOf W b (off + i * 64 + 32) 32 = hc V) ∧ HashAt W kb K) (by kernel_rfl) (hS4) (fun h0 => ?_)
                generalize wr.drew = w4 at *
                refine wpAnyH_take (i := 0) (v := ?_) (by rw [List.getElem?_toArray]; rfl) (by kernel_rfl) (by kernel_rfl) (by kernel_rfl) (by exact fun _ _ _ h => h) (Or.inl ⟨by rfl, ?_⟩) h0 ?_
                rotate_left
                · intro W hW
                  go_simp
                  all_goals with_reducible rfl
                try simp only [Act.put, List.setIfInBounds_toArray, List.set_cons_zero, List.set_cons_succ]
                refine wpAnyH_take (i := 1) (v := ?_) (by rw [List.getElem?_toArray]; rfl) (by kernel_rfl) (by kernel_rfl) (by kernel_rfl) (by exact fun _ _ _ h => h) (Or.inl ⟨by rfl, ?_⟩) h0 ?_
                rotate_left
                · intro W hW
                  go_simp
                  all_goals with_reducible rfl
                try simp only [Act.put, List.setIfInBounds_toArray, List.set_cons_zero, List.set_cons_succ]
                refine wpAnyH_take (i := 2) (v := ?_) (by rw [List.getElem?_toArray]; rfl) (by kernel_rfl) (by kernel_rfl) (by kernel_rfl) (by exact fun _ _ _ h => h) (Or.inl ⟨by rfl, ?_⟩) h0 ?_
                rotate_left
                · intro W hW
                  go_simp
                  all_goals with_reducible rfl
                try simp only [Act.put, List.setIfInBounds_toArray, List.set_cons_zero, List.set_cons_succ]
                refine wpAnyH_take (i := 3) (v := ?_) (by rw [List.getElem?_toArray]; rfl) (by kernel_rfl) (by kernel_rfl) (by kernel_rfl) (by exact fun _ _ _ h => h) (Or.inl ⟨by rfl, ?_⟩) h0 ?_
                rotate_left
                · intro W hW
                  go_simp
                  all_goals with_reducible rfl
                try simp only [Act.put, List.setIfInBounds_toArray, List.set_cons_zero, List.set_cons_succ]
                refine wpAnyH_take (i := 4) (v := ?_) (by rw [List.getElem?_toArray]; rfl) (by kernel_rfl) (by kernel_rfl) (by kernel_rfl) (by exact fun _ _ _ h => h) (Or.inl ⟨by rfl, ?_⟩) h0 ?_
                rotate_left
                · intro W hW
                  go_simp
                  all_goals with_reducible rfl
                try simp only [Act.put, List.setIfInBounds_toArray, List.set_cons_zero, List.set_cons_succ]
                refine wpAnyH_take (i := 5) (v := ?_) (by rw [List.getElem?_toArray]; rfl) (by kernel_rfl) (by kernel_rfl) (by kernel_rfl) (by exact fun _ _ _ h => h) (Or.inl ⟨by rfl, ?_⟩) h0 ?_
                rotate_left
                · intro W hW
                  have cc := hW.1.1
                  go_simp
                  all_goals with_reducible rfl
                try simp only [Act.put, List.setIfInBounds_toArray, List.set_cons_zero, List.set_cons_succ]
                refine wpAnyH_take (i := 6) (v := ?_) (by rw [List.getElem?_toArray]; rfl) (by kernel_rfl) (by kernel_rfl) (by kernel_rfl) (by exact fun _ _ _ h => h) (Or.inl ⟨by rfl, ?_⟩) h0 ?_
                rotate_left
                · intro W hW
                  go_simp
                  all_goals with_reducible rfl
                try simp only [Act.put, List.setIfInBounds_toArray, List.set_cons_zero, List.set_cons_succ]
                refine wpAnyH_take (i := 7) (v := ?_) (by rw [List.getElem?_toArray]; rfl) (by kernel_rfl) (by kernel_rfl) (by kernel_rfl) (by exact fun _ _ _ h => h) (Or.inl ⟨by rfl, ?_⟩) h0 ?_
                rotate_left
                · intro W hW
                  go_simp
                  all_goals with_reducible rfl
                try simp only [Act.put, List.setIfInBounds_toArray, List.set_cons_zero, List.set_cons_succ]
                refine wpAnyH_take (i := 8) (v := ?_) (by rw [List.getElem?_toArray]; rfl) (by kernel_rfl) (by kernel_rfl) (by kernel_rfl) (by exact fun _ _ _ h => h) (Or.inl ⟨by rfl, ?_⟩) h0 ?_
                rotate_left
                · intro W hW
                  go_simp
                  all_goals with_reducible rfl
                try simp only [Act.put, List.setIfInBounds_toArray, List.set_cons_zero, List.set_cons_succ]
                refine wpAnyH_take (i := 9) (v := ?_) (by rw [List.getElem?_toArray]; rfl) (by kernel_rfl) (by kernel_rfl) (by kernel_rfl) (by exact fun _ _ _ h => h) (Or.inl ⟨by rfl, ?_⟩) h0 ?_
                rotate_left
                · intro W hW
                  go_simp
                  all_goals with_reducible rfl
                try simp only [Act.put, List.setIfInBounds_toArray, List.set_cons_zero, List.set_cons_succ]
                refine wpAnyH_take (i := 10) (v := ?_) (by rw [List.getElem?_toArray]; rfl) (by kernel_rfl) (by kernel_rfl) (by kernel_rfl) (by exact fun _ _ _ h => h) (Or.inl ⟨by rfl, ?_⟩) h0 ?_
                rotate_left
                · intro W hW
                  have cc := hW.1.2
                  go_simp
                  all_goals with_reducible rfl
                try simp only [Act.put, List.setIfInBounds_toArray, List.set_cons_zero, List.set_cons_succ]
                refine wpAnyH_take (i := 13) (v := ?_) (by rw [List.getElem?_toArray]; rfl) (by kernel_rfl) (by kernel_rfl) (by kernel_rfl) (by exact fun _ _ _ h => h) (Or.inl ⟨by rfl, ?_⟩) h0 ?_
                rotate_left
                · intro W hW
                  go_simp
                  all_goals with_reducible rfl
                try simp only [Act.put, List.setIfInBounds_toArray, List.set_cons_zero, List.set_cons_succ]
                refine wpAnyH_take (i := 14) (v := ?_) (by rw [List.getElem?_toArray]; rfl) (by kernel_rfl) (by kernel_rfl) (by kernel_rfl) (by exact fun _ _ _ h => h) (Or.inl ⟨by rfl, ?_⟩) h0 ?_
                rotate_left
                · intro W hW
                  go_simp
                  all_goals with_reducible rfl
                try simp only [Act.put, List.setIfInBounds_toArray, List.set_cons_zero, List.set_cons_succ]
                refine wpAnyH_take (i := 15) (v := ?_) (by rw [List.getElem?_toArray]; rfl) (by kernel_rfl) (by kernel_rfl) (by kernel_rfl) (by exact fun _ _ _ h => h) (Or.inl ⟨by rfl, ?_⟩) h0 ?_
                rotate_left
                · intro W hW
                  go_simp
                  all_goals with_reducible rfl
                try simp only [Act.put, List.setIfInBounds_toArray, List.set_cons_zero, List.set_cons_succ]
                refine wpAnyH_take (i := 16) (v := ?_) (by rw [List.getElem?_toArray]; rfl) (by kernel_rfl) (by kernel_rfl) (by kernel_rfl) (by exact fun _ _ _ h => h) (Or.inl ⟨by rfl, ?_⟩) h0 ?_
                rotate_left
                · intro W hW
                  go_simp
                  all_goals with_reducible rfl
                try simp only [Act.put, List.setIfInBounds_toArray, List.set_cons_zero, List.set_cons_succ]
                refine wpAnyH_take (i := 17) (v := ?_) (by rw [List.getElem?_toArray]; rfl) (by kernel_rfl) (by kernel_rfl) (by kernel_rfl) (by exact fun _ _ _ h => h) (Or.inl ⟨by rfl, ?_⟩) h0 ?_
                rotate_left
                · intro W hW
                  go_simp
                  all_goals with_reducible rfl
                try simp only [Act.put, List.setIfInBounds_toArray, List.set_cons_zero, List.set_cons_succ]
                refine wpAnyH_take (i := 18) (v := ?_) (by rw [List.getElem?_toArray]; rfl) (by kernel_rfl) (by kernel_rfl) (by kernel_rfl) (by exact fun _ _ _ h => h) (Or.inl ⟨by rfl, ?_⟩) h0 ?_
                rotate_left
                · intro W hW
                  have cc := hW.1.1
                  go_simp
                  all_goals with_reducible rfl
                try simp only [Act.put, List.setIfInBounds_toArray, List.set_cons_zero, List.set_cons_succ]
                refine wpAnyH_take (i := 19) (v := ?_) (by rw [List.getElem?_toArray]; rfl) (by kernel_rfl) (by kernel_rfl) (by kernel_rfl) (by exact fun _ _ _ h => h) (Or.inl ⟨by rfl, ?_⟩) h0 ?_
                rotate_left
                · intro W hW
                  go_simp
                  all_goals with_reducible rfl
                try simp only [Act.put, List.setIfInBounds_toArray, List.set_cons_zero, List.set_cons_succ]
                refine wpAnyH_take (i := 20) (v := ?_) (by rw [List.getElem?_toArray]; rfl) (by kernel_rfl) (by kernel_rfl) (by kernel_rfl) (by exact fun _ _ _ h => h) (Or.inl ⟨by rfl, ?_⟩) h0 ?_
                rotate_left
                · intro W hW
                  go_simp
                  all_goals with_reducible rfl
                try simp only [Act.put, List.setIfInBounds_toArray, List.set_cons_zero, List.set_cons_succ]
                refine wpAnyH_take (i := 21) (v := ?_) (by rw [List.getElem?_toArray]; rfl) (by kernel_rfl) (by kernel_rfl) (by kernel_rfl) (by exact fun _ _ _ h => h) (Or.inl ⟨by rfl, ?_⟩) h0 ?_
                rotate_left
                · intro W hW
                  go_simp
                  all_goals with_reducible rfl
                try simp only [Act.put, List.setIfInBounds_toArray, List.set_cons_zero, List.set_cons_succ]
                refine wpAnyH_take (i := 22) (v := ?_) (by rw [List.getElem?_toArray]; rfl) (by kernel_rfl) (by kernel_rfl) (by kernel_rfl) (by exact fun _ _ _ h => h) (Or.inl ⟨by rfl, ?_⟩) h0 ?_
                rotate_left
                · intro W hW
                  go_simp
                  all_goals with_reducible rfl
                try simp only [Act.put, List.setIfInBounds_toArray, List.set_cons_zero, List.set_cons_succ]
                refine wpAnyH_take (i := 23) (v := ?_) (by rw [List.getElem?_toArray]; rfl) (by kernel_rfl) (by kernel_rfl) (by kernel_rfl) (by exact fun _ _ _ h => h) (Or.inl ⟨by rfl, ?_⟩) h0 ?_
                rotate_left
                · intro W hW
                  have cc := hW.1.2
                  go_simp
                  all_goals with_reducible rfl
                try simp only [Act.put, List.setIfInBounds_toArray, List.set_cons_zero, List.set_cons_succ]
                refine wpAnyH_ready (rs := [11]) (by kernel_rfl) (by simp) ?_
                refine AllReadyH.cons (by rw [List.getElem?_toArray]; rfl) (fun KX hKK => ?_) AllReadyH.nil
                first | rw [if_pos (by rfl)] | skip
                go_wp2_with fail
                refine (Put_all PK.out lV PB.out SM4.out.map.map (by have := LE.out; omega)).mono ?_
                rintro e w5 hq5
                obtain ⟨rfl, E', c', top', bl', sm5, v5, n5⟩ := SM4.out.putX hq5
                have SM5 := Lib.hid sm5
                have V5 := Lib.hid v5
                have N5 := Lib.hid n5
                have hS : (rowOf w5 b (off + i * 64) 32 = hc Ki ∧ rowOf w5 b (off + i * 64 + 32) 32 = hc V) ∧ HashAt w5 kb K := ⟨RN9.out _ SM5.out.map.below, HA.out.on SM5.out.map.below⟩
                clear hq5 sm5 v5 n5 SM4
                go_wp2_with fail
                refine hKK.out _ _ (hS) (fun h0 => ?_)
                clear hKK KX
                try simp only [Act.put, List.setIfInBounds_toArray, List.set_cons_zero, List.set_cons_succ]
                clear hS
                refine wpAnyH_ready (rs := [12]) (by kernel_rfl) (by simp) ?_
                refine AllReadyH.cons (by rw [List.getElem?_toArray]; rfl) (fun KX hKK => ?_) AllReadyH.nil
                first | rw [if_pos (by rfl)] | skip
                go_wp2_with fail
                refine (num5_any 0 _).mono ?_
                rintro e wn ⟨rfl, h⟩
                obtain rfl := h.symm
                clear h
                go_wp2_with fail
                refine hKK.out _ _ (h0) (fun h0 => ?_)
                clear hKK KX
                try simp only [Act.put, List.setIfInBounds_toArray, List.set_cons_zero, List.set_cons_succ]
                refine wpAnyH_ready (rs := [24]) (by kernel_rfl) (by simp) ?_
                refine AllReadyH.cons (by rw [List.getElem?_toArray]; rfl) (fun KX hKK => ?_) AllReadyH.nil
                first | rw [if_pos (by rfl)] | skip
                have PU := Lib.hid (Put5_any SM5.out.r PK.out lV PB.out (by have := LE.out; omega))
                obtain ⟨LP2, hLP⟩ : ∃ x, putR Ki V LP = x := ⟨_, rfl⟩
                have HLP := Lib.hid hLP
                rw [hLP] at PU
                clear hLP
                go_wp2_with fail
                refine PU.out.mono ?_
                rintro e w6 hq6
                obtain ⟨rfl, v6, sm6⟩ := SM5.out.putR hq6
                obtain ⟨qv, cv, rfl⟩ := sm6.r.slice
                have SM6 := Lib.hid sm6
                have EQ6 : Hid (∀ k, vOf E' k = vP LP2 k) := fun k => by rw [V5.out k, ← HLP.out, putR_v SM5.out.r.srt SM5.out.r.ok PK.out, EQ.out k]
                have NZ6 : Hid (NzR LP2) := by show NzR LP2; rw [← HLP.out]; exact putR_nz NZ.out
                have LE6 : Hid (E'.length ≤ 6 + (i + 1) ∧ LP2.length ≤ 6 + (i + 1)) := by
                  have h1 := putR_len Ki V LP
                  have h2 := LE.out
                  have h3 := N5.out
                  rw [HLP.out] at h1
                  exact ⟨by omega, by omega⟩
                have EQG := EQ6.out K
                obtain ⟨G, hG⟩ : ∃ G, vP LP2 K = G := ⟨_, rfl⟩
                have HG5 := Lib.hid hG
                have HG4 : Hid (vOf E' K = G) := EQG.trans hG
                have lG : G.length = 32 := by rw [← HG4.out]; exact (vOf_ok SM6.out.map.map.e.b K).1
                have hlG := hc_len G
                have hS : (rowOf w6 b (off + i * 64) 32 = hc Ki ∧ rowOf w6 b (off + i * 64 + 32) 32 = hc V) ∧ HashAt w6 kb K := ⟨RN9.out _ SM6.out.map.below, HA.out.on SM6.out.map.below⟩
                clear hq6 sm6 SM5 PU V5 N5 HLP EQG hG NZ EQ
                go_wp2_with fail
                refine hKK.out _ _ (hS) (fun h0 => ?_)
                clear hKK KX
                try simp only [Act.put, List.setIfInBounds_toArray, List.set_cons_zero, List.set_cons_succ]
                clear hS
                refine wpAnyH_strong (S' := fun W => ((rowOf W b (off + i * 64) 32 = hc Ki ∧ rowOf W b (off + i * 64 + 32) 32 = hc V) ∧ HashAt W kb K) ∧ W.cell? ⟨pm, 0, none⟩ = some (.slice qv LP2.length cv)) (fun _ h => h.1) ?_
                replace h0 : ((rowOf w6 b (off + i * 64) 32 = hc Ki ∧ rowOf w6 b (off + i * 64 + 32) 32 = hc V) ∧ HashAt w6 kb K) ∧ w6.cell? ⟨pm, 0, none⟩ = some (.slice qv LP2.length cv) := ⟨h0, SM6.out.r.cell⟩
                refine wpAnyH_take (i := 25) (v := ?_) (by rw [List.getElem?_toArray]; rfl) (by kernel_rfl) (by kernel_rfl) (by kernel_rfl) (by exact fun _ _ _ h => h) (Or.inl ⟨by rfl, ?_⟩) h0 ?_
                rotate_left
                · intro W hW
                  go_simp
                  all_goals with_reducible rfl
                try simp only [Act.put, List.setIfInBounds_toArray, List.set_cons_zero, List.set_cons_succ]
                refine wpAnyH_take (i := 26) (v := ?_) (by rw [List.getElem?_toArray]; rfl) (by kernel_rfl) (by kernel_rfl) (by kernel_rfl) (by exact fun _ _ _ h => h) (Or.inl ⟨by rfl, ?_⟩) h0 ?_
                rotate_left
                · intro W hW
                  go_simp
                  all_goals with_reducible rfl
                try simp only [Act.put, List.setIfInBounds_toArray, List.set_cons_zero, List.set_cons_succ]
                refine wpAnyH_take (i := 27) (v := ?_) (by rw [List.getElem?_toArray]; rfl) (by kernel_rfl) (by kernel_rfl) (by kernel_rfl) (by exact fun _ _ _ h => h) (Or.inl ⟨by rfl, ?_⟩) h0 ?_
                rotate_left
                · intro W hW
                  go_simp
                  all_goals with_reducible rfl
                try simp only [Act.put, List.setIfInBounds_toArray, List.set_cons_zero, List.set_cons_succ]
                refine wpAnyH_take (i := 28) (v := ?_) (by rw [List.getElem?_toArray]; rfl) (by kernel_rfl) (by kernel_rfl) (by kernel_rfl) (by exact fun _ _ _ h => h) (Or.inl ⟨by rfl, ?_⟩) h0 ?_
                rotate_left
                · intro W hW
                  have cc := (show HashAt W kb K from by first | exact hW.2 | exact hW.1.2).row lK
                  go_simp
                  all_goals with_reducible rfl
                try simp only [Act.put, List.setIfInBounds_toArray, List.set_cons_zero, List.set_cons_succ]
                refine wpAnyH_take (i := 30) (v := ?_) (by rw [List.getElem?_toArray]; rfl) (by kernel_rfl) (by kernel_rfl) (by kernel_rfl) (by exact fun _ _ _ h => h) (Or.inl ⟨by rfl, ?_⟩) h0 ?_
                rotate_left
                · intro W hW
                  go_simp
                  all_goals with_reducible rfl
                try simp only [Act.put, List.setIfInBounds_toArray, List.set_cons_zero, List.set_cons_succ]
                refine wpAnyH_take (i := 31) (v := ?_) (by rw [List.getElem?_toArray]; rfl) (by kernel_rfl) (by kernel_rfl) (by kernel_rfl) (by exact fun _ _ _ h => h) (Or.inl ⟨by rfl, ?_⟩) h0 ?_
                rotate_left
                · intro W hW
                  have cc := (show HashAt W kb K from by first | exact hW.2 | exact hW.1.2).row lK
                  go_simp
                  all_goals with_reducible rfl
                try simp only [Act.put, List.setIfInBounds_toArray, List.set_cons_zero, List.set_cons_succ]
                refine wpAnyH_ready (rs := [29]) (by kernel_rfl) (by simp) ?_
                refine AllReadyH.cons (by rw [List.getElem?_toArray]; rfl) (fun KX hKK => ?_) AllReadyH.nil
                first | rw [if_pos (by rfl)] | skip
                have CC := Lib.hid (Get_all HKY.out SM6.out.map.map)
                rw [HG4.out] at CC
                go_wp2_with fail
                refine CC.out.mono ?_
                rintro e w7 ⟨rfl, bb⟩
                have SM7 := Lib.hid (SM6.out.on bb)
                have hS : ((rowOf w7 b (off + i * 64) 32 = hc Ki ∧ rowOf w7 b (off + i * 64 + 32) 32 = hc V) ∧ HashAt w7 kb K) ∧ w7.cell? ⟨pm, 0, none⟩ = some (.slice qv LP2.length cv) := ⟨⟨RN9.out _ SM7.out.map.below, HA.out.on SM7.out.map.below⟩, SM7.out.r.cell⟩
                clear CC bb SM6
                go_wp2_with fail
                refine hKK.out _ _ (hS) (fun h0 => ?_)
                clear hKK KX
                try simp only [Act.put, List.setIfInBounds_toArray, List.set_cons_zero, List.set_cons_succ]
                clear hS
                refine wpAnyH_ready (rs := [32]) (by kernel_rfl) (by simp) ?_
                refine AllReadyH.cons (by rw [List.getElem?_toArray]; rfl) (fun KX hKK => ?_) AllReadyH.nil
                first | rw [if_pos (by rfl)] | skip
                have CC := Lib.hid (Get5_any SM7.out.r HKY.out (by have := LE6.out; omega))
                rw [HG5.out] at CC
                go_wp2_with fail
                refine CC.out.mono ?_
                rintro e w8 ⟨rfl, bb⟩
                have SM8 := Lib.hid (SM7.out.on bb)
                have hS : ((rowOf w8 b (off + i * 64) 32 = hc Ki ∧ rowOf w8 b (off + i * 64 + 32) 32 = hc V) ∧ HashAt w8 kb K) ∧ w8.cell? ⟨pm, 0, none⟩ = some (.slice qv LP2.length cv) := ⟨⟨RN9.out _ SM8.out.map.below, HA.out.on SM8.out.map.below⟩, SM8.out.r.cell⟩
                clear CC bb SM7
                go_wp2_with fail
                refine hKK.out _ _ (hS) (fun h0 => ?_)
                clear hKK KX
                try simp only [Act.put, List.setIfInBounds_toArray, List.set_cons_zero, List.set_cons_succ]
                clear hS
                refine wpAnyH_take (i := 33) (v := ?_) (by rw [List.getElem?_toArray]; rfl) (by kernel_rfl) (by kernel_rfl) (by kernel_rfl) (by exact fun _ _ _ h => h) (Or.inl ⟨by rfl, ?_⟩) h0 ?_
                rotate_left
                · intro W hW
                  go_simp
                  all_goals with_reducible rfl
                try simp only [Act.put, List.setIfInBounds_toArray, List.set_cons_zero, List.set_cons_succ]
                refine wpAnyH_take (i := 34) (v := ?_) (by rw [List.getElem?_toArray]; rfl) (by kernel_rfl) (by kernel_rfl) (by kernel_rfl) (by exact fun _ _ _ h => h) (Or.inl ⟨by rfl, ?_⟩) h0 ?_
                rotate_left
                · intro W hW
                  go_simp
                  all_goals with_reducible rfl
                try simp only [Act.put, List.setIfInBounds_toArray, List.set_cons_zero, List.set_cons_succ]
                refine wpAnyH_take (i := 35) (v := ?_) (by rw [List.getElem?_toArray]; rfl) (by kernel_rfl) (by kernel_rfl) (by kernel_rfl) (by exact fun _ _ _ h => h) (Or.inl ⟨by rfl, ?_⟩) h0 ?_
                rotate_left
                · intro W hW
                  go_simp
                  all_goals with_reducible rfl
                try simp only [Act.put, List.setIfInBounds_toArray, List.set_cons_zero, List.set_cons_succ]
                refine wpAnyH_take (i := 36) (v := ?_) (by rw [List.getElem?_toArray]; rfl) (by kernel_rfl) (by kernel_rfl) (by kernel_rfl) (by exact fun _ _ _ h => h) (Or.inl ⟨by rfl, ?_⟩) h0 ?_
                rotate_left
                · intro W hW
                  go_simp
                  all_goals with_reducible rfl
                try simp only [Act.put, List.setIfInBounds_toArray, List.set_cons_zero, List.set_cons_succ]
                refine wpAnyH_take (i := 38) (v := ?_) (by rw [List.getElem?_toArray]; rfl) (by kernel_rfl) (by kernel_rfl) (by kernel_rfl) (by exact fun _ _ _ h => h) (Or.inl ⟨by rfl, ?_⟩) h0 ?_
                rotate_left
                · intro W hW
                  go_simp
                  all_goals with_reducible rfl
                try simp only [Act.put, List.setIfInBounds_toArray, List.set_cons_zero, List.set_cons_succ]
                refine wpAnyH_take (i := 39) (v := ?_) (by rw [List.getElem?_toArray]; rfl) (by kernel_rfl) (by kernel_rfl) (by kernel_rfl) (by exact fun _ _ _ h => h) (Or.inl ⟨by rfl, ?_⟩) h0 ?_
                rotate_left
                · intro W hW
                  go_simp
                  all_goals with_reducible rfl
                try simp only [Act.put, List.setIfInBounds_toArray, List.set_cons_zero, List.set_cons_succ]
                refine wpAnyH_take (i := 40) (v := ?_) (by rw [List.getElem?_toArray]; rfl) (by kernel_rfl) (by kernel_rfl) (by kernel_rfl) (by exact fun _ _ _ h => h) (Or.inl ⟨by rfl, ?_⟩) h0 ?_
                rotate_left
                · intro W hW
                  go_simp
                  all_goals with_reducible rfl
                try simp only [Act.put, List.setIfInBounds_toArray, List.set_cons_zero, List.set_cons_succ]
                refine wpAnyH_take (i := 41) (v := ?_) (by rw [List.getElem?_toArray]; rfl) (by kernel_rfl) (by kernel_rfl) (by kernel_rfl) (by exact fun _ _ _ h => h) (Or.inl ⟨by rfl, ?_⟩) h0 ?_
                rotate_left
                · intro W hW
                  have cc := hW.2
                  go_simp
                  all_goals with_reducible rfl
                try simp only [Act.put, List.setIfInBounds_toArray, List.set_cons_zero, List.set_cons_succ]
                refine wpAnyH_ready (rs := [37]) (by kernel_rfl) (by simp) ?_
                refine AllReadyH.cons (by rw [List.getElem?_toArray]; rfl) (fun KX hKK => ?_) AllReadyH.nil
                first | rw [if_pos (by rfl)] | skip
                have CC := Lib.hid (Pairs_all SM8.out.map.map (by have := LE6.out; omega))
                go_wp2_with fail
                refine CC.out.mono ?_
                rintro e w9 ⟨vp, L1, rfl, hp9, hs9, own9, b9, -⟩
                have SM9 := Lib.hid (SM8.out.on b9)
                have FR := Lib.hid (pairs_same hp9 hs9 SM9.out.map.map.e SM9.out.r.srt NZ6.out EQ6.out)
                have nL : L1.length = LP2.length := by rw [← FR.out, frE_len]
                have okE : EnOk L1 := fun e he => SM9.out.map.map.e.b.ok e (hp9.mem_iff.1 he)
                obtain ⟨qp, cp9, evp, rd9, -, -, -, -⟩ := rdP_own okE own9
                rw [nL] at evp
                subst evp
                have RD9 := Lib.hid rd9
                have OKE := Lib.hid okE
                have NL := Lib.hid nL
                have hS : ((rowOf w9 b (off + i * 64) 32 = hc Ki ∧ rowOf w9 b (off + i * 64 + 32) 32 = hc V) ∧ HashAt w9 kb K) ∧ w9.cell? ⟨pm, 0, none⟩ = some (.slice qv LP2.length cv) := ⟨⟨RN9.out _ SM9.out.map.below, HA.out.on SM9.out.map.below⟩, SM9.out.r.cell⟩
                clear CC b9 hp9 hs9 own9 rd9 okE nL SM8
                go_wp2_with fail
                refine hKK.out _ _ (hS) (fun h0 => ?_)
                clear hKK KX
                try simp only [Act.put, List.setIfInBounds_toArray, List.set_cons_zero, List.set_cons_succ]
                clear hS
                refine wpAnyH_ready (rs := [42]) (by kernel_rfl) (by simp) ?_
                refine AllReadyH.cons (by rw [List.getElem?_toArray]; rfl) (fun KX hKK => ?_) AllReadyH.nil
                first | rw [if_pos (by rfl)] | skip
                have CC := Lib.hid (samep_any (c1 := cp9) (c2 := cv) RD9.out OKE.out SM9.out.r.rdq SM9.out.r.ok NL.out (fun j hj => by rw [← FR.out]; exact frE_get (by rw [NL.out]; exact hj)) (by have := LE6.out; omega))
                go_wp2_with fail
                refine CC.out.mono ?_
                rintro e w10 ⟨rfl, bb⟩
                have SM10 := Lib.hid (SM9.out.on bb)
                have hS : ((rowOf w10 b (off + i * 64) 32 = hc Ki ∧ rowOf w10 b (off + i * 64 + 32) 32 = hc V) ∧ HashAt w10 kb K) ∧ w10.cell? ⟨pm, 0, none⟩ = some (.slice qv LP2.length cv) := ⟨⟨RN9.out _ SM10.out.map.below, HA.out.on SM10.out.map.below⟩, SM10.out.r.cell⟩
                clear CC bb SM9
                go_wp2_with fail
                refine hKK.out _ _ (hS) (fun h0 => ?_)
                clear hKK KX
                try simp only [Act.put, List.setIfInBounds_toArray, List.set_cons_zero, List.set_cons_succ]
                clear hS
                refine wpAnyH_take (i := 43) (v := ?_) (by rw [List.getElem?_toArray]; rfl) (by kernel_rfl) (by kernel_rfl) (by kernel_rfl) (by exact fun _ _ _ h => h) (Or.inl ⟨by rfl, ?_⟩) h0 ?_
                rotate_left
                · intro W hW
                  go_simp
                  all_goals with_reducible rfl
                try simp only [Act.put, List.setIfInBounds_toArray, List.set_cons_zero, List.set_cons_succ]
                refine wpAnyH_take (i := 44) (v := ?_) (by rw [List.getElem?_toArray]; rfl) (by kernel_rfl) (by kernel_rfl) (by kernel_rfl) (by exact fun _ _ _ h => h) (Or.inl ⟨by rfl, ?_⟩) h0 ?_
                rotate_left
                · intro W hW
                  go_simp
                  all_goals with_reducible rfl
                try simp only [Act.put, List.setIfInBounds_toArray, List.set_cons_zero, List.set_cons_succ]
                refine wpAnyH_done (by kernel_rfl) ?_ _
                clear h0
                go_wp2_with fail
                go_roundw
                case rel => exact ⟨i + 1, c', E', top', bl', _, LP2, by go_num, by omega, SM10, EQ6, NZ6, LE6⟩
                case measure => simp [intOf]; omega
            · as_aux_lemma =>
                have hltI : ¬ (i : Int) < (N.length : Int) := by omega
                have SM4 := Lib.hid (SM.out.on (Below.refl _ _).drew)
                have HGB : Hid (1 ∉ bl) := fun hin => by have h1 := SM4.out.map.bg _ hin; have h2 := HT.out.pos; omega
                obtain ⟨R, hR⟩ : ∃ R, rootE E = R := ⟨_, rfl⟩
                have lR : R.length = 32 := by rw [← hR]; exact rootE_len E SM4.out.map.map.e
                have hlR := hc_len R
                have HR := Lib.hid hR
                have HR5 : Hid (rootR LP = R) := by show _ = _; rw [← hR]; exact rootR_E SM4.out.r.ok SM4.out.r.srt NZ.out SM4.out.map.map.e EQ.out
                clear hR SM
                go_upto_region 14 with fail
                refine wp_region_held_drew (S := fun W => HashAt W kb K) (by kernel_rfl) (HA.out.on SM4.out.map.below) (fun h0 => ?_)
                generalize wr.drew = w4 at *
                refine wpAnyH_take (i := 0) (v := ?_) (by rw [List.getElem?_toArray]; rfl) (by kernel_rfl) (by kernel_rfl) (by kernel_rfl) (by exact fun _ _ _ h => h) (Or.inl ⟨by rfl, ?_⟩) h0 ?_
                rotate_left
                · intro W hW
                  go_simp
                  all_goals with_reducible rfl
                try simp only [Act.put, List.setIfInBounds_toArray, List.set_cons_zero, List.set_cons_succ]
                refine wpAnyH_take (i := 2) (v := ?_) (by rw [List.getElem?_toArray]; rfl) (by kernel_rfl) (by kernel_rfl) (by kernel_rfl) (by exact fun _ _ _ h => h) (Or.inl ⟨by rfl, ?_⟩) h0 ?_
                rotate_left
                · intro W hW
                  go_simp
                  all_goals with_reducible rfl
                try simp only [Act.put, List.setIfInBounds_toArray, List.set_cons_zero, List.set_cons_succ]
                refine wpAnyH_ready (rs := [1]) (by kernel_rfl) (by simp) ?_
                refine AllReadyH.cons (by rw [List.getElem?_toArray]; rfl) (fun KX hKK => ?_) AllReadyH.nil
                first | rw [if_pos (by rfl)] | skip
                have CC := Lib.hid (Root_all (HT.out.on SM4.out.map.below HT.out.pos) SM4.out.map.map HGB.out)
                rw [HR.out] at CC
                go_wp2_with fail
                refine CC.out.mono ?_
                rintro e w5 ⟨rfl, cc2, mm2⟩
                have SM5 := Lib.hid (SM4.out.tree cc2 mm2)
                have hS : HashAt w5 kb K := HA.out.on SM5.out.map.below
                clear CC cc2 mm2 SM4
                go_wp2_with fail
                refine hKK.out _ _ (hS) (fun h0 => ?_)
                clear hKK KX
                try simp only [Act.put, List.setIfInBounds_toArray, List.set_cons_zero, List.set_cons_succ]
                clear hS
                refine wpAnyH_ready (rs := [3]) (by kernel_rfl) (by simp) ?_
                refine AllReadyH.cons (by rw [List.getElem?_toArray]; rfl) (fun KX hKK => ?_) AllReadyH.nil
                first | rw [if_pos (by rfl)] | skip
                have CC := Lib.hid (Root5_any SM5.out.r (by have := LE.out; omega))
                rw [HR5.out] at CC
                go_wp2_with fail
                refine CC.out.mono ?_
                rintro e w6 ⟨rfl, bb⟩
                have SM6 := Lib.hid (SM5.out.on bb)
                have hS : HashAt w6 kb K := HA.out.on SM6.out.map.below
                clear CC bb SM5
                go_wp2_with fail
                refine hKK.out _ _ (hS) (fun h0 => ?_)
                clear hKK KX
                try simp only [Act.put, List.setIfInBounds_toArray, List.set_cons_zero, List.set_cons_succ]
                clear hS
                refine wpAnyH_take (i := 4) (v := ?_) (by rw [List.getElem?_toArray]; rfl) (by kernel_rfl) (by kernel_rfl) (by kernel_rfl) (by exact fun _ _ _ h => h) (Or.inl ⟨by rfl, ?_⟩) h0 ?_
                rotate_left
                · intro W hW
                  go_simp
                  all_goals with_reducible rfl
                try simp only [Act.put, List.setIfInBounds_toArray, List.set_cons_zero, List.set_cons_succ]
                refine wpAnyH_take (i := 5) (v := ?_) (by rw [List.getElem?_toArray]; rfl) (by kernel_rfl) (by kernel_rfl) (by kernel_rfl) (by exact fun _ _ _ h => h) (Or.inl ⟨by rfl, ?_⟩) h0 ?_
                rotate_left
                · intro W hW
                  go_simp
                  all_goals with_reducible rfl
                try simp only [Act.put, List.setIfInBounds_toArray, List.set_cons_zero, List.set_cons_succ]
                refine wpAnyH_take (i := 6) (v := ?_) (by rw [List.getElem?_toArray]; rfl) (by kernel_rfl) (by kernel_rfl) (by kernel_rfl) (by exact fun _ _ _ h => h) (Or.inl ⟨by rfl, ?_⟩) h0 ?_
                rotate_left
                · intro W hW
                  go_simp
                  all_goals with_reducible rfl
                try simp only [Act.put, List.setIfInBounds_toArray, List.set_cons_zero, List.set_cons_succ]
                refine wpAnyH_take (i := 7) (v := ?_) (by rw [List.getElem?_toArray]; rfl) (by kernel_rfl) (by kernel_rfl) (by kernel_rfl) (by exact fun _ _ _ h => h) (Or.inl ⟨by rfl, ?_⟩) h0 ?_
                rotate_left
                · intro W hW
                  have cc := hW.row lK
                  go_simp
                  all_goals with_reducible rfl
                try simp only [Act.put, List.setIfInBounds_toArray, List.set_cons_zero, List.set_cons_succ]
                refine wpAnyH_take (i := 9) (v := ?_) (by rw [List.getElem?_toArray]; rfl) (by kernel_rfl) (by kernel_rfl) (by kernel_rfl) (by exact fun _ _ _ h => h) (Or.inl ⟨by rfl, ?_⟩) h0 ?_
                rotate_left
                · intro W hW
                  go_simp
                  all_goals with_reducible rfl
                try simp only [Act.put, List.setIfInBounds_toArray, List.set_cons_zero, List.set_cons_succ]
                refine wpAnyH_take (i := 10) (v := ?_) (by rw [List.getElem?_toArray]; rfl) (by kernel_rfl) (by kernel_rfl) (by kernel_rfl) (by exact fun _ _ _ h => h) (Or.inl ⟨by rfl, ?_⟩) h0 ?_
                rotate_left
                · intro W hW
                  have cc := hW.row lK
                  go_simp
                  all_goals with_reducible rfl
                try simp only [Act.put, List.setIfInBounds_toArray, List.set_cons_zero, List.set_cons_succ]
                refine wpAnyH_ready (rs := [8]) (by kernel_rfl) (by simp) ?_
                refine AllReadyH.cons (by rw [List.getElem?_toArray]; rfl) (fun KX hKK => ?_) AllReadyH.nil
                first | rw [if_pos (by rfl)] | skip
                have CC := Lib.hid (Prove_all (HT.out.on SM6.out.map.below HT.out.pos) SM6.out.map HKY.out HGB.out)
                go_wp2_with fail
                refine CC.out.mono ?_
                rintro e w7 ⟨M, q7, k7, Ss, rfl, pn7, hs7, m7, c7, f7⟩
                have SM7 := Lib.hid (SM6.out.tree c7 m7.map)
                have PN := Lib.hid pn7
                have RD7 := Lib.hid hs7.rd.2.1
                have OK7 := Lib.hid hs7.ok
                have lp7 := pfRow_len pn7.ky.len (.slice q7 Ss.length k7)
                have hS : HashAt w7 kb K := HA.out.on SM7.out.map.below
                clear CC pn7 hs7 m7 c7 f7 SM6
                go_wp2_with fail
                refine hKK.out _ _ (hS) (fun h0 => ?_)
                clear hKK KX
                try simp only [Act.put, List.setIfInBounds_toArray, List.set_cons_zero, List.set_cons_succ]
                clear hS
                refine wpAnyH_ready (rs := [11]) (by kernel_rfl) (by simp) ?_
                refine AllReadyH.cons (by rw [List.getElem?_toArray]; rfl) (fun KX hKK => ?_) AllReadyH.nil
                first | rw [if_pos (by rfl)] | skip
                have CC := Lib.hid (Prove5_any SM7.out.r HKY.out (by have := LE.out; omega))
                go_wp2_with fail
                refine CC.out.mono ?_
                rintro e w8 ⟨M2, q8, k8, S2, rfl, pn8, hs8⟩
                have SM8 := Lib.hid (SM7.out.on hs8.below)
                obtain ⟨eM, eS⟩ := pvn_same PN.out pn8 (fun x hx => by obtain ⟨e, he, rfl⟩ := List.mem_map.1 hx; exact ⟨(SM7.out.map.map.e.b.ok e he).1, SM7.out.map.map.e.b.kb e he⟩) (fun x => by rw [key_nz NZ.out, ← EQ.out x, ← SM7.out.map.map.e.key]; simp) (fun x _ => EQ.out x)
                subst eM eS
                have RD8 := Lib.hid hs8.rd.2.1
                have RD78 := Lib.hid (RD7.out.on (fun j hj => (OK7.out.get j hj).1) hs8.below)
                have lp8 := pfRow_len pn8.ky.len (.slice q8 Ss.length k8)
                have hS : HashAt w8 kb K := HA.out.on SM8.out.map.below
                clear CC pn8 hs8 SM7 RD7
                go_wp2_with fail
                refine hKK.out _ _ (hS) (fun h0 => ?_)
                clear hKK KX
                try simp only [Act.put, List.setIfInBounds_toArray, List.set_cons_zero, List.set_cons_succ]
                clear hS
                refine wpAnyH_ready (rs := [12]) (by kernel_rfl) (by simp) ?_
                refine AllReadyH.cons (by rw [List.getElem?_toArray]; rfl) (fun KX hKK => ?_) AllReadyH.nil
                first | rw [if_pos (by rfl)] | skip
                have CC := Lib.hid (Same5_any (k := k7) (k' := k8) PN.out.ky.len RD78.out RD8.out OK7.out (by have := PN.out.len; omega))
                go_wp2_with fail
                refine CC.out.mono ?_
                rintro e w9 ⟨rfl, bb⟩
                have SM9 := Lib.hid (SM8.out.on bb)
                have hS : HashAt w9 kb K := HA.out.on SM9.out.map.below
                clear CC bb SM8 RD78 RD8
                go_wp2_with fail
                refine hKK.out _ _ (hS) (fun h0 => ?_)
                clear hKK KX
                try simp only [Act.put, List.setIfInBounds_toArray, List.set_cons_zero, List.set_cons_succ]
                clear hS
                refine wpAnyH_take (i := 13) (v := ?_) (by rw [List.getElem?_toArray]; rfl) (by kernel_rfl) (by kernel_rfl) (by kernel_rfl) (by exact fun _ _ _ h => h) (Or.inl ⟨by rfl, ?_⟩) h0 ?_
                rotate_left
                · intro W hW
                  go_simp
                  all_goals with_reducible rfl
                try simp only [Act.put, List.setIfInBounds_toArray, List.set_cons_zero, List.set_cons_succ]
                refine wpAnyH_take (i := 14) (v := ?_) (by rw [List.getElem?_toArray]; rfl) (by kernel_rfl) (by kernel_rfl) (by kernel_rfl) (by exact fun _ _ _ h => h) (Or.inl ⟨by rfl, ?_⟩) h0 ?_
                rotate_left
                · intro W hW
                  go_simp
                  all_goals with_reducible rfl
                try simp only [Act.put, List.setIfInBounds_toArray, List.set_cons_zero, List.set_cons_succ]
                refine wpAnyH_ready (rs := [15]) (by kernel_rfl) (by simp) ?_
                refine AllReadyH.cons (by rw [List.getElem?_toArray]; rfl) (fun KX hKK => ?_) AllReadyH.nil
                first | rw [if_pos (by rfl)] | skip
                go_wp2_with fail
                refine (knows5_any (HT.out.on SM9.out.map.below HT.out.pos)).mono ?_
                rintro e w10 ⟨rfl, bb⟩
                have SM10 := Lib.hid (SM9.out.on bb)
                have hS : HashAt w10 kb K := HA.out.on SM10.out.map.below
                clear bb SM9
                go_wp2_with fail
                refine hKK.out _ _ (hS) (fun h0 => ?_)
                clear hKK KX
                try simp only [Act.put, List.setIfInBounds_toArray, List.set_cons_zero, List.set_cons_succ]
                clear hS
                refine wpAnyH_take (i := 16) (v := ?_) (by rw [List.getElem?_toArray]; rfl) (by kernel_rfl) (by kernel_rfl) (by kernel_rfl) (by exact fun _ _ _ h => h) (Or.inl ⟨by rfl, ?_⟩) h0 ?_
                rotate_left
                · intro W hW
                  go_simp
                  all_goals with_reducible rfl
                try simp only [Act.put, List.setIfInBounds_toArray, List.set_cons_zero, List.set_cons_succ]
                refine wpAnyH_take (i := 17) (v := ?_) (by rw [List.getElem?_toArray]; rfl) (by kernel_rfl) (by kernel_rfl) (by kernel_rfl) (by exact fun _ _ _ h => h) (Or.inl ⟨by rfl, ?_⟩) h0 ?_
                rotate_left
                · intro W hW
                  go_simp
                  all_goals with_reducible rfl
                try simp only [Act.put, List.setIfInBounds_toArray, List.set_cons_zero, List.set_cons_succ]
                refine wpAnyH_done (by kernel_rfl) ?_ _
                clear h0
                go_wp2_with fail
                go_ret
                exact ⟨rfl, B0.out.trans (SM10.out.map.below.mono B0.out.size)⟩
      · as_aux_lemma =>
          obtain ⟨-, rfl, b3⟩ := hq3.resolve_left (fun h => nd (toEs_nd.1 h.1))
          have B3 := Lib.hid (B2.out.trans (b3.mono B2.out.size))
          have N5 := Lib.hid (New5_any (c := c1) (HL.out.on OKL.out B3.out) OKL.out (by omega))
          clear hq3 b3
          go_wp2_with fail
          refine N5.out.mono ?_
          rintro e w4 hq4
          obtain ⟨-, rfl, b4⟩ := hq4.resolve_left (fun h => nd h.1)
          have B4 := Lib.hid (B3.out.trans (b4.mono B3.out.size))
          clear hq4 b4 N5
          go_wp2_with fail
          refine (num5_any 1 _).mono ?_
          rintro e wn ⟨rfl, h⟩
          obtain rfl := h.symm
          clear h
          go_wp2_with fail
          refine (num5_any 1 _).mono ?_
          rintro e wn ⟨rfl, h⟩
          obtain rfl := h.symm
          clear h
          go_wp2_with fail
          refine (knows5_any (HT.out.on B4.out HT.out.pos)).mono ?_
          rintro e wz ⟨rfl, bz⟩
          go_wp2_with fail
          go_ret
          exact ⟨rfl, B0.out.trans ((B4.out.trans (bz.mono B4.out.size)).mono B0.out.size)⟩
end Go.Proofs.YtjlodnecdngdfaaDoor
namespace Go.Proofs.YtjlodnecdngdfaaDoor
open Go.ChangeShapes Go.WideShapes Go.ChangeAt Go.RowKit
set_option maxRecDepth 100000

def rootsL : List (String × DataW Unit) := [("bascule/digest.roots", Rows.laid_bascule_digest_roots)]
theorem gRoots : Tryd.prog.globalNamed "bascule/digest.roots" = some 1 := by kernel_rfl
theorem gRootsType : (Tryd.prog.globals[1]?).map (·.type) = some 107 := by kernel_rfl
theorem rootsData : (Rows.laid_bascule_digest_roots : DataW Unit) = Lib.tabData .u32 rootsZ := by rfl
theorem tbl_of {W : World} (h : laidMetH Tryd.prog rootsL W) : Tbl W := by
  have h' : laidMetH Tryd.prog (("bascule/digest.roots", Lib.tabData .u32 rootsZ) :: []) W := by rw [← rootsData]; exact h
  have := Lib.tabIs_of_head (rest := []) gRoots gRootsType Tryd.underlying107 Tryd.underlying105 (by kernel_rfl) (by kernel_rfl) h'
  intro i hi
  exact this.cell gRoots i (by have : rootsZ.length = 64 := rfl; omega)
/-- The door's own heap meets the condition. -/
theorem door_met (os : Os) (args : Array Value) : laidMetH Tryd.prog rootsL ((World.doorLaid Tryd.prog 400 os).forCall (fun _ _ => 0) ⟨#[], args, []⟩).memory :=
  laidMetH_of_parts3 (fuel := 8) (laidMet_of_run' 8 (by kernel_rfl) (by kernel_rfl)) (by kernel_rfl) (by kernel_rfl)
end Go.Proofs.YtjlodnecdngdfaaDoor
