/-
  Package smt: Prove, on any map.; The root behind a proof, in the document.; Check and Update, in package proof and in the document.; Proofs of a map: the root behind one; what a law about proofs keeps from call to call.
-/
import Derived.Test.YtjlodnecdngdfaaDoorSy7
import Derived.Test.YtjlodnecdngdfaaDoorSy11
import Derived.Test.YtjlodnecdngdfaaDoorSy14
import Derived.Test.YtjlodnecdngdfaaDoorSy18
import Derived.Test.YtjlodnecdngdfaaDoorSy20
namespace Go.Proofs.YtjlodnecdngdfaaDoor
open Go.RowKit
set_option maxRecDepth 100000

theorem cell_chg {w w' : World} {S : List Nat} (hc : Chg w w' S) {p : Addr} (hl : p.block < w.heap.size) (hn : p.block ∉ S) : w'.cell? p = w.cell? p := World.cell?_of_block (hc.block _ hl hn)
set_option maxHeartbeats 64000000 in
theorem Prove_all {w0 w : World} {p m c : Nat} {E : List En} {top : Option Addr} {bl : List Nat} {K : List Int} (hT : Tbl w) (hM : MpW w0 w p m E c top bl) (hKy : KyOk K) (hg : 1 ∉ bl) :
    Calls Tryd.prog 22 #[.pointer (some ⟨p, 0, none⟩), .agg (hc K).toArray] w (PvQ w0 w p m c E top bl K) := by
  have z32 := zero32_len
  have hlK := hc_len K
  have lK := hKy.len
  have HKY := Lib.hid hKy
  have HE := Lib.hid hM.map.e.b
  have HM := Lib.hid hM
  have HT := Lib.hid hT
  have FF : Hid (PlF w0 w p m bl w.heap.size) := Lib.hid ⟨rfl, hM.map.s.lp, hM.map.s.lm, hM.map.t.lt, hM.below.size, hM.bg, hM.map.p, hM.map.m, (by rcases hM.map.t with ⟨-, -, rfl⟩ | ⟨b, t, h1, h2, h3, h4, h5⟩; exact List.nodup_nil; exact h5), hg⟩
  have b1 : Below w.heap.size w (((w.alloc (.cells (hc K).toArray 24)).alloc (.cells (pfRow zero32 (.slice none 0 0)).toArray 48)).alloc (.cells (pfRow zero32 (.slice none 0 0)).toArray 48)) := (((Below.refl w.heap.size w).alloc (Nat.le_refl _) _).alloc (by simp) _).alloc (by simp; omega) _
  have P1 := (PfB.new (t := 48) (w.alloc (.cells (hc K).toArray 24)) zero32 (.slice none 0 0)).alloc (.cells (pfRow zero32 (.slice none 0 0)).toArray 48)
  have P2 := PfB.new (t := 48) ((w.alloc (.cells (hc K).toArray 24)).alloc (.cells (pfRow zero32 (.slice none 0 0)).toArray 48)) zero32 (.slice none 0 0)
  simp only [World.size_alloc] at P1 P2
  have PS0 : Hid (PlS w0 w (((w.alloc (.cells (hc K).toArray 24)).alloc (.cells (pfRow zero32 (.slice none 0 0)).toArray 48)).alloc (.cells (pfRow zero32 (.slice none 0 0)).toArray 48)) p m c E top bl w.heap.size K zero32 (.slice none 0 0) []) := Lib.hid ⟨hM.map.s.on b1, Chg.below b1 (Nat.le_refl _) bl, ((HashAt.new w K).alloc _).alloc _, P1, P2, HsS.on ⟨World.ownsRow_nil w 0 _ 32, HsOk.nil, by simp [Value.ownBlock], hM.below⟩ b1, fun g hg => by simp [Value.ownBlock] at hg⟩
  have TP0 := Lib.hid (hM.map.t.on b1)
  have EK := Lib.hid hM.map.e
  have cc0 := PS0.out.s.c0
  have cc1 := PS0.out.s.c1
  clear P1 P2 b1 hM hT hg hKy
  go_enter Tryd.func22, Tryd.ntmps22
  go_wp2_with fail
  go_step3
  go_wp2_with fail
  refine (made_yes cc0).mono ?_
  rintro e wn ⟨rfl, h⟩
  obtain rfl := h.symm
  clear h
  go_wp2_with fail
  obtain ⟨kb, hkb⟩ : ∃ kb, w.heap.size = kb := ⟨_, rfl⟩
  rw [hkb] at FF PS0
  try rw [hkb]
  clear cc0 cc1
  generalize (((w.alloc (.cells (hc K).toArray 24)).alloc (.cells (pfRow zero32 (.slice none 0 0)).toArray 48)).alloc (.cells (pfRow zero32 (.slice none 0 0)).toArray 48)) = w1 at *
  try clear hkb
  go_step3
  go_wp2_with fail
  go_loopw [6] (fun iv wr => ∃ M v Ss, Hid (PlS w0 w wr p m c E top bl kb K M v Ss) ∧ ((iv = .pointer none ∧ Hid (PvN (vOf E) (E.map (·.k)) K 256 M Ss ∧ TopS wr E top bl)) ∨ ∃ L t b bs, iv = .pointer (some ⟨b, 0, none⟩) ∧ Hid (WkN (E.map (·.k)) K L t) ∧ Hid (PvN (vOf E) (E.map (·.k)) K L M Ss) ∧ Hid (TlS wr E top bl t b bs))) (fun iv wr => fgm iv wr)
  case atStart =>
    refine ⟨zero32, .slice none 0 0, [], PS0, ?_⟩
    rcases TP0.out with ⟨h1, h2, h3⟩ | ⟨b, t, h1, h2, h3, h4, h5⟩
    · subst h1 h2
      exact .inl ⟨rfl, (PvN.start _ _ _).skip (fun i _ _ => sdP_none (fun x hx => by simp at hx)) (by omega), TP0.out⟩
    · subst h1
      exact .inr ⟨0, t, b, bl, rfl, WkN.start h2 (fun x => by rw [h3 x, List.mem_map]), PvN.start _ _ _, TlS.start h4 h5 h2 h3⟩
  case round =>
    clear PS0 TP0
    obtain ⟨M, v, Ss, PS, hr⟩ := hrel
    rcases hr with ⟨rfl, hpt⟩ | ⟨L, t, b, bs, rfl, WK, PN, TL⟩
    · as_aux_lemma =>
        have PN8 := Lib.hid hpt.out.1
        have TT := Lib.hid hpt.out.2
        clear hpt
        obtain ⟨q9, k9, rfl⟩ := own_slice PS.out.hs.own
        have l9 := PN8.out.ky.len
        have r9 := PS.out.hP.whole l9
        have th9 := PS.out.hR.there zero32_len
        have lp9 := pfRow_len l9 (.slice q9 Ss.length k9)
        have hput9 := (PS.out.hR.put zero32_len l9 (.slice q9 Ss.length k9)).whole l9
        go_wp2_with fail
        try rw [Exit.noGoto_ret]
        refine bodyPost_ret (v := .agg (pfRow M (.slice q9 Ss.length k9)).toArray) (by simp [results, Tryd.results22, go_sem, hput9, lp9]) rfl ?_
        obtain ⟨d1, d2, d3⟩ := PS.out.done FF.out TT.out HM.out rfl
        exact ⟨M, q9, k9, Ss, rfl, PN8.out, d1, d2, d3, fun g hg => by have := PS.out.nw g hg; have := FF.out.hkb; omega⟩

    · have OKT := Lib.hid WK.out.ok
      have LLE : Hid (L ≤ 256) := by have := WK.out.le; have := OKT.out.fork_le; show _ ≤ _; omega
      have lTK := OKT.out.keyOk.len
      have hlT := hc_len t.key
      obtain ⟨x, y, nn, n1, n2, n3, n4, n5, n6, -, -⟩ := TL.out.tr.node
      have f32 : wr.drew.cell? ⟨b, 32, none⟩ = some (.int .i64 (t.fork : Int)) := by have := (n1.facts n2).1; rw [n4] at this; exact this
      have rk : rowOf wr.drew b 0 32 = hc t.key := by have := (n1.facts n2).2.2.2.2.2.2.1; rw [n3] at this; exact this
      have PS4 := Lib.hid (PS.out.on FF.out (Below.refl _ _).drew)
      have TL4 := Lib.hid (TL.out.on (Below.refl _ _).drew)
      clear n1 n2 n3 n4 n5 n6 x y nn PS
      go_upto_region 6 with fail
      refine wp_region_held_drew (S := fun W => HashAt W kb K ∧ rowOf W b 0 32 = hc t.key) (by kernel_rfl) (⟨PS4.out.hK, rk⟩) (fun h0 => ?_)
      generalize wr.drew = w4 at *
      refine wpAnyH_take (i := 0) (v := ?_) (by rw [List.getElem?_toArray]; rfl) (by kernel_rfl) (by kernel_rfl) (by kernel_rfl) (by exact fun _ _ _ h => h) (Or.inl ⟨by rfl, ?_⟩) h0 ?_
      rotate_left
      · intro W hW
        have r1 := hW.1.row HKY.out.len
        go_simp
        all_goals with_reducible rfl
      try simp only [Act.put, List.setIfInBounds_toArray, List.set_cons_zero, List.set_cons_succ]
      refine wpAnyH_take (i := 1) (v := ?_) (by rw [List.getElem?_toArray]; rfl) (by kernel_rfl) (by kernel_rfl) (by kernel_rfl) (by exact fun _ _ _ h => h) (Or.inl ⟨by rfl, ?_⟩) h0 ?_
      rotate_left
      · intro W hW
        go_simp
        all_goals with_reducible rfl
      try simp only [Act.put, List.setIfInBounds_toArray, List.set_cons_zero, List.set_cons_succ]
      refine wpAnyH_take (i := 2) (v := ?_) (by rw [List.getElem?_toArray]; rfl) (by kernel_rfl) (by kernel_rfl) (by kernel_rfl) (by exact fun _ _ _ h => h) (Or.inl ⟨by rfl, ?_⟩) h0 ?_
      rotate_left
      · intro W hW
        go_simp
        all_goals with_reducible rfl
      try simp only [Act.put, List.setIfInBounds_toArray, List.set_cons_zero, List.set_cons_succ]
      refine wpAnyH_take (i := 3) (v := ?_) (by rw [List.getElem?_toArray]; rfl) (by kernel_rfl) (by kernel_rfl) (by kernel_rfl) (by exact fun _ _ _ h => h) (Or.inl ⟨by rfl, ?_⟩) h0 ?_
      rotate_left
      · intro W hW
        go_simp
        all_goals with_reducible rfl
      try simp only [Act.put, List.setIfInBounds_toArray, List.set_cons_zero, List.set_cons_succ]
      refine wpAnyH_take (i := 4) (v := ?_) (by rw [List.getElem?_toArray]; rfl) (by kernel_rfl) (by kernel_rfl) (by kernel_rfl) (by exact fun _ _ _ h => h) (Or.inl ⟨by rfl, ?_⟩) h0 ?_
      rotate_left
      · intro W hW
        have r2 := hW.2
        go_simp
        all_goals with_reducible rfl
      try simp only [Act.put, List.setIfInBounds_toArray, List.set_cons_zero, List.set_cons_succ]
      refine wpAnyH_ready (rs := [5]) (by kernel_rfl) (by simp) ?_
      refine AllReadyH.cons (by rw [List.getElem?_toArray]; rfl) (fun KX hKK => ?_) AllReadyH.nil
      rw [if_pos (by rfl)]
      go_wp2_with fail
      refine (differ_any HKY.out OKT.out.keyOk).mono ?_
      rintro e w5 ⟨rfl, b5⟩
      have hS : HashAt w5 kb K ∧ rowOf w5 b 0 32 = hc t.key := ⟨h0.1.on b5, (rowOf_on (by rw [h0.2, hc_len, lTK]; omega) b5).trans h0.2⟩
      have PS5 := Lib.hid (PS4.out.on FF.out b5)
      have TL5 := Lib.hid (TL4.out.on b5)
      have F32 : Hid (w5.cell? ⟨b, 32, none⟩ = some (.int .i64 (t.fork : Int))) := (b5.cell (World.block_lt_of_cell? _ _ f32)).trans f32
      clear b5 PS4 TL4 f32
      go_wp2_with fail
      refine hKK.out _ _ (hS) (fun h0 => ?_)
      clear hKK KX
      try simp only [Act.put, List.setIfInBounds_toArray, List.set_cons_zero, List.set_cons_succ]
      refine wpAnyH_take (i := 6) (v := ?_) (by rw [List.getElem?_toArray]; rfl) (by kernel_rfl) (by kernel_rfl) (by kernel_rfl) (by exact fun _ _ _ h => h) (Or.inl ⟨by rfl, ?_⟩) h0 ?_
      rotate_left
      · intro W hW
        go_simp
        all_goals with_reducible rfl
      try simp only [Act.put, List.setIfInBounds_toArray, List.set_cons_zero, List.set_cons_succ]
      refine wpAnyH_done (by kernel_rfl) ?_ _
      clear h0
      obtain ⟨D, hDD⟩ : ∃ D, dif K t.key = D := ⟨_, rfl⟩
      have HD := Lib.hid hDD
      rw [hDD]
      clear hDD
      by_cases hD : D < t.fork
      · as_aux_lemma =>
          have dI : (D : Int) < (t.fork : Int) := by omega
          have WP := Lib.hid (WK.out.parts (by rw [HD.out]; exact hD))
          have NP : Hid (∀ i, L ≤ i → ¬ i = D → sdP (vOf E) (E.map (·.k)) K i = zero32) := fun i h1 h2 => WK.out.parts_none (by rw [HD.out]; exact hD) h1 (by rw [HD.out]; exact h2)
          have SP : Hid (sdP (vOf E) (E.map (·.k)) K D = aboveH (vOf E) t (D + 1)) := by have := WK.out.parts_side (V := vOf E) (by rw [HD.out]; exact hD); rw [HD.out] at this; exact this
          have LD : Hid (L ≤ D) := by have := WP.out.1; rw [HD.out] at this; exact this
          have D256 : Hid (D < 256) := by have := OKT.out.fork_le; show _ < _; omega
          have KC := Lib.hid (climb_all HE.out OKT.out w5 p m b (D + 1) bs ⟨HT.out.chg PS5.out.chg FF.out.ng, ⟨PS5.out.s.c0, c, PS5.out.s.mp⟩, TL5.out.tr⟩ ⟨TL5.out.nd, fun hm => FF.out.pn (TL5.out.ins _ hm), fun hm => FF.out.mn (TL5.out.ins _ hm), fun hm => FF.out.ng (TL5.out.ins _ hm)⟩ hD)
          rw [show ((D + 1 : Nat) : Int) = (D : Int) + 1 by omega] at KC
          have f32 := F32.out
          have d256 := D256.out
          go_wp2_with fail
          clear f32 d256
          refine KC.out.mono ?_
          rintro e w6 ⟨rfl, c6, t6⟩
          have PS6 := Lib.hid (PS5.out.tree FF.out c6 TL5.out.ins)
          have TL6 := Lib.hid (TL5.out.self c6 t6)
          have LG : Hid ((aboveH (vOf E) t (D + 1)).length = 32) := aboveH_len _ _ _
          have BG := Lib.hid (aboveH_bytes (vOf E) t (D + 1))
          obtain ⟨G, hG⟩ : ∃ G, aboveH (vOf E) t (D + 1) = G := ⟨_, rfl⟩
          rw [hG] at LG BG SP ⊢
          have SLN : Hid (Ss.length ≤ 300) := by have h1 := prvS_len (vOf E) (E.map (·.k)) K L; rw [← PN.out.ss] at h1; have := LLE.out; show _ ≤ _; omega
          clear c6 t6 hG KC PS5 TL5 dI hD F32
          go_wp2_with fail
          refine (add_any (w0 := w0) PS6.out.hP PS6.out.hs (by have := FF.out.lw0; omega) PN.out.ky LG.out BG.out D256.out SLN.out).mono ?_
          rintro e w8 hq8
          obtain ⟨rfl, M', v', ps8, ky8, bt8, c8⟩ := PS6.out.add FF.out hq8
          have NBL : Hid (∀ g ∈ bl, g ∉ (kb + 2) :: v.ownBlock.toList) := fun g hg hm => by
            have h1 := FF.out.lbl g hg
            rcases List.mem_cons.1 hm with e | hm
            · omega
            · have := PS6.out.nw g (by simpa using hm); omega
          have TT := Lib.hid (TL6.out.chg c8 NBL.out).topS
          have PS8 := Lib.hid ps8
          obtain ⟨Sz, hSz⟩ : ∃ Sz, (if G = zero32 then Ss else Ss ++ [G]) = Sz := ⟨_, rfl⟩
          rw [hSz] at PS8
          have PN8 : Hid (PvN (vOf E) (E.map (·.k)) K 256 M' Sz) := by
            show PvN (vOf E) (E.map (·.k)) K 256 M' Sz
            have pn := PN.out.skip (L' := D) (fun i h1 h2 => NP.out i h1 (by omega)) LD.out
            have hd := D256.out
            rw [← hSz]
            by_cases hz : G = zero32
            · rw [if_pos hz]
              have : M' = M := key_eq ky8 PN.out.ky (fun i hi => by rw [bt8 i hi, if_pos hz])
              rw [this]
              exact (pn.zero (by rw [SP.out]; exact hz)).skip (fun i h1 h2 => NP.out i (by have := LD.out; omega) (by omega)) (by omega)
            · rw [if_neg hz, ← SP.out]
              exact (pn.add hd (by rw [SP.out]; exact hz) ky8 (fun i hi => by rw [bt8 i hi, if_neg hz])).skip (fun i h1 h2 => NP.out i (by have := LD.out; omega) (by omega)) (by omega)
          clear ps8 ky8 bt8 c8 hq8 PS6 TL6 hSz
          obtain ⟨q9, k9, rfl⟩ := own_slice PS8.out.hs.own
          have l9 := PN8.out.ky.len
          have r9 := PS8.out.hP.whole l9
          have th9 := PS8.out.hR.there zero32_len
          have lp9 := pfRow_len l9 (.slice q9 Sz.length k9)
          have hput9 := (PS8.out.hR.put zero32_len l9 (.slice q9 Sz.length k9)).whole l9
          go_wp2_with fail
          try rw [Exit.noGoto_ret]
          refine bodyPost_ret (v := .agg (pfRow M' (.slice q9 Sz.length k9)).toArray) (by simp [results, Tryd.results22, go_sem, hput9, lp9]) rfl ?_
          obtain ⟨d1, d2, d3⟩ := PS8.out.done FF.out TT.out HM.out rfl
          exact ⟨M', q9, k9, Sz, rfl, PN8.out, d1, d2, d3, fun g hg => by have := PS8.out.nw g hg; have := FF.out.hkb; omega⟩
      · cases t with
        | lf k =>
          as_aux_lemma =>
            have f32 : w5.cell? ⟨b, 32, none⟩ = some (.int .i64 256) := F32.out
            have dI : ¬ (D : Int) < 256 := by have : ¬ D < 256 := hD; omega
            have TT := Lib.hid TL5.out.topS
            have PN8 := Lib.hid (PN.out.skip (L' := 256) (fun i h1 h2 => WK.out.leaf rfl (by rw [HD.out]; exact hD) h1 h2) (by have := LLE.out; omega))
            clear hD F32
            obtain ⟨q9, k9, rfl⟩ := own_slice PS5.out.hs.own
            have l9 := PN8.out.ky.len
            have r9 := PS5.out.hP.whole l9
            have th9 := PS5.out.hR.there zero32_len
            have lp9 := pfRow_len l9 (.slice q9 Ss.length k9)
            have hput9 := (PS5.out.hR.put zero32_len l9 (.slice q9 Ss.length k9)).whole l9
            go_wp2_with fail
            clear f32 dI
            try rw [Exit.noGoto_ret]
            refine bodyPost_ret (v := .agg (pfRow M (.slice q9 Ss.length k9)).toArray) (by simp [results, Tryd.results22, go_sem, hput9, lp9]) rfl ?_
            obtain ⟨d1, d2, d3⟩ := PS5.out.done FF.out TT.out HM.out rfl
            exact ⟨M, q9, k9, Ss, rfl, PN8.out, d1, d2, d3, fun g hg => by have := PS5.out.nw g hg; have := FF.out.hkb; omega⟩
        | nd k f l r =>
          as_aux_lemma =>
            have hDf : ¬ D < f := hD
            have dI : ¬ (D : Int) < (f : Int) := by omega
            have WD := Lib.hid (WK.out.nd (V := vOf E) (by rw [← HD.out] at hDf; exact hDf))
            have F256 : Hid (f < 256) := WD.out.2.1
            have LLF : Hid (L ≤ f) := WD.out.2.2.1
            have NZ := Lib.hid WD.out.1
            have F32n : Hid (w5.cell? ⟨b, 32, none⟩ = some (.int .i64 (f : Int))) := F32.out
            have ne256 : ((f : Int) == 256) = false := by have := F256.out; simp; omega
            have f32 := F32n.out
            have IB : Hid (b ∈ bl) := TL5.out.ins b TL5.out.tr.head
            clear hD F32 hDf
            go_upto_region 10 with fail
            clear f32 dI ne256
            rcases bit01 K f with hz | hz
            · as_aux_lemma =>
                have HZZ := Lib.hid hz
                have OKO : Hid (Tr.ok r) := WK.out.ok.2.2.2.1
                have LEO : Hid (f + 1 ≤ r.fork) := WK.out.ok.2.2.2.2.2.1
                obtain ⟨hs1, hs2⟩ := WD.out.2.2.2.1 hz
                have SDE := Lib.hid hs1
                have WKM := Lib.hid hs2
                clear hs1 hs2 hz
                have PS5d := Lib.hid (PS5.out.on FF.out (Below.refl _ _).drew)
                have TL5d := Lib.hid (TL5.out.on (Below.refl _ _).drew)
                have f32d : w5.drew.cell? ⟨b, 32, none⟩ = some (.int .i64 (f : Int)) := F32n.out
                refine wp_region_held_drew (S := fun W => HashAt W kb K ∧ W.cell? ⟨b, 32, none⟩ = some (.int .i64 (f : Int))) (by kernel_rfl) (⟨PS5d.out.hK, f32d⟩) (fun h0 => ?_)
                clear PS5 TL5 f32d
                generalize w5.drew = w5 at *
                refine wpAnyH_take (i := 0) (v := ?_) (by rw [List.getElem?_toArray]; rfl) (by kernel_rfl) (by kernel_rfl) (by kernel_rfl) (by exact fun _ _ _ h => h) (Or.inl ⟨by rfl, ?_⟩) h0 ?_
                rotate_left
                · intro W hW
                  have r1 := hW.1.row HKY.out.len
                  go_simp
                  all_goals with_reducible rfl
                try simp only [Act.put, List.setIfInBounds_toArray, List.set_cons_zero, List.set_cons_succ]
                refine wpAnyH_take (i := 1) (v := ?_) (by rw [List.getElem?_toArray]; rfl) (by kernel_rfl) (by kernel_rfl) (by kernel_rfl) (by exact fun _ _ _ h => h) (Or.inl ⟨by rfl, ?_⟩) h0 ?_
                rotate_left
                · intro W hW
                  go_simp
                  all_goals with_reducible rfl
                try simp only [Act.put, List.setIfInBounds_toArray, List.set_cons_zero, List.set_cons_succ]
                refine wpAnyH_take (i := 2) (v := ?_) (by rw [List.getElem?_toArray]; rfl) (by kernel_rfl) (by kernel_rfl) (by kernel_rfl) (by exact fun _ _ _ h => h) (Or.inl ⟨by rfl, ?_⟩) h0 ?_
                rotate_left
                · intro W hW
                  go_simp
                  all_goals with_reducible rfl
                try simp only [Act.put, List.setIfInBounds_toArray, List.set_cons_zero, List.set_cons_succ]
                refine wpAnyH_take (i := 3) (v := ?_) (by rw [List.getElem?_toArray]; rfl) (by kernel_rfl) (by kernel_rfl) (by kernel_rfl) (by exact fun _ _ _ h => h) (Or.inl ⟨by rfl, ?_⟩) h0 ?_
                rotate_left
                · intro W hW
                  go_simp
                  all_goals with_reducible rfl
                try simp only [Act.put, List.setIfInBounds_toArray, List.set_cons_zero, List.set_cons_succ]
                refine wpAnyH_take (i := 4) (v := ?_) (by rw [List.getElem?_toArray]; rfl) (by kernel_rfl) (by kernel_rfl) (by kernel_rfl) (by exact fun _ _ _ h => h) (Or.inl ⟨by rfl, ?_⟩) h0 ?_
                rotate_left
                · intro W hW
                  have r2 := hW.2
                  go_simp
                  all_goals with_reducible rfl
                try simp only [Act.put, List.setIfInBounds_toArray, List.set_cons_zero, List.set_cons_succ]
                refine wpAnyH_ready (rs := [5]) (by kernel_rfl) (by simp) ?_
                refine AllReadyH.cons (by rw [List.getElem?_toArray]; rfl) (fun KX hKK => ?_) AllReadyH.nil
                rw [if_pos (by rfl)]
                go_wp2_with fail
                refine (bit_any HKY.out.len HKY.out.by_ F256.out).mono ?_
                rintro e w6 ⟨rfl, b6⟩
                rw [HZZ.out]
                have hS : HashAt w6 kb K ∧ w6.cell? ⟨b, 32, none⟩ = some (.int .i64 (f : Int)) := ⟨h0.1.on b6, (b6.cell (World.block_lt_of_cell? _ _ h0.2)).trans h0.2⟩
                have PS6 := Lib.hid (PS5d.out.on FF.out b6)
                have TL6 := Lib.hid (TL5d.out.on b6)
                clear b6 PS5d TL5d
                go_wp2_with fail
                refine hKK.out _ _ (hS) (fun h0 => ?_)
                clear hKK KX
                try simp only [Act.put, List.setIfInBounds_toArray, List.set_cons_zero, List.set_cons_succ]
                refine wpAnyH_take (i := 6) (v := ?_) (by rw [List.getElem?_toArray]; rfl) (by kernel_rfl) (by kernel_rfl) (by kernel_rfl) (by exact fun _ _ _ h => h) (Or.inl ⟨by rfl, ?_⟩) h0 ?_
                rotate_left
                · intro W hW
                  go_simp
                  all_goals with_reducible rfl
                try simp only [Act.put, List.setIfInBounds_toArray, List.set_cons_zero, List.set_cons_succ]
                refine wpAnyH_done (by kernel_rfl) ?_ _
                have g32 := h0.2
                clear h0
                go_wp2_with fail
                obtain ⟨x, y, bl1, bl2, ⟨nn, m1, m2, m3, m4, m5, m6⟩, tl, tr, d1, d2, i1, i2, nb1, nb2, dn1, dn2⟩ := TL6.out.down
                have NN := Lib.hid (show NdB w6 b nn from m1)
                have NK := Lib.hid m2
                have NL : Hid (nn.lo = some ⟨x, 0, none⟩ ∧ nn.hi = some ⟨y, 0, none⟩) := Lib.hid ⟨m5, m6⟩
                have DN := Lib.hid dn1
                have NBO := Lib.hid nb2
                have g34 : w6.drew.cell? ⟨b, 34, none⟩ = some (.pointer (some ⟨y, 0, none⟩)) := by have := (m1.facts m2).2.2.1; rw [m6] at this; exact this
                have g32d : w6.drew.cell? ⟨b, 32, none⟩ = some (.int .i64 (f : Int)) := g32
                have IO := Lib.hid i2
                have PS6d := Lib.hid (PS6.out.on FF.out (Below.refl _ _).drew)
                have KA := Lib.hid (above_all HE.out OKO.out w6.drew p m y (f + 1) bl2 ⟨HT.out.chg PS6d.out.chg FF.out.ng, ⟨PS6d.out.s.c0, c, PS6d.out.s.mp⟩, (tr.on (Below.refl _ _).drew)⟩ ⟨d2, fun hm => FF.out.pn (IO.out _ hm), fun hm => FF.out.mn (IO.out _ hm), fun hm => FF.out.ng (IO.out _ hm)⟩ LEO.out)
                rw [show ((f + 1 : Nat) : Int) = (f : Int) + 1 by omega] at KA
                have C6d : Hid (Chg w6 w6.drew []) := (Chg.refl _ _).drew
                have f256 := F256.out
                have wr1 : IntKind.i64.wrap 1 = 1 := by decide
                have wr0 : IntKind.i64.wrap 0 = 0 := by decide
                clear tl tr d1 d2 i1 i2 nb1 nb2 dn1 dn2 m1 m2 m3 m4 m5 m6 g32
                refine wp_region_held_drew (S := fun W => W.cell? ⟨b, 32, none⟩ = some (.int .i64 (f : Int)) ∧ W.cell? ⟨b, 34, none⟩ = some (.pointer (some ⟨y, 0, none⟩))) (by kernel_rfl) (⟨g32d, g34⟩) (fun h0 => ?_)
                clear g32d g34
                generalize w6.drew = w6d at *
                refine wpAnyH_take (i := 0) (v := ?_) (by rw [List.getElem?_toArray]; rfl) (by kernel_rfl) (by kernel_rfl) (by kernel_rfl) (by exact fun _ _ _ h => h) (Or.inl ⟨by rfl, ?_⟩) h0 ?_
                rotate_left
                · intro W hW
                  go_simp
                  all_goals with_reducible rfl
                try simp only [Act.put, List.setIfInBounds_toArray, List.set_cons_zero, List.set_cons_succ]
                refine wpAnyH_take (i := 1) (v := ?_) (by rw [List.getElem?_toArray]; rfl) (by kernel_rfl) (by kernel_rfl) (by kernel_rfl) (by exact fun _ _ _ h => h) (Or.inl ⟨by rfl, ?_⟩) h0 ?_
                rotate_left
                · intro W hW
                  go_simp
                  all_goals with_reducible rfl
                try simp only [Act.put, List.setIfInBounds_toArray, List.set_cons_zero, List.set_cons_succ]
                refine wpAnyH_take (i := 2) (v := ?_) (by rw [List.getElem?_toArray]; rfl) (by kernel_rfl) (by kernel_rfl) (by kernel_rfl) (by exact fun _ _ _ h => h) (Or.inl ⟨by rfl, ?_⟩) h0 ?_
                rotate_left
                · intro W hW
                  go_simp
                  all_goals with_reducible rfl
                try simp only [Act.put, List.setIfInBounds_toArray, List.set_cons_zero, List.set_cons_succ]
                refine wpAnyH_take (i := 3) (v := ?_) (by rw [List.getElem?_toArray]; rfl) (by kernel_rfl) (by kernel_rfl) (by kernel_rfl) (by exact fun _ _ _ h => h) (Or.inl ⟨by rfl, ?_⟩) h0 ?_
                rotate_left
                · intro W hW
                  have r1 := hW.1
                  go_simp
                  all_goals with_reducible rfl
                try simp only [Act.put, List.setIfInBounds_toArray, List.set_cons_zero, List.set_cons_succ]
                refine wpAnyH_take (i := 4) (v := ?_) (by rw [List.getElem?_toArray]; rfl) (by kernel_rfl) (by kernel_rfl) (by kernel_rfl) (by exact fun _ _ _ h => h) (Or.inl ⟨by rfl, ?_⟩) h0 ?_
                rotate_left
                · intro W hW
                  go_simp
                  all_goals with_reducible rfl
                try simp only [Act.put, List.setIfInBounds_toArray, List.set_cons_zero, List.set_cons_succ]
                refine wpAnyH_take (i := 5) (v := ?_) (by rw [List.getElem?_toArray]; rfl) (by kernel_rfl) (by kernel_rfl) (by kernel_rfl) (by exact fun _ _ _ h => h) (Or.inl ⟨by rfl, ?_⟩) h0 ?_
                rotate_left
                · intro W hW
                  go_simp
                  all_goals with_reducible rfl
                try simp only [Act.put, List.setIfInBounds_toArray, List.set_cons_zero, List.set_cons_succ]
                refine wpAnyH_take (i := 6) (v := ?_) (by rw [List.getElem?_toArray]; rfl) (by kernel_rfl) (by kernel_rfl) (by kernel_rfl) (by exact fun _ _ _ h => h) (Or.inl ⟨by rfl, ?_⟩) h0 ?_
                rotate_left
                · intro W hW
                  go_simp
                  all_goals with_reducible rfl
                try simp only [Act.put, List.setIfInBounds_toArray, List.set_cons_zero, List.set_cons_succ]
                refine wpAnyH_take (i := 7) (v := ?_) (by rw [List.getElem?_toArray]; rfl) (by kernel_rfl) (by kernel_rfl) (by kernel_rfl) (by exact fun _ _ _ h => h) (Or.inl ⟨by rfl, ?_⟩) h0 ?_
                rotate_left
                · intro W hW
                  go_simp
                  all_goals with_reducible rfl
                try simp only [Act.put, List.setIfInBounds_toArray, List.set_cons_zero, List.set_cons_succ]
                refine wpAnyH_take (i := 8) (v := ?_) (by rw [List.getElem?_toArray]; rfl) (by kernel_rfl) (by kernel_rfl) (by kernel_rfl) (by exact fun _ _ _ h => h) (Or.inl ⟨by rfl, ?_⟩) h0 ?_
                rotate_left
                · intro W hW
                  go_simp
                  all_goals with_reducible rfl
                try simp only [Act.put, List.setIfInBounds_toArray, List.set_cons_zero, List.set_cons_succ]
                refine wpAnyH_take (i := 9) (v := ?_) (by rw [List.getElem?_toArray]; rfl) (by kernel_rfl) (by kernel_rfl) (by kernel_rfl) (by exact fun _ _ _ h => h) (Or.inl ⟨by rfl, ?_⟩) h0 ?_
                rotate_left
                · intro W hW
                  go_simp
                  all_goals with_reducible rfl
                try simp only [Act.put, List.setIfInBounds_toArray, List.set_cons_zero, List.set_cons_succ]
                refine wpAnyH_take (i := 10) (v := ?_) (by rw [List.getElem?_toArray]; rfl) (by kernel_rfl) (by kernel_rfl) (by kernel_rfl) (by exact fun _ _ _ h => h) (Or.inl ⟨by rfl, ?_⟩) h0 ?_
                rotate_left
                · intro W hW
                  go_simp
                  all_goals with_reducible rfl
                try simp only [Act.put, List.setIfInBounds_toArray, List.set_cons_zero, List.set_cons_succ]
                refine wpAnyH_take (i := 11) (v := ?_) (by rw [List.getElem?_toArray]; rfl) (by kernel_rfl) (by kernel_rfl) (by kernel_rfl) (by exact fun _ _ _ h => h) (Or.inl ⟨by rfl, ?_⟩) h0 ?_
                rotate_left
                · intro W hW
                  have r2 := hW.2
                  go_simp
                  all_goals with_reducible rfl
                try simp only [Act.put, List.setIfInBounds_toArray, List.set_cons_zero, List.set_cons_succ]
                refine wpAnyH_take (i := 12) (v := ?_) (by rw [List.getElem?_toArray]; rfl) (by kernel_rfl) (by kernel_rfl) (by kernel_rfl) (by exact fun _ _ _ h => h) (Or.inl ⟨by rfl, ?_⟩) h0 ?_
                rotate_left
                · intro W hW
                  go_simp
                  all_goals with_reducible rfl
                try simp only [Act.put, List.setIfInBounds_toArray, List.set_cons_zero, List.set_cons_succ]
                refine wpAnyH_take (i := 13) (v := ?_) (by rw [List.getElem?_toArray]; rfl) (by kernel_rfl) (by kernel_rfl) (by kernel_rfl) (by exact fun _ _ _ h => h) (Or.inl ⟨by rfl, ?_⟩) h0 ?_
                rotate_left
                · intro W hW
                  go_simp
                  all_goals with_reducible rfl
                try simp only [Act.put, List.setIfInBounds_toArray, List.set_cons_zero, List.set_cons_succ]
                refine wpAnyH_take (i := 14) (v := ?_) (by rw [List.getElem?_toArray]; rfl) (by kernel_rfl) (by kernel_rfl) (by kernel_rfl) (by exact fun _ _ _ h => h) (Or.inl ⟨by rfl, ?_⟩) h0 ?_
                rotate_left
                · intro W hW
                  go_simp
                  all_goals with_reducible rfl
                try simp only [Act.put, List.setIfInBounds_toArray, List.set_cons_zero, List.set_cons_succ]
                refine wpAnyH_take (i := 15) (v := ?_) (by rw [List.getElem?_toArray]; rfl) (by kernel_rfl) (by kernel_rfl) (by kernel_rfl) (by exact fun _ _ _ h => h) (Or.inl ⟨by rfl, ?_⟩) h0 ?_
                rotate_left
                · intro W hW
                  have r1 := hW.1
                  go_simp
                  all_goals with_reducible rfl
                try simp only [Act.put, List.setIfInBounds_toArray, List.set_cons_zero, List.set_cons_succ]
                refine wpAnyH_take (i := 16) (v := ?_) (by rw [List.getElem?_toArray]; rfl) (by kernel_rfl) (by kernel_rfl) (by kernel_rfl) (by exact fun _ _ _ h => h) (Or.inl ⟨by rfl, ?_⟩) h0 ?_
                rotate_left
                · intro W hW
                  go_simp
                  all_goals with_reducible rfl
                try simp only [Act.put, List.setIfInBounds_toArray, List.set_cons_zero, List.set_cons_succ]
                refine wpAnyH_ready (rs := [17]) (by kernel_rfl) (by simp) ?_
                refine AllReadyH.cons (by rw [List.getElem?_toArray]; rfl) (fun KX hKK => ?_) AllReadyH.nil
                rw [if_pos (by rfl)]
                go_wp2_with fail
                refine KA.out.mono ?_
                rintro e w7 ⟨rfl, c7, t7⟩
                have hS : w7.cell? ⟨b, 32, none⟩ = some (.int .i64 (f : Int)) ∧ w7.cell? ⟨b, 34, none⟩ = some (.pointer (some ⟨y, 0, none⟩)) := ⟨(cell_chg c7 (p := ⟨b, 32, none⟩) (World.block_lt_of_cell? _ _ h0.1) NBO.out).trans h0.1, (cell_chg c7 (p := ⟨b, 34, none⟩) (World.block_lt_of_cell? _ _ h0.2) NBO.out).trans h0.2⟩
                have PS7 := Lib.hid (PS6d.out.tree FF.out c7 IO.out)
                have TL7 := Lib.hid (DN.out w7 ((Chg.refl w6 _).trans C6d.out (by simp) |>.trans c7 (fun g hg _ => hg)) t7)
                have N7 := Lib.hid ((NN.out.chg C6d.out (by simp)).chg c7 NBO.out)
                have LG : Hid ((aboveH (vOf E) r (f + 1)).length = 32) := aboveH_len _ _ _
                have BG := Lib.hid (aboveH_bytes (vOf E) r (f + 1))
                have SG := Lib.hid SDE.out
                obtain ⟨G, hG⟩ : ∃ G, aboveH (vOf E) r (f + 1) = G := ⟨_, rfl⟩
                rw [hG] at LG BG SG ⊢
                clear c7 t7 hG KA PS6d PS6 TL6 DN NN
                go_wp2_with fail
                refine hKK.out _ _ (hS) (fun h0 => ?_)
                clear hKK KX
                try simp only [Act.put, List.setIfInBounds_toArray, List.set_cons_zero, List.set_cons_succ]
                refine wpAnyH_ready (rs := [18]) (by kernel_rfl) (by simp) ?_
                refine AllReadyH.cons (by rw [List.getElem?_toArray]; rfl) (fun KX hKK => ?_) AllReadyH.nil
                rw [if_pos (by rfl)]
                go_wp2_with fail
                have SLN : Hid (Ss.length ≤ 300) := by have := prvS_len (vOf E) (E.map (·.k)) K L; have := PN.out.ss; have := LLE.out; rw [← PN.out.ss] at *; show _ ≤ _; omega
                refine (add_any (w0 := w0) PS7.out.hP PS7.out.hs (by have := FF.out.lw0; omega) PN.out.ky LG.out BG.out F256.out SLN.out).mono ?_
                rintro e w8 hq8
                obtain ⟨rfl, M', v', ps8, ky8, bt8, c8⟩ := PS7.out.add FF.out hq8
                have NBL : Hid (∀ g ∈ bl, g ∉ (kb + 2) :: v.ownBlock.toList) := fun g hg hm => by
                  have h1 := FF.out.lbl g hg
                  rcases List.mem_cons.1 hm with e | hm
                  · omega
                  · have := PS7.out.nw g (by simpa using hm); omega
                have TL8 := Lib.hid (TL7.out.chg c8 NBL.out)
                have hS : w8.cell? ⟨b, 32, none⟩ = some (.int .i64 (f : Int)) ∧ w8.cell? ⟨b, 34, none⟩ = some (.pointer (some ⟨y, 0, none⟩)) := ⟨(cell_chg c8 (p := ⟨b, 32, none⟩) (World.block_lt_of_cell? _ _ h0.1) (NBL.out b IB.out)).trans h0.1, (cell_chg c8 (p := ⟨b, 34, none⟩) (World.block_lt_of_cell? _ _ h0.2) (NBL.out b IB.out)).trans h0.2⟩
                have N8 := Lib.hid (N7.out.chg c8 (NBL.out b IB.out))
                have PS8 := Lib.hid ps8
                have PN8 : Hid (PvN (vOf E) (E.map (·.k)) K (f + 1) M' (if G = zero32 then Ss else Ss ++ [G])) := by
                  show PvN (vOf E) (E.map (·.k)) K (f + 1) M' (if G = zero32 then Ss else Ss ++ [G])
                  have pn := PN.out.skip NZ.out LLF.out
                  by_cases hz : G = zero32
                  · rw [if_pos hz]
                    have : M' = M := key_eq ky8 PN.out.ky (fun i hi => by rw [bt8 i hi, if_pos hz])
                    rw [this]
                    exact pn.zero (by rw [SG.out]; exact hz)
                  · rw [if_neg hz, ← SG.out]
                    exact pn.add F256.out (by rw [SG.out]; exact hz) ky8 (fun i hi => by rw [bt8 i hi, if_neg hz])
                clear ps8 ky8 bt8 c8 hq8 PS7 TL7 N7
                go_wp2_with fail
                refine hKK.out _ _ (hS) (fun h0 => ?_)
                clear hKK KX
                try simp only [Act.put, List.setIfInBounds_toArray, List.set_cons_zero, List.set_cons_succ]
                refine wpAnyH_done (by kernel_rfl) ?_ _
                have g33 : w8.cell? ⟨b, 33, none⟩ = some (.pointer (some ⟨x, 0, none⟩)) := by have := (N8.out.facts NK.out).2.1; rw [NL.out.1] at this; exact this
                clear h0
                go_wp2_with fail
                go_roundw
                case rel => exact ⟨M', v', _, PS8, .inr ⟨f + 1, l, x, bl1, rfl, WKM, PN8, TL8⟩⟩
                case measure =>
                  have e1 := fgm_is WK.out.ok TL.out.tr
                  have e2 := fgm_is WKM.out.ok TL8.out.tr
                  have hfo := WKM.out.le
                  have hfo2 := WKM.out.ok.fork_le
                  rw [e1, e2]
                  show 257 - _ < 257 - f
                  omega
            · as_aux_lemma =>
                have HZZ := Lib.hid hz
                have OKO : Hid (Tr.ok l) := WK.out.ok.2.2.1
                have LEO : Hid (f + 1 ≤ l.fork) := WK.out.ok.2.2.2.2.1
                obtain ⟨hs1, hs2⟩ := WD.out.2.2.2.2 hz
                have SDE := Lib.hid hs1
                have WKM := Lib.hid hs2
                clear hs1 hs2 hz
                have PS5d := Lib.hid (PS5.out.on FF.out (Below.refl _ _).drew)
                have TL5d := Lib.hid (TL5.out.on (Below.refl _ _).drew)
                have f32d : w5.drew.cell? ⟨b, 32, none⟩ = some (.int .i64 (f : Int)) := F32n.out
                refine wp_region_held_drew (S := fun W => HashAt W kb K ∧ W.cell? ⟨b, 32, none⟩ = some (.int .i64 (f : Int))) (by kernel_rfl) (⟨PS5d.out.hK, f32d⟩) (fun h0 => ?_)
                clear PS5 TL5 f32d
                generalize w5.drew = w5 at *
                refine wpAnyH_take (i := 0) (v := ?_) (by rw [List.getElem?_toArray]; rfl) (by kernel_rfl) (by kernel_rfl) (by kernel_rfl) (by exact fun _ _ _ h => h) (Or.inl ⟨by rfl, ?_⟩) h0 ?_
                rotate_left
                · intro W hW
                  have r1 := hW.1.row HKY.out.len
                  go_simp
                  all_goals with_reducible rfl
                try simp only [Act.put, List.setIfInBounds_toArray, List.set_cons_zero, List.set_cons_succ]
                refine wpAnyH_take (i := 1) (v := ?_) (by rw [List.getElem?_toArray]; rfl) (by kernel_rfl) (by kernel_rfl) (by kernel_rfl) (by exact fun _ _ _ h => h) (Or.inl ⟨by rfl, ?_⟩) h0 ?_
                rotate_left
                · intro W hW
                  go_simp
                  all_goals with_reducible rfl
                try simp only [Act.put, List.setIfInBounds_toArray, List.set_cons_zero, List.set_cons_succ]
                refine wpAnyH_take (i := 2) (v := ?_) (by rw [List.getElem?_toArray]; rfl) (by kernel_rfl) (by kernel_rfl) (by kernel_rfl) (by exact fun _ _ _ h => h) (Or.inl ⟨by rfl, ?_⟩) h0 ?_
                rotate_left
                · intro W hW
                  go_simp
                  all_goals with_reducible rfl
                try simp only [Act.put, List.setIfInBounds_toArray, List.set_cons_zero, List.set_cons_succ]
                refine wpAnyH_take (i := 3) (v := ?_) (by rw [List.getElem?_toArray]; rfl) (by kernel_rfl) (by kernel_rfl) (by kernel_rfl) (by exact fun _ _ _ h => h) (Or.inl ⟨by rfl, ?_⟩) h0 ?_
                rotate_left
                · intro W hW
                  go_simp
                  all_goals with_reducible rfl
                try simp only [Act.put, List.setIfInBounds_toArray, List.set_cons_zero, List.set_cons_succ]
                refine wpAnyH_take (i := 4) (v := ?_) (by rw [List.getElem?_toArray]; rfl) (by kernel_rfl) (by kernel_rfl) (by kernel_rfl) (by exact fun _ _ _ h => h) (Or.inl ⟨by rfl, ?_⟩) h0 ?_
                rotate_left
                · intro W hW
                  have r2 := hW.2
                  go_simp
                  all_goals with_reducible rfl
                try simp only [Act.put, List.setIfInBounds_toArray, List.set_cons_zero, List.set_cons_succ]
                refine wpAnyH_ready (rs := [5]) (by kernel_rfl) (by simp) ?_
                refine AllReadyH.cons (by rw [List.getElem?_toArray]; rfl) (fun KX hKK => ?_) AllReadyH.nil
                rw [if_pos (by rfl)]
                go_wp2_with fail
                refine (bit_any HKY.out.len HKY.out.by_ F256.out).mono ?_
                rintro e w6 ⟨rfl, b6⟩
                rw [HZZ.out]
                have hS : HashAt w6 kb K ∧ w6.cell? ⟨b, 32, none⟩ = some (.int .i64 (f : Int)) := ⟨h0.1.on b6, (b6.cell (World.block_lt_of_cell? _ _ h0.2)).trans h0.2⟩
                have PS6 := Lib.hid (PS5d.out.on FF.out b6)
                have TL6 := Lib.hid (TL5d.out.on b6)
                clear b6 PS5d TL5d
                go_wp2_with fail
                refine hKK.out _ _ (hS) (fun h0 => ?_)
                clear hKK KX
                try simp only [Act.put, List.setIfInBounds_toArray, List.set_cons_zero, List.set_cons_succ]
                refine wpAnyH_take (i := 6) (v := ?_) (by rw [List.getElem?_toArray]; rfl) (by kernel_rfl) (by kernel_rfl) (by kernel_rfl) (by exact fun _ _ _ h => h) (Or.inl ⟨by rfl, ?_⟩) h0 ?_
                rotate_left
                · intro W hW
                  go_simp
                  all_goals with_reducible rfl
                try simp only [Act.put, List.setIfInBounds_toArray, List.set_cons_zero, List.set_cons_succ]
                refine wpAnyH_done (by kernel_rfl) ?_ _
                have g32 := h0.2
                clear h0
                go_wp2_with fail
                obtain ⟨x, y, bl1, bl2, ⟨nn, m1, m2, m3, m4, m5, m6⟩, tl, tr, d1, d2, i1, i2, nb1, nb2, dn1, dn2⟩ := TL6.out.down
                have NN := Lib.hid (show NdB w6 b nn from m1)
                have NK := Lib.hid m2
                have NL : Hid (nn.lo = some ⟨x, 0, none⟩ ∧ nn.hi = some ⟨y, 0, none⟩) := Lib.hid ⟨m5, m6⟩
                have DN := Lib.hid dn2
                have NBO := Lib.hid nb1
                have g33 : w6.drew.cell? ⟨b, 33, none⟩ = some (.pointer (some ⟨x, 0, none⟩)) := by have := (m1.facts m2).2.1; rw [m5] at this; exact this
                have g32d : w6.drew.cell? ⟨b, 32, none⟩ = some (.int .i64 (f : Int)) := g32
                have IO := Lib.hid i1
                have PS6d := Lib.hid (PS6.out.on FF.out (Below.refl _ _).drew)
                have KA := Lib.hid (above_all HE.out OKO.out w6.drew p m x (f + 1) bl1 ⟨HT.out.chg PS6d.out.chg FF.out.ng, ⟨PS6d.out.s.c0, c, PS6d.out.s.mp⟩, (tl.on (Below.refl _ _).drew)⟩ ⟨d1, fun hm => FF.out.pn (IO.out _ hm), fun hm => FF.out.mn (IO.out _ hm), fun hm => FF.out.ng (IO.out _ hm)⟩ LEO.out)
                rw [show ((f + 1 : Nat) : Int) = (f : Int) + 1 by omega] at KA
                have C6d : Hid (Chg w6 w6.drew []) := (Chg.refl _ _).drew
                have f256 := F256.out
                have wr1 : IntKind.i64.wrap 1 = 1 := by decide
                have wr0 : IntKind.i64.wrap 0 = 0 := by decide
                clear tl tr d1 d2 i1 i2 nb1 nb2 dn1 dn2 m1 m2 m3 m4 m5 m6 g32
                refine wp_region_held_drew (S := fun W => W.cell? ⟨b, 32, none⟩ = some (.int .i64 (f : Int)) ∧ W.cell? ⟨b, 33, none⟩ = some (.pointer (some ⟨x, 0, none⟩))) (by kernel_rfl) (⟨g32d, g33⟩) (fun h0 => ?_)
                clear g32d g33
                generalize w6.drew = w6d at *
                refine wpAnyH_take (i := 0) (v := ?_) (by rw [List.getElem?_toArray]; rfl) (by kernel_rfl) (by kernel_rfl) (by kernel_rfl) (by exact fun _ _ _ h => h) (Or.inl ⟨by rfl, ?_⟩) h0 ?_
                rotate_left
                · intro W hW
                  go_simp
                  all_goals with_reducible rfl
                try simp only [Act.put, List.setIfInBounds_toArray, List.set_cons_zero, List.set_cons_succ]
                refine wpAnyH_take (i := 1) (v := ?_) (by rw [List.getElem?_toArray]; rfl) (by kernel_rfl) (by kernel_rfl) (by kernel_rfl) (by exact fun _ _ _ h => h) (Or.inl ⟨by rfl, ?_⟩) h0 ?_
                rotate_left
                · intro W hW
                  go_simp
                  all_goals with_reducible rfl
                try simp only [Act.put, List.setIfInBounds_toArray, List.set_cons_zero, List.set_cons_succ]
                refine wpAnyH_take (i := 2) (v := ?_) (by rw [List.getElem?_toArray]; rfl) (by kernel_rfl) (by kernel_rfl) (by kernel_rfl) (by exact fun _ _ _ h => h) (Or.inl ⟨by rfl, ?_⟩) h0 ?_
                rotate_left
                · intro W hW
                  go_simp
                  all_goals with_reducible rfl
                try simp only [Act.put, List.setIfInBounds_toArray, List.set_cons_zero, List.set_cons_succ]
                refine wpAnyH_take (i := 3) (v := ?_) (by rw [List.getElem?_toArray]; rfl) (by kernel_rfl) (by kernel_rfl) (by kernel_rfl) (by exact fun _ _ _ h => h) (Or.inl ⟨by rfl, ?_⟩) h0 ?_
                rotate_left
                · intro W hW
                  have r1 := hW.1
                  go_simp
                  all_goals with_reducible rfl
                try simp only [Act.put, List.setIfInBounds_toArray, List.set_cons_zero, List.set_cons_succ]
                refine wpAnyH_take (i := 4) (v := ?_) (by rw [List.getElem?_toArray]; rfl) (by kernel_rfl) (by kernel_rfl) (by kernel_rfl) (by exact fun _ _ _ h => h) (Or.inl ⟨by rfl, ?_⟩) h0 ?_
                rotate_left
                · intro W hW
                  go_simp
                  all_goals with_reducible rfl
                try simp only [Act.put, List.setIfInBounds_toArray, List.set_cons_zero, List.set_cons_succ]
                refine wpAnyH_take (i := 5) (v := ?_) (by rw [List.getElem?_toArray]; rfl) (by kernel_rfl) (by kernel_rfl) (by kernel_rfl) (by exact fun _ _ _ h => h) (Or.inl ⟨by rfl, ?_⟩) h0 ?_
                rotate_left
                · intro W hW
                  go_simp
                  all_goals with_reducible rfl
                try simp only [Act.put, List.setIfInBounds_toArray, List.set_cons_zero, List.set_cons_succ]
                refine wpAnyH_take (i := 6) (v := ?_) (by rw [List.getElem?_toArray]; rfl) (by kernel_rfl) (by kernel_rfl) (by kernel_rfl) (by exact fun _ _ _ h => h) (Or.inl ⟨by rfl, ?_⟩) h0 ?_
                rotate_left
                · intro W hW
                  go_simp
                  all_goals with_reducible rfl
                try simp only [Act.put, List.setIfInBounds_toArray, List.set_cons_zero, List.set_cons_succ]
                refine wpAnyH_take (i := 7) (v := ?_) (by rw [List.getElem?_toArray]; rfl) (by kernel_rfl) (by kernel_rfl) (by kernel_rfl) (by exact fun _ _ _ h => h) (Or.inl ⟨by rfl, ?_⟩) h0 ?_
                rotate_left
                · intro W hW
                  go_simp
                  all_goals with_reducible rfl
                try simp only [Act.put, List.setIfInBounds_toArray, List.set_cons_zero, List.set_cons_succ]
                refine wpAnyH_take (i := 8) (v := ?_) (by rw [List.getElem?_toArray]; rfl) (by kernel_rfl) (by kernel_rfl) (by kernel_rfl) (by exact fun _ _ _ h => h) (Or.inl ⟨by rfl, ?_⟩) h0 ?_
                rotate_left
                · intro W hW
                  go_simp
                  all_goals with_reducible rfl
                try simp only [Act.put, List.setIfInBounds_toArray, List.set_cons_zero, List.set_cons_succ]
                refine wpAnyH_take (i := 9) (v := ?_) (by rw [List.getElem?_toArray]; rfl) (by kernel_rfl) (by kernel_rfl) (by kernel_rfl) (by exact fun _ _ _ h => h) (Or.inl ⟨by rfl, ?_⟩) h0 ?_
                rotate_left
                · intro W hW
                  go_simp
                  all_goals with_reducible rfl
                try simp only [Act.put, List.setIfInBounds_toArray, List.set_cons_zero, List.set_cons_succ]
                refine wpAnyH_take (i := 10) (v := ?_) (by rw [List.getElem?_toArray]; rfl) (by kernel_rfl) (by kernel_rfl) (by kernel_rfl) (by exact fun _ _ _ h => h) (Or.inl ⟨by rfl, ?_⟩) h0 ?_
                rotate_left
                · intro W hW
                  go_simp
                  all_goals with_reducible rfl
                try simp only [Act.put, List.setIfInBounds_toArray, List.set_cons_zero, List.set_cons_succ]
                refine wpAnyH_take (i := 11) (v := ?_) (by rw [List.getElem?_toArray]; rfl) (by kernel_rfl) (by kernel_rfl) (by kernel_rfl) (by exact fun _ _ _ h => h) (Or.inl ⟨by rfl, ?_⟩) h0 ?_
                rotate_left
                · intro W hW
                  have r2 := hW.2
                  go_simp
                  all_goals with_reducible rfl
                try simp only [Act.put, List.setIfInBounds_toArray, List.set_cons_zero, List.set_cons_succ]
                refine wpAnyH_take (i := 12) (v := ?_) (by rw [List.getElem?_toArray]; rfl) (by kernel_rfl) (by kernel_rfl) (by kernel_rfl) (by exact fun _ _ _ h => h) (Or.inl ⟨by rfl, ?_⟩) h0 ?_
                rotate_left
                · intro W hW
                  go_simp
                  all_goals with_reducible rfl
                try simp only [Act.put, List.setIfInBounds_toArray, List.set_cons_zero, List.set_cons_succ]
                refine wpAnyH_take (i := 13) (v := ?_) (by rw [List.getElem?_toArray]; rfl) (by kernel_rfl) (by kernel_rfl) (by kernel_rfl) (by exact fun _ _ _ h => h) (Or.inl ⟨by rfl, ?_⟩) h0 ?_
                rotate_left
                · intro W hW
                  go_simp
                  all_goals with_reducible rfl
                try simp only [Act.put, List.setIfInBounds_toArray, List.set_cons_zero, List.set_cons_succ]
                refine wpAnyH_take (i := 14) (v := ?_) (by rw [List.getElem?_toArray]; rfl) (by kernel_rfl) (by kernel_rfl) (by kernel_rfl) (by exact fun _ _ _ h => h) (Or.inl ⟨by rfl, ?_⟩) h0 ?_
                rotate_left
                · intro W hW
                  go_simp
                  all_goals with_reducible rfl
                try simp only [Act.put, List.setIfInBounds_toArray, List.set_cons_zero, List.set_cons_succ]
                refine wpAnyH_take (i := 15) (v := ?_) (by rw [List.getElem?_toArray]; rfl) (by kernel_rfl) (by kernel_rfl) (by kernel_rfl) (by exact fun _ _ _ h => h) (Or.inl ⟨by rfl, ?_⟩) h0 ?_
                rotate_left
                · intro W hW
                  have r1 := hW.1
                  go_simp
                  all_goals with_reducible rfl
                try simp only [Act.put, List.setIfInBounds_toArray, List.set_cons_zero, List.set_cons_succ]
                refine wpAnyH_take (i := 16) (v := ?_) (by rw [List.getElem?_toArray]; rfl) (by kernel_rfl) (by kernel_rfl) (by kernel_rfl) (by exact fun _ _ _ h => h) (Or.inl ⟨by rfl, ?_⟩) h0 ?_
                rotate_left
                · intro W hW
                  go_simp
                  all_goals with_reducible rfl
                try simp only [Act.put, List.setIfInBounds_toArray, List.set_cons_zero, List.set_cons_succ]
                refine wpAnyH_ready (rs := [17]) (by kernel_rfl) (by simp) ?_
                refine AllReadyH.cons (by rw [List.getElem?_toArray]; rfl) (fun KX hKK => ?_) AllReadyH.nil
                rw [if_pos (by rfl)]
                go_wp2_with fail
                refine KA.out.mono ?_
                rintro e w7 ⟨rfl, c7, t7⟩
                have hS : w7.cell? ⟨b, 32, none⟩ = some (.int .i64 (f : Int)) ∧ w7.cell? ⟨b, 33, none⟩ = some (.pointer (some ⟨x, 0, none⟩)) := ⟨(cell_chg c7 (p := ⟨b, 32, none⟩) (World.block_lt_of_cell? _ _ h0.1) NBO.out).trans h0.1, (cell_chg c7 (p := ⟨b, 33, none⟩) (World.block_lt_of_cell? _ _ h0.2) NBO.out).trans h0.2⟩
                have PS7 := Lib.hid (PS6d.out.tree FF.out c7 IO.out)
                have TL7 := Lib.hid (DN.out w7 ((Chg.refl w6 _).trans C6d.out (by simp) |>.trans c7 (fun g hg _ => hg)) t7)
                have N7 := Lib.hid ((NN.out.chg C6d.out (by simp)).chg c7 NBO.out)
                have LG : Hid ((aboveH (vOf E) l (f + 1)).length = 32) := aboveH_len _ _ _
                have BG := Lib.hid (aboveH_bytes (vOf E) l (f + 1))
                have SG := Lib.hid SDE.out
                obtain ⟨G, hG⟩ : ∃ G, aboveH (vOf E) l (f + 1) = G := ⟨_, rfl⟩
                rw [hG] at LG BG SG ⊢
                clear c7 t7 hG KA PS6d PS6 TL6 DN NN
                go_wp2_with fail
                refine hKK.out _ _ (hS) (fun h0 => ?_)
                clear hKK KX
                try simp only [Act.put, List.setIfInBounds_toArray, List.set_cons_zero, List.set_cons_succ]
                refine wpAnyH_ready (rs := [18]) (by kernel_rfl) (by simp) ?_
                refine AllReadyH.cons (by rw [List.getElem?_toArray]; rfl) (fun KX hKK => ?_) AllReadyH.nil
                rw [if_pos (by rfl)]
                go_wp2_with fail
                have SLN : Hid (Ss.length ≤ 300) := by have := prvS_len (vOf E) (E.map (·.k)) K L; have := PN.out.ss; have := LLE.out; rw [← PN.out.ss] at *; show _ ≤ _; omega
                refine (add_any (w0 := w0) PS7.out.hP PS7.out.hs (by have := FF.out.lw0; omega) PN.out.ky LG.out BG.out F256.out SLN.out).mono ?_
                rintro e w8 hq8
                obtain ⟨rfl, M', v', ps8, ky8, bt8, c8⟩ := PS7.out.add FF.out hq8
                have NBL : Hid (∀ g ∈ bl, g ∉ (kb + 2) :: v.ownBlock.toList) := fun g hg hm => by
                  have h1 := FF.out.lbl g hg
                  rcases List.mem_cons.1 hm with e | hm
                  · omega
                  · have := PS7.out.nw g (by simpa using hm); omega
                have TL8 := Lib.hid (TL7.out.chg c8 NBL.out)
                have hS : w8.cell? ⟨b, 32, none⟩ = some (.int .i64 (f : Int)) ∧ w8.cell? ⟨b, 33, none⟩ = some (.pointer (some ⟨x, 0, none⟩)) := ⟨(cell_chg c8 (p := ⟨b, 32, none⟩) (World.block_lt_of_cell? _ _ h0.1) (NBL.out b IB.out)).trans h0.1, (cell_chg c8 (p := ⟨b, 33, none⟩) (World.block_lt_of_cell? _ _ h0.2) (NBL.out b IB.out)).trans h0.2⟩
                have N8 := Lib.hid (N7.out.chg c8 (NBL.out b IB.out))
                have PS8 := Lib.hid ps8
                have PN8 : Hid (PvN (vOf E) (E.map (·.k)) K (f + 1) M' (if G = zero32 then Ss else Ss ++ [G])) := by
                  show PvN (vOf E) (E.map (·.k)) K (f + 1) M' (if G = zero32 then Ss else Ss ++ [G])
                  have pn := PN.out.skip NZ.out LLF.out
                  by_cases hz : G = zero32
                  · rw [if_pos hz]
                    have : M' = M := key_eq ky8 PN.out.ky (fun i hi => by rw [bt8 i hi, if_pos hz])
                    rw [this]
                    exact pn.zero (by rw [SG.out]; exact hz)
                  · rw [if_neg hz, ← SG.out]
                    exact pn.add F256.out (by rw [SG.out]; exact hz) ky8 (fun i hi => by rw [bt8 i hi, if_neg hz])
                clear ps8 ky8 bt8 c8 hq8 PS7 TL7 N7
                go_wp2_with fail
                refine hKK.out _ _ (hS) (fun h0 => ?_)
                clear hKK KX
                try simp only [Act.put, List.setIfInBounds_toArray, List.set_cons_zero, List.set_cons_succ]
                refine wpAnyH_done (by kernel_rfl) ?_ _
                have g34 : w8.cell? ⟨b, 34, none⟩ = some (.pointer (some ⟨y, 0, none⟩)) := by have := (N8.out.facts NK.out).2.2.1; rw [NL.out.2] at this; exact this
                clear h0
                go_wp2_with fail
                go_roundw
                case rel => exact ⟨M', v', _, PS8, .inr ⟨f + 1, r, y, bl2, rfl, WKM, PN8, TL8⟩⟩
                case measure =>
                  have e1 := fgm_is WK.out.ok TL.out.tr
                  have e2 := fgm_is WKM.out.ok TL8.out.tr
                  have hfo := WKM.out.le
                  have hfo2 := WKM.out.ok.fork_le
                  rw [e1, e2]
                  show 257 - _ < 257 - f
                  omega

end Go.Proofs.YtjlodnecdngdfaaDoor
namespace Go.Proofs.YtjlodnecdngdfaaDoor
set_option maxRecDepth 100000
open Go.RowKit


end Go.Proofs.YtjlodnecdngdfaaDoor
namespace Go.Proofs.YtjlodnecdngdfaaDoor
set_option maxRecDepth 100000
open Go.RowKit

/-- Boxed: three hashes and a proof. -/
structure CkB (t : TypeId) (w wr : World) (G K V M : List Int) (v : Value) : Prop where
  below : Below w.heap.size w wr
  hG : HashAt wr w.heap.size G
  hK : HashAt wr (w.heap.size + 1) K
  hV : HashAt wr (w.heap.size + 2) V
  pf : PfB t wr (w.heap.size + 3) M v
theorem CkB.on {t : TypeId} {w W W' : World} {G K V M : List Int} {v : Value} (h : CkB t w W G K V M v) (hb : Below W.heap.size W W') : CkB t w W' G K V M v := ⟨h.below.trans (hb.mono h.below.size), h.hG.on hb, h.hK.on hb, h.hV.on hb, h.pf.on hb⟩
theorem CkB.start (t : TypeId) (w : World) (G K V M : List Int) (v : Value) : CkB t w ((((w.alloc (.cells (hc G).toArray 24)).alloc (.cells (hc K).toArray 24)).alloc (.cells (hc V).toArray 24)).alloc (.cells (pfRow M v).toArray t)) G K V M v := by
  have h1 := HashAt.new (w.alloc (.cells (hc G).toArray 24)) K
  have h2 := HashAt.new ((w.alloc (.cells (hc G).toArray 24)).alloc (.cells (hc K).toArray 24)) V
  have h3 := PfB.new (t := t) (((w.alloc (.cells (hc G).toArray 24)).alloc (.cells (hc K).toArray 24)).alloc (.cells (hc V).toArray 24)) M v
  simp only [World.size_alloc] at h1 h2 h3
  exact ⟨((((Below.refl w.heap.size w).alloc (Nat.le_refl _) _).alloc (by simp) _).alloc (by simp; omega) _).alloc (by simp; omega) _, (((HashAt.new w G).alloc _).alloc _).alloc _, (h1.alloc _).alloc _, h2.alloc _, h3⟩
/-- Boxed: four hashes and a proof; the answer. -/
structure UpB (t : TypeId) (w wr : World) (G K V N M : List Int) (v : Value) : Prop where
  below : Below w.heap.size w wr
  hG : HashAt wr w.heap.size G
  hK : HashAt wr (w.heap.size + 1) K
  hV : HashAt wr (w.heap.size + 2) V
  hN : HashAt wr (w.heap.size + 3) N
  pf : PfB t wr (w.heap.size + 4) M v
  hR : HashAt wr (w.heap.size + 5) zero32
theorem UpB.on {t : TypeId} {w W W' : World} {G K V N M : List Int} {v : Value} (h : UpB t w W G K V N M v) (hb : Below W.heap.size W W') : UpB t w W' G K V N M v := ⟨h.below.trans (hb.mono h.below.size), h.hG.on hb, h.hK.on hb, h.hV.on hb, h.hN.on hb, h.pf.on hb, h.hR.on hb⟩
theorem UpB.start (t : TypeId) (w : World) (G K V N M : List Int) (v : Value) : UpB t w ((((((w.alloc (.cells (hc G).toArray 24)).alloc (.cells (hc K).toArray 24)).alloc (.cells (hc V).toArray 24)).alloc (.cells (hc N).toArray 24)).alloc (.cells (pfRow M v).toArray t)).alloc (.cells (hc zero32).toArray 24)) G K V N M v := by
  have h1 := HashAt.new (w.alloc (.cells (hc G).toArray 24)) K
  have h2 := HashAt.new ((w.alloc (.cells (hc G).toArray 24)).alloc (.cells (hc K).toArray 24)) V
  have h3 := HashAt.new (((w.alloc (.cells (hc G).toArray 24)).alloc (.cells (hc K).toArray 24)).alloc (.cells (hc V).toArray 24)) N
  have h4 := PfB.new (t := t) ((((w.alloc (.cells (hc G).toArray 24)).alloc (.cells (hc K).toArray 24)).alloc (.cells (hc V).toArray 24)).alloc (.cells (hc N).toArray 24)) M v
  have h5 := HashAt.new (((((w.alloc (.cells (hc G).toArray 24)).alloc (.cells (hc K).toArray 24)).alloc (.cells (hc V).toArray 24)).alloc (.cells (hc N).toArray 24)).alloc (.cells (pfRow M v).toArray t)) zero32
  simp only [World.size_alloc] at h1 h2 h3 h4 h5
  exact ⟨((((((Below.refl w.heap.size w).alloc (Nat.le_refl _) _).alloc (by simp) _).alloc (by simp; omega) _).alloc (by simp; omega) _).alloc (by simp; omega) _).alloc (by simp; omega) _, (((((HashAt.new w G).alloc _).alloc _).alloc _).alloc _).alloc _, (((h1.alloc _).alloc _).alloc _).alloc _, ((h2.alloc _).alloc _).alloc _, (h3.alloc _).alloc _, h4.alloc _, h5⟩

end Go.Proofs.YtjlodnecdngdfaaDoor
namespace Go.Proofs.YtjlodnecdngdfaaDoor
open Go.RowKit
set_option maxRecDepth 100000

theorem PvN.len {E : List En} {K M : List Int} {Ss : List (List Int)} (h : PvN (vOf E) (E.map (·.k)) K 256 M Ss) : Ss.length ≤ 256 := by
  rw [h.ss]; exact prvS_len _ _ _ _
/-- A map of the law's own, hashes of its own, a proof with its sides. -/
structure LwM (w1 wr : World) (p m c : Nat) (E : List En) (top : Option Addr) (bl : List Nat) (Hs : List (Nat × List Int)) (pb : Nat) (M : List Int) (v : Value) (Ss : List (List Int)) : Prop where
  map : MpW w1 wr p m E c top bl
  hh : ∀ x ∈ Hs, HashAt wr x.1 x.2 ∧ x.1 ∉ p :: m :: bl
  pf : PfB 48 wr pb M v
  np : pb ∉ p :: m :: bl
  hs : HsS w1 wr v Ss
  nv : ∀ g, v.ownBlock = some g → g ∉ p :: m :: bl
  lo : w1.heap.size ≤ pb
  hlo : ∀ x ∈ Hs, w1.heap.size ≤ x.1
section
variable {w1 wr w' : World} {p m c : Nat} {E : List En} {top : Option Addr} {bl : List Nat} {Hs : List (Nat × List Int)} {pb : Nat} {M : List Int} {v : Value} {Ss : List (List Int)}
theorem MpW.noin (h : MpW w1 wr p m E c top bl) : ∀ g ∈ p :: m :: bl, w1.heap.size ≤ g ∧ g < wr.heap.size := fun g hg => by
  rcases List.mem_cons.1 hg with rfl | hg
  · exact ⟨h.pg, h.map.s.lp⟩
  · rcases List.mem_cons.1 hg with rfl | hg
    · exact ⟨h.mg, h.map.s.lm⟩
    · exact ⟨h.bg g hg, h.map.t.lt g hg⟩
theorem LwM.chg {S : List Nat} (h : LwM w1 wr p m c E top bl Hs pb M v Ss) (hc : Chg wr w' S) (hS : ∀ g ∈ S, g ∈ p :: m :: bl) (hm : MpW w1 w' p m E c top bl) : LwM w1 w' p m c E top bl Hs pb M v Ss :=
  ⟨hm, fun x hx => ⟨(h.hh x hx).1.chg' hc (fun hin => (h.hh x hx).2 (hS _ hin)), (h.hh x hx).2⟩, h.pf.chg hc (fun hin => h.np (hS _ hin)), h.np,
    h.hs.chg hc (fun k hk => (h.map.noin k (hS k hk)).1) (fun k hk hin => h.nv k hk (hS k hin)), h.nv, h.lo, h.hlo⟩
theorem LwM.on (h : LwM w1 wr p m c E top bl Hs pb M v Ss) (hb : Below wr.heap.size wr w') : LwM w1 w' p m c E top bl Hs pb M v Ss :=
  h.chg (Chg.below hb (Nat.le_refl _) []) (by simp) (h.map.on hb)
theorem LwM.put {K V : List Int} {e : Ending} (h : LwM w1 wr p m c E top bl Hs pb M v Ss) (hq : PutQ wr p m E bl K V e w') :
    e = .returned (.int .i64 0) ∧ ∃ E' c' top' bl', LwM w1 w' p m c' E' top' bl' Hs pb M v Ss ∧ (∀ k, vOf E' k = if k = K then V else vOf E k) ∧ E'.length ≤ E.length + 1 := by
  obtain ⟨he, E', c', top', bl', hm, hv, hn, _⟩ := h.map.put hq
  obtain ⟨_, hc, E2, c2, top2, bl2, hm2, hin, hv2, h2, _⟩ := hq
  have hI : ∀ g, g < wr.heap.size → g ∉ p :: m :: bl → g ∉ p :: m :: bl2 := fun g hl hg hi => by
    rcases List.mem_cons.1 hi with rfl | hi
    · exact hg (by simp)
    · rcases List.mem_cons.1 hi with rfl | hi
      · exact hg (by simp)
      · rcases hin g hi with hi | hi
        · exact hg (by simp [hi])
        · omega
  have hm3 : MpW w1 w' p m E2 c2 top2 bl2 := ⟨hm2, h.map.below.trans (hc.toBelow h.map.below.size (fun k hk => (h.map.noin k hk).1)), h.map.pg, h.map.mg, fun g hg => by
    rcases hin g hg with hg | hg
    · exact h.map.bg g hg
    · have := h.map.below.size; omega⟩
  refine ⟨he, E2, c2, top2, bl2, ⟨hm3, fun x hx => ⟨(h.hh x hx).1.chg' hc (h.hh x hx).2, hI _ (h.hh x hx).1.lt (h.hh x hx).2⟩, h.pf.chg hc h.np, hI _ h.pf.lt h.np, h.hs.chg hc (fun k hk => (h.map.noin k hk).1) (fun k hk => h.nv k hk), fun g hg => hI g (own_lt h.hs.own hg) (h.nv g hg), h.lo, h.hlo⟩, hv2, h2⟩
/-- A hash more. -/
theorem LwM.hash {F : List Int} {o : Nat} (h : LwM w1 wr p m c E top bl Hs pb M v Ss) (ho : w' = (wr.alloc (.cells (hc zero32).toArray 24)).setCells wr.heap.size 0 (hc F)) (hoe : o = wr.heap.size) (hF : F.length = 32) : LwM w1 w' p m c E top bl ((o, F) :: Hs) pb M v Ss := by
  subst hoe
  have b1 : Below wr.heap.size wr (wr.alloc (.cells (hc zero32).toArray 24)) := (Below.refl _ _).alloc (Nat.le_refl _) _
  have b2 : Below wr.heap.size wr w' := by rw [ho]; exact below_setCells' wr.heap.size (Nat.le_refl _) (hc F) 0 b1
  have hN : HashAt w' wr.heap.size F := by rw [ho]; exact (HashAt.new wr zero32).put zero32_len hF
  have h2 := h.on b2
  refine ⟨h2.map, fun x hx => ?_, h2.pf, h2.np, h2.hs, h2.nv, h2.lo, fun x hx => ?_⟩
  · rcases List.mem_cons.1 hx with rfl | hx
    · exact ⟨hN, fun hin => by have := (h.map.noin _ hin).2; simp at this⟩
    · exact h2.hh x hx
  · rcases List.mem_cons.1 hx with rfl | hx
    · exact h.map.below.size
    · exact h2.hlo x hx
theorem LwM.at (h : LwM w1 wr p m c E top bl Hs pb M v Ss) {o : Nat} {F : List Int} (hx : (o, F) ∈ Hs) : HashAt wr o F := (h.hh _ hx).1
end
/-- Behind Prove: its answer laid. -/
theorem LwM.start {w1 w w2 w3 : World} {p m c : Nat} {E : List En} {top : Option Addr} {bl : List Nat} {M : List Int} {q : Option Addr} {k : Nat} {Ss : List (List Int)} (hM : MpW w1 w p m E c top bl) (lM : M.length = 32) (hs : HsS w1 w2 (.slice q Ss.length k) Ss) (hm : MpW w1 w2 p m E c top bl) (hf : ∀ g, (Value.slice q Ss.length k).ownBlock = some g → w.heap.size ≤ g)
    (h3 : w3 = (w2.alloc (.cells (pfRow zero32 (.slice none 0 0)).toArray 48)).setCells w2.heap.size 0 (pfRow M (.slice q Ss.length k))) : LwM w1 w3 p m c E top bl [] w2.heap.size M (.slice q Ss.length k) Ss := by
  have b1 : Below w2.heap.size w2 (w2.alloc (.cells (pfRow zero32 (.slice none 0 0)).toArray 48)) := (Below.refl _ _).alloc (Nat.le_refl _) _
  have b2 : Below w2.heap.size w2 w3 := by rw [h3]; exact below_setCells' w2.heap.size (Nat.le_refl _) _ 0 b1
  have hP : PfB 48 w3 w2.heap.size M (.slice q Ss.length k) := by rw [h3]; exact (PfB.new w2 zero32 (.slice none 0 0)).put zero32_len lM _
  refine ⟨hm.on b2, fun x hx => (by cases hx), hP, fun hin => by have := (hm.noin _ hin).2; omega, hs.on b2, fun g hg hin => ?_, hm.below.size, fun x hx => (by cases hx)⟩
  have h1 := hf g hg
  have h2 := (hM.noin g hin).2
  omega
end Go.Proofs.YtjlodnecdngdfaaDoor
