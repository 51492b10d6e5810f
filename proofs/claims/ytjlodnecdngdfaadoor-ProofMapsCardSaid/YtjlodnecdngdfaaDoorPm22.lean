/-
  The law's road: all strings that are digested where pairs are put and a proof is held against values.; basculelaw02.Clash: where two unlike strings of a list have one digest, it answers true.; Two values of one key behind one root, with one proof: two unlike strings of one digest, or one of the digest of zeros.; The law's copy of a proof, and its Same of a proof and its copy.; The document's proof: its zero, and how it is built.
-/
import Derived.Maps.OwnSet
import Derived.DeepKeys5
import Derived.Test.YtjlodnecdngdfaaDoorPm2
import Derived.Test.YtjlodnecdngdfaaDoorPm3
import Derived.Test.YtjlodnecdngdfaaDoorPm4
import Derived.Test.YtjlodnecdngdfaaDoorPm7
import Derived.Test.YtjlodnecdngdfaaDoorPm14
import Derived.Test.YtjlodnecdngdfaaDoorPm15
import Derived.Test.YtjlodnecdngdfaaDoorPm18
import Derived.Test.YtjlodnecdngdfaaDoorPm19
import Derived.Test.YtjlodnecdngdfaaDoorPm21
namespace Go.Proofs.YtjlodnecdngdfaaDoor
open Go.RowKit
set_option maxRecDepth 100000

theorem wayT_ok {K V M : List Int} {Ss : List (List Int)} (lV : V.length = 32) (bV : Bytes V) (hK : KyOk K) (hM : KyOk M) (okh : HsOk Ss) (hc : cntI M 256 = Ss.length) : ∀ k, k ≤ 256 → TtOk (wayT K V M Ss k)
  | 0, _ => TtOk.one (leaf_len hK.len lV) (leaf_bytes hK.by_ bV)
  | k + 1, hk => by
    have hM' := hM.len
    rw [wayT]
    refine (wayT_ok lV bV hK hM okh hc k (by omega)).app ?_
    have lu := upS_len K M Ss (lfH_len K V) k
    have bu := upS_bytes K M Ss (lfH_bytes K V) k
    have hs : bitI M (255 - k) = 1 → cntI M (255 - k) < Ss.length := fun hb => by
      have h1 : cntI M (255 - k + 1) ≤ cntI M 256 := cntI_mono M (by omega)
      have h2 : cntI M (255 - k + 1) = cntI M (255 - k) + (bitI M (255 - k)).toNat := rfl
      rw [hb] at h2
      rw [hc] at h1
      simp at h2; omega
    obtain ⟨ls, bs⟩ := sdI_len okh hs
    unfold wayP
    split
    · exact TtOk.one (pair_len lu ls) (pair_bytes bu bs)
    · exact TtOk.one (pair_len ls lu) (pair_bytes bs bu)
/-- Strings of a call's own, apart from a map's row. -/
def TxV (N : Nat) (pv : Value) (w wr : World) (v : Value) (Ls : List (List Int)) : Prop := ∃ done, OwF 1 [] PBs (fun g => N ≤ g ∧ pv.ownBlock ≠ some g) w wr 82 v Ls done
section
variable {N : Nat} {w wr w' x : World} {pv pv' v v2 : Value} {Ls M : List (List Int)}
theorem TxV.on (h : TxV N pv w wr v Ls) (hb : Below wr.heap.size wr w') : TxV N pv w w' v Ls := by obtain ⟨d, h⟩ := h; exact ⟨d, h.on PBs_ok hb⟩
theorem TxV.cast {q : Option Addr} {n m c : Nat} (h : TxV N pv w wr (.slice q n c) Ls) (e : n = m) : TxV N pv w wr (.slice q m c) Ls := e ▸ h
theorem TxV.put {pm : Nat} {LP : PrL} (h : TxV N pv w wr v Ls) (hm : RmS w wr pm pv LP) (hp : pm < N) (hc : Chg wr w' (pm :: pv.ownBlock.toList)) (hf : pv'.ownBlock = pv.ownBlock ∨ ∀ g, pv'.ownBlock = some g → wr.heap.size ≤ g) : TxV N pv' w w' v Ls := by
  obtain ⟨d, h⟩ := h
  have hv : ∀ g, v.ownBlock = some g → g ∉ pm :: pv.ownBlock.toList := fun g hg hi => by
    rcases List.mem_cons.1 hi with e | hi
    · exact own_ne h.own hm.blk (by decide) (by rw [hg, e])
    · exact own_two h.own hm.own (by decide) hg (by simpa using hi)
  refine ⟨d, own_chg2 h.own hc hv, fun i hi => ?_, h.fresh, h.below.trans (hc.toBelow h.below.size (fun k hk => ?_))⟩
  · obtain ⟨r, h1, h2, h3⟩ := h.each i hi
    refine ⟨r, h1, h2, PBs_ok.mono (PBs_ok.agr (PBs_ok.lt h3) (w' := w') (fun g hg hlt => hc.block g hlt (fun hi => ?_))) (fun g hg => ⟨⟨hg.1.1.1, fun e => ?_⟩, hg.1.2⟩)⟩
    · rcases List.mem_cons.1 hi with e | hi
      · have := hg.1.1.1; omega
      · exact hg.1.1.2 (by simpa using hi)
    · rcases hf with e2 | e2
      · rw [e2] at e; exact hg.1.1.2 e
      · have := e2 g e; have := hg.2; omega
  · rcases List.mem_cons.1 hk with e | hk
    · rw [e]; exact hm.lo
    · exact hm.fresh k (by simpa using hk)
theorem TxV.join {pm N' : Nat} {LP : PrL} {wc : World} {q : Option Addr} {c : Nat} {done done2 : List Value} (h : OwF 1 [] PBs (fun g => N ≤ g ∧ pv.ownBlock ≠ some g) w wr 82 v Ls done) (h2 : OwF 1 [] PBs (fun g => wc.heap.size ≤ g) x wr 82 v2 M done2) (hm : RmS w wc pm pv LP) (hN : N ≤ wc.heap.size) (hv : ∀ g, v.ownBlock = some g → g < wc.heap.size)
    (own : w'.ownsRow 0 82 1 (.slice q (Ls.length + M.length) c) (Ls.length + M.length) (done ++ done2)) (grow : wr.grownBy w' v.ownBlock) (fr : (Value.slice q (Ls.length + M.length) c).ownBlock = v.ownBlock ∨ (Value.slice q (Ls.length + M.length) c).ownBlock = some wr.heap.size) :
    TxV N pv w w' (.slice q (Ls.length + M.length) c) (Ls ++ M) := by
  have _ := N'
  exact ⟨_, h.join PBs_ok h2 (fun g hg => ⟨⟨Nat.le_trans hN hg, fun e => by have := own_lt hm.own e; omega⟩, fun e => by have := hv g e; omega⟩) own grow fr⟩
theorem RmS.grown {pm : Nat} {LP : PrL} {n : Nat} {xs : List Value} (h : RmS w wr pm pv LP) (own : wr.ownsRow 0 82 1 v n xs) (grow : wr.grownBy w' v.ownBlock) (hfr : ∀ g, v.ownBlock = some g → w.heap.size ≤ g) : RmS w w' pm pv LP := by
  have hc : Chg wr w' v.ownBlock.toList := Chg.grown grow (fun g hg => by simp [hg])
  exact h.chg hc (fun hi => own_ne own h.blk (by decide) (by simpa using hi)) (fun g hg hi => own_two own h.own (by decide) (by simpa using hi) hg) (fun g hg => hfr g (by simpa using hg))
end
theorem TxV.toS {N : Nat} {w wb wr : World} {pv v : Value} {Ls : List (List Int)} (h : TxV N pv wb wr v Ls) (hb : Below w.heap.size w wb) (hN : w.heap.size ≤ N) : TxS w.heap.size w wr v Ls := by
  obtain ⟨d, h⟩ := h
  refine ⟨d, h.own, fun i hi => ?_, fun g hg => Nat.le_trans hb.size (h.fresh g hg), hb.trans (h.below.mono hb.size)⟩
  obtain ⟨r, h1, h2, h3⟩ := h.each i hi
  exact ⟨r, h1, h2, PBs_ok.mono h3 (fun g hg => ⟨Nat.le_trans hN hg.1.1, hg.2⟩)⟩
theorem RmS.start (w : World) : RmS w (w.alloc (.cells #[.slice none 0 0] 43)) w.heap.size (.slice none 0 0) [] :=
  ⟨heap_alloc_new w _, World.ownsRow_nil _ 0 _ 64, fun x h => (by cases h), List.Pairwise.nil, Nat.le_refl _, by simp [Value.ownBlock], (Below.refl _ _).alloc (Nat.le_refl _) _⟩

set_option maxHeartbeats 64000000 in
theorem road_any {w : World} {q q2 qv : Option Addr} {cp k2 cv : Nat} {L : List (List Int × List Int)} {K M : List Int} {Ss Vs : List (List Int)} (hq : RwF 64 pr0 PPr w (fun g => g < w.heap.size) q L) (ok : ∀ x ∈ L, PrOk x) (hl : L.length ≤ 12) (hK : KyOk K) (hM : KyOk M) (hs : RdHs w q2 Ss) (okh : HsOk Ss) (okS' : okS M Ss = true) (hn : Ss.length ≤ 256) (hvs : RdHs w qv Vs) (okv : HsOk Vs) (hv3 : Vs.length ≤ 3) :
    Calls Tryd.prog 29 #[.slice q L.length cp, .agg (hc K).toArray, .slice qv Vs.length cv, .agg (pfRow M (.slice q2 Ss.length k2)).toArray] w fun e w' => ∃ q' c' Ls, e = .returned (.slice q' Ls.length c') ∧ TxS w.heap.size w w' (.slice q' Ls.length c') Ls ∧ Ls.length ≤ 90000 ∧ TtOk Ls ∧ ∀ j, j < Vs.length → ∀ t ∈ wayT K (Vs.getD j []) M Ss 256, t ∈ Ls := by
  have lK := hK.len
  have lM := hM.len
  have b0 : Below w.heap.size w ((w.alloc (.cells (hc K).toArray 24)).alloc (.cells (pfRow M (.slice q2 Ss.length k2)).toArray 50)) := ((Below.refl w.heap.size w).alloc (Nat.le_refl _) (.cells (hc K).toArray 24)).alloc (by simp) (.cells (pfRow M (.slice q2 Ss.length k2)).toArray 50)
  have HK1 := Lib.hid ((HashAt.new w K).alloc (.cells (pfRow M (.slice q2 Ss.length k2)).toArray 50))
  have HP1 := PfB.new (t := 50) (w.alloc (.cells (hc K).toArray 24)) M (.slice q2 Ss.length k2)
  simp only [World.size_alloc] at HP1
  replace HP1 := Lib.hid HP1
  have HQ := Lib.hid (hq.on PPr_ok (by decide) b0)
  have HS0 := Lib.hid (hs.on (fun i hi => (okh.get i hi).1) b0)
  have HVS := Lib.hid (hvs.on (fun i hi => (okv.get i hi).1) b0)
  have B0 := Lib.hid b0
  have HKY := Lib.hid hK
  have HMK := Lib.hid hM
  have HOK := Lib.hid ok
  have OKH := Lib.hid okh
  have OKS := Lib.hid okS'
  have OKC := Lib.hid (of_decide_eq_true okS').1
  have OKVS := Lib.hid okv
  have NSS := Lib.hid hn
  have hlK := hc_len K
  have hlM := hc_len M
  have lp := pfRow_len lM (.slice q2 Ss.length k2)
  obtain ⟨i0, hi, hz0, hz1, hz2⟩ := info_parts Tryd.infoU8s
  replace hi := Lib.hid hi
  replace hz0 := Lib.hid hz0
  replace hz1 := Lib.hid hz1
  replace hz2 := Lib.hid hz2
  clear hq ok hK hM hs okh okS' hvs okv b0 hn
  go_enter Tryd.func29, Tryd.ntmps29
  go_upto_region 1 with fail
  obtain ⟨wb, hwb⟩ : ∃ x, (w.alloc (.cells (hc K).toArray 24)).alloc (.cells (pfRow M (.slice q2 Ss.length k2)).toArray 50) = x := ⟨_, rfl⟩
  rw [hwb] at HK1 HP1 HQ HS0 HVS B0 ⊢
  clear hwb
  have HKW := Lib.hid (fun W (hb : Below wb.heap.size wb W) => HK1.out.on hb)
  have HPW := Lib.hid (fun W (hb : Below wb.heap.size wb W) => HP1.out.on hb)
  have HSW := Lib.hid (fun W (hb : Below wb.heap.size wb W) => HS0.out.on (fun i hi => (OKH.out.get i hi).1) hb)
  have RM0 := Lib.hid (RmS.start wb)
  have TX0 : Hid (TxV (wb.heap.size + 1) (.slice none 0 0) wb (wb.alloc (.cells #[.slice none 0 0] 43)) (.slice none 0 0) []) := ⟨[], OwF.start RM0.out.below⟩
  have PN : Hid (wb.heap.size < wb.heap.size + 1) := Nat.lt_succ_self _
  have NW1 : Hid (wb.heap.size + 1 ≤ (wb.alloc (.cells #[.slice none 0 0] 43)).heap.size) := by show _ ≤ _; simp
  go_wp2_with fail
  go_loopw [10, 11] (fun ov iv wr => ∃ (i : Nat) (v : Value) (LP : PrL) (qo : Option Addr) (co : Nat) (Ls : List (List Int)), iv = .int .i64 (i : Int) ∧ i ≤ L.length ∧ Hid (RmS wb wr wb.heap.size v LP) ∧ LP.length ≤ i ∧ ov = .slice qo Ls.length co ∧ Hid (TxV (wb.heap.size + 1) v wb wr (.slice qo Ls.length co) Ls) ∧ Hid (Ls.length ≤ i * 5140 ∧ TtOk Ls)) (fun _ iv _ => L.length - (intOf iv).toNat)
  case atStart => exact ⟨0, _, [], none, 0, [], rfl, by omega, RM0, by simp, rfl, TX0, ⟨by simp, TtOk.nil⟩⟩
  case round =>
    clear RM0 TX0 NW1
    obtain ⟨i, v, LP, qo, co, Ls, rfl, hil, RM, hle, rfl, TX, HL⟩ := hrel
    by_cases hlt : i < L.length
    · as_aux_lemma =>
        have hltI : (i : Int) < (L.length : Int) := by omega
        obtain ⟨b, off, r, rfl, -, hr, hrow, -⟩ := (HQ.out.on PPr_ok (by decide) RM.out.below).get (d := pr0) hlt
        have OKX := Lib.hid (HOK.out _ (getD_mem' (d := pr0) hlt))
        have R9 : Hid (∀ W, Below wb.heap.size wb W → rowOf W b (off + i * 64) 32 = hc (L.getD i pr0).1 ∧ rowOf W b (off + i * 64 + 32) 32 = hc (L.getD i pr0).2) := by
          intro W hW
          obtain ⟨b2, off2, r2, e2, -, hr2, hrow2, e3⟩ := (HQ.out.on PPr_ok (by decide) hW).get (d := pr0) hlt
          simp only [Option.some.injEq, Addr.mk.injEq] at e2
          obtain ⟨rfl, rfl, -⟩ := e2
          exact rowOf_half OKX.out.k.len OKX.out.l (hrow2.trans e3)
        obtain ⟨Ky, hK0⟩ : ∃ Ky, (L.getD i pr0).1 = Ky := ⟨_, rfl⟩
        obtain ⟨V, hV0⟩ : ∃ V, (L.getD i pr0).2 = V := ⟨_, rfl⟩
        rw [hK0, hV0] at R9
        have lKy : Ky.length = 32 := by rw [← hK0]; exact OKX.out.k.len
        have lV : V.length = 32 := by rw [← hV0]; exact OKX.out.l
        have hlKy := hc_len Ky
        have hlV := hc_len V
        have PK : Hid (KyOk Ky) := by show KyOk Ky; rw [← hK0]; exact OKX.out.k
        have PV : Hid (V.length = 32) := lV
        have PB : Hid (Bytes V) := by show Bytes V; rw [← hV0]; exact OKX.out.b
        have g0 : (0 : Int) ≤ (i : Int) := by omega
        clear hrow hr hK0 hV0 OKX
        have LE := Lib.hid (show LP.length ≤ 12 ∧ LP.length ≤ i from ⟨by omega, hle⟩)
        have NL := Lib.hid (show Ls.length ≤ 12 * 5140 from by have := HL.out.1; omega)
        have TKL := Lib.hid HL.out.2
        replace RM := Lib.hid (RM.out.on (Below.refl _ _).drew)
        replace TX := Lib.hid (TX.out.on (Below.refl _ _).drew)
        go_wp2_with fail
        refine wp_region_held_drew (S := fun W => Below wb.heap.size wb W) (by kernel_rfl) (RM.out.below) (fun h0 => ?_)
        generalize wr.drew = w4 at *
        refine wpAnyH_take (i := 0) (v := ?_) (by rw [List.getElem?_toArray]; rfl) (by kernel_rfl) (by kernel_rfl) (by kernel_rfl) (by exact fun _ _ _ h => h) (Or.inl ⟨by rfl, ?_⟩) h0 ?_
        rotate_left
        · intro W hW
          go_simp
          all_goals with_reducible rfl
        try simp only [Act.put, List.setIfInBounds_toArray, List.set_cons_zero, List.set_cons_succ]
        refine wpAnyH_take (i := 1) (v := ?_) (by rw [List.getElem?_toArray]; rfl) (by kernel_rfl) (by kernel_rfl) (by kernel_rfl) (by exact fun _ _ _ h => h) (Or.inl ⟨by rfl, ?_⟩) h0 ?_
        rotate_left
        · intro W hW
          go_simp
          all_goals with_reducible rfl
        try simp only [Act.put, List.setIfInBounds_toArray, List.set_cons_zero, List.set_cons_succ]
        refine wpAnyH_take (i := 2) (v := ?_) (by rw [List.getElem?_toArray]; rfl) (by kernel_rfl) (by kernel_rfl) (by kernel_rfl) (by exact fun _ _ _ h => h) (Or.inl ⟨by rfl, ?_⟩) h0 ?_
        rotate_left
        · intro W hW
          go_simp
          all_goals with_reducible rfl
        try simp only [Act.put, List.setIfInBounds_toArray, List.set_cons_zero, List.set_cons_succ]
        refine wpAnyH_take (i := 3) (v := ?_) (by rw [List.getElem?_toArray]; rfl) (by kernel_rfl) (by kernel_rfl) (by kernel_rfl) (by exact fun _ _ _ h => h) (Or.inl ⟨by rfl, ?_⟩) h0 ?_
        rotate_left
        · intro W hW
          go_simp
          all_goals with_reducible rfl
        try simp only [Act.put, List.setIfInBounds_toArray, List.set_cons_zero, List.set_cons_succ]
        refine wpAnyH_take (i := 4) (v := ?_) (by rw [List.getElem?_toArray]; rfl) (by kernel_rfl) (by kernel_rfl) (by kernel_rfl) (by exact fun _ _ _ h => h) (Or.inl ⟨by rfl, ?_⟩) h0 ?_
        rotate_left
        · intro W hW
          go_simp
          all_goals with_reducible rfl
        try simp only [Act.put, List.setIfInBounds_toArray, List.set_cons_zero, List.set_cons_succ]
        refine wpAnyH_take (i := 5) (v := ?_) (by rw [List.getElem?_toArray]; rfl) (by kernel_rfl) (by kernel_rfl) (by kernel_rfl) (by exact fun _ _ _ h => h) (Or.inl ⟨by rfl, ?_⟩) h0 ?_
        rotate_left
        · intro W hW
          have cc := (R9.out W hW).1
          go_simp
          all_goals with_reducible rfl
        try simp only [Act.put, List.setIfInBounds_toArray, List.set_cons_zero, List.set_cons_succ]
        refine wpAnyH_take (i := 6) (v := ?_) (by rw [List.getElem?_toArray]; rfl) (by kernel_rfl) (by kernel_rfl) (by kernel_rfl) (by exact fun _ _ _ h => h) (Or.inl ⟨by rfl, ?_⟩) h0 ?_
        rotate_left
        · intro W hW
          go_simp
          all_goals with_reducible rfl
        try simp only [Act.put, List.setIfInBounds_toArray, List.set_cons_zero, List.set_cons_succ]
        refine wpAnyH_take (i := 7) (v := ?_) (by rw [List.getElem?_toArray]; rfl) (by kernel_rfl) (by kernel_rfl) (by kernel_rfl) (by exact fun _ _ _ h => h) (Or.inl ⟨by rfl, ?_⟩) h0 ?_
        rotate_left
        · intro W hW
          go_simp
          all_goals with_reducible rfl
        try simp only [Act.put, List.setIfInBounds_toArray, List.set_cons_zero, List.set_cons_succ]
        refine wpAnyH_take (i := 8) (v := ?_) (by rw [List.getElem?_toArray]; rfl) (by kernel_rfl) (by kernel_rfl) (by kernel_rfl) (by exact fun _ _ _ h => h) (Or.inl ⟨by rfl, ?_⟩) h0 ?_
        rotate_left
        · intro W hW
          go_simp
          all_goals with_reducible rfl
        try simp only [Act.put, List.setIfInBounds_toArray, List.set_cons_zero, List.set_cons_succ]
        refine wpAnyH_take (i := 9) (v := ?_) (by rw [List.getElem?_toArray]; rfl) (by kernel_rfl) (by kernel_rfl) (by kernel_rfl) (by exact fun _ _ _ h => h) (Or.inl ⟨by rfl, ?_⟩) h0 ?_
        rotate_left
        · intro W hW
          go_simp
          all_goals with_reducible rfl
        try simp only [Act.put, List.setIfInBounds_toArray, List.set_cons_zero, List.set_cons_succ]
        refine wpAnyH_take (i := 10) (v := ?_) (by rw [List.getElem?_toArray]; rfl) (by kernel_rfl) (by kernel_rfl) (by kernel_rfl) (by exact fun _ _ _ h => h) (Or.inl ⟨by rfl, ?_⟩) h0 ?_
        rotate_left
        · intro W hW
          have cc := (R9.out W hW).2
          go_simp
          all_goals with_reducible rfl
        try simp only [Act.put, List.setIfInBounds_toArray, List.set_cons_zero, List.set_cons_succ]
        refine wpAnyH_ready (rs := [11]) (by kernel_rfl) (by simp) ?_
        refine AllReadyH.cons (by rw [List.getElem?_toArray]; rfl) (fun KX hKK => ?_) AllReadyH.nil
        first | rw [if_pos (by rfl)] | skip
        have PU := Lib.hid (Put5_any RM.out PK.out PV.out PB.out (by have := LE.out; omega))
        go_wp2_with fail
        refine PU.out.mono ?_
        rintro e w5 ⟨rfl, v', rm5, c5, f5⟩
        have TX5 := Lib.hid (TX.out.put RM.out PN.out c5 f5)
        have RM5 := Lib.hid rm5
        clear c5 f5 PU RM TX rm5
        go_wp2_with fail
        refine hKK.out _ _ (RM5.out.below) (fun h0 => ?_)
        clear hKK KX
        try simp only [Act.put, List.setIfInBounds_toArray, List.set_cons_zero, List.set_cons_succ]
        refine wpAnyH_done (by kernel_rfl) ?_ _
        clear h0
        have LE5 : Hid ((putR Ky V LP).length ≤ 13) := by have := putR_len Ky V LP; have := LE.out; show _ ≤ _; omega
        have MT := Lib.hid (mapTexts_any RM5.out (by have := LE5.out; omega))
        go_wp2_with fail
        refine MT.out.mono ?_
        rintro e w6 ⟨q6, c6, L6, rfl, t6, n6, k6⟩
        have RM6 := Lib.hid (RM5.out.on t6.below)
        obtain ⟨d6, o6⟩ := t6
        have OD6 := Lib.hid o6
        obtain ⟨dt, ot⟩ := TX5.out
        have PL := Lib.hid (fun g hg => own_lt ot.own (k := g) hg)
        have OT := Lib.hid (ot.on PBs_ok o6.below)
        have SR := Lib.hid (TxS.src o6.own (TxS.ones o6))
        have N6 := Lib.hid (show L6.length ≤ 5140 from by have := LE5.out; have h5 : _ * 257 ≤ 20 * 257 := Nat.mul_le_mul (by omega : (putR Ky V LP).length ≤ 20) (Nat.le_refl 257); omega)
        have K6 := Lib.hid k6
        clear MT o6 n6 k6 ot
        go_wp2_with (at_builtin; refine wpList_append_row rfl _ _ rfl Tryd.underlying61 hi.out hz0.out hz1.out hz2.out rfl OT.out.own SR.out ?b1 ?b2 ?_)
        case b1 => have := N6.out; have := NL.out; unfold maxLen; omega
        case b2 => have := N6.out; have := NL.out; omega
        intro q7 k7 w7 own7 grow7 fr7
        have TX7 := Lib.hid (TxV.join (N' := 0) OT.out OD6.out RM5.out (by have := RM5.out.lt; omega) PL.out own7 grow7 fr7)
        have RM7 := Lib.hid (RM6.out.grown OT.out.own grow7 OT.out.fresh)
        clear own7 grow7 fr7 SR OT OD6 RM6 PL RM5 TX5
        go_wp2_with fail
        go_roundw
        case rel => exact ⟨i + 1, v', putR Ky V LP, q7, k7, Ls ++ L6, by go_num, by omega, RM7, by have := putR_len Ky V LP; have := LE.out; omega, by rw [List.length_append], TX7.out.cast (by rw [List.length_append]), ⟨by have := N6.out; have := HL.out.1; rw [List.length_append]; omega, TKL.out.app K6.out⟩⟩
        case measure => simp [intOf]; omega

    · as_aux_lemma =>
        have hnl : ¬ (i : Int) < (L.length : Int) := by omega
        go_wp2_with fail
        go_loopw [10, 12] (fun ov iv wr => ∃ (i : Nat) (v : Value) (LP : PrL) (qo : Option Addr) (co : Nat) (Ls : List (List Int)), iv = .int .i64 (i : Int) ∧ i ≤ Vs.length ∧ Hid (RmS wb wr wb.heap.size v LP) ∧ LP.length ≤ 12 + i ∧ ov = .slice qo Ls.length co ∧ Hid (TxV (wb.heap.size + 1) v wb wr (.slice qo Ls.length co) Ls) ∧ Hid (Ls.length ≤ 12 * 5140 + i * 5400 ∧ TtOk Ls ∧ ∀ j, j < i → ∀ t ∈ wayT K (Vs.getD j []) M Ss 256, t ∈ Ls)) (fun _ iv _ => Vs.length - (intOf iv).toNat)
        case atStart => exact ⟨0, v, LP, qo, co, Ls, rfl, by omega, RM, by omega, rfl, TX, ⟨by have := HL.out.1; omega, HL.out.2, fun j hj => absurd hj (by omega)⟩⟩
        case round =>
          clear RM TX HL hle hlt hnl hil
          obtain ⟨i, v, LP, qo, co, Ls, rfl, hil, RM, hle, rfl, TX, HL⟩ := hrel
          by_cases hlt : i < Vs.length
          · as_aux_lemma =>
              have hltI : (i : Int) < (Vs.length : Int) := by omega
              obtain ⟨bv, offv, rfl, hxv⟩ := HVS.out.resolve_left (fun e => by rw [e] at hlt; simp at hlt)
              have OKV := OKVS.out.get i hlt
              obtain ⟨Vx, hVx⟩ : ∃ Vx, Vs.getD i [] = Vx := ⟨_, rfl⟩
              have HVX := Lib.hid hVx
              have lVx : Vx.length = 32 := by rw [← hVx]; exact OKV.1
              have LVx : Hid (Vx.length = 32) := lVx
              have BVx : Hid (Bytes Vx) := by show Bytes Vx; rw [← hVx]; exact OKV.2
              have hlVx := hc_len Vx
              have RVX : Hid (∀ W, Below wb.heap.size wb W → rowOf W bv (offv + i * 32) 32 = hc Vx) := fun W hW => by rw [rowOf_on (by rw [hxv i hlt, hc_len, hVx, lVx]; omega) hW, hxv i hlt, hVx]
              have g0 : (0 : Int) ≤ (i : Int) := by omega
              have NL := Lib.hid (show Ls.length ≤ 12 * 5140 + i * 5400 from HL.out.1)
              have TKL := Lib.hid HL.out.2.1
              have MEM := Lib.hid HL.out.2.2
              have wl := wayT_len K Vx M Ss 256
              have wt := wayT_ok lVx BVx.out HKY.out HMK.out OKH.out OKC.out 256 (Nat.le_refl _)
              obtain ⟨WX, hWX⟩ : ∃ WX, wayT K Vx M Ss 256 = WX := ⟨_, rfl⟩
              have HWX := Lib.hid hWX
              rw [hWX] at wl wt
              have WL := Lib.hid wl
              have WT := Lib.hid wt
              clear hWX wl wt
              replace RM := Lib.hid (RM.out.on (Below.refl _ _).drew)
              replace TX := Lib.hid (TX.out.on (Below.refl _ _).drew)
              clear hxv OKV hVx HL
              go_wp2_with fail
              refine wp_region_held_drew (S := fun W => Below wb.heap.size wb W) (by kernel_rfl) (RM.out.below) (fun h0 => ?_)
              generalize wr.drew = w4 at *
              refine wpAnyH_take (i := 0) (v := ?_) (by rw [List.getElem?_toArray]; rfl) (by kernel_rfl) (by kernel_rfl) (by kernel_rfl) (by exact fun _ _ _ h => h) (Or.inl ⟨by rfl, ?_⟩) h0 ?_
              rotate_left
              · intro W hW
                go_simp
                all_goals with_reducible rfl
              try simp only [Act.put, List.setIfInBounds_toArray, List.set_cons_zero, List.set_cons_succ]
              refine wpAnyH_take (i := 1) (v := ?_) (by rw [List.getElem?_toArray]; rfl) (by kernel_rfl) (by kernel_rfl) (by kernel_rfl) (by exact fun _ _ _ h => h) (Or.inl ⟨by rfl, ?_⟩) h0 ?_
              rotate_left
              · intro W hW
                have cc := (HKW.out W hW).row lK
                go_simp
                all_goals with_reducible rfl
              try simp only [Act.put, List.setIfInBounds_toArray, List.set_cons_zero, List.set_cons_succ]
              refine wpAnyH_take (i := 2) (v := ?_) (by rw [List.getElem?_toArray]; rfl) (by kernel_rfl) (by kernel_rfl) (by kernel_rfl) (by exact fun _ _ _ h => h) (Or.inl ⟨by rfl, ?_⟩) h0 ?_
              rotate_left
              · intro W hW
                go_simp
                all_goals with_reducible rfl
              try simp only [Act.put, List.setIfInBounds_toArray, List.set_cons_zero, List.set_cons_succ]
              refine wpAnyH_take (i := 3) (v := ?_) (by rw [List.getElem?_toArray]; rfl) (by kernel_rfl) (by kernel_rfl) (by kernel_rfl) (by exact fun _ _ _ h => h) (Or.inl ⟨by rfl, ?_⟩) h0 ?_
              rotate_left
              · intro W hW
                go_simp
                all_goals with_reducible rfl
              try simp only [Act.put, List.setIfInBounds_toArray, List.set_cons_zero, List.set_cons_succ]
              refine wpAnyH_take (i := 4) (v := ?_) (by rw [List.getElem?_toArray]; rfl) (by kernel_rfl) (by kernel_rfl) (by kernel_rfl) (by exact fun _ _ _ h => h) (Or.inl ⟨by rfl, ?_⟩) h0 ?_
              rotate_left
              · intro W hW
                go_simp
                all_goals with_reducible rfl
              try simp only [Act.put, List.setIfInBounds_toArray, List.set_cons_zero, List.set_cons_succ]
              refine wpAnyH_take (i := 5) (v := ?_) (by rw [List.getElem?_toArray]; rfl) (by kernel_rfl) (by kernel_rfl) (by kernel_rfl) (by exact fun _ _ _ h => h) (Or.inl ⟨by rfl, ?_⟩) h0 ?_
              rotate_left
              · intro W hW
                have cc := RVX.out W hW
                go_simp
                all_goals with_reducible rfl
              try simp only [Act.put, List.setIfInBounds_toArray, List.set_cons_zero, List.set_cons_succ]
              refine wpAnyH_take (i := 6) (v := ?_) (by rw [List.getElem?_toArray]; rfl) (by kernel_rfl) (by kernel_rfl) (by kernel_rfl) (by exact fun _ _ _ h => h) (Or.inl ⟨by rfl, ?_⟩) h0 ?_
              rotate_left
              · intro W hW
                have cc := (HPW.out W hW).whole lM
                go_simp
                all_goals with_reducible rfl
              try simp only [Act.put, List.setIfInBounds_toArray, List.set_cons_zero, List.set_cons_succ]
              refine wpAnyH_ready (rs := [7]) (by kernel_rfl) (by simp) ?_
              refine AllReadyH.cons (by rw [List.getElem?_toArray]; rfl) (fun KX hKK => ?_) AllReadyH.nil
              first | rw [if_pos (by rfl)] | skip
              have WY := Lib.hid (way_any (k2 := k2) HKY.out LVx.out BVx.out HMK.out (HSW.out w4 RM.out.below) OKH.out OKS.out (by have := NSS.out; omega))
              rw [HWX.out] at WY
              go_wp2_with fail
              refine WY.out.mono ?_
              rintro e w5 ⟨q5, c5, rfl, t5⟩
              have RM5 := Lib.hid (RM.out.on t5.below)
              obtain ⟨d5, o5⟩ := t5
              have OD5 := Lib.hid o5
              obtain ⟨dt, ot0⟩ := TX.out
              have PL := Lib.hid (fun g hg => own_lt ot0.own (k := g) hg)
              have OT := Lib.hid (ot0.on PBs_ok o5.below)
              clear WY o5 ot0
              go_wp2_with fail
              refine hKK.out _ _ (RM5.out.below) (fun h0 => ?_)
              clear hKK KX
              try simp only [Act.put, List.setIfInBounds_toArray, List.set_cons_zero, List.set_cons_succ]
              refine wpAnyH_ready (rs := [8]) (by kernel_rfl) (by simp) ?_
              refine AllReadyH.cons (by rw [List.getElem?_toArray]; rfl) (fun KX hKK => ?_) AllReadyH.nil
              first | rw [if_pos (by rfl)] | skip
              have SR := Lib.hid (TxS.src OD5.out.own (TxS.ones OD5.out))
              refine wp_append_row _ _ rfl Tryd.underlying61 hi.out hz0.out hz1.out hz2.out rfl OT.out.own SR.out ?b1 ?b2 ?_
              case b1 => have := WL.out; have := NL.out; unfold maxLen; omega
              case b2 => have := WL.out; have := NL.out; omega
              intro q7a k7a w6 own7 grow7 fr7
              have TX7 := Lib.hid ((TxV.join (N' := 0) OT.out OD5.out RM.out (by have := RM.out.lt; omega) PL.out own7 grow7 fr7).cast (show Ls.length + WX.length = (Ls ++ WX).length from by rw [List.length_append]))
              have RM7 := Lib.hid (RM5.out.grown OT.out.own grow7 OT.out.fresh)
              rw [← List.length_append]
              obtain ⟨LZ, hLZ⟩ : ∃ LZ, Ls ++ WX = LZ := ⟨_, rfl⟩
              rw [hLZ] at TX7 ⊢
              have HLZ := Lib.hid hLZ
              clear hLZ own7 grow7 fr7 SR OT OD5 RM5 RM TX PL
              refine hKK.out _ _ (RM7.out.below) (fun h0 => ?_)
              clear hKK KX
              try simp only [Act.put, List.setIfInBounds_toArray, List.set_cons_zero, List.set_cons_succ]
              refine wpAnyH_take (i := 9) (v := ?_) (by rw [List.getElem?_toArray]; rfl) (by kernel_rfl) (by kernel_rfl) (by kernel_rfl) (by exact fun _ _ _ h => h) (Or.inl ⟨by rfl, ?_⟩) h0 ?_
              rotate_left
              · intro W hW
                go_simp
                all_goals with_reducible rfl
              try simp only [Act.put, List.setIfInBounds_toArray, List.set_cons_zero, List.set_cons_succ]
              refine wpAnyH_done (by kernel_rfl) ?_ _
              clear h0
              have NL0 := NL
              replace NL := Lib.hid (show LZ.length ≤ 80000 from by rw [← HLZ.out, List.length_append]; have := NL0.out; have := WL.out; omega)
              have LE := Lib.hid (show LP.length ≤ 15 from by omega)
              go_wp2_with fail
              replace RM7 := RM7
              have RM8 := Lib.hid (RM7.out.on (Below.refl _ _).drew)
              have TX8 := Lib.hid (TX7.out.on (Below.refl _ _).drew)
              clear RM7 TX7
              refine wp_region_held_drew (S := fun W => Below wb.heap.size wb W) (by kernel_rfl) (RM8.out.below) (fun h0 => ?_)
              generalize w6.drew = w8 at *
              refine wpAnyH_take (i := 0) (v := ?_) (by rw [List.getElem?_toArray]; rfl) (by kernel_rfl) (by kernel_rfl) (by kernel_rfl) (by exact fun _ _ _ h => h) (Or.inl ⟨by rfl, ?_⟩) h0 ?_
              rotate_left
              · intro W hW
                go_simp
                all_goals with_reducible rfl
              try simp only [Act.put, List.setIfInBounds_toArray, List.set_cons_zero, List.set_cons_succ]
              refine wpAnyH_take (i := 1) (v := ?_) (by rw [List.getElem?_toArray]; rfl) (by kernel_rfl) (by kernel_rfl) (by kernel_rfl) (by exact fun _ _ _ h => h) (Or.inl ⟨by rfl, ?_⟩) h0 ?_
              rotate_left
              · intro W hW
                have cc := (HKW.out W hW).row lK
                go_simp
                all_goals with_reducible rfl
              try simp only [Act.put, List.setIfInBounds_toArray, List.set_cons_zero, List.set_cons_succ]
              refine wpAnyH_take (i := 2) (v := ?_) (by rw [List.getElem?_toArray]; rfl) (by kernel_rfl) (by kernel_rfl) (by kernel_rfl) (by exact fun _ _ _ h => h) (Or.inl ⟨by rfl, ?_⟩) h0 ?_
              rotate_left
              · intro W hW
                go_simp
                all_goals with_reducible rfl
              try simp only [Act.put, List.setIfInBounds_toArray, List.set_cons_zero, List.set_cons_succ]
              refine wpAnyH_take (i := 3) (v := ?_) (by rw [List.getElem?_toArray]; rfl) (by kernel_rfl) (by kernel_rfl) (by kernel_rfl) (by exact fun _ _ _ h => h) (Or.inl ⟨by rfl, ?_⟩) h0 ?_
              rotate_left
              · intro W hW
                go_simp
                all_goals with_reducible rfl
              try simp only [Act.put, List.setIfInBounds_toArray, List.set_cons_zero, List.set_cons_succ]
              refine wpAnyH_take (i := 4) (v := ?_) (by rw [List.getElem?_toArray]; rfl) (by kernel_rfl) (by kernel_rfl) (by kernel_rfl) (by exact fun _ _ _ h => h) (Or.inl ⟨by rfl, ?_⟩) h0 ?_
              rotate_left
              · intro W hW
                go_simp
                all_goals with_reducible rfl
              try simp only [Act.put, List.setIfInBounds_toArray, List.set_cons_zero, List.set_cons_succ]
              refine wpAnyH_take (i := 5) (v := ?_) (by rw [List.getElem?_toArray]; rfl) (by kernel_rfl) (by kernel_rfl) (by kernel_rfl) (by exact fun _ _ _ h => h) (Or.inl ⟨by rfl, ?_⟩) h0 ?_
              rotate_left
              · intro W hW
                have cc := RVX.out W hW
                go_simp
                all_goals with_reducible rfl
              try simp only [Act.put, List.setIfInBounds_toArray, List.set_cons_zero, List.set_cons_succ]
              refine wpAnyH_ready (rs := [6]) (by kernel_rfl) (by simp) ?_
              refine AllReadyH.cons (by rw [List.getElem?_toArray]; rfl) (fun KX hKK => ?_) AllReadyH.nil
              first | rw [if_pos (by rfl)] | skip
              have PU := Lib.hid (Put5_any RM8.out HKY.out LVx.out BVx.out (by have := LE.out; omega))
              go_wp2_with fail
              refine PU.out.mono ?_
              rintro e w9 ⟨rfl, v', rm9, c9, f9⟩
              have TX9 := Lib.hid (TX8.out.put RM8.out PN.out c9 f9)
              have RM9 := Lib.hid rm9
              clear c9 f9 PU RM8 TX8 rm9
              go_wp2_with fail
              refine hKK.out _ _ (RM9.out.below) (fun h0 => ?_)
              clear hKK KX
              try simp only [Act.put, List.setIfInBounds_toArray, List.set_cons_zero, List.set_cons_succ]
              refine wpAnyH_done (by kernel_rfl) ?_ _
              clear h0
              have LE5 : Hid ((putR K Vx LP).length ≤ 16) := by have := putR_len K Vx LP; have := LE.out; show _ ≤ _; omega
              have MT := Lib.hid (mapTexts_any RM9.out (by have := LE5.out; omega))
              go_wp2_with fail
              refine MT.out.mono ?_
              rintro e w10 ⟨q6, c6, L6, rfl, t6, n6, k6⟩
              have RM6 := Lib.hid (RM9.out.on t6.below)
              obtain ⟨d6, o6⟩ := t6
              have OD6 := Lib.hid o6
              obtain ⟨dt, ot⟩ := TX9.out
              have PL := Lib.hid (fun g hg => own_lt ot.own (k := g) hg)
              have OT := Lib.hid (ot.on PBs_ok o6.below)
              have SR := Lib.hid (TxS.src o6.own (TxS.ones o6))
              have N6 := Lib.hid (show L6.length ≤ 5140 from by have := LE5.out; have h5 : _ * 257 ≤ 20 * 257 := Nat.mul_le_mul (by omega : (putR K Vx LP).length ≤ 20) (Nat.le_refl 257); omega)
              have K6 := Lib.hid k6
              clear MT o6 n6 k6 ot
              go_wp2_with (at_builtin; refine wpList_append_row rfl _ _ rfl Tryd.underlying61 hi.out hz0.out hz1.out hz2.out rfl OT.out.own SR.out ?b1 ?b2 ?_)
              case b1 => have := N6.out; have := NL.out; unfold maxLen; omega
              case b2 => have := N6.out; have := NL.out; omega
              intro q7 k7 w11 own7 grow7 fr7
              have TX11 := Lib.hid (TxV.join (N' := 0) OT.out OD6.out RM9.out (by have := RM9.out.lt; omega) PL.out own7 grow7 fr7)
              have RM11 := Lib.hid (RM6.out.grown OT.out.own grow7 OT.out.fresh)
              clear own7 grow7 fr7 SR OT OD6 RM6 PL RM9 TX9
              go_wp2_with fail
              go_roundw
              case rel =>
                refine ⟨i + 1, v', putR K Vx LP, q7, k7, LZ ++ L6, by go_num, by omega, RM11, by have := putR_len K Vx LP; have := LE.out; omega, by rw [List.length_append], TX11.out.cast (by rw [List.length_append]), ⟨?_, ?_, ?_⟩⟩
                · have := N6.out; have := NL0.out; have := WL.out; rw [← HLZ.out, List.length_append, List.length_append]; omega
                · rw [← HLZ.out]; exact (TKL.out.app WT.out).app K6.out
                · intro j hj t ht
                  rw [← HLZ.out]
                  by_cases e : j = i
                  · subst e; rw [HVX.out, HWX.out] at ht; exact List.mem_append.2 (.inl (List.mem_append.2 (.inr ht)))
                  · exact List.mem_append.2 (.inl (List.mem_append.2 (.inl (MEM.out j (by omega) t ht))))
              case measure => simp [intOf]; omega

          · as_aux_lemma =>
              have hnl : ¬ (i : Int) < (Vs.length : Int) := by omega
              have HE : Hid (i = Vs.length) := by show _ = _; omega
              have TS := Lib.hid (TX.out.toS B0.out (by have := B0.out.size; omega))
              go_wp2_with fail
              go_ret
              exact ⟨qo, co, Ls, rfl, TS.out, by have := HL.out.1; omega, HL.out.2.1, fun j hj => HL.out.2.2 j (by rw [HE.out]; exact hj)⟩
end Go.Proofs.YtjlodnecdngdfaaDoor
namespace Go.Proofs.YtjlodnecdngdfaaDoor
open Go.RowKit
open Go.Maps (Keyed)
set_option maxRecDepth 100000

theorem str_inj {xs ys : List Int} (hx : Bytes xs) (hy : Bytes ys) (e : xs.map (fun n => UInt8.ofNat n.toNat) = ys.map (fun n => UInt8.ofNat n.toNat)) : xs = ys := by
  induction xs generalizing ys with
  | nil => cases ys with
    | nil => rfl
    | cons y ys => simp at e
  | cons x xs ih => cases ys with
    | nil => simp at e
    | cons y ys =>
      simp only [List.map_cons, List.cons.injEq] at e
      have h1 := hx x (by simp)
      have h2 := hy y (by simp)
      have e1 := congrArg UInt8.toNat e.1
      rw [UInt8.toNat_ofNat', UInt8.toNat_ofNat'] at e1
      have := ih (ys := ys) (fun z hz => hx z (by simp [hz])) (fun z hz => hy z (by simp [hz])) e.2
      rw [this]
      congr 1
      omega

theorem mapM_opt {α β : Type} {f : α → Option β} {g : α → β} : ∀ l : List α, (∀ x ∈ l, f x = some (g x)) → l.mapM f = some (l.map g)
  | [], _ => rfl
  | x :: l, h => by rw [List.mapM_cons, h x (by simp), mapM_opt l (fun y hy => h y (by simp [hy]))]; rfl
theorem Tryd.keyRow : (24 : TypeId) < Tryd.prog.types.size := of_decide_eq_true (by kernel_rfl)
theorem Tryd.hashLaw : WideMaps.KeyLaw Tryd.prog 24 := deep_law_laid Tryd.laidOutTrue (m := 2) (by omega) Tryd.keyRow (by kernel_rfl) (by rw [Tryd.underlying24])
theorem Tryd.hashKeyed : Keyed Tryd.prog 24 := Keyed.of_law Tryd.hashLaw
theorem u8_wf {x : Int} (h : 0 ≤ x ∧ x < 256) : (Lit.int .u8 x).wf = true := by
  have : 0 ≤ x ∧ x ≤ 255 := by omega
  simpa [Lit.wf, IntKind.min, IntKind.max, IntKind.signed, IntKind.bits] using this
theorem Tryd.hash_key {F : List Int} (hF : F.length = 32) (bF : Bytes F) : ∃ kl, keyOf Tryd.prog 24 (.agg (hc F).toArray) = some kl := by
  have hsz : Tryd.prog.types.size = (Tryd.prog.types.size - 1) + 1 := by kernel_rfl
  have hl : (hc F).length = 32 := by rw [hc_len, hF]
  have hfm : (Value.agg (hc F).toArray).formed Tryd.prog 24 = true := by
    simp [Value.formed, Tryd.underlying24, show Tryd.prog.cellsOf 24 = 32 by kernel_rfl, hl]
  have hlit : Tryd.prog.keyLits (Tryd.prog.types.size + 1) 24 (hc F) = some (((List.range 32).map fun i => [Lit.int .u8 (F.getD i 0)]).flatten) := by
    unfold Program.keyLits
    simp only [Tryd.underlying24, show Tryd.prog.cellsOf 24 = 32 by kernel_rfl, show Tryd.prog.cellsOf 5 = 1 by kernel_rfl, hl, if_true, Nat.mul_one]
    rw [mapM_opt (g := fun i => [Lit.int .u8 (F.getD i 0)])]
    · rfl
    · intro i hi
      have hi' : i < 32 := by simpa using hi
      have e : ((hc F).drop i).take 1 = [.int .u8 (F.getD i 0)] := by
        apply List.ext_getElem?
        intro j
        rcases j with _ | j
        · simp [hc, List.getD, hF, hi']
        · rw [List.getElem?_eq_none (by simp; omega)]; simp
      rw [e, hsz]
      unfold Program.keyLits
      simp only [Tryd.underlying5]
      have hb := bF (F.getD i 0) (by simp [List.getD, hF, hi'])
      rw [show F.getD i 0 = F[i]?.getD 0 by simp [List.getD]] at hb ⊢
      simp [u8_wf hb]
  refine ⟨.string (keyBytes (((List.range 32).map fun i => [Lit.int .u8 (F.getD i 0)]).flatten)), ?_⟩
  unfold keyOf
  simp only [Tryd.underlying24, hfm, show Tryd.prog.keyType 24 = true by kernel_rfl, Bool.and_self, if_true]
  rw [show (Value.agg (hc F).toArray).cells.toList = hc F by simp [Value.cells], hlit]
  rfl
theorem ownsMap_on {H : Type} {w w' : World} {P : Program} {k : TypeId} {R : Value → Option (DataW H × List MemPlace)} {b n : Nat} {D : DataW H} (h : w.ownsMap P k R b n D) (hb : Below w.heap.size w w') : w'.ownsMap P k R b n D := by
  have := h.lt
  obtain ⟨es, clock, h1, h2⟩ := h
  exact ⟨es, clock, by rw [hb.block _ this]; exact h1, h2⟩
theorem string_inv {H : Type} {P : Program} {e : TypeId} (he : P.underlying e = some .string) {v : Value} {z : DataW H × List MemPlace} (h : plainElem P e v = some z) : ∃ s, v = .string s ∧ z = (.lit (.string s.data.toList), []) := by
  unfold plainElem at h
  rw [he] at h
  cases v <;> simp at h
  exact ⟨_, rfl, h.2.symm⟩
theorem Tryd.zero_str (w : World) : (zeroValue 9).run Tryd.prog w = .ok (.string ⟨#[]⟩) w := by kernel_rfl
theorem cell_grown {w w' : World} {row : Nat} {a : Addr} {v : Value} (hc : w.cell? a = some v) (hg : w.grownBy w' (some row)) (ha : a.block ≠ row) : w'.cell? a = some v := by
  rw [World.cell?_of_block (w := w) (hg.block _ (World.block_lt_of_cell? w a hc) (fun e => ha (Option.some.inj e)))]; exact hc
theorem hash_grown {w w' : World} {row b : Nat} {F : List Int} (h : HashAt w b F) (hg : w.grownBy w' (some row)) (hb : b ≠ row) : HashAt w' b F := by
  unfold HashAt
  rw [hg.block _ (Array.getElem?_eq_some_iff.1 h).1 (fun e => hb (Option.some.inj e))]; exact h
theorem rd_grown {w w' : World} {row : Nat} {v : Value} {xs : List Int} (h : Rd w v xs) (hg : w.grownBy w' (some row)) (hb : xs ≠ [] → ∀ k, v.ownBlock = some k → k ≠ row) : Rd w' v xs :=
  h.chg (Chg.grown hg (S := [row]) (fun k hk => by simp at hk; simp [hk])) (fun hn k hk _ hm => hb hn k hk (by simpa using hm))

theorem gdrew {w w' : World} {row : Option Nat} (h : w.drew.grownBy w' row) : w.grownBy w' row := ⟨h.os, by have := h.tape; exact this, h.output, h.size, h.block⟩
/-- What the map tells behind i strings. -/
structure ClsZ (w wr : World) (L : List (List Int)) (i : Nat) : Prop where
  below : Below w.heap.size w wr
  map : ∃ D : DataW Unit, wr.ownsMap Tryd.prog 24 (plainElem Tryd.prog 9) w.heap.size i D ∧ ∀ k, k < i → ∀ kl, keyOf Tryd.prog 24 (.agg (hc (sha (L.getD k []))).toArray) = some kl →
    Maps.has D kl = true ∧ D.atKey kl (.lit (.string [])) = .lit (.string (strOfNums (L.getD k [])).data.toList)
theorem ClsZ.on {w wr w1 : World} {L : List (List Int)} {i : Nat} (h : ClsZ w wr L i) (hb : Below wr.heap.size wr w1) : ClsZ w w1 L i := by
  obtain ⟨D, h1, h2⟩ := h.map
  exact ⟨h.below.trans (hb.mono h.below.size), D, ownsMap_on h1 hb, h2⟩
theorem beq_str {s t : ByteArray} : (s.toList == t.toList) = decide (s = t) := by
  by_cases h : s = t
  · subst h; simp
  · rw [decide_eq_false h, beq_eq_false_iff_ne]
    intro e
    rw [Lib.toList_data, Lib.toList_data] at e
    exact h (ByteArray.ext (Array.toList_inj.1 e))

set_option maxHeartbeats 8000000 in
theorem Clash_z {w : World} {v : Value} {L : List (List Int)} (hL : RdL w v L []) (bL : ∀ b ∈ L, Bytes b) (hx : ∀ i, (L.getD i []).length ≤ 100000000000) (hn : L.length ≤ 100000)
    {n : Nat} (hnl : n < L.length) (hs : sha (L.getD n []) = zero32 ∨ ∃ m, m < n ∧ sha (L.getD m []) = sha (L.getD n []) ∧ L.getD m [] ≠ L.getD n []) :
    Calls Tryd.prog 28 #[v] w fun e w' => e = .returned (.bool true) ∧ Below w.heap.size w w' := by
  obtain ⟨q, c, rfl⟩ : ∃ q c, v = .slice q L.length c := by obtain ⟨q, c, e, _⟩ := hL; exact ⟨q, c, e⟩
  have HL := Lib.hid hL
  have BL := Lib.hid bL
  have HX := Lib.hid hx
  have HS := Lib.hid hs
  have H0 : Hid (ClsZ w (w.alloc (.map #[] 0)) L 0) := ⟨(Below.refl _ _).alloc (Nat.le_refl _) _, .map [], World.ownsMap_made _ _ _ _, fun k hk => by omega⟩
  clear hL bL hx hs
  have hmm := @run_makeMap Tryd.prog
  go_enter Tryd.func28, Tryd.ntmps28
  go_wp2_with fail
  go_loopw [4] (fun iv wr => ∃ i : Nat, iv = .int .i64 i ∧ i ≤ n ∧ Hid (ClsZ w wr L i)) (fun iv _ => L.length - (intOf iv).toNat)
  case atStart => exact ⟨0, rfl, by omega, H0⟩
  case round =>
    clear H0
    obtain ⟨i, rfl, hi, hC⟩ := hrel
    have hlt : i < L.length := by omega
    obtain ⟨b, off, r, mm, kk, -, rfl, -, hc0, rfl, hrd0, -⟩ := HL.out.at hlt
    have hbl := lt_of_cell hc0
    have hc1 := oldW hC.out.below hc0
    have hxl := HX.out i
    have hby : Bytes (L.getD i []) := BL.out _ (by simp [List.getD, hlt])
    have HR := Lib.hid (hrd0.on hC.out.below)
    have hrn : L.getD i [] ≠ [] → ∀ k, (Value.slice r (L.getD i []).length kk).ownBlock = some k → k ≠ w.heap.size := fun hn k hk => by
      obtain ⟨q', c', e', hx'⟩ := hrd0
      rcases hx' with hx' | ⟨b', o', rfl, hx'⟩
      · exact absurd hx' hn
      · simp only [Value.slice.injEq] at e'
        rw [e'.1] at hk
        have : b' = k := by simpa [Value.ownBlock] using hk
        subst this
        have h2 : b' < w.heap.size := lt_of_cell (hx' 0 (List.length_pos_iff.2 hn))
        omega
    have HY0 : Hid (∃ y, L.getD i [] = y) := ⟨_, rfl⟩
    obtain ⟨y, hy⟩ := HY0.out
    rw [hy] at hc1 hxl hby HR hrn
    have HY := Lib.hid hy
    have LF := Lib.hid (sha_len y)
    have BF := Lib.hid (sha_bytes y)
    obtain ⟨F, hF⟩ : ∃ F, sha y = F := ⟨_, rfl⟩
    have HF := Lib.hid hF
    rw [hF] at LF BF
    clear hc0 hrd0 hy HY0
    go_wp2_with fail
    refine (refSum_any HR.out hby (by omega)).mono ?_
    rintro e w3 ⟨rfl, hb3⟩
    rw [hF]
    clear hF
    have C3 := Lib.hid (hC.out.on hb3)
    have c3 := oldW hb3 hc1
    have R3 := Lib.hid (HR.out.on hb3)
    clear hC hc1 HR hb3
    have RZ := HashAt.new w3 zero32
    have hth := RZ.there zero32_len
    have RX := RZ.put zero32_len LF.out
    have BW : Below w3.heap.size w3 ((w3.alloc (.cells (hc zero32).toArray 24)).setCells w3.heap.size 0 (hc F)) := below_setCells' _ (Nat.le_refl _) _ _ ((Below.refl _ _).alloc (Nat.le_refl _) _)
    clear RZ
    have C4 := Lib.hid (C3.out.on BW)
    have R4 := Lib.hid (R3.out.on BW)
    have c4 := oldW BW c3
    have RXh := Lib.hid RX
    have hrow := RX.row LF.out
    obtain ⟨D, hO, hD⟩ := C4.out.map
    have HO := Lib.hid hO
    have HD := Lib.hid hD
    obtain ⟨kl, hkl⟩ := Tryd.hash_key LF.out BF.out
    have HKL := Lib.hid hkl
    obtain ⟨vs, ps, hlook, hvs⟩ := hO.look_ok Tryd.hashKeyed Tryd.underlying95 (Tryd.zero_str _) (plainElem_string Tryd.underlying9 (s := ⟨#[]⟩) (by decide)) hkl
    obtain ⟨s, rfl, hsd⟩ := string_inv Tryd.underlying9 hvs
    have HSD := Lib.hid (congrArg Prod.fst hsd)
    have ca := R4.out.str (P := Tryd.prog) Tryd.underlying82 Tryd.underlying5 Tryd.underlying9
    have hlF := hc_len F
    have hmb : w3.heap.size ≠ w.heap.size := by have := C3.out.below.size; have := hO.lt; have := BW.size; have := C3.out.map; obtain ⟨_, h, _⟩ := this; have := h.lt; omega
    have lF := LF.out
    have z32 := zero32_len
    obtain ⟨hd, hhd⟩ : ∃ hd, Maps.has D kl = hd := ⟨_, rfl⟩
    rw [hhd] at hlook
    have HHD := Lib.hid hhd
    have BWH := Lib.hid (C4.out.below)
    clear hO hD hkl hvs hsd hhd RX c3 R3 C3 hby BW
    by_cases hz : F = zero32
    · have dz : (F == zero32) = true := by rw [hz]; exact beq_self_eq_true _
      clear hz
      go_wp2_with fail
      go_ret
      exact ⟨rfl, BWH.out⟩
    have dz : (F == zero32) = false := by simpa using hz
    clear hz
    have HAS : Hid (D.atKey kl (.lit (.string [])) = .lit (.string s.data.toList)) := HSD.out
    have hin : ¬ (hd = true ∧ s ≠ strOfNums y) → i < n := fun hnc => by
      by_cases hin : i = n
      · exfalso
        subst hin
        rcases HS.out with hzz | ⟨m, hmn, hsm, hne⟩
        · rw [HY.out, HF.out] at hzz
          rw [hzz] at dz
          exact absurd dz (by simp)
        have h1 := HD.out m hmn kl (by rw [hsm, HY.out, HF.out]; exact HKL.out)
        refine hnc ⟨by rw [← HHD.out]; exact h1.1, fun e => ?_⟩
        have h2 := HAS.out
        rw [h1.2, e] at h2
        simp only [DataW.lit.injEq, Lit.string.injEq] at h2
        have h3 : strOfNums (L.getD m []) = strOfNums y := ByteArray.ext (Array.toList_inj.1 h2)
        have h4 := congrArg (fun t : ByteArray => t.data.toList) h3
        simp only [strOfNums_data] at h4
        refine hne ?_
        rw [HY.out]
        exact str_inj (BL.out _ (by simp [List.getD, show m < L.length by omega])) (by rw [← HY.out]; exact BL.out _ (by simp [List.getD, hlt])) h4
      · omega
    by_cases hcl : hd = true ∧ s ≠ strOfNums y
    · obtain ⟨rfl, hse⟩ := hcl
      have ds : (s.toList == (strOfNums y).toList) = false := by rw [beq_str, decide_eq_false hse]
      clear hse
      go_wp2_with fail
      go_ret
      exact ⟨rfl, BWH.out⟩
    have hin2 := hin hcl
    have HCL := Lib.hid hcl
    clear hin hcl
    have HLS : Hid ((strOfNums y).size ≤ maxLen) := by
      show _ ≤ _
      rw [show (strOfNums y).size = y.length by simp [strOfNums, ByteArray.size]]
      unfold maxLen; omega
    have Q : Hid (HashAt ((w3.alloc (.cells (hc zero32).toArray 24)).setCells w3.heap.size 0 (hc F)) w3.heap.size F ∧ ((w3.alloc (.cells (hc zero32).toArray 24)).setCells w3.heap.size 0 (hc F)).cell? ⟨b, off + i, none⟩ = some (.slice r y.length kk) ∧ Rd ((w3.alloc (.cells (hc zero32).toArray 24)).setCells w3.heap.size 0 (hc F)) (.slice r y.length kk) y) := ⟨RXh.out, c4, R4.out⟩
    have NEXT : Hid (∀ w5, ((w3.alloc (.cells (hc zero32).toArray 24)).setCells w3.heap.size 0 (hc F)).grownBy w5 (some w.heap.size) → w5.ownsMap Tryd.prog 24 (plainElem Tryd.prog 9) w.heap.size (i + 1) (D.put kl (.lit (.string (strOfNums y).data.toList))) → ClsZ w w5 L (i + 1)) := by
      show ∀ _, _
      intro w5 hg ho
      refine ⟨BWH.out.grown hg BWH.out.size (fun k hk => by simp at hk; omega), _, ho, fun k hk kl' hk' => ?_⟩
      have hmap := HO.out.isMap
      by_cases hkk : kl' = kl
      · subst hkk
        have hlit := Tryd.hashKeyed.key HKL.out
        refine ⟨Maps.has_put_same hmap hlit _, ?_⟩
        rw [Maps.atKey_put_same hmap hlit]
        by_cases hki : k = i
        · subst hki; rw [HY.out]
        · have h1 := HD.out k (by omega) kl' hk'
          have hdt : hd = true := by rw [← HHD.out]; exact h1.1
          have hse : s = strOfNums y := Classical.byContradiction fun e => HCL.out ⟨hdt, e⟩
          have h2 := HAS.out
          rw [h1.2, hse] at h2
          exact h2.symm
      · have hki : k ≠ i := fun e => hkk (by
          subst e
          rw [HY.out, HF.out, HKL.out] at hk'
          exact (Option.some.inj hk').symm)
        rw [Maps.has_put_other hkk, Maps.atKey_put_other hkk]
        exact HD.out k (by omega) kl' hk'
    have hdc : hd = false ∨ (hd = true ∧ (s.toList == (strOfNums y).toList) = true) := by
      cases hd with
      | false => exact .inl rfl
      | true => exact .inr ⟨rfl, by rw [beq_str]; exact decide_eq_true (Classical.byContradiction fun e => HCL.out ⟨rfl, e⟩)⟩
    rcases hdc with rfl | ⟨rfl, ds⟩
    · go_wp2_with fail
      clear hlook hrow hth
      generalize (w3.alloc (.cells (hc zero32).toArray 24)).setCells w3.heap.size 0 (hc F) = WX at *
      refine wp_region_held_drew (S := fun W => HashAt W w3.heap.size F ∧ W.cell? ⟨b, off + i, none⟩ = some (.slice r y.length kk) ∧ Rd W (.slice r y.length kk) y) (by kernel_rfl) (Q.out) (fun h0 => ?_)
      refine wpAnyH_take (i := 0) (v := ?_) (by rw [List.getElem?_toArray]; rfl) (by kernel_rfl) (by kernel_rfl) (by kernel_rfl) (by exact fun _ _ _ h => h) (Or.inl ⟨by rfl, ?_⟩) h0 ?_
      rotate_left
      · intro W hW
        go_simp
        all_goals with_reducible rfl
      try simp only [Act.put, List.setIfInBounds_toArray, List.set_cons_zero, List.set_cons_succ]
      refine wpAnyH_take (i := 1) (v := ?_) (by rw [List.getElem?_toArray]; rfl) (by kernel_rfl) (by kernel_rfl) (by kernel_rfl) (by exact fun _ _ _ h => h) (Or.inl ⟨by rfl, ?_⟩) h0 ?_
      rotate_left
      · intro W hW
        have hr := hW.1.row LF.out
        go_simp
        all_goals with_reducible rfl
      try simp only [Act.put, List.setIfInBounds_toArray, List.set_cons_zero, List.set_cons_succ]
      refine wpAnyH_take (i := 2) (v := ?_) (by rw [List.getElem?_toArray]; rfl) (by kernel_rfl) (by kernel_rfl) (by kernel_rfl) (by exact fun _ _ _ h => h) (Or.inl ⟨by rfl, ?_⟩) h0 ?_
      rotate_left
      · intro W hW
        go_simp
        all_goals with_reducible rfl
      try simp only [Act.put, List.setIfInBounds_toArray, List.set_cons_zero, List.set_cons_succ]
      refine wpAnyH_take (i := 3) (v := ?_) (by rw [List.getElem?_toArray]; rfl) (by kernel_rfl) (by kernel_rfl) (by kernel_rfl) (by exact fun _ _ _ h => h) (Or.inl ⟨by rfl, ?_⟩) h0 ?_
      rotate_left
      · intro W hW
        go_simp
        all_goals with_reducible rfl
      try simp only [Act.put, List.setIfInBounds_toArray, List.set_cons_zero, List.set_cons_succ]
      refine wpAnyH_take (i := 4) (v := ?_) (by rw [List.getElem?_toArray]; rfl) (by kernel_rfl) (by kernel_rfl) (by kernel_rfl) (by exact fun _ _ _ h => h) (Or.inl ⟨by rfl, ?_⟩) h0 ?_
      rotate_left
      · intro W hW
        go_simp
        all_goals with_reducible rfl
      try simp only [Act.put, List.setIfInBounds_toArray, List.set_cons_zero, List.set_cons_succ]
      refine wpAnyH_take (i := 5) (v := ?_) (by rw [List.getElem?_toArray]; rfl) (by kernel_rfl) (by kernel_rfl) (by kernel_rfl) (by exact fun _ _ _ h => h) (Or.inl ⟨by rfl, ?_⟩) h0 ?_
      rotate_left
      · intro W hW
        have f1 := hW.2.1
        go_simp
        all_goals with_reducible rfl
      try simp only [Act.put, List.setIfInBounds_toArray, List.set_cons_zero, List.set_cons_succ]
      refine wpAnyH_take (i := 6) (v := ?_) (by rw [List.getElem?_toArray]; rfl) (by kernel_rfl) (by kernel_rfl) (by kernel_rfl) (by exact fun _ _ _ h => h) (Or.inl ⟨by rfl, ?_⟩) h0 ?_
      rotate_left
      · intro W hW
        have ca := (hW.2.2).str (P := Tryd.prog) Tryd.underlying82 Tryd.underlying5 Tryd.underlying9
        go_simp
        all_goals with_reducible rfl
      try simp only [Act.put, List.setIfInBounds_toArray, List.set_cons_zero, List.set_cons_succ]
      refine wpAnyH_ready (rs := [7]) (by kernel_rfl) (by simp) ?_
      refine AllReadyH.cons (by rw [List.getElem?_toArray]; rfl) (fun K hK => ?_) AllReadyH.nil
      rw [if_pos (by rfl)]
      obtain ⟨w5, hrun5, own5, grow5⟩ := (ownsMap_on (H := Unit) HO.out (Below.refl _ _).drew).update Tryd.hashKeyed Tryd.underlying95 (by unfold maxLen; omega) HKL.out (plainElem_string Tryd.underlying9 HLS.out)
      go_wp2_with fail
      refine hK.out _ _ (⟨hash_grown h0.1 grow5 hmb, cell_grown h0.2.1 grow5 (by show b ≠ w.heap.size; omega), rd_grown h0.2.2 grow5 hrn⟩) (fun h5 => ?_)
      clear hK K
      try simp only [Act.put, List.setIfInBounds_toArray, List.set_cons_zero, List.set_cons_succ]
      refine wpAnyH_done (by kernel_rfl) ?_ _
      go_wp2_with fail
      have HN := Lib.hid (NEXT.out w5 (gdrew grow5) own5)
      go_roundw
      case rel => exact ⟨i + 1, by go_num, by omega, HN⟩
      case measure => simp [intOf]; omega
    · go_wp2_with fail
      clear hlook hrow hth
      generalize (w3.alloc (.cells (hc zero32).toArray 24)).setCells w3.heap.size 0 (hc F) = WX at *
      refine wp_region_held_drew (S := fun W => HashAt W w3.heap.size F ∧ W.cell? ⟨b, off + i, none⟩ = some (.slice r y.length kk) ∧ Rd W (.slice r y.length kk) y) (by kernel_rfl) (Q.out) (fun h0 => ?_)
      refine wpAnyH_take (i := 0) (v := ?_) (by rw [List.getElem?_toArray]; rfl) (by kernel_rfl) (by kernel_rfl) (by kernel_rfl) (by exact fun _ _ _ h => h) (Or.inl ⟨by rfl, ?_⟩) h0 ?_
      rotate_left
      · intro W hW
        go_simp
        all_goals with_reducible rfl
      try simp only [Act.put, List.setIfInBounds_toArray, List.set_cons_zero, List.set_cons_succ]
      refine wpAnyH_take (i := 1) (v := ?_) (by rw [List.getElem?_toArray]; rfl) (by kernel_rfl) (by kernel_rfl) (by kernel_rfl) (by exact fun _ _ _ h => h) (Or.inl ⟨by rfl, ?_⟩) h0 ?_
      rotate_left
      · intro W hW
        have hr := hW.1.row LF.out
        go_simp
        all_goals with_reducible rfl
      try simp only [Act.put, List.setIfInBounds_toArray, List.set_cons_zero, List.set_cons_succ]
      refine wpAnyH_take (i := 2) (v := ?_) (by rw [List.getElem?_toArray]; rfl) (by kernel_rfl) (by kernel_rfl) (by kernel_rfl) (by exact fun _ _ _ h => h) (Or.inl ⟨by rfl, ?_⟩) h0 ?_
      rotate_left
      · intro W hW
        go_simp
        all_goals with_reducible rfl
      try simp only [Act.put, List.setIfInBounds_toArray, List.set_cons_zero, List.set_cons_succ]
      refine wpAnyH_take (i := 3) (v := ?_) (by rw [List.getElem?_toArray]; rfl) (by kernel_rfl) (by kernel_rfl) (by kernel_rfl) (by exact fun _ _ _ h => h) (Or.inl ⟨by rfl, ?_⟩) h0 ?_
      rotate_left
      · intro W hW
        go_simp
        all_goals with_reducible rfl
      try simp only [Act.put, List.setIfInBounds_toArray, List.set_cons_zero, List.set_cons_succ]
      refine wpAnyH_take (i := 4) (v := ?_) (by rw [List.getElem?_toArray]; rfl) (by kernel_rfl) (by kernel_rfl) (by kernel_rfl) (by exact fun _ _ _ h => h) (Or.inl ⟨by rfl, ?_⟩) h0 ?_
      rotate_left
      · intro W hW
        go_simp
        all_goals with_reducible rfl
      try simp only [Act.put, List.setIfInBounds_toArray, List.set_cons_zero, List.set_cons_succ]
      refine wpAnyH_take (i := 5) (v := ?_) (by rw [List.getElem?_toArray]; rfl) (by kernel_rfl) (by kernel_rfl) (by kernel_rfl) (by exact fun _ _ _ h => h) (Or.inl ⟨by rfl, ?_⟩) h0 ?_
      rotate_left
      · intro W hW
        have f1 := hW.2.1
        go_simp
        all_goals with_reducible rfl
      try simp only [Act.put, List.setIfInBounds_toArray, List.set_cons_zero, List.set_cons_succ]
      refine wpAnyH_take (i := 6) (v := ?_) (by rw [List.getElem?_toArray]; rfl) (by kernel_rfl) (by kernel_rfl) (by kernel_rfl) (by exact fun _ _ _ h => h) (Or.inl ⟨by rfl, ?_⟩) h0 ?_
      rotate_left
      · intro W hW
        have ca := (hW.2.2).str (P := Tryd.prog) Tryd.underlying82 Tryd.underlying5 Tryd.underlying9
        go_simp
        all_goals with_reducible rfl
      try simp only [Act.put, List.setIfInBounds_toArray, List.set_cons_zero, List.set_cons_succ]
      refine wpAnyH_ready (rs := [7]) (by kernel_rfl) (by simp) ?_
      refine AllReadyH.cons (by rw [List.getElem?_toArray]; rfl) (fun K hK => ?_) AllReadyH.nil
      rw [if_pos (by rfl)]
      obtain ⟨w5, hrun5, own5, grow5⟩ := (ownsMap_on (H := Unit) HO.out (Below.refl _ _).drew).update Tryd.hashKeyed Tryd.underlying95 (by unfold maxLen; omega) HKL.out (plainElem_string Tryd.underlying9 HLS.out)
      go_wp2_with fail
      refine hK.out _ _ (⟨hash_grown h0.1 grow5 hmb, cell_grown h0.2.1 grow5 (by show b ≠ w.heap.size; omega), rd_grown h0.2.2 grow5 hrn⟩) (fun h5 => ?_)
      clear hK K
      try simp only [Act.put, List.setIfInBounds_toArray, List.set_cons_zero, List.set_cons_succ]
      refine wpAnyH_done (by kernel_rfl) ?_ _
      go_wp2_with fail
      have HN := Lib.hid (NEXT.out w5 (gdrew grow5) own5)
      go_roundw
      case rel => exact ⟨i + 1, by go_num, by omega, HN⟩
      case measure => simp [intOf]; omega
end Go.Proofs.YtjlodnecdngdfaaDoor
namespace Go.Proofs.YtjlodnecdngdfaaDoor
open Go.RowKit
set_option maxRecDepth 100000

theorem frm_two {t A B C D : List Int} (ha : A.length = C.length) (h : frm t [A, B] = frm t [C, D]) : A = C ∧ B = D := by
  unfold frm at h
  have h1 := List.append_cancel_left h
  simp only [blobs, List.flatMap_cons, List.flatMap_nil, List.append_nil] at h1
  rw [ha] at h1
  simp only [List.append_assoc] at h1
  have h2 := List.append_cancel_left h1
  obtain ⟨e1, e2⟩ := List.append_inj h2 ha
  refine ⟨e1, ?_⟩
  have hl : B.length = D.length := by
    have := congrArg List.length h
    have h3 := congrArg List.length e2
    simp [be8_len] at h3
    exact h3
  exact (List.append_inj e2 (by rw [be8_len, be8_len])).2
/-- What Clash is asked for. -/
def Clh (Ls : List (List Int)) : Prop := (∃ s ∈ Ls, sha s = zero32) ∨ ∃ s ∈ Ls, ∃ t ∈ Ls, s ≠ t ∧ sha s = sha t
theorem Clh.idx {Ls : List (List Int)} (h : Clh Ls) : ∃ n, n < Ls.length ∧ (sha (Ls.getD n []) = zero32 ∨ ∃ m, m < n ∧ sha (Ls.getD m []) = sha (Ls.getD n []) ∧ Ls.getD m [] ≠ Ls.getD n []) := by
  have get : ∀ s ∈ Ls, ∃ i, i < Ls.length ∧ Ls.getD i [] = s := fun s hs => by
    obtain ⟨i, hi, e⟩ := List.getElem_of_mem hs
    exact ⟨i, hi, by simp [List.getD, hi, e]⟩
  rcases h with ⟨s, hs, hz⟩ | ⟨s, hs, t, ht, hne, he⟩
  · obtain ⟨i, hi, e⟩ := get s hs
    exact ⟨i, hi, .inl (by rw [e]; exact hz)⟩
  · obtain ⟨i, hi, e1⟩ := get s hs
    obtain ⟨j, hj, e2⟩ := get t ht
    rcases Nat.lt_trichotomy i j with h | h | h
    · exact ⟨j, hj, .inr ⟨i, h, by rw [e1, e2]; exact he, by rw [e1, e2]; exact hne⟩⟩
    · subst h; exact absurd (e1.symm.trans e2) hne
    · exact ⟨i, hi, .inr ⟨j, h, by rw [e1, e2]; exact he.symm, by rw [e1, e2]; exact fun e => hne e.symm⟩⟩
theorem way_leaf (K V M : List Int) (Ss : List (List Int)) : ∀ k, frm (sn leafS) [K, V] ∈ wayT K V M Ss k
  | 0 => by simp [wayT]
  | k + 1 => List.mem_append.2 (.inl (way_leaf K V M Ss k))
theorem way_node (K V M : List Int) (Ss : List (List Int)) {j : Nat} : ∀ {k : Nat}, j < k → frm (sn pairS) (wayP K M Ss (255 - j) (upS K M Ss (lfH K V) j)) ∈ wayT K V M Ss k
  | 0, h => by omega
  | k + 1, h => by
    rw [wayT]
    by_cases e : j = k
    · subst e; exact List.mem_append.2 (.inr (by simp))
    · exact List.mem_append.2 (.inl (way_node K V M Ss (by omega)))
theorem way_clash {K V O M : List Int} {Ss Ls : List (List Int)} (_ : KyOk K) (_ : V.length = 32) (_ : O.length = 32) (_ : KyOk M) (okh : HsOk Ss) (hcn : cntI M 256 = Ss.length) (hne : ¬ O = V) (h : upS K M Ss (lfH K V) 256 = upS K M Ss (lfH K O) 256)
    (mV : ∀ t ∈ wayT K V M Ss 256, t ∈ Ls) (mO : ∀ t ∈ wayT K O M Ss 256, t ∈ Ls) : Clh Ls := by
  have key : ∀ k, k ≤ 256 → upS K M Ss (lfH K V) k = upS K M Ss (lfH K O) k → Clh Ls ∨ lfH K V = lfH K O := by
    intro k
    induction k with
    | zero => intro _ h; exact .inr h
    | succ k ih =>
      intro hk h
      have tV := mV _ (way_node K V M Ss (j := k) (k := 256) (by omega))
      have tO := mO _ (way_node K O M Ss (j := k) (k := 256) (by omega))
      have la := upS_len K M Ss (lfH_len K V) k
      have lb := upS_len K M Ss (lfH_len K O) k
      rw [upS, upS] at h
      obtain ⟨a, ha⟩ : ∃ a, upS K M Ss (lfH K V) k = a := ⟨_, rfl⟩
      obtain ⟨b, hb⟩ : ∃ b, upS K M Ss (lfH K O) k = b := ⟨_, rfl⟩
      rw [ha] at h tV la
      rw [hb] at h tO lb
      by_cases hab : a = b
      · exact ih (by omega) (by rw [ha, hb, hab])
      · left
        have hs : bitI M (255 - k) = 1 → cntI M (255 - k) < Ss.length := fun hb2 => by
          have h1 : cntI M (255 - k + 1) ≤ cntI M 256 := cntI_mono M (by omega)
          have h2 : cntI M (255 - k + 1) = cntI M (255 - k) + (bitI M (255 - k)).toNat := rfl
          rw [hb2] at h2
          rw [hcn] at h1
          simp at h2; omega
        obtain ⟨ls, -⟩ := sdI_len okh hs
        obtain ⟨s, hsd⟩ : ∃ s, sdI M Ss (255 - k) = s := ⟨_, rfl⟩
        unfold stpS at h
        unfold wayP at tV tO
        rw [hsd] at h tV tO ls
        have two : ∀ A B C D : List Int, A.length = 32 → C.length = 32 → ¬ (A = C ∧ B = D) → abH A B = abH C D → frm (sn pairS) [A, B] ∈ Ls → frm (sn pairS) [C, D] ∈ Ls → Clh Ls := fun A B C D lA lC hn he m1 m2 => by
          by_cases z1 : A = zero32 ∧ B = zero32
          · by_cases z2 : C = zero32 ∧ D = zero32
            · exact absurd ⟨z1.1.trans z2.1.symm, z1.2.trans z2.2.symm⟩ hn
            · rw [z1.1, z1.2, abH_zero, abH_some z2] at he
              exact .inl ⟨_, m2, he.symm⟩
          · by_cases z2 : C = zero32 ∧ D = zero32
            · rw [z2.1, z2.2, abH_zero, abH_some z1] at he
              exact .inl ⟨_, m1, he⟩
            · rw [abH_some z1, abH_some z2] at he
              exact .inr ⟨_, m1, _, m2, fun e => hn (frm_two (by rw [lA, lC]) e), he⟩
        by_cases hbk : bitI K (255 - k) = 0
        · rw [if_pos hbk, if_pos hbk] at h
          rw [if_pos hbk] at tV tO
          exact two _ _ _ _ la lb (fun e => hab e.1) h tV tO
        · rw [if_neg hbk, if_neg hbk] at h
          rw [if_neg hbk] at tV tO
          exact two _ _ _ _ ls ls (fun e => hab e.2) h tV tO
  rcases key 256 (Nat.le_refl _) h with h1 | h1
  · exact h1
  · have tV := mV _ (way_leaf K V M Ss 256)
    have tO := mO _ (way_leaf K O M Ss 256)
    by_cases z1 : V = zero32
    · rw [z1, lfH_zero, lfH_some K (fun e => hne (e.trans z1.symm))] at h1
      exact .inl ⟨_, tO, h1.symm⟩
    · by_cases z2 : O = zero32
      · rw [z2, lfH_zero, lfH_some K z1] at h1
        exact .inl ⟨_, tV, h1⟩
      · rw [lfH_some K z1, lfH_some K z2] at h1
        exact .inr ⟨_, tV, _, tO, fun e => hne (frm_two rfl e).2.symm, h1⟩
end Go.Proofs.YtjlodnecdngdfaaDoor
namespace Go.Proofs.YtjlodnecdngdfaaDoor
set_option maxRecDepth 100000
open Go.RowKit

def pfPlaces : List (Nat × Nat) := [(0, 32), (32, 1)]
@[go_sem ↓] theorem Tryd.build_pf (ps : Array (Nat × Value)) : Instr.build 48 ps = rowBuild 48 ps := rfl
@[go_sem] theorem Tryd.run_pf0 (w : World) : (rowBuild 48 #[]).run Tryd.prog w = .ok (.agg (pfRow zero32 (.slice none 0 0)).toArray) w := by
  unfold rowBuild; kernel_rfl


/-- What Same reads. -/
structure SbS (w wr : World) (M : List Int) (q q' : Option Addr) (k k' : Nat) (Ss : List (List Int)) : Prop where
  below : Below w.heap.size w wr
  hA : PfB 48 wr w.heap.size M (.slice q Ss.length k)
  hB : PfB 50 wr (w.heap.size + 1) M (.slice q' Ss.length k')
  rA : RdHs wr q Ss
  rB : RdHs wr q' Ss
theorem SbS.drewN {w wr : World} {M : List Int} {q q' : Option Addr} {k k' : Nat} {Ss : List (List Int)} (h : SbS w wr M q q' k k' Ss) (n : Nat) : SbS w (wr.drewN n) M q q' k k' Ss :=
  ⟨below_drewN h.below n, h.hA, h.hB, h.rA, h.rB⟩
end Go.Proofs.YtjlodnecdngdfaaDoor
namespace Go.Proofs.YtjlodnecdngdfaaDoor
open Go.RowKit
set_option maxRecDepth 100000

@[go_sem ↓] theorem Tryd.zero_pf5 (w : World) : (zeroValue 50).run Tryd.prog w = .ok (.agg (pfRow zero32 (.slice none 0 0)).toArray) w := by kernel_rfl
theorem Tryd.built_pf5 (ps : List (Nat × Value)) : Tryd.prog.built 50 ps = Instr.fill (fun i => pfPlaces.toArray[i]?) (pfRow zero32 (.slice none 0 0)).toArray ps := by kernel_rfl
@[go_sem ↓] theorem Tryd.build_pf5 (ps : Array (Nat × Value)) : Instr.build 50 ps = rowBuild 50 ps := rfl
@[go_sem] theorem Tryd.run_pf5 (w : World) (F : List Int) (q : Option Addr) (n k : Nat) (hF : F.length = 32) :
    (rowBuild 50 #[(0, .agg (hc F).toArray), (1, .slice q n k)]).run Tryd.prog w = .ok (.agg (pfRow F (.slice q n k)).toArray) w := by
  refine run_build w _ _ _ ?_
  rw [Tryd.built_pf5]
  show Instr.fill _ _ ((0, Value.agg (hc F).toArray) :: (1, Value.slice q n k) :: []) = _
  have z1 : pfRow zero32 (.slice none 0 0) = [] ++ (hc zero32 ++ [.slice none 0 0]) := rfl
  rw [z1, fill_at (i := 0) (off := 0) (size := 32) (vs := hc F) rfl rfl rfl rfl (by rw [hc_len, hF])]
  rw [List.nil_append, show (hc F ++ [Value.slice none 0 0] : List Value) = hc F ++ ([.slice none 0 0] ++ []) by simp]
  rw [fill_at (i := 1) (off := 32) (size := 1) (vs := [.slice q n k]) rfl rfl (by rw [hc_len, hF]) rfl rfl]
  simp [pfRow, Instr.fill]
end Go.Proofs.YtjlodnecdngdfaaDoor
