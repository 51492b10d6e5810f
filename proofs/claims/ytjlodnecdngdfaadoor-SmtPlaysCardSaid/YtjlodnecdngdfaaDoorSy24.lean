/-
  The document's map: Prove.; The document's map: a key's value.
-/
import Derived.Test.YtjlodnecdngdfaaDoorSy15
import Derived.Test.YtjlodnecdngdfaaDoorSy22
import Derived.Test.YtjlodnecdngdfaaDoorSy23
namespace Go.Proofs.YtjlodnecdngdfaaDoor
open Go.RowKit
set_option maxRecDepth 100000

section
variable {w : World} {b l : Nat} {M : List Int} {v : Value}
theorem PfB.mask5 (h : PfB 50 w b M v) (hM : M.length = 32) (hl : l < 32) (x : Int) : PfB 50 (w.setCell ⟨b, l, none⟩ (.int .u8 x)) b (M.set l x) v := by
  have e : (w.setCell ⟨b, l, none⟩ (.int .u8 x)).heap[b]? = some (.cells ((pfRow M v).toArray.setIfInBounds l (.int .u8 x)) 50 (0, 0)) := Joins.block_setCell h _
  unfold PfB
  rw [e]
  congr 2
  apply Array.ext'
  simp only [pfRow, Array.toList_setIfInBounds]
  rw [List.set_append_left _ _ (by rw [hc_len, hM]; exact hl)]
  congr 1
  simp [hc, List.map_set]
theorem PfB.sides5 (h : PfB 50 w b M v) (hM : M.length = 32) (u : Value) : PfB 50 (w.setCell ⟨b, 32, none⟩ u) b M u := by
  have e : (w.setCell ⟨b, 32, none⟩ u).heap[b]? = some (.cells ((pfRow M v).toArray.setIfInBounds 32 u) 50 (0, 0)) := Joins.block_setCell h _
  unfold PfB
  rw [e]
  congr 2
  apply Array.ext'
  simp only [pfRow, Array.toList_setIfInBounds]
  rw [List.set_append_right _ _ (by rw [hc_len, hM]; exact Nat.le_refl _), hc_len, hM]
  rfl
theorem PfB.byte5 (h : PfB 50 w b M v) (hM : M.length = 32) (hl : l < 32) : w.cell? ⟨b, l, none⟩ = some (.int .u8 (M.getD l 0)) := by
  rw [cell_of_row _ _ _ _ _ _ h]
  have h2 : (pfRow M v)[l]? = some (.int .u8 (M.getD l 0)) := by
    unfold pfRow hc
    rw [List.getElem?_append_left (by simp; omega)]
    simp [List.getD, show l < M.length by omega]
  simpa using h2
end
/-- Where Prove stands. -/
structure P5S (w wr : World) (kb : Nat) (K M : List Int) (v : Value) (Ss : List (List Int)) : Prop where
  hK : HashAt wr kb K
  hR : PfB 50 wr (kb + 1) zero32 (.slice none 0 0)
  hP : PfB 50 wr (kb + 2) M v
  hs : HsS w wr v Ss
  nw : ∀ g, v.ownBlock = some g → kb + 3 ≤ g
/-- Behind the append, ahead of the store. -/
structure P5A (w wr : World) (kb : Nat) (K M : List Int) (u v : Value) (Ss : List (List Int)) : Prop where
  hK : HashAt wr kb K
  hR : PfB 50 wr (kb + 1) zero32 (.slice none 0 0)
  p : PfB 50 wr (kb + 2) M u
  hs : HsS w wr v Ss
  nw : ∀ g, v.ownBlock = some g → kb + 3 ≤ g
section
variable {w wr w' : World} {kb q : Nat} {K M : List Int} {u v : Value} {Ss : List (List Int)}
theorem P5S.on (h : P5S w wr kb K M v Ss) (hb : Below wr.heap.size wr w') : P5S w w' kb K M v Ss := ⟨h.hK.on hb, h.hR.on hb, h.hP.on hb, h.hs.on hb, h.nw⟩
theorem HsS.cell5 (h : HsS w wr v Ss) (hc : Chg wr w' [kb + 2]) (hb : w.heap.size ≤ kb + 2) (nw : ∀ g, v.ownBlock = some g → kb + 3 ≤ g) : HsS w w' v Ss :=
  ⟨own_chg2 h.own hc (fun k hk hm => by have := nw k hk; have := List.mem_singleton.1 hm; omega), h.ok, h.fresh, h.below.trans (hc.toBelow h.below.size (fun k hk => by have := List.mem_singleton.1 hk; omega))⟩
theorem P5S.mask (h : P5S w wr kb K M v Ss) (lM : M.length = 32) (hq : q < 32) (hw : w.heap.size ≤ kb) (x : Int) : P5S w (wr.setCell ⟨kb + 2, q, none⟩ (.int .u8 x)) kb K (M.set q x) v Ss := by
  have c : Chg wr (wr.setCell ⟨kb + 2, q, none⟩ (.int .u8 x)) [kb + 2] := (Chg.refl _ _).setCell (p := ⟨kb + 2, q, none⟩) (.inl (by simp)) _
  exact ⟨h.hK.chg' c (by simp), h.hR.chg c (by simp), h.hP.mask5 lM hq x, h.hs.cell5 c (by omega) h.nw, h.nw⟩
theorem P5S.zero (HLO : w.heap.size ≤ kb + 2) (h : P5S w wr kb K zero32 (.slice none 0 0) []) : P5S w (wr.setCells (kb + 1 + 1) 0 (pfRow zero32 (.slice none 0 0))) kb K zero32 (.slice none 0 0) [] := by
  have c : Chg wr (wr.setCells (kb + 1 + 1) 0 (pfRow zero32 (.slice none 0 0))) [kb + 2] := (Chg.refl wr [kb + 2]).setCells (b := kb + 1 + 1) (.inl (by simp)) _ 0
  have hp : PfB 50 wr (kb + 1 + 1) zero32 (.slice none 0 0) := h.hP
  have hb : w.heap.size ≤ wr.heap.size := h.hs.below.size
  exact ⟨h.hK.chg' c (by simp), h.hR.chg c (by simp), hp.put zero32_len zero32_len (.slice none 0 0), ⟨World.ownsRow_nil _ 0 _ 32, HsOk.nil, by simp [Value.ownBlock], h.hs.below.trans (c.toBelow hb (fun k hk => by obtain rfl := List.mem_singleton.1 hk; exact HLO))⟩, h.nw⟩
theorem P5S.app {qa q6 : Option Addr} {ca k6 : Nat} {G : List Int} (h : P5S w wr kb K M (.slice qa Ss.length ca) Ss) (ok : HsOk [G]) (_ : w.heap.size ≤ kb) (own : w'.ownsRow 0 24 32 (.slice q6 (Ss.length + 1) k6) (Ss.length + 1) (hcs Ss ++ hcs [G])) (grow : wr.grownBy w' (Value.slice qa Ss.length ca).ownBlock)
    (fr : (Value.slice q6 (Ss.length + 1) k6).ownBlock = (Value.slice qa Ss.length ca).ownBlock ∨ (Value.slice q6 (Ss.length + 1) k6).ownBlock = some wr.heap.size) : P5A w w' kb K M (.slice qa Ss.length ca) (.slice q6 (Ss.length + 1) k6) (Ss ++ [G]) := by
  have c : Chg wr w' (Value.slice qa Ss.length ca).ownBlock.toList := Chg.grown grow (fun g hg => by simp [hg])
  have nE : ∀ g, g < kb + 3 → g ∉ (Value.slice qa Ss.length ca).ownBlock.toList := fun g hg hm => by have := h.nw g (by simpa using hm); omega
  refine ⟨h.hK.chg' c (nE _ (by omega)), h.hR.chg c (nE _ (by omega)), h.hP.chg c (nE _ (by omega)), h.hs.grow ok rfl own grow fr, fun g hg => ?_⟩
  rcases fr with e | e
  · rw [e] at hg; exact h.nw g hg
  · rw [e] at hg; have := h.hP.lt; simp at hg; omega
theorem P5A.put (h : P5A w wr kb K M u v Ss) (lM : M.length = 32) (hw : w.heap.size ≤ kb) : P5S w (wr.setCell ⟨kb + 2, 32, none⟩ v) kb K M v Ss := by
  have c : Chg wr (wr.setCell ⟨kb + 2, 32, none⟩ v) [kb + 2] := (Chg.refl _ _).setCell (p := ⟨kb + 2, 32, none⟩) (.inl (by simp)) _
  exact ⟨h.hK.chg' c (by simp), h.hR.chg c (by simp), h.p.sides5 lM v, h.hs.cell5 c (by omega) h.nw, h.nw⟩
end
/-- What Prove answers. -/
def Pv5Q (w : World) (L : PrL) (K : List Int) (e : Ending) (w' : World) : Prop :=
  ∃ M q k Ss, e = .returned (.agg (pfRow M (.slice q Ss.length k)).toArray) ∧ PvN (vP L) (ksP L) K 256 M Ss ∧ HsS w w' (.slice q Ss.length k) Ss
set_option maxHeartbeats 64000000 in
theorem Prove5_any {w0 w : World} {pm : Nat} {v : Value} {L : PrL} {K : List Int} (hm : RmS w0 w pm v L) (hKy : KyOk K) (h20 : L.length ≤ 20) :
    Calls Tryd.prog 23 #[.pointer (some ⟨pm, 0, none⟩), .agg (hc K).toArray] w (Pv5Q w L K) := by
  obtain ⟨q0, c0, rfl⟩ := hm.slice
  have z32 := zero32_len
  have hlK := hc_len K
  have lK := hKy.len
  have HKY := Lib.hid hKy
  have OK := Lib.hid hm.ok
  have SR0 := Lib.hid hm.srt
  obtain ⟨i0, hi, hz0, hz1, hz2⟩ := info_parts Tryd.infoHs
  replace hi := Lib.hid hi
  replace hz0 := Lib.hid hz0
  replace hz1 := Lib.hid hz1
  replace hz2 := Lib.hid hz2
  have b1 : Below w.heap.size w (((w.alloc (.cells (hc K).toArray 24)).alloc (.cells (pfRow zero32 (.slice none 0 0)).toArray 50)).alloc (.cells (pfRow zero32 (.slice none 0 0)).toArray 50)) := (((Below.refl w.heap.size w).alloc (Nat.le_refl _) _).alloc (by simp) _).alloc (by simp; omega) _
  have P1 := (PfB.new (t := 50) (w.alloc (.cells (hc K).toArray 24)) zero32 (.slice none 0 0)).alloc (.cells (pfRow zero32 (.slice none 0 0)).toArray 50)
  have P2 := PfB.new (t := 50) ((w.alloc (.cells (hc K).toArray 24)).alloc (.cells (pfRow zero32 (.slice none 0 0)).toArray 50)) zero32 (.slice none 0 0)
  simp only [World.size_alloc] at P1 P2
  have ps0 : P5S w (((w.alloc (.cells (hc K).toArray 24)).alloc (.cells (pfRow zero32 (.slice none 0 0)).toArray 50)).alloc (.cells (pfRow zero32 (.slice none 0 0)).toArray 50)) w.heap.size K zero32 (.slice none 0 0) [] := ⟨((HashAt.new w K).alloc _).alloc _, P1, P2, HsS.on (HsS.start w) b1, fun g hg => by simp [Value.ownBlock] at hg⟩
  have th := P2.there zero32_len
  have lpz := pfRow_len zero32_len (.slice none 0 0)
  have b2 : Below w.heap.size w ((((w.alloc (.cells (hc K).toArray 24)).alloc (.cells (pfRow zero32 (.slice none 0 0)).toArray 50)).alloc (.cells (pfRow zero32 (.slice none 0 0)).toArray 50)).setCells (w.heap.size + 1 + 1) 0 (pfRow zero32 (.slice none 0 0))) := below_setCells' (w.heap.size + 1 + 1) (by omega) _ _ b1
  have PS0 : Hid (P5S w ((((w.alloc (.cells (hc K).toArray 24)).alloc (.cells (pfRow zero32 (.slice none 0 0)).toArray 50)).alloc (.cells (pfRow zero32 (.slice none 0 0)).toArray 50)).setCells (w.heap.size + 1 + 1) 0 (pfRow zero32 (.slice none 0 0))) w.heap.size K zero32 (.slice none 0 0) []) := Lib.hid (P5S.zero (by omega) ps0)
  have RM := hm.on b2
  have cc := RM.cell
  have HQ0 : Hid (RdQ w q0 (wayR L K 0)) := by rw [wayR_zero]; exact hm.rdq
  have HL0 : Hid (L.length = (wayR L K 0).length ∧ (wayR L K 0).length ≤ c0) := by rw [wayR_zero]; exact ⟨rfl, hm.cap.2⟩
  clear P1 P2 b1 b2 ps0 hm hKy RM
  have KB : Hid (w.heap.size ≤ w.heap.size) := Nat.le_refl _
  go_enter Tryd.func23, Tryd.ntmps23
  go_wp2_with fail
  obtain ⟨kb, hkb⟩ : ∃ kb, w.heap.size = kb := ⟨_, rfl⟩
  rw [hkb] at PS0
  replace KB : Hid (w.heap.size ≤ kb) := Nat.le_of_eq hkb
  try rw [hkb]
  clear cc hkb th lpz
  generalize ((((w.alloc (.cells (hc K).toArray 24)).alloc (.cells (pfRow zero32 (.slice none 0 0)).toArray 50)).alloc (.cells (pfRow zero32 (.slice none 0 0)).toArray 50)).setCells (kb + 1 + 1) 0 (pfRow zero32 (.slice none 0 0))) = w1 at *
  go_loopw [6, 7] (fun lv dv wr => ∃ (d : Nat) (q : Option Addr) (n c : Nat) (M : List Int) (u : Value) (Ss : List (List Int)), dv = .int .i64 (d : Int) ∧ d ≤ 256 ∧ (lv = .slice q n c ∧ n = (wayR L K d).length) ∧ Hid (RdQ w q (wayR L K d)) ∧ (wayR L K d).length ≤ c ∧ Hid (P5S w wr kb K M u Ss) ∧ Hid (PvN (vP L) (ksP L) K d M Ss)) (fun _ dv _ => 256 - (intOf dv).toNat)
  case atStart => exact ⟨0, q0, _, c0, _, _, _, rfl, by omega, ⟨rfl, HL0.out.1⟩, HQ0, HL0.out.2, PS0, PvN.start _ _ _⟩
  case round =>
    clear PS0 HQ0 HL0
    obtain ⟨d, q, n, c, M, u, Ss, rfl, hd, ⟨rfl, hn⟩, HQ, hcl, PS, PV⟩ := hrel
    by_cases hlt : d < 256
    · have hd2 : d < 256 := hlt
      have D256 := Lib.hid hd2
      have hltI : (d : Int) < 256 := by omega
      obtain ⟨Mw, hMw⟩ : ∃ Mw, wayR L K d = Mw := ⟨_, rfl⟩
      have SPL := Lib.hid (way_split (K := K) SR0.out OK.out hd2)
      have okW : PrsOk Mw := by rw [← hMw]; exact wayR_ok OK.out
      have lW : Mw.length ≤ L.length := by rw [← hMw]; exact List.length_filter_le _ _
      rw [hMw] at SPL HQ hn hcl
      have hLc : Hid (Mw.length ≤ c) := hcl
      clear hMw
      subst hn
      have PT0 := Lib.hid (part_any (c := c) (HQ.out.on okW PS.out.hs.below) okW hd2 (by omega))
      have HNL := Lib.hid (ptR_le d Mw)
      obtain ⟨n, hnn⟩ : ∃ n, ptR d Mw = n := ⟨_, rfl⟩
      rw [hnn] at SPL PT0 HNL
      have hnL : n ≤ Mw.length := HNL.out
      have hnc : n ≤ c := by omega
      clear hnn hcl
      go_wp2_with fail
      refine PT0.out.mono ?_
      rintro e w5 ⟨rfl, b5⟩
      have PS5 := Lib.hid (PS.out.on b5)
      have rK := PS5.out.hK.row HKY.out.len
      have RB := Lib.hid (rbit_any (w := w5) (i := d) HKY.out.len HKY.out.by_ hd2)
      clear PT0 b5 PS
      rcases bit01 K d with hbt | hbt
      · as_aux_lemma =>
          rw [hbt] at RB
          have eW : Mw.take n = wayR L K (d + 1) := (SPL.out.1 hbt).1
          have eS : Mw.drop n = sidR L K d := (SPL.out.1 hbt).2
          have QS := Lib.hid (eS ▸ HQ.out.drop HNL.out hLc.out)
          have QW := Lib.hid (eW ▸ HQ.out.take n)
          have nS : Hid (Mw.length - n = (sidR L K d).length) := by show _ = _; rw [← eS]; exact List.length_drop.symm
          have nW : Hid (n = (wayR L K (d + 1)).length) := by show _ = _; rw [← eW, List.length_take, Nat.min_eq_left HNL.out]
          clear hbt eW eS
          go_wp2_with fail
          refine RB.out.mono ?_
          rintro e w6 ⟨rfl, b6⟩
          have PS6 := Lib.hid (PS5.out.on b6)
          have SI := Lib.hid (node_any (255 - d) (d + 1) (by omega) w6 (cutQ q c n) (c - n) (sidR L K d) (QS.out.on (sidR_ok OK.out) PS6.out.hs.below) (sidR_ok OK.out) (sidR_srt SR0.out) (sidR_agr D256.out) (by rw [← nS.out]; omega) (by have := hLc.out; rw [← nS.out]; omega))
          unfold NdQ at SI
          rw [← nS.out, show ((d + 1 : Nat) : Int) = (d : Int) + 1 by omega] at SI
          obtain ⟨G, hG⟩ : ∃ G, ndR (256 - (d + 1)) (sidR L K d) = G := ⟨_, rfl⟩
          have lG : G.length = 32 := by rw [← hG]; exact (ndR_hash _ _).1
          have BG : Hid (Bytes G) := by show Bytes G; rw [← hG]; exact (ndR_hash _ _).2
          have GE : Hid (G = sdP (vP L) (ksP L) K d) := by show _ = _; rw [← hG]; exact sidR_nd SR0.out OK.out D256.out
          have hlG := hc_len G
          rw [hG] at SI
          clear hG QS nS b6 RB PS5
          go_wp2_with fail
          refine SI.out.mono ?_
          rintro e w7 ⟨rfl, b7⟩
          have PS7 := Lib.hid (PS6.out.on b7)
          have th := (HashAt.new w7 zero32).there zero32_len
          go_upto_region 12 with fail
          clear th
          have b8 : Below w7.heap.size w7 ((w7.alloc (.cells (hc zero32).toArray 24)).setCells w7.heap.size 0 (hc G)) := below_setCells' w7.heap.size (Nat.le_refl _) (hc G) 0 ((Below.refl _ _).alloc (Nat.le_refl _) (.cells (hc zero32).toArray 24))
          have HG8 := (HashAt.new w7 zero32).put zero32_len lG
          have PS8 := Lib.hid (PS7.out.on b8)
          have GBN : Hid (kb + 2 < w7.heap.size) := PS7.out.hP.lt
          obtain ⟨hb, hhb⟩ : ∃ hb, w7.heap.size = hb := ⟨_, rfl⟩
          rw [hhb] at HG8 GBN PS8 ⊢
          replace HG8 := Lib.hid HG8
          clear hhb b7 b8 SI PS6 PS7
          generalize (w7.alloc (.cells (hc zero32).toArray 24)).setCells hb 0 (hc G) = w8 at *
          by_cases hz : G = zero32
          · have e1 : (G == zero32) = true := by rw [hz]; simp
            have HZ := Lib.hid hz
            have PV9 : Hid (PvN (vP L) (ksP L) K (d + 1) M Ss) := PV.out.zero (by rw [← GE.out]; exact HZ.out)
            clear hz PV
            have rG := HG8.out.row lG
            go_wp2_with fail
            clear e1 rG
            go_roundw
            case rel => exact ⟨d + 1, _, _, _, _, _, _, by go_num, by omega, ⟨rfl, nW.out⟩, QW, (by have := hLc.out; rw [← nW.out]; omega), PS8, PV9⟩
            case measure => simp [intOf]; omega
          · have e1 : (G == zero32) = false := by simpa using hz
            have HZ := Lib.hid hz
            have PV9 : Hid (PvN (vP L) (ksP L) K (d + 1) (mOr M d) (Ss ++ [G])) := by
              have := PV.out.add D256.out (by rw [← GE.out]; exact HZ.out) (mOr_ok PV.out.ky D256.out).1 (mOr_ok PV.out.ky D256.out).2
              rw [← GE.out] at this
              exact this
            have BT0 : Hid (bitI M d = 0) := by show _ = _; rw [PV.out.bit d D256.out, if_neg (by omega)]
            have KYM := Lib.hid PV.out.ky
            have SLN : Hid (Ss.length ≤ 256) := by have h1 := prvS_len (vP L) (ksP L) K d; rw [← PV.out.ss] at h1; have := D256.out; show _ ≤ _; omega
            clear hz PV
            have rG := HG8.out.row lG
            obtain ⟨q8, hq8⟩ : ∃ q8, d / 8 = q8 := ⟨_, rfl⟩
            obtain ⟨t8, ht8⟩ : ∃ t8, d % 8 = t8 := ⟨_, rfl⟩
            have cl8 : q8 < 32 := by omega
            have ct8 : t8 < 8 := by omega
            have g1 : ((d : Nat) : Int).tdiv 8 = (q8 : Int) := by
              rw [Int.tdiv_eq_ediv_of_nonneg (by omega)]; omega
            have g2 : ((d : Nat) : Int).tmod 8 = (t8 : Int) := by
              rw [Int.tmod_eq_emod_of_nonneg (by omega)]; omega
            have g3 : IntKind.i64.wrap (q8 : Int) = (q8 : Int) := IntWalk.i64_in _ (by omega)
            have g4 : (q8 : Int) < 32 := by omega
            have g5 : IntKind.u64.wrap (7 - (t8 : Int)) = 7 - (t8 : Int) := by rw [IntKind.wrap_u64]; omega
            have HMO : Hid (M.set q8 (IntKind.u8.wrap (M.getD q8 0 + ((2 ^ (7 - t8) : Nat) : Int))) = mOr M d) := by
              have := add_mOr KYM.out BT0.out
              rw [hq8, ht8] at this
              exact this
            have lM := KYM.out.len
            have hlM := hc_len M
            obtain ⟨qa, ca, hv⟩ := own_slice PS8.out.hs.own
            subst hv
            have cb := PS8.out.hP.byte5 lM cl8
            obtain ⟨x, hx⟩ : ∃ x : Int, M.getD q8 0 = x := ⟨_, rfl⟩
            have hbx : 0 ≤ x ∧ x < 256 := by rw [← hx]; exact KYM.out.by_.getD q8
            rw [hx] at cb HMO
            have fz := Joins.unfrozen_of_block PS8.out.hP q8
            clear hq8 ht8 hx
            go_upto_region 14 with fail
            clear e1 rG g1 g2 g3 g4 g5 cb fz
            obtain ⟨y, hy⟩ : ∃ y : Int, (x + 2 ^ (7 - t8)) % 256 = y := ⟨_, rfl⟩
            have HY : Hid (IntKind.u8.wrap (x + ((2 ^ (7 - t8) : Nat) : Int)) = y) := by show _ = y; rw [← hy, Int.natCast_pow, IntKind.wrap_u8]; rfl
            rw [hy]
            clear hy
            have PS9 := Lib.hid (show P5S w (w8.setCell ⟨kb + 1 + 1, q8, none⟩ (.int .u8 y)) kb K (mOr M d) (.slice qa Ss.length ca) Ss from by
              rw [← HMO.out, ← HY.out]
              exact PS8.out.mask lM cl8 KB.out _)
            have HG9 := Lib.hid (HG8.out.chg' (S := [kb + 2]) ((Chg.refl w8 [kb + 2]).setCell (p := ⟨kb + 1 + 1, q8, none⟩) (.inl (by simp)) (.int .u8 y)) (by have := GBN.out; simp; omega))
            clear PS8 HG8 HY HMO
            generalize w8.setCell ⟨kb + 1 + 1, q8, none⟩ (.int .u8 y) = w9 at *
            have lM9 : (mOr M d).length = 32 := PV9.out.ky.len
            have cS := PS9.out.hP.sides lM9
            have rG := HG9.out.row lG
            have R10 := Lib.hid (one_hs (w := w9) lG BG.out)
            have PS10 := Lib.hid (PS9.out.on ((Below.refl _ _).alloc (Nat.le_refl _) (.cells (hc G).toArray 24)))
            have SR := Lib.hid ((show RdHs (w9.alloc (.cells (hc G).toArray 24)) (some ⟨w9.heap.size, 0, none⟩) [G] from R10.out).src (P := Tryd.prog) (c := 1) (HsOk.one lG BG.out) Tryd.underlying46)
            have sln := SLN.out
            have OW := Lib.hid PS10.out.hs.own
            go_wp2_with (at_builtin; refine wpList_append_row rfl _ _ rfl Tryd.underlying46 hi.out hz0.out hz1.out hz2.out zero_cells OW.out SR.out ?b1 ?b2 ?_)
            case b1 => unfold maxLen; (try simp only [List.length_singleton]); omega
            case b2 => (try simp only [List.length_singleton]); omega
            intro q6 k6 w6 own6' grow6' fr6'
            have own6 : w6.ownsRow 0 24 32 (.slice q6 (Ss.length + 1) k6) (Ss.length + 1) (hcs Ss ++ hcs [G]) := own6'
            have PA := Lib.hid (PS10.out.app (HsOk.one lG BG.out) KB.out own6 grow6' (by rw [World.size_alloc]; exact fr6'))
            clear own6' grow6' fr6' own6 R10 SR OW PS10 PS9 cS rG HG9
            have z2 := PA.out.p.sides lM9
            have f2 := Joins.unfrozen_of_block PA.out.p 32
            have PB := Lib.hid (PA.out.put lM9 KB.out)
            go_wp2_with fail
            go_roundw
            case rel => exact ⟨d + 1, _, _, _, _, _, _, by go_num, by omega, ⟨rfl, nW.out⟩, QW, (by have := hLc.out; rw [← nW.out]; omega), PB, PV9⟩
            case measure => simp [intOf]; omega
      · as_aux_lemma =>
          rw [hbt] at RB
          have eW : Mw.drop n = wayR L K (d + 1) := (SPL.out.2 hbt).1
          have eS : Mw.take n = sidR L K d := (SPL.out.2 hbt).2
          have QS := Lib.hid (eS ▸ HQ.out.take n)
          have QW := Lib.hid (eW ▸ HQ.out.drop HNL.out hLc.out)
          have nS : Hid (n = (sidR L K d).length) := by show _ = _; rw [← eS, List.length_take, Nat.min_eq_left HNL.out]
          have nW : Hid (Mw.length - n = (wayR L K (d + 1)).length) := by show _ = _; rw [← eW]; exact List.length_drop.symm
          clear hbt eW eS
          go_wp2_with fail
          refine RB.out.mono ?_
          rintro e w6 ⟨rfl, b6⟩
          have PS6 := Lib.hid (PS5.out.on b6)
          have SI := Lib.hid (node_any (255 - d) (d + 1) (by omega) w6 q c (sidR L K d) (QS.out.on (sidR_ok OK.out) PS6.out.hs.below) (sidR_ok OK.out) (sidR_srt SR0.out) (sidR_agr D256.out) (by rw [← nS.out]; omega) (by have := hLc.out; rw [← nS.out]; omega))
          unfold NdQ at SI
          rw [← nS.out, show ((d + 1 : Nat) : Int) = (d : Int) + 1 by omega] at SI
          obtain ⟨G, hG⟩ : ∃ G, ndR (256 - (d + 1)) (sidR L K d) = G := ⟨_, rfl⟩
          have lG : G.length = 32 := by rw [← hG]; exact (ndR_hash _ _).1
          have BG : Hid (Bytes G) := by show Bytes G; rw [← hG]; exact (ndR_hash _ _).2
          have GE : Hid (G = sdP (vP L) (ksP L) K d) := by show _ = _; rw [← hG]; exact sidR_nd SR0.out OK.out D256.out
          have hlG := hc_len G
          rw [hG] at SI
          clear hG QS nS b6 RB PS5
          go_wp2_with fail
          refine SI.out.mono ?_
          rintro e w7 ⟨rfl, b7⟩
          have PS7 := Lib.hid (PS6.out.on b7)
          have th := (HashAt.new w7 zero32).there zero32_len
          go_upto_region 12 with fail
          clear th
          have b8 : Below w7.heap.size w7 ((w7.alloc (.cells (hc zero32).toArray 24)).setCells w7.heap.size 0 (hc G)) := below_setCells' w7.heap.size (Nat.le_refl _) (hc G) 0 ((Below.refl _ _).alloc (Nat.le_refl _) (.cells (hc zero32).toArray 24))
          have HG8 := (HashAt.new w7 zero32).put zero32_len lG
          have PS8 := Lib.hid (PS7.out.on b8)
          have GBN : Hid (kb + 2 < w7.heap.size) := PS7.out.hP.lt
          obtain ⟨hb, hhb⟩ : ∃ hb, w7.heap.size = hb := ⟨_, rfl⟩
          rw [hhb] at HG8 GBN PS8 ⊢
          replace HG8 := Lib.hid HG8
          clear hhb b7 b8 SI PS6 PS7
          generalize (w7.alloc (.cells (hc zero32).toArray 24)).setCells hb 0 (hc G) = w8 at *
          by_cases hz : G = zero32
          · have e1 : (G == zero32) = true := by rw [hz]; simp
            have HZ := Lib.hid hz
            have PV9 : Hid (PvN (vP L) (ksP L) K (d + 1) M Ss) := PV.out.zero (by rw [← GE.out]; exact HZ.out)
            clear hz PV
            have rG := HG8.out.row lG
            go_wp2_with fail
            clear e1 rG
            go_roundw
            case rel => exact ⟨d + 1, _, _, _, _, _, _, by go_num, by omega, ⟨rfl, nW.out⟩, QW, (by have := hLc.out; rw [← nW.out]; omega), PS8, PV9⟩
            case measure => simp [intOf]; omega
          · have e1 : (G == zero32) = false := by simpa using hz
            have HZ := Lib.hid hz
            have PV9 : Hid (PvN (vP L) (ksP L) K (d + 1) (mOr M d) (Ss ++ [G])) := by
              have := PV.out.add D256.out (by rw [← GE.out]; exact HZ.out) (mOr_ok PV.out.ky D256.out).1 (mOr_ok PV.out.ky D256.out).2
              rw [← GE.out] at this
              exact this
            have BT0 : Hid (bitI M d = 0) := by show _ = _; rw [PV.out.bit d D256.out, if_neg (by omega)]
            have KYM := Lib.hid PV.out.ky
            have SLN : Hid (Ss.length ≤ 256) := by have h1 := prvS_len (vP L) (ksP L) K d; rw [← PV.out.ss] at h1; have := D256.out; show _ ≤ _; omega
            clear hz PV
            have rG := HG8.out.row lG
            obtain ⟨q8, hq8⟩ : ∃ q8, d / 8 = q8 := ⟨_, rfl⟩
            obtain ⟨t8, ht8⟩ : ∃ t8, d % 8 = t8 := ⟨_, rfl⟩
            have cl8 : q8 < 32 := by omega
            have ct8 : t8 < 8 := by omega
            have g1 : ((d : Nat) : Int).tdiv 8 = (q8 : Int) := by
              rw [Int.tdiv_eq_ediv_of_nonneg (by omega)]; omega
            have g2 : ((d : Nat) : Int).tmod 8 = (t8 : Int) := by
              rw [Int.tmod_eq_emod_of_nonneg (by omega)]; omega
            have g3 : IntKind.i64.wrap (q8 : Int) = (q8 : Int) := IntWalk.i64_in _ (by omega)
            have g4 : (q8 : Int) < 32 := by omega
            have g5 : IntKind.u64.wrap (7 - (t8 : Int)) = 7 - (t8 : Int) := by rw [IntKind.wrap_u64]; omega
            have HMO : Hid (M.set q8 (IntKind.u8.wrap (M.getD q8 0 + ((2 ^ (7 - t8) : Nat) : Int))) = mOr M d) := by
              have := add_mOr KYM.out BT0.out
              rw [hq8, ht8] at this
              exact this
            have lM := KYM.out.len
            have hlM := hc_len M
            obtain ⟨qa, ca, hv⟩ := own_slice PS8.out.hs.own
            subst hv
            have cb := PS8.out.hP.byte5 lM cl8
            obtain ⟨x, hx⟩ : ∃ x : Int, M.getD q8 0 = x := ⟨_, rfl⟩
            have hbx : 0 ≤ x ∧ x < 256 := by rw [← hx]; exact KYM.out.by_.getD q8
            rw [hx] at cb HMO
            have fz := Joins.unfrozen_of_block PS8.out.hP q8
            clear hq8 ht8 hx
            go_upto_region 14 with fail
            clear e1 rG g1 g2 g3 g4 g5 cb fz
            obtain ⟨y, hy⟩ : ∃ y : Int, (x + 2 ^ (7 - t8)) % 256 = y := ⟨_, rfl⟩
            have HY : Hid (IntKind.u8.wrap (x + ((2 ^ (7 - t8) : Nat) : Int)) = y) := by show _ = y; rw [← hy, Int.natCast_pow, IntKind.wrap_u8]; rfl
            rw [hy]
            clear hy
            have PS9 := Lib.hid (show P5S w (w8.setCell ⟨kb + 1 + 1, q8, none⟩ (.int .u8 y)) kb K (mOr M d) (.slice qa Ss.length ca) Ss from by
              rw [← HMO.out, ← HY.out]
              exact PS8.out.mask lM cl8 KB.out _)
            have HG9 := Lib.hid (HG8.out.chg' (S := [kb + 2]) ((Chg.refl w8 [kb + 2]).setCell (p := ⟨kb + 1 + 1, q8, none⟩) (.inl (by simp)) (.int .u8 y)) (by have := GBN.out; simp; omega))
            clear PS8 HG8 HY HMO
            generalize w8.setCell ⟨kb + 1 + 1, q8, none⟩ (.int .u8 y) = w9 at *
            have lM9 : (mOr M d).length = 32 := PV9.out.ky.len
            have cS := PS9.out.hP.sides lM9
            have rG := HG9.out.row lG
            have R10 := Lib.hid (one_hs (w := w9) lG BG.out)
            have PS10 := Lib.hid (PS9.out.on ((Below.refl _ _).alloc (Nat.le_refl _) (.cells (hc G).toArray 24)))
            have SR := Lib.hid ((show RdHs (w9.alloc (.cells (hc G).toArray 24)) (some ⟨w9.heap.size, 0, none⟩) [G] from R10.out).src (P := Tryd.prog) (c := 1) (HsOk.one lG BG.out) Tryd.underlying46)
            have sln := SLN.out
            have OW := Lib.hid PS10.out.hs.own
            go_wp2_with (at_builtin; refine wpList_append_row rfl _ _ rfl Tryd.underlying46 hi.out hz0.out hz1.out hz2.out zero_cells OW.out SR.out ?b1 ?b2 ?_)
            case b1 => unfold maxLen; (try simp only [List.length_singleton]); omega
            case b2 => (try simp only [List.length_singleton]); omega
            intro q6 k6 w6 own6' grow6' fr6'
            have own6 : w6.ownsRow 0 24 32 (.slice q6 (Ss.length + 1) k6) (Ss.length + 1) (hcs Ss ++ hcs [G]) := own6'
            have PA := Lib.hid (PS10.out.app (HsOk.one lG BG.out) KB.out own6 grow6' (by rw [World.size_alloc]; exact fr6'))
            clear own6' grow6' fr6' own6 R10 SR OW PS10 PS9 cS rG HG9
            have z2 := PA.out.p.sides lM9
            have f2 := Joins.unfrozen_of_block PA.out.p 32
            have PB := Lib.hid (PA.out.put lM9 KB.out)
            go_wp2_with fail
            go_roundw
            case rel => exact ⟨d + 1, _, _, _, _, _, _, by go_num, by omega, ⟨rfl, nW.out⟩, QW, (by have := hLc.out; rw [← nW.out]; omega), PB, PV9⟩
            case measure => simp [intOf]; omega
    · obtain rfl : d = 256 := by omega
      obtain ⟨q9, k9, rfl⟩ := own_slice PS.out.hs.own
      have l9 := PV.out.ky.len
      have r9 := PS.out.hP.whole l9
      have th9 := PS.out.hR.there zero32_len
      have lp9 := pfRow_len l9 (.slice q9 Ss.length k9)
      have hput9 := (PS.out.hR.put zero32_len l9 (.slice q9 Ss.length k9)).whole l9
      have HS9 : Hid (HsS w (wr.setCells (kb + 1) 0 (pfRow M (.slice q9 Ss.length k9))) (.slice q9 Ss.length k9) Ss) := by
        have hs := PS.out.hs
        have cc9 : Chg wr (wr.setCells (kb + 1) 0 (pfRow M (.slice q9 Ss.length k9))) [kb + 1] := (Chg.refl wr [kb + 1]).setCells (b := kb + 1) (.inl (by simp)) _ 0
        exact ⟨own_chg2 hs.own cc9 (fun k hk hm => by have := PS.out.nw k hk; have := List.mem_singleton.1 hm; omega), hs.ok, hs.fresh, hs.below.trans (cc9.toBelow hs.below.size (fun k hk => by have := List.mem_singleton.1 hk; have := KB.out; omega))⟩
      go_wp2_with fail
      try rw [Exit.noGoto_ret]
      refine bodyPost_ret (v := .agg (pfRow M (.slice q9 Ss.length k9)).toArray) (by simp [results, Tryd.results23, go_sem, hput9, lp9]) rfl ?_
      exact ⟨M, q9, k9, Ss, rfl, PV.out, HS9.out⟩
end Go.Proofs.YtjlodnecdngdfaaDoor
namespace Go.Proofs.YtjlodnecdngdfaaDoor
open Go.RowKit
set_option maxRecDepth 100000

theorem gt_no {K : List Int} {L : PrL} (hs : SrtR L) (ok : PrsOk L) (hK : KyOk K) (h : thR K L = false) : vP L K = zero32 := by
  refine vP_none fun hm => ?_
  rw [← List.take_append_drop (fiR K L) L] at hm
  rcases List.mem_append.1 (by simpa [ksP] using hm : K ∈ ksP (L.take (fiR K L)) ++ ksP (L.drop (fiR K L))) with h1 | h1
  · obtain ⟨x, hx, e⟩ := ks_mem.1 h1
    have := take_lt hx
    rw [e, cmp_self] at this; omega
  · obtain ⟨x, hx, e⟩ := ks_mem.1 h1
    have := drop_gt hs hK ok (Nat.le_refl _) (fun h2 => by rw [h] at h2; cases h2) hx
    rw [e, cmp_self] at this; omega
theorem gt_yes {K : List Int} {L : PrL} (hs : SrtR L) (h : thR K L = true) : fiR K L < L.length ∧ vP L K = (L.getD (fiR K L) pr0).2 := by
  obtain ⟨h1, h2⟩ := thR_key h
  refine ⟨h1, ?_⟩
  have hm : L.getD (fiR K L) pr0 ∈ L := by simp [List.getD, h1]
  rw [← vP_at hs hm, h2]
set_option maxHeartbeats 8000000 in
theorem Get5_any {w0 w : World} {pm : Nat} {v : Value} {L : PrL} {K : List Int} (hm : RmS w0 w pm v L) (hKy : KyOk K) (hl : L.length ≤ 1000000) :
    Calls Tryd.prog 16 #[.pointer (some ⟨pm, 0, none⟩), .agg (hc K).toArray] w fun e w' => e = .returned (.agg (hc (vP L K)).toArray) ∧ Below w.heap.size w w' := by
  obtain ⟨q, c, rfl⟩ := hm.slice
  have b0 : Below w.heap.size w ((w.alloc (.cells (hc K).toArray 24)).alloc (.cells (hc zero32).toArray 24)) := ((Below.refl w.heap.size w).alloc (Nat.le_refl _) (.cells (hc K).toArray 24)).alloc (by simp) (.cells (hc zero32).toArray 24)
  have rK := ((HashAt.new w K).alloc (.cells (hc zero32).toArray 24)).row hKy.len
  have RZ := HashAt.new (w.alloc (.cells (hc K).toArray 24)) zero32
  simp only [World.size_alloc] at RZ
  replace RZ := Lib.hid RZ
  have HM := Lib.hid (hm.on b0)
  have OK := Lib.hid hm.ok
  have SR := Lib.hid hm.srt
  have HKY := Lib.hid hKy
  have lK := hKy.len
  have hlK := hc_len K
  have z32 := zero32_len
  have FI := Lib.hid (find5_any HM.out hKy hl)
  have B0 := Lib.hid b0
  clear hm b0 hKy
  obtain ⟨t, ht⟩ : ∃ t, thR K L = t := ⟨_, rfl⟩
  rw [ht] at FI
  cases t with
  | false =>
    have HV : Hid (vP L K = zero32) := gt_no SR.out OK.out HKY.out ht
    clear ht
    go_enter Tryd.func16, Tryd.ntmps16
    go_wp2_with fail
    clear rK
    refine FI.out.mono ?_
    rintro e w2 ⟨rfl, b2⟩
    have RZ2 := Lib.hid (RZ.out.on b2)
    have B2 := Lib.hid (B0.out.trans (b2.mono B0.out.size))
    have th := RZ2.out.there zero32_len
    have hput := (RZ2.out.put zero32_len zero32_len).row zero32_len
    have B3 := Lib.hid (below_setCells' (w.heap.size + 1) (by omega) (hc zero32) 0 B2.out)
    clear b2 FI
    go_wp2_with fail
    refine bodyPost_ret (v := .agg (hc zero32).toArray) (by simp [results, Tryd.results16, go_sem, hput, z32]) rfl ⟨by rw [HV.out], B3.out⟩
  | true =>
    obtain ⟨hlt, hv⟩ := gt_yes SR.out ht
    have HV := Lib.hid hv
    have OKX := Lib.hid (prOk_get OK.out hlt)
    obtain ⟨b, rfl, -, -, -, -⟩ := HM.out.rd.resolve_left (fun e => by rw [e] at hlt; simp at hlt)
    have lX := OKX.out.l
    have hlX := hc_len (L.getD (fiR K L) pr0).2
    obtain ⟨n, hn⟩ : ∃ n, fiR K L = n := ⟨_, rfl⟩
    rw [hn] at hlt HV OKX lX hlX FI
    have HLT := Lib.hid hlt
    have hltI : (n : Int) < (L.length : Int) := by omega
    have g0 : (0 : Int) ≤ (n : Int) := by omega
    obtain ⟨X, hX⟩ : ∃ X, (L.getD n pr0).2 = X := ⟨_, rfl⟩
    rw [hX] at HV lX hlX
    have HX := Lib.hid hX
    clear ht hv hn hX hlt
    go_enter Tryd.func16, Tryd.ntmps16
    go_wp2_with fail
    clear rK
    refine FI.out.mono ?_
    rintro e w2 ⟨rfl, b2⟩
    have RZ2 := Lib.hid (RZ.out.on b2)
    have HM2 := Lib.hid (HM.out.on b2)
    have B2 := Lib.hid (B0.out.trans (b2.mono B0.out.size))
    have c0 := HM2.out.cell
    obtain ⟨b', e, -, -, rd, -⟩ := HM2.out.rd.resolve_left (fun e => by have := HLT.out; rw [e] at this; simp at this)
    simp only [Option.some.injEq, Addr.mk.injEq] at e
    obtain ⟨rfl, -⟩ := e
    have rX := (rowOf_half OKX.out.k.len OKX.out.l (rd n HLT.out)).2
    rw [Nat.zero_add, HX.out] at rX
    have th := RZ2.out.there zero32_len
    have hput := (RZ2.out.put zero32_len lX).row lX
    have B3 := Lib.hid (below_setCells' (w.heap.size + 1) (by omega) (hc X) 0 B2.out)
    clear b2 FI rd
    go_wp2_with fail
    refine bodyPost_ret (v := .agg (hc X).toArray) (by simp [results, Tryd.results16, go_sem, hput, lX]) rfl ⟨by rw [HV.out], B3.out⟩
end Go.Proofs.YtjlodnecdngdfaaDoor
