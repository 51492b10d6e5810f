/-
  Package smt: a side noted in a proof.; Package smt: with, without, forget, of a map's tree, be there one or none.; Package smt: Put, on any map.
-/
import Derived.Test.YtjlodnecdngdfaaDoorPq2
import Derived.Test.YtjlodnecdngdfaaDoorPq9
import Derived.Test.YtjlodnecdngdfaaDoorPq11
namespace Go.Proofs.YtjlodnecdngdfaaDoor
open Go.RowKit
set_option maxRecDepth 100000

theorem or_bit : ∀ x : Fin 256, ∀ t : Fin 8, ∀ j : Fin 8, bits .or .u8 (x.val : Int) (((128 : Nat) / 2 ^ t.val : Nat) : Int) / ((2 ^ (7 - j.val) : Nat) : Int) % 2 = if j.val = t.val then 1 else (x.val : Int) / ((2 ^ (7 - j.val) : Nat) : Int) % 2 := by decide +kernel
theorem or_by : ∀ x : Fin 256, ∀ t : Fin 8, 0 ≤ bits .or .u8 (x.val : Int) (((128 : Nat) / 2 ^ t.val : Nat) : Int) ∧ bits .or .u8 (x.val : Int) (((128 : Nat) / 2 ^ t.val : Nat) : Int) < 256 := by decide +kernel
/-- A mask with one bit more. -/
def mOr (M : List Int) (l : Nat) : List Int := M.set (l / 8) (bits .or .u8 (M.getD (l / 8) 0) (((128 : Nat) / 2 ^ (l % 8) : Nat) : Int))
theorem mOr_ok {M : List Int} {l : Nat} (h : KyOk M) (hl : l < 256) : KyOk (mOr M l) ∧ ∀ i, i < 256 → bitI (mOr M l) i = if i = l then 1 else bitI M i := by
  have hx := h.by_.getD (l / 8)
  obtain ⟨x, hx2⟩ : ∃ x : Fin 256, M.getD (l / 8) 0 = (x.val : Int) := ⟨⟨(M.getD (l / 8) 0).toNat, by omega⟩, by show _ = (((M.getD (l / 8) 0).toNat : Nat) : Int); omega⟩
  have hb := or_by x ⟨l % 8, by omega⟩
  have hlen := h.len
  refine ⟨⟨by unfold mOr; rw [List.length_set]; exact hlen, fun y hy => ?_⟩, fun i hi => ?_⟩
  · unfold mOr at hy
    rcases List.mem_or_eq_of_mem_set hy with hy | hy
    · exact h.by_ y hy
    · rw [hy, hx2]; exact hb
  · unfold bitI mOr
    by_cases e8 : i / 8 = l / 8
    · have e1 : (M.set (l / 8) (bits .or .u8 (M.getD (l / 8) 0) (((128 : Nat) / 2 ^ (l % 8) : Nat) : Int))).getD (i / 8) 0 = bits .or .u8 (M.getD (l / 8) 0) (((128 : Nat) / 2 ^ (l % 8) : Nat) : Int) := by
        rw [e8, List.getD, List.getElem?_set_self (by omega)]; rfl
      have hj := or_bit x ⟨l % 8, by omega⟩ ⟨i % 8, by omega⟩
      rw [e1, e8, hx2]
      have ec : ((2 : Int) ^ (7 - i % 8)) = ((2 ^ (7 - i % 8) : Nat) : Int) := by rw [Int.natCast_pow]; rfl
      rw [ec]
      simp only at hj
      rw [hj]
      by_cases e : i = l
      · rw [if_pos e, if_pos (by omega)]
      · rw [if_neg e, if_neg (by omega)]
    · rw [if_neg (fun e => e8 (by rw [e]))]
      rw [List.getD, List.getElem?_set_ne (fun e => e8 e.symm)]
      rfl

theorem HsS.cellS {w0 w w' : World} {b : Nat} {M : List Int} {u v : Value} {Ss : List (List Int)} (h : HsS w0 w v Ss) (hp : PfB 48 w b M u) (hc : Chg w w' [b]) (hb : w0.heap.size ≤ b) : HsS w0 w' v Ss :=
  ⟨own_chg2 h.own hc (fun k hk hm => own_ne h.own hp (by decide) (by rw [hk]; simpa using hm)), h.ok, h.fresh, h.below.trans (hc.toBelow h.below.size (fun k hk => by have := List.mem_singleton.1 hk; omega))⟩
def AdQ (w0 w : World) (b l : Nat) (M : List Int) (v : Value) (Ss : List (List Int)) (F : List Int) (e : Ending) (w' : World) : Prop :=
  e = .returned (.tuple #[]) ∧ ∃ M' v', PfB 48 w' b M' v' ∧ HsS w0 w' v' (if F = zero32 then Ss else Ss ++ [F]) ∧ KyOk M' ∧ (∀ i, i < 256 → bitI M' i = if F = zero32 then bitI M i else if i = l then 1 else bitI M i) ∧ Chg w w' (b :: v.ownBlock.toList) ∧ (v'.ownBlock = v.ownBlock ∨ ∀ g, v'.ownBlock = some g → w.heap.size ≤ g)

theorem PfB.setMask {w : World} {b l : Nat} {M : List Int} {v : Value} (h : PfB 48 w b M v) (hM : M.length = 32) (hl : l < 32) (x : Int) : PfB 48 (w.setCell ⟨b, l, none⟩ (.int .u8 x)) b (M.set l x) v := by
  have e : (w.setCell ⟨b, l, none⟩ (.int .u8 x)).heap[b]? = some (.cells ((pfRow M v).toArray.setIfInBounds l (.int .u8 x)) 48 (0, 0)) := Joins.block_setCell h _
  unfold PfB
  rw [e]
  congr 2
  apply Array.ext'
  simp only [pfRow, Array.toList_setIfInBounds]
  rw [List.set_append_left _ _ (by rw [hc_len, hM]; exact hl)]
  congr 1
  simp [hc, List.map_set]
theorem PfB.setSides {w : World} {b : Nat} {M : List Int} {v : Value} (h : PfB 48 w b M v) (hM : M.length = 32) (u : Value) : PfB 48 (w.setCell ⟨b, 32, none⟩ u) b M u := by
  have e : (w.setCell ⟨b, 32, none⟩ u).heap[b]? = some (.cells ((pfRow M v).toArray.setIfInBounds 32 u) 48 (0, 0)) := Joins.block_setCell h _
  unfold PfB
  rw [e]
  congr 2
  apply Array.ext'
  simp only [pfRow, Array.toList_setIfInBounds]
  rw [List.set_append_right _ _ (by rw [hc_len, hM]; exact Nat.le_refl _), hc_len, hM]
  rfl
theorem PfB.byte {w : World} {b l : Nat} {M : List Int} {v : Value} (h : PfB 48 w b M v) (hM : M.length = 32) (hl : l < 32) : w.cell? ⟨b, l, none⟩ = some (.int .u8 (M.getD l 0)) := by
  rw [cell_of_row _ _ _ _ _ _ h]
  have h2 : (pfRow M v)[l]? = some (.int .u8 (M.getD l 0)) := by
    unfold pfRow hc
    rw [List.getElem?_append_left (by simp; omega)]
    simp [List.getD, show l < M.length by omega]
  simpa using h2
@[go_sem ↓] theorem Tryd.slice_hs (ps : Array (Nat × Value)) : Instr.buildSlice 46 1 ps = rowNew 46 ps := rfl
@[go_sem] theorem Tryd.run_slice_hs (w : World) (F : List Int) (hF : F.length = 32) :
    (rowNew 46 #[(0, .agg (hc F).toArray)]).run Tryd.prog w = .ok (.slice (some ⟨w.heap.size, 0, none⟩) 1 1) (w.alloc (.cells (hc F).toArray 24)) :=
  run_bs_one w Tryd.underlying46 (by kernel_rfl) (Tryd.zero_hash w) (n := 32) (by decide) (by decide) (by rw [hc_len, hF])

set_option maxHeartbeats 16000000 in
theorem add_any {w0 w : World} {b l : Nat} {M F : List Int} {v : Value} {Ss : List (List Int)} (hp : PfB 48 w b M v) (hs : HsS w0 w v Ss) (hb : w0.heap.size ≤ b) (ky : KyOk M) (lF : F.length = 32) (bF : Bytes F) (hl : l < 256) (hn : Ss.length ≤ 300) :
    Calls Tryd.prog 43 #[.pointer (some ⟨b, 0, none⟩), .int .i64 l, .agg (hc F).toArray] w (AdQ w0 w b l M v Ss F) := by
  obtain ⟨qa, ca, rfl⟩ := own_slice hs.own
  have NLT : Hid (∀ g, (Value.slice qa Ss.length ca).ownBlock = some g → g < w.heap.size) := fun g hg => own_lt hs.own hg
  obtain ⟨i0, hi, hz0, hz1, hz2⟩ := info_parts Tryd.infoHs
  replace hi := Lib.hid hi
  replace hz0 := Lib.hid hz0
  replace hz1 := Lib.hid hz1
  replace hz2 := Lib.hid hz2
  have b1 : Below w.heap.size w (w.alloc (.cells (hc F).toArray 24)) := (Below.refl _ _).alloc (Nat.le_refl _) _
  have HF := Lib.hid (HashAt.new w F)
  have P1 := Lib.hid (hp.on b1)
  have S1 := Lib.hid (hs.on b1)
  have C1 := Lib.hid (Chg.below b1 (Nat.le_refl _) (b :: (Value.slice qa Ss.length ca).ownBlock.toList))
  have KY := Lib.hid ky
  have BF := Lib.hid bF
  have HB := Lib.hid hb
  have BLT := Lib.hid hp.lt
  have lM := ky.len
  have hlF := hc_len F
  have hlM := hc_len M
  have z32 := zero32_len
  clear hp hs bF b1 ky hb
  have rF := HF.out.row lF
  by_cases hz : F = zero32
  · have e1 : (F == zero32) = true := by rw [hz]; simp
    have HZ := Lib.hid hz
    clear hz
    go_enter Tryd.func43, Tryd.ntmps43
    go_wp2_with fail
    refine bodyPost_ret (v := .tuple #[]) (results_none rfl _ _ _) rfl ?_
    exact ⟨rfl, M, _, P1.out, by rw [if_pos HZ.out]; exact S1.out, KY.out, fun i _ => by rw [if_pos HZ.out], C1.out, .inl rfl⟩
  · have e1 : (F == zero32) = false := by simpa using hz
    have HZ := Lib.hid hz
    clear hz
    go_enter Tryd.func43, Tryd.ntmps43
    go_wp2_with fail
    clear e1
    obtain ⟨q, hq⟩ : ∃ q, l / 8 = q := ⟨_, rfl⟩
    obtain ⟨t, ht⟩ : ∃ t, l % 8 = t := ⟨_, rfl⟩
    have cl8 : q < 32 := by omega
    have ct8 : t < 8 := by omega
    have g1 : ((l : Nat) : Int).tdiv 8 = (q : Int) := by
      rw [Int.tdiv_eq_ediv_of_nonneg (by omega)]; omega
    have g2 : ((l : Nat) : Int).tmod 8 = (t : Int) := by
      rw [Int.tmod_eq_emod_of_nonneg (by omega)]; omega
    have g3 : IntKind.i64.wrap (q : Int) = (q : Int) := IntWalk.i64_in _ (by omega)
    have g4 : (q : Int) < 32 := by omega
    have HO := mOr_ok KY.out hl
    have HMO : Hid (mOr M l = M.set q (bits .or .u8 (M.getD q 0) (((128 : Nat) / 2 ^ t : Nat) : Int))) := by show mOr M l = _; unfold mOr; rw [hq, ht]
    have HQ := Lib.hid hq
    have HT8 := Lib.hid ht
    replace HO := Lib.hid HO
    clear hq ht
    obtain ⟨x, hx⟩ : ∃ x : Int, M.getD q 0 = x := ⟨_, rfl⟩
    have HX := Lib.hid hx
    have hbx : 0 ≤ x ∧ x < 256 := by rw [← hx]; exact KY.out.by_.getD q
    obtain ⟨y, hy⟩ : ∃ y : Int, bits .or .u8 x (128 / 2 ^ t) = y := ⟨_, rfl⟩
    generalize hw1 : w.alloc (.cells (hc F).toArray 24) = w1 at *
    clear hw1
    have P2 := P1.out.on (Below.refl _ _).drew
    refine wp_region_held_drew (S := fun W => ∃ Mx, PfB 48 W b Mx (.slice qa Ss.length ca)) (by kernel_rfl) (⟨M, P2⟩) (fun h0 => ?_)
    refine wpAnyH_take (i := 0) (v := ?_) (by rw [List.getElem?_toArray]; rfl) (by kernel_rfl) (by kernel_rfl) (by kernel_rfl) (by exact fun _ _ _ h => h) (Or.inl ⟨by rfl, ?_⟩) h0 ?_
    rotate_left
    · intro W hW
      go_simp
      all_goals with_reducible rfl
    try simp only [Act.put, List.setIfInBounds_toArray, List.set_cons_zero, List.set_cons_succ]
    refine wpAnyH_take (i := 1) (v := ?_) (by rw [List.getElem?_toArray]; rfl) (by kernel_rfl) (by kernel_rfl) (by kernel_rfl) (by exact fun _ _ _ h => h) (Or.inl ⟨by rfl, ?_⟩) h0 ?_
    rotate_left
    · intro W hW
      go_simp
      all_goals with_reducible rfl
    try simp only [Act.put, List.setIfInBounds_toArray, List.set_cons_zero, List.set_cons_succ]
    refine wpAnyH_take (i := 2) (v := ?_) (by rw [List.getElem?_toArray]; rfl) (by kernel_rfl) (by kernel_rfl) (by kernel_rfl) (by exact fun _ _ _ h => h) (Or.inl ⟨by rfl, ?_⟩) h0 ?_
    rotate_left
    · intro W hW
      go_simp
      all_goals with_reducible rfl
    try simp only [Act.put, List.setIfInBounds_toArray, List.set_cons_zero, List.set_cons_succ]
    refine wpAnyH_take (i := 3) (v := ?_) (by rw [List.getElem?_toArray]; rfl) (by kernel_rfl) (by kernel_rfl) (by kernel_rfl) (by exact fun _ _ _ h => h) (Or.inl ⟨by rfl, ?_⟩) h0 ?_
    rotate_left
    · intro W hW
      go_simp
      all_goals with_reducible rfl
    try simp only [Act.put, List.setIfInBounds_toArray, List.set_cons_zero, List.set_cons_succ]
    refine wpAnyH_take (i := 4) (v := ?_) (by rw [List.getElem?_toArray]; rfl) (by kernel_rfl) (by kernel_rfl) (by kernel_rfl) (by exact fun _ _ _ h => h) (Or.inl ⟨by rfl, ?_⟩) h0 ?_
    rotate_left
    · intro W hW
      go_simp
      all_goals with_reducible rfl
    try simp only [Act.put, List.setIfInBounds_toArray, List.set_cons_zero, List.set_cons_succ]
    refine wpAnyH_take (i := 5) (v := ?_) (by rw [List.getElem?_toArray]; rfl) (by kernel_rfl) (by kernel_rfl) (by kernel_rfl) (by exact fun _ _ _ h => h) (Or.inl ⟨by rfl, ?_⟩) h0 ?_
    rotate_left
    · intro W hW
      go_simp
      all_goals with_reducible rfl
    try simp only [Act.put, List.setIfInBounds_toArray, List.set_cons_zero, List.set_cons_succ]
    refine wpAnyH_take (i := 7) (v := ?_) (by rw [List.getElem?_toArray]; rfl) (by kernel_rfl) (by kernel_rfl) (by kernel_rfl) (by exact fun _ _ _ h => h) (Or.inl ⟨by rfl, ?_⟩) h0 ?_
    rotate_left
    · intro W hW
      go_simp
      all_goals with_reducible rfl
    try simp only [Act.put, List.setIfInBounds_toArray, List.set_cons_zero, List.set_cons_succ]
    refine wpAnyH_take (i := 8) (v := ?_) (by rw [List.getElem?_toArray]; rfl) (by kernel_rfl) (by kernel_rfl) (by kernel_rfl) (by exact fun _ _ _ h => h) (Or.inl ⟨by rfl, ?_⟩) h0 ?_
    rotate_left
    · intro W hW
      go_simp
      all_goals with_reducible rfl
    try simp only [Act.put, List.setIfInBounds_toArray, List.set_cons_zero, List.set_cons_succ]
    refine wpAnyH_take (i := 9) (v := ?_) (by rw [List.getElem?_toArray]; rfl) (by kernel_rfl) (by kernel_rfl) (by kernel_rfl) (by exact fun _ _ _ h => h) (Or.inl ⟨by rfl, ?_⟩) h0 ?_
    rotate_left
    · intro W hW
      go_simp
      all_goals with_reducible rfl
    try simp only [Act.put, List.setIfInBounds_toArray, List.set_cons_zero, List.set_cons_succ]
    refine wpAnyH_take (i := 11) (v := ?_) (by rw [List.getElem?_toArray]; rfl) (by kernel_rfl) (by kernel_rfl) (by kernel_rfl) (by exact fun _ _ _ h => h) (Or.inl ⟨by rfl, ?_⟩) h0 ?_
    rotate_left
    · intro W hW
      go_simp
      all_goals with_reducible rfl
    try simp only [Act.put, List.setIfInBounds_toArray, List.set_cons_zero, List.set_cons_succ]
    refine wpAnyH_take (i := 12) (v := ?_) (by rw [List.getElem?_toArray]; rfl) (by kernel_rfl) (by kernel_rfl) (by kernel_rfl) (by exact fun _ _ _ h => h) (Or.inl ⟨by rfl, ?_⟩) h0 ?_
    rotate_left
    · intro W hW
      go_simp
      all_goals with_reducible rfl
    try simp only [Act.put, List.setIfInBounds_toArray, List.set_cons_zero, List.set_cons_succ]
    refine wpAnyH_ready (rs := [6]) (by kernel_rfl) (by simp) ?_
    refine AllReadyH.cons (by rw [List.getElem?_toArray]; rfl) (fun K hK => ?_) AllReadyH.nil
    rw [if_pos (by rfl)]
    have cc := P2.byte lM cl8
    rw [hx] at cc
    go_wp2_with fail
    refine hK.out _ _ (⟨M, P2⟩) (fun h6 => ?_)
    clear hK K
    try simp only [Act.put, List.setIfInBounds_toArray, List.set_cons_zero, List.set_cons_succ]
    refine wpAnyH_take (i := 10) (v := ?_) (by rw [List.getElem?_toArray]; rfl) (by kernel_rfl) (by kernel_rfl) (by kernel_rfl) (by exact fun _ _ _ h => h) (Or.inl ⟨by rfl, ?_⟩) h6 ?_
    rotate_left
    · intro W hW
      go_simp
      all_goals with_reducible rfl
    try simp only [Act.put, List.setIfInBounds_toArray, List.set_cons_zero, List.set_cons_succ]
    refine wpAnyH_take (i := 13) (v := ?_) (by rw [List.getElem?_toArray]; rfl) (by kernel_rfl) (by kernel_rfl) (by kernel_rfl) (by exact fun _ _ _ h => h) (Or.inl ⟨by rfl, ?_⟩) h6 ?_
    rotate_left
    · intro W hW
      go_simp
      all_goals with_reducible rfl
    try simp only [Act.put, List.setIfInBounds_toArray, List.set_cons_zero, List.set_cons_succ]
    refine wpAnyH_ready (rs := [14]) (by kernel_rfl) (by simp) ?_
    refine AllReadyH.cons (by rw [List.getElem?_toArray]; rfl) (fun K hK => ?_) AllReadyH.nil
    rw [if_pos (by rfl)]
    have z2 := P2.byte lM cl8
    have f2 := Joins.unfrozen_of_block P2 q
    have P3 := P2.setMask lM cl8 y
    go_wp2_with fail
    refine hK.out _ _ (⟨_, P3⟩) (fun h1 => ?_)
    clear hK K
    try simp only [Act.put, List.setIfInBounds_toArray, List.set_cons_zero, List.set_cons_succ]
    refine wpAnyH_done (by kernel_rfl) ?_ _
    go_wp2_with fail
    have lM2 := HO.out.1.len
    have P2 := Lib.hid (show PfB 48 (w1.setCell ⟨b, q, none⟩ (.int .u8 y)).drew b (mOr M l) (.slice qa Ss.length ca) from by
      rw [HMO.out, HX.out]
      have e : (((128 : Nat) / 2 ^ t : Nat) : Int) = 128 / 2 ^ t := by rw [Int.natCast_ediv, Int.natCast_pow]; rfl
      rw [e, hy]
      exact P1.out.setMask lM cl8 y)
    have c2 : Chg w1 (w1.setCell ⟨b, q, none⟩ (.int .u8 y)).drew [b] := ((Chg.refl _ _).setCell (p := ⟨b, q, none⟩) (.inl (by simp)) _).drew
    have S2 := Lib.hid (S1.out.cellS P1.out c2 HB.out)
    have C2 := Lib.hid (C1.out.trans c2 (fun g hg _ => by rw [List.mem_singleton.1 hg]; simp))
    have H2 := Lib.hid (HF.out.chg' c2 (by have := BLT.out; simp; omega))
    obtain ⟨fb, hfb⟩ : ∃ fb, w.heap.size = fb := ⟨_, rfl⟩
    have HFB := Lib.hid hfb
    rw [hfb] at H2 ⊢
    clear c2 P1 S1 C1 HF rF hfb h1 h6 P3 z2 f2 cc
    generalize (w1.setCell ⟨b, q, none⟩ (.int .u8 y)).drew = w2 at *
    have r2 := H2.out.row lF
    refine wp_region_held_drew (S := fun W => rowOf W fb 0 32 = hc F) (by kernel_rfl) (r2) (fun h0 => ?_)
    refine wpAnyH_take (i := 0) (v := ?_) (by rw [List.getElem?_toArray]; rfl) (by kernel_rfl) (by kernel_rfl) (by kernel_rfl) (by exact fun _ _ _ h => h) (Or.inl ⟨by rfl, ?_⟩) h0 ?_
    rotate_left
    · intro W hW
      go_simp
      all_goals with_reducible rfl
    try simp only [Act.put, List.setIfInBounds_toArray, List.set_cons_zero, List.set_cons_succ]
    refine wpAnyH_take (i := 1) (v := ?_) (by rw [List.getElem?_toArray]; rfl) (by kernel_rfl) (by kernel_rfl) (by kernel_rfl) (by exact fun _ _ _ h => h) (Or.inl ⟨by rfl, ?_⟩) h0 ?_
    rotate_left
    · intro W hW
      go_simp
      all_goals with_reducible rfl
    try simp only [Act.put, List.setIfInBounds_toArray, List.set_cons_zero, List.set_cons_succ]
    refine wpAnyH_take (i := 2) (v := ?_) (by rw [List.getElem?_toArray]; rfl) (by kernel_rfl) (by kernel_rfl) (by kernel_rfl) (by exact fun _ _ _ h => h) (Or.inl ⟨by rfl, ?_⟩) h0 ?_
    rotate_left
    · intro W hW
      go_simp
      all_goals with_reducible rfl
    try simp only [Act.put, List.setIfInBounds_toArray, List.set_cons_zero, List.set_cons_succ]
    refine wpAnyH_take (i := 3) (v := ?_) (by rw [List.getElem?_toArray]; rfl) (by kernel_rfl) (by kernel_rfl) (by kernel_rfl) (by exact fun _ _ _ h => h) (Or.inl ⟨by rfl, ?_⟩) h0 ?_
    rotate_left
    · intro W hW
      go_simp
      all_goals with_reducible rfl
    try simp only [Act.put, List.setIfInBounds_toArray, List.set_cons_zero, List.set_cons_succ]
    refine wpAnyH_take (i := 5) (v := ?_) (by rw [List.getElem?_toArray]; rfl) (by kernel_rfl) (by kernel_rfl) (by kernel_rfl) (by exact fun _ _ _ h => h) (Or.inl ⟨by rfl, ?_⟩) h0 ?_
    rotate_left
    · intro W hW
      have cc := hW
      go_simp
      all_goals with_reducible rfl
    try simp only [Act.put, List.setIfInBounds_toArray, List.set_cons_zero, List.set_cons_succ]
    refine wpAnyH_ready (rs := [4, 6]) (by kernel_rfl) (by simp) ?_
    refine AllReadyH.cons (by rw [List.getElem?_toArray]; rfl) (fun K hK => ?_) (AllReadyH.cons (by rw [List.getElem?_toArray]; rfl) (fun K hK => ?_) (AllReadyH.nil))
    · rw [if_pos (by rfl)]
      have c4 := P2.out.sides lM2
      go_wp2_with fail
      refine hK.out _ _ (h0) (fun h0 => ?_)
      clear hK K
      try simp only [Act.put, List.setIfInBounds_toArray, List.set_cons_zero, List.set_cons_succ]
      refine wpAnyH_ready (rs := [6]) (by kernel_rfl) (by simp) ?_
      refine AllReadyH.cons (by rw [List.getElem?_toArray]; rfl) (fun K hK => ?_) AllReadyH.nil
      rw [if_pos (by rfl)]
      go_wp2_with fail
      have h0 : rowOf (w2.alloc (.cells (hc F).toArray 24)) fb 0 32 = hc F := (H2.out.on ((Below.refl _ _).alloc (Nat.le_refl _) (.cells (hc F).toArray 24))).row lF
      refine hK.out _ _ (h0) (fun h0 => ?_)
      clear hK K
      try simp only [Act.put, List.setIfInBounds_toArray, List.set_cons_zero, List.set_cons_succ]
      have S4 := Lib.hid (S2.out.on ((Below.refl _ _).alloc (Nat.le_refl _) (.cells (hc F).toArray 24)))
      have P4 := Lib.hid (P2.out.on ((Below.refl _ _).alloc (Nat.le_refl _) (.cells (hc F).toArray 24)))
      have R4 := Lib.hid (one_hs (w := w2) lF BF.out)
      have H4 := Lib.hid (H2.out.on ((Below.refl _ _).alloc (Nat.le_refl _) (.cells (hc F).toArray 24)))
      have C4 := Lib.hid (C2.out.alloc (.cells (hc F).toArray 24))
      have Z4 : Hid (w.heap.size ≤ (w2.alloc (.cells (hc F).toArray 24)).heap.size) := by have := C2.out.size; show _ ≤ _; simp; omega
      generalize w2.alloc (.cells (hc F).toArray 24) = w4 at *
      refine wpAnyH_ready (rs := [7]) (by kernel_rfl) (by simp) ?_
      refine AllReadyH.cons (by rw [List.getElem?_toArray]; rfl) (fun K hK => ?_) AllReadyH.nil
      rw [if_pos (by rfl)]
      have S4d : HsS w0 w4.drew (.slice qa Ss.length ca) Ss := S4.out.on ((Below.refl _ _).drew)
      refine wp_append_row _ _ rfl Tryd.underlying46 hi.out hz0.out hz1.out hz2.out zero_cells S4d.own ((show RdHs w4.drew (some ⟨w2.heap.size, 0, none⟩) [F] from R4.out).src (P := Tryd.prog) (HsOk.one lF BF.out) Tryd.underlying46) (by unfold maxLen; (try simp only [List.length_singleton]); omega) (by (try simp only [List.length_singleton]); omega) ?_
      intro q6 k6 w6 own6' grow6' fr6'
      have own6 : w6.ownsRow 0 24 32 (.slice q6 (Ss.length + 1) k6) (Ss.length + 1) (hcs Ss ++ hcs [F]) := own6'
      have grow6 : w4.drew.grownBy w6 (Value.slice qa Ss.length ca).ownBlock := grow6'
      have fr6 : (Value.slice q6 (Ss.length + 1) k6).ownBlock = (Value.slice qa Ss.length ca).ownBlock ∨ (Value.slice q6 (Ss.length + 1) k6).ownBlock = some w4.drew.heap.size := fr6'
      have c6 : Chg w4.drew w6 (Value.slice qa Ss.length ca).ownBlock.toList := Chg.grown grow6 (fun g hg => by simp [hg])
      have nb : b ∉ (Value.slice qa Ss.length ca).ownBlock.toList := fun hm => own_ne S4d.own P4.out (by decide) (by simpa using hm)
      have P6 := Lib.hid (PfB.chg (w := w4.drew) P4.out c6 nb)
      have S6 := Lib.hid (S4d.grow (HsOk.one lF BF.out) rfl own6 grow6 fr6)
      have C6 := Lib.hid (C4.out.drew.trans c6 (fun g hg _ => List.mem_cons_of_mem _ hg))
      have H6 : HashAt w6 fb F := HashAt.chg' (w := w4.drew) H4.out c6 (fun hm => by have := NLT.out fb (by simpa using hm); have := HFB.out; omega)
      have FR6 := Lib.hid fr6
      have rF6 := H6.row lF
      have z2 := P6.out.sides lM2
      have f2 := Joins.unfrozen_of_block P6.out 32
      have H7 := Lib.hid (HashAt.chg' (S := [b]) H6 ((Chg.refl _ _).setCell (p := ⟨b, 32, none⟩) (.inl (by simp)) (.slice q6 (Ss.length + 1) k6)) (by have := BLT.out; have := HFB.out; simp; omega))
      clear own6' grow6' fr6' own6 grow6 fr6 c6 nb S4d H6
      refine hK.out _ _ (rF6) (fun h0 => ?_)
      clear hK K
      try simp only [Act.put, List.setIfInBounds_toArray, List.set_cons_zero, List.set_cons_succ]
      refine wpAnyH_take (i := 8) (v := ?_) (by rw [List.getElem?_toArray]; rfl) (by kernel_rfl) (by kernel_rfl) (by kernel_rfl) (by exact fun _ _ _ h => h) (Or.inl ⟨by rfl, ?_⟩) h0 ?_
      rotate_left
      · intro W hW
        go_simp
        all_goals with_reducible rfl
      try simp only [Act.put, List.setIfInBounds_toArray, List.set_cons_zero, List.set_cons_succ]
      refine wpAnyH_take (i := 9) (v := ?_) (by rw [List.getElem?_toArray]; rfl) (by kernel_rfl) (by kernel_rfl) (by kernel_rfl) (by exact fun _ _ _ h => h) (Or.inl ⟨by rfl, ?_⟩) h0 ?_
      rotate_left
      · intro W hW
        go_simp
        all_goals with_reducible rfl
      try simp only [Act.put, List.setIfInBounds_toArray, List.set_cons_zero, List.set_cons_succ]
      refine wpAnyH_ready (rs := [10]) (by kernel_rfl) (by simp) ?_
      refine AllReadyH.cons (by rw [List.getElem?_toArray]; rfl) (fun K hK => ?_) AllReadyH.nil
      rw [if_pos (by rfl)]
      go_wp2_with fail
      refine hK.out _ _ (H7.out.row lF) (fun h0 => ?_)
      clear hK K
      try simp only [Act.put, List.setIfInBounds_toArray, List.set_cons_zero, List.set_cons_succ]
      refine wpAnyH_done (by kernel_rfl) ?_ _
      go_wp2_with fail
      have p7 := P6.out.setSides lM2 (.slice q6 (Ss.length + 1) k6)
      have c7 : Chg w6 (w6.setCell ⟨b, 32, none⟩ (.slice q6 (Ss.length + 1) k6)) [b] := (Chg.refl _ _).setCell (p := ⟨b, 32, none⟩) (.inl (by simp)) _
      have s7 := S6.out.cellS P6.out c7 HB.out
      refine bodyPost_ret (v := .tuple #[]) (results_none rfl _ _ _) rfl ?_
      refine ⟨rfl, _, _, p7, by rw [if_neg HZ.out]; exact s7, HO.out.1, fun i hi => by rw [if_neg HZ.out]; exact HO.out.2 i hi, (C6.out.trans c7 (fun g hg _ => by rw [List.mem_singleton.1 hg]; simp)), ?_⟩
      rcases FR6.out with h | h
      · exact .inl h
      · exact .inr (fun g hg => by rw [h] at hg; have := Z4.out; simp at hg; omega)
    · rw [if_pos (by rfl)]
      go_wp2_with fail
      have h0 : rowOf (w2.alloc (.cells (hc F).toArray 24)) fb 0 32 = hc F := (H2.out.on ((Below.refl _ _).alloc (Nat.le_refl _) (.cells (hc F).toArray 24))).row lF
      refine hK.out _ _ (h0) (fun h0 => ?_)
      clear hK K
      try simp only [Act.put, List.setIfInBounds_toArray, List.set_cons_zero, List.set_cons_succ]
      have S4 := Lib.hid (S2.out.on ((Below.refl _ _).alloc (Nat.le_refl _) (.cells (hc F).toArray 24)))
      have P4 := Lib.hid (P2.out.on ((Below.refl _ _).alloc (Nat.le_refl _) (.cells (hc F).toArray 24)))
      have R4 := Lib.hid (one_hs (w := w2) lF BF.out)
      have H4 := Lib.hid (H2.out.on ((Below.refl _ _).alloc (Nat.le_refl _) (.cells (hc F).toArray 24)))
      have C4 := Lib.hid (C2.out.alloc (.cells (hc F).toArray 24))
      have Z4 : Hid (w.heap.size ≤ (w2.alloc (.cells (hc F).toArray 24)).heap.size) := by have := C2.out.size; show _ ≤ _; simp; omega
      generalize w2.alloc (.cells (hc F).toArray 24) = w4 at *
      refine wpAnyH_ready (rs := [4]) (by kernel_rfl) (by simp) ?_
      refine AllReadyH.cons (by rw [List.getElem?_toArray]; rfl) (fun K hK => ?_) AllReadyH.nil
      rw [if_pos (by rfl)]
      have c4 := P4.out.sides lM2
      go_wp2_with fail
      refine hK.out _ _ (h0) (fun h0 => ?_)
      clear hK K
      try simp only [Act.put, List.setIfInBounds_toArray, List.set_cons_zero, List.set_cons_succ]
      refine wpAnyH_ready (rs := [7]) (by kernel_rfl) (by simp) ?_
      refine AllReadyH.cons (by rw [List.getElem?_toArray]; rfl) (fun K hK => ?_) AllReadyH.nil
      rw [if_pos (by rfl)]
      have S4d : HsS w0 w4.drew (.slice qa Ss.length ca) Ss := S4.out.on ((Below.refl _ _).drew)
      refine wp_append_row _ _ rfl Tryd.underlying46 hi.out hz0.out hz1.out hz2.out zero_cells S4d.own ((show RdHs w4.drew (some ⟨w2.heap.size, 0, none⟩) [F] from R4.out).src (P := Tryd.prog) (HsOk.one lF BF.out) Tryd.underlying46) (by unfold maxLen; (try simp only [List.length_singleton]); omega) (by (try simp only [List.length_singleton]); omega) ?_
      intro q6 k6 w6 own6' grow6' fr6'
      have own6 : w6.ownsRow 0 24 32 (.slice q6 (Ss.length + 1) k6) (Ss.length + 1) (hcs Ss ++ hcs [F]) := own6'
      have grow6 : w4.drew.grownBy w6 (Value.slice qa Ss.length ca).ownBlock := grow6'
      have fr6 : (Value.slice q6 (Ss.length + 1) k6).ownBlock = (Value.slice qa Ss.length ca).ownBlock ∨ (Value.slice q6 (Ss.length + 1) k6).ownBlock = some w4.drew.heap.size := fr6'
      have c6 : Chg w4.drew w6 (Value.slice qa Ss.length ca).ownBlock.toList := Chg.grown grow6 (fun g hg => by simp [hg])
      have nb : b ∉ (Value.slice qa Ss.length ca).ownBlock.toList := fun hm => own_ne S4d.own P4.out (by decide) (by simpa using hm)
      have P6 := Lib.hid (PfB.chg (w := w4.drew) P4.out c6 nb)
      have S6 := Lib.hid (S4d.grow (HsOk.one lF BF.out) rfl own6 grow6 fr6)
      have C6 := Lib.hid (C4.out.drew.trans c6 (fun g hg _ => List.mem_cons_of_mem _ hg))
      have H6 : HashAt w6 fb F := HashAt.chg' (w := w4.drew) H4.out c6 (fun hm => by have := NLT.out fb (by simpa using hm); have := HFB.out; omega)
      have FR6 := Lib.hid fr6
      have rF6 := H6.row lF
      have z2 := P6.out.sides lM2
      have f2 := Joins.unfrozen_of_block P6.out 32
      have H7 := Lib.hid (HashAt.chg' (S := [b]) H6 ((Chg.refl _ _).setCell (p := ⟨b, 32, none⟩) (.inl (by simp)) (.slice q6 (Ss.length + 1) k6)) (by have := BLT.out; have := HFB.out; simp; omega))
      clear own6' grow6' fr6' own6 grow6 fr6 c6 nb S4d H6
      refine hK.out _ _ (rF6) (fun h0 => ?_)
      clear hK K
      try simp only [Act.put, List.setIfInBounds_toArray, List.set_cons_zero, List.set_cons_succ]
      refine wpAnyH_take (i := 8) (v := ?_) (by rw [List.getElem?_toArray]; rfl) (by kernel_rfl) (by kernel_rfl) (by kernel_rfl) (by exact fun _ _ _ h => h) (Or.inl ⟨by rfl, ?_⟩) h0 ?_
      rotate_left
      · intro W hW
        go_simp
        all_goals with_reducible rfl
      try simp only [Act.put, List.setIfInBounds_toArray, List.set_cons_zero, List.set_cons_succ]
      refine wpAnyH_take (i := 9) (v := ?_) (by rw [List.getElem?_toArray]; rfl) (by kernel_rfl) (by kernel_rfl) (by kernel_rfl) (by exact fun _ _ _ h => h) (Or.inl ⟨by rfl, ?_⟩) h0 ?_
      rotate_left
      · intro W hW
        go_simp
        all_goals with_reducible rfl
      try simp only [Act.put, List.setIfInBounds_toArray, List.set_cons_zero, List.set_cons_succ]
      refine wpAnyH_ready (rs := [10]) (by kernel_rfl) (by simp) ?_
      refine AllReadyH.cons (by rw [List.getElem?_toArray]; rfl) (fun K hK => ?_) AllReadyH.nil
      rw [if_pos (by rfl)]
      go_wp2_with fail
      refine hK.out _ _ (H7.out.row lF) (fun h0 => ?_)
      clear hK K
      try simp only [Act.put, List.setIfInBounds_toArray, List.set_cons_zero, List.set_cons_succ]
      refine wpAnyH_done (by kernel_rfl) ?_ _
      go_wp2_with fail
      have p7 := P6.out.setSides lM2 (.slice q6 (Ss.length + 1) k6)
      have c7 : Chg w6 (w6.setCell ⟨b, 32, none⟩ (.slice q6 (Ss.length + 1) k6)) [b] := (Chg.refl _ _).setCell (p := ⟨b, 32, none⟩) (.inl (by simp)) _
      have s7 := S6.out.cellS P6.out c7 HB.out
      refine bodyPost_ret (v := .tuple #[]) (results_none rfl _ _ _) rfl ?_
      refine ⟨rfl, _, _, p7, by rw [if_neg HZ.out]; exact s7, HO.out.1, fun i hi => by rw [if_neg HZ.out]; exact HO.out.2 i hi, (C6.out.trans c7 (fun g hg _ => by rw [List.mem_singleton.1 hg]; simp)), ?_⟩
      rcases FR6.out with h | h
      · exact .inl h
      · exact .inr (fun g hg => by rw [h] at hg; have := Z4.out; simp at hg; omega)

end Go.Proofs.YtjlodnecdngdfaaDoor
namespace Go.Proofs.YtjlodnecdngdfaaDoor
open Go.RowKit
set_option maxRecDepth 100000

section
variable {w : World} {E E' : List En} {top : Option Addr} {bl : List Nat} {K V : List Int}
theorem with_top (hK : KyOk K) (h : TopS w E top bl) (hv : ∀ k, vOf E' k = if k = K then V else vOf E k) (hk : ∀ k, (∃ x ∈ E', x.k = k) ↔ k = K ∨ ∃ x ∈ E, x.k = k) (hno : ∀ x ∈ E, x.k ≠ K) :
    Calls Tryd.prog 35 #[.pointer top, .agg (hc K).toArray] w fun e w' => ∃ top' bl', e = .returned (.pointer top') ∧ Chg w w' bl ∧ TopS w' E' top' bl' ∧ ∀ g ∈ bl', g ∈ bl ∨ w.heap.size ≤ g := by
  rcases h with ⟨h1, rfl, rfl⟩ | ⟨b, t, rfl, ok, h3, h4, h5⟩
  · refine (with_nilA hK (vOf E') w).mono ?_
    rintro e w' ⟨b', rfl, hb, ht, hl⟩
    refine ⟨_, [b'], rfl, Chg.below hb (Nat.le_refl _) [], .inr ⟨b', .lf K, rfl, hK, fun k => ?_, ht, by simp⟩, fun g hg => .inr (by obtain rfl := List.mem_singleton.1 hg; exact hl)⟩
    rw [hk k, h1]
    simp [Tr.keys]
  · have hnk : K ∉ t.keys := fun hm => by
      obtain ⟨x, hx, e⟩ := (h3 K).1 hm
      exact hno x hx e
    refine (with_all hK ok hnk w (vOf E) (vOf E') b bl h4 h5 (fun k hkt => ?_)).mono ?_
    · rw [hv k, if_neg (fun e => hnk (by rw [← e]; exact hkt))]
    · rintro e w' ⟨b', bl', rfl, hc, ht, nd, hin⟩
      refine ⟨_, bl', rfl, hc, .inr ⟨b', t.ins K, rfl, Tr.ins_ok K ok hK hnk, fun k => ?_, ht, nd⟩, hin⟩
      rw [(Tr.ins_keys K ok hK hnk).mem_iff, hk k, List.mem_cons, h3 k]
theorem without_top (hK : KyOk K) (h : TopS w E top bl) (hv : ∀ k, k ≠ K → vOf E' k = vOf E k) (hk : ∀ k, (∃ x ∈ E', x.k = k) ↔ k ≠ K ∧ ∃ x ∈ E, x.k = k) (hin : ∃ x ∈ E, x.k = K) :
    Calls Tryd.prog 33 #[.pointer top, .agg (hc K).toArray] w fun e w' => ∃ top' bl', e = .returned (.pointer top') ∧ Chg w w' bl ∧ TopS w' E' top' bl' ∧ ∀ g ∈ bl', g ∈ bl := by
  rcases h with ⟨h1, rfl, rfl⟩ | ⟨b, t, rfl, ok, h3, h4, h5⟩
  · obtain ⟨x, hx, _⟩ := hin
    rw [h1] at hx; cases hx
  · have hkt : K ∈ t.keys := (h3 K).2 hin
    have hp := Tr.del_keys K ok hkt
    have hnd := Tr.ok.nodup ok
    have hn1 := hp.nodup_iff.1 hnd
    refine (without_all hK ok hkt w (vOf E) (vOf E') b bl h4 h5 (fun k _ hne => (hv k hne).symm)).mono ?_
    rintro e w' ⟨v, rfl, hc, ht⟩
    have hkeys : ∀ k, k ∈ keysO (t.del K) ↔ ∃ x ∈ E', x.k = k := fun k => by
      rw [hk k, ← h3 k, hp.mem_iff, List.mem_cons]
      constructor
      · intro hm
        exact ⟨fun e => by subst e; exact (List.nodup_cons.1 hn1).1 hm, .inr hm⟩
      · rintro ⟨h1, h2 | h2⟩
        · exact absurd h2 h1
        · exact h2
    cases hd : t.del K with
    | none =>
      rw [hd] at ht hkeys
      obtain rfl : v = .pointer none := ht
      refine ⟨none, [], rfl, hc, .inl ⟨?_, rfl, rfl⟩, fun g hg => by cases hg⟩
      cases E' with
      | nil => rfl
      | cons x E'' =>
        have := (hkeys x.k).2 ⟨x, by simp, rfl⟩
        cases this
    | some t' =>
      rw [hd] at ht hkeys
      obtain ⟨b', bl', rfl, ht, nd, hin'⟩ := ht
      exact ⟨_, bl', rfl, hc, .inr ⟨b', t', rfl, (Tr.del_ok K ok hkt hd).1, hkeys, ht, nd⟩, hin'⟩
theorem forget_top (hK : KyOk K) (h : TopS w E top bl) (hv : ∀ k, k ≠ K → vOf E' k = vOf E k) (hk : ∀ k, (∃ x ∈ E', x.k = k) ↔ ∃ x ∈ E, x.k = k) (hin : ∃ x ∈ E, x.k = K) :
    Calls Tryd.prog 34 #[.pointer top, .agg (hc K).toArray] w fun e w' => e = .returned (.tuple #[]) ∧ Chg w w' bl ∧ TopS w' E' top bl := by
  rcases h with ⟨h1, rfl, rfl⟩ | ⟨b, t, rfl, ok, h3, h4, h5⟩
  · obtain ⟨x, hx, _⟩ := hin
    rw [h1] at hx; cases hx
  · refine (forget_any hK ok ((h3 K).2 hin) h4 h5 (V' := vOf E') (fun k _ hne => (hv k hne).symm)).mono ?_
    rintro e w' ⟨rfl, hc, ht⟩
    exact ⟨rfl, hc, .inr ⟨b, t, rfl, ok, fun k => by rw [h3 k, hk k], ht, h5⟩⟩
end
end Go.Proofs.YtjlodnecdngdfaaDoor
namespace Go.Proofs.YtjlodnecdngdfaaDoor
open Go.RowKit
set_option maxRecDepth 100000

set_option maxHeartbeats 16000000 in
theorem Put_all {w : World} {p m c : Nat} {E : List En} {top : Option Addr} {bl : List Nat} {Ky V : List Int} (hKy : KyOk Ky) (hV : V.length = 32) (bV : Bytes V) (hM : MapS w p m E c top bl) (hle : E.length < 4096) :
    Calls Tryd.prog 13 #[.pointer (some ⟨p, 0, none⟩), .agg (hc Ky).toArray, .agg (hc V).toArray] w (PutQ w p m E bl Ky V) := by
  unfold PutQ
  have HKY := Lib.hid hKy
  have LV := Lib.hid hV
  have BV := Lib.hid bV
  have HLE := Lib.hid hle
  have HK := Lib.hid (((HashAt.new w Ky).alloc (.cells (hc V).toArray 24)))
  have HV := Lib.hid (HashAt.new (w.alloc (.cells (hc Ky).toArray 24)) V)
  have B0 := Lib.hid (((Below.refl w.heap.size w).alloc (Nat.le_refl _) (.cells (hc Ky).toArray 24)).alloc (by simp) (.cells (hc V).toArray 24))
  have M0 := Lib.hid ((hM.on ((Below.refl w.heap.size w).alloc (Nat.le_refl _) (.cells (hc Ky).toArray 24))).on ((Below.refl _ _).alloc (Nat.le_refl _) (.cells (hc V).toArray 24)))
  have HMP := Lib.hid hM.s.lp
  have HMM := Lib.hid hM.s.lm
  have HPM := Lib.hid hM.s.ne
  have LTB := Lib.hid hM.t.lt
  have c00 := M0.out.s.c0
  have hlk := hc_len Ky
  have hlv := hc_len V
  have lk32 := hKy.len
  have lv32 := hV
  have z32 := zero32_len
  have hW0 : Hid (((w.alloc (.cells (hc Ky).toArray 24)).alloc (.cells (hc V).toArray 24)).heap.size = w.heap.size + 2) := by show _ = _; simp
  simp only [World.size_alloc] at HV
  have lookE := fun (ok : Bool) {W : World} {cc : Nat} (hb : W.heap[m]? = some (.map (mes E) cc)) => look_any (c := cc) (w := W) ok hb hM.e.b.ok hKy.len
  have EW := Lib.hid hM.e
  have LO : Hid ((vOf E Ky).length = 32) := (vOf_ok hM.e.b Ky).1
  obtain ⟨O, hO⟩ : ∃ O, vOf E Ky = O := ⟨_, rfl⟩
  have HO := Lib.hid hO
  obtain ⟨Y, hY⟩ : ∃ Y, fndE Ky E 0 = Y := ⟨_, rfl⟩
  have HY := Lib.hid hY
  rw [hO, hY] at lookE
  rw [hO] at LO
  clear hM hKy hV bV hle hO hY
  go_enter Tryd.func13, Tryd.ntmps13
  go_wp2_with fail
  refine (made_yes c00).mono ?_
  rintro e wn ⟨rfl, h⟩
  obtain rfl := h.symm
  clear h
  go_wp2_with fail
  generalize ((w.alloc (.cells (hc Ky).toArray 24)).alloc (.cells (hc V).toArray 24)) = w0 at *
  refine wp_region_held_drew (S := fun W => Below w0.drew.heap.size w0.drew W) (by kernel_rfl) (Below.refl _ _) (fun h0 => ?_)
  replace M0 := Lib.hid (M0.out.on ((Below.refl _ _).drew))
  replace HK := Lib.hid (HK.out.on ((Below.refl _ _).drew))
  replace HV := Lib.hid (HV.out.on ((Below.refl _ _).drew))
  replace B0 := Lib.hid B0.out.drew
  replace hW0 : Hid (w0.drew.heap.size = w.heap.size + 2) := hW0
  clear c00
  generalize w0.drew = w0 at *
  refine wpAnyH_take (i := 0) (v := ?_) (by rw [List.getElem?_toArray]; rfl) (by kernel_rfl) (by kernel_rfl) (by kernel_rfl) (by exact fun _ _ _ h => h) (Or.inl ⟨by rfl, ?_⟩) h0 ?_
  rotate_left
  · intro W hW
    go_simp
    all_goals with_reducible rfl
  try simp only [Act.put, List.setIfInBounds_toArray, List.set_cons_zero, List.set_cons_succ]
  refine wpAnyH_take (i := 1) (v := ?_) (by rw [List.getElem?_toArray]; rfl) (by kernel_rfl) (by kernel_rfl) (by kernel_rfl) (by exact fun _ _ _ h => h) (Or.inl ⟨by rfl, ?_⟩) h0 ?_
  rotate_left
  · intro W hW
    go_simp
    all_goals with_reducible rfl
  try simp only [Act.put, List.setIfInBounds_toArray, List.set_cons_zero, List.set_cons_succ]
  refine wpAnyH_take (i := 2) (v := ?_) (by rw [List.getElem?_toArray]; rfl) (by kernel_rfl) (by kernel_rfl) (by kernel_rfl) (by exact fun _ _ _ h => h) (Or.inl ⟨by rfl, ?_⟩) h0 ?_
  rotate_left
  · intro W hW
    go_simp
    all_goals with_reducible rfl
  try simp only [Act.put, List.setIfInBounds_toArray, List.set_cons_zero, List.set_cons_succ]
  refine wpAnyH_take (i := 3) (v := ?_) (by rw [List.getElem?_toArray]; rfl) (by kernel_rfl) (by kernel_rfl) (by kernel_rfl) (by exact fun _ _ _ h => h) (Or.inl ⟨by rfl, ?_⟩) h0 ?_
  rotate_left
  · intro W hW
    have cc := (M0.out.on hW).s.c0
    go_simp
    all_goals with_reducible rfl
  try simp only [Act.put, List.setIfInBounds_toArray, List.set_cons_zero, List.set_cons_succ]
  refine wpAnyH_take (i := 4) (v := ?_) (by rw [List.getElem?_toArray]; rfl) (by kernel_rfl) (by kernel_rfl) (by kernel_rfl) (by exact fun _ _ _ h => h) (Or.inl ⟨by rfl, ?_⟩) h0 ?_
  rotate_left
  · intro W hW
    have cc := (HK.out.on hW).row HKY.out.len
    go_simp
    all_goals with_reducible rfl
  try simp only [Act.put, List.setIfInBounds_toArray, List.set_cons_zero, List.set_cons_succ]
  refine wpAnyH_take (i := 5) (v := ?_) (by rw [List.getElem?_toArray]; rfl) (by kernel_rfl) (by kernel_rfl) (by kernel_rfl) (by exact fun _ _ _ h => h) (Or.inl ⟨by rfl, ?_⟩) h0 ?_
  rotate_left
  · intro W hW
    have cc := lookE true (M0.out.on hW).s.mp
    go_simp
    all_goals with_reducible rfl
  try simp only [Act.put, List.setIfInBounds_toArray, List.set_cons_zero, List.set_cons_succ]
  refine wpAnyH_take (i := 6) (v := ?_) (by rw [List.getElem?_toArray]; rfl) (by kernel_rfl) (by kernel_rfl) (by kernel_rfl) (by exact fun _ _ _ h => h) (Or.inl ⟨by rfl, ?_⟩) h0 ?_
  rotate_left
  · intro W hW
    go_simp
    all_goals with_reducible rfl
  try simp only [Act.put, List.setIfInBounds_toArray, List.set_cons_zero, List.set_cons_succ]
  refine wpAnyH_take (i := 7) (v := ?_) (by rw [List.getElem?_toArray]; rfl) (by kernel_rfl) (by kernel_rfl) (by kernel_rfl) (by exact fun _ _ _ h => h) (Or.inl ⟨by rfl, ?_⟩) h0 ?_
  rotate_left
  · intro W hW
    go_simp
    all_goals with_reducible rfl
  try simp only [Act.put, List.setIfInBounds_toArray, List.set_cons_zero, List.set_cons_succ]
  refine wpAnyH_take (i := 8) (v := ?_) (by rw [List.getElem?_toArray]; rfl) (by kernel_rfl) (by kernel_rfl) (by kernel_rfl) (by exact fun _ _ _ h => h) (Or.inl ⟨by rfl, ?_⟩) h0 ?_
  rotate_left
  · intro W hW
    go_simp
    all_goals with_reducible rfl
  try simp only [Act.put, List.setIfInBounds_toArray, List.set_cons_zero, List.set_cons_succ]
  refine wpAnyH_ready (rs := [9]) (by kernel_rfl) (by simp) ?_
  refine AllReadyH.cons (by rw [List.getElem?_toArray]; rfl) (fun K hK => ?_) AllReadyH.nil
  rw [if_pos (by rfl)]
  have Z1 := Lib.hid (HashAt.new w0 zero32)
  go_wp2_with fail
  refine hK.out _ _ (h0.alloc h0.size _) (fun h1 => ?_)
  clear hK K
  try simp only [Act.put, List.setIfInBounds_toArray, List.set_cons_zero, List.set_cons_succ]
  refine wpAnyH_ready (rs := [10]) (by kernel_rfl) (by simp) ?_
  refine AllReadyH.cons (by rw [List.getElem?_toArray]; rfl) (fun K hK => ?_) AllReadyH.nil
  rw [if_pos (by rfl)]
  have th1 := Z1.out.there zero32_len
  have P1 := Lib.hid (Z1.out.put zero32_len LO.out)
  have B1 : Below w0.heap.size w0 ((w0.alloc (.cells (hc zero32).toArray 24)).setCells w0.heap.size 0 (hc O)) := below_setCells' _ (Nat.le_refl _) _ _ h1
  have ols := hc_len O
  have lol := LO.out
  go_wp2_with fail
  refine hK.out _ _ (B1) (fun h2 => ?_)
  clear hK K
  try simp only [Act.put, List.setIfInBounds_toArray, List.set_cons_zero, List.set_cons_succ]
  refine wpAnyH_take (i := 11) (v := ?_) (by rw [List.getElem?_toArray]; rfl) (by kernel_rfl) (by kernel_rfl) (by kernel_rfl) (by exact fun _ _ _ h => h) (Or.inl ⟨by rfl, ?_⟩) h2 ?_
  rotate_left
  · intro W hW
    go_simp
    all_goals with_reducible rfl
  try simp only [Act.put, List.setIfInBounds_toArray, List.set_cons_zero, List.set_cons_succ]
  refine wpAnyH_done (by kernel_rfl) ?_ _
  have rv := (HV.out.on B1).row LV.out
  have ro := P1.out.row LO.out
  have Mx := Lib.hid (M0.out.on B1)
  have HKx := Lib.hid (HK.out.on B1)
  have HVx := Lib.hid (HV.out.on B1)
  have cx := Mx.out.s.c0
  have hln := run_len_at (P := Tryd.prog) 3 Tryd.underlying53 Mx.out.s.mp
  have Bx := Lib.hid (B0.out.trans (B1.mono B0.out.size))
  have lo32 := LO.out
  have HSX : Hid (w.heap.size + 2 ≤ ((w0.alloc (.cells (hc zero32).toArray 24)).setCells w0.heap.size 0 (hc O)).heap.size) := by show _ ≤ _; have := B1.size; have := hW0.out; omega
  clear h2 h1 P1 Z1 th1 M0 HK HV lookE
  generalize (w0.alloc (.cells (hc zero32).toArray 24)).setCells w0.heap.size 0 (hc O) = w2 at *
  clear B1
  have hsz : (mes E).size = E.length := by simp [mes]
  rw [hsz] at hln
  have ge4 : decide ((E.length : Int) ≥ 4096) = false := decide_eq_false (by have := HLE.out; omega)
  have ge5 : decide (4096 ≤ E.length) = false := decide_eq_false (by have := HLE.out; omega)
  clear hsz B0
  by_cases hov : O = V
  · as_aux_lemma =>
    have HOV := Lib.hid hov
    have e1 : (O == V) = true := by rw [hov]; exact beq_self_eq_true _
    clear hov
    go_wp2_with fail
    go_ret
    refine ⟨rfl, Chg.below Bx.out (Nat.le_refl _) _, E, _, _, bl, Mx.out, fun g hg => .inl hg, fun k => ?_, by omega, by omega⟩
    by_cases hk : k = Ky
    · rw [if_pos hk, hk, HO.out, HOV.out]
    · rw [if_neg hk]
  have e1 : (O == V) = false := by simpa using hov
  have HOV := Lib.hid hov
  clear hov
  by_cases hz : V = zero32
  · as_aux_lemma =>
    have HZ := Lib.hid hz
    have e2 : (V == zero32) = true := by rw [hz]; exact beq_self_eq_true _
    clear hz
    have hin : ∃ x ∈ E, x.k = Ky := EW.out.key.2 (by rw [HO.out]; intro e; exact HOV.out (by rw [e, HZ.out]))
    have HIN := Lib.hid hin
    rcases hY : Y with _ | ⟨i, v0⟩
    · obtain ⟨x, hx, e⟩ := hin
      exact absurd e (fnd_none (by rw [HY.out, hY]) x hx)
    have HF : Hid (fndE Ky E 0 = some (i, v0)) := by show _ = _; rw [HY.out, hY]
    clear hY hin
    have GONE := Lib.hid (EW.out.gone HF.out)
    go_wp2_with fail
    refine wp_region_held_drew (S := fun W => W.cell? ⟨p, 0, none⟩ = some (.map (some m)) ∧ HashAt W w.heap.size Ky) (by kernel_rfl) (⟨(Mx.out.s.on ((Below.refl _ _).drew)).c0, HKx.out.on ((Below.refl _ _).drew)⟩) (fun h0 => ?_)
    replace Mx := Lib.hid (Mx.out.on ((Below.refl _ _).drew))
    replace HKx := Lib.hid (HKx.out.on ((Below.refl _ _).drew))
    replace HVx := Lib.hid (HVx.out.on ((Below.refl _ _).drew))
    replace Bx := Lib.hid Bx.out.drew
    replace HSX : Hid (w.heap.size + 2 ≤ w2.drew.heap.size) := HSX
    clear cx hln rv ro
    generalize w2.drew = w2 at *
    refine wpAnyH_take (i := 0) (v := ?_) (by rw [List.getElem?_toArray]; rfl) (by kernel_rfl) (by kernel_rfl) (by kernel_rfl) (by exact fun _ _ _ h => h) (Or.inl ⟨by rfl, ?_⟩) h0 ?_
    rotate_left
    · intro W hW
      go_simp
      all_goals with_reducible rfl
    try simp only [Act.put, List.setIfInBounds_toArray, List.set_cons_zero, List.set_cons_succ]
    refine wpAnyH_take (i := 1) (v := ?_) (by rw [List.getElem?_toArray]; rfl) (by kernel_rfl) (by kernel_rfl) (by kernel_rfl) (by exact fun _ _ _ h => h) (Or.inl ⟨by rfl, ?_⟩) h0 ?_
    rotate_left
    · intro W hW
      go_simp
      all_goals with_reducible rfl
    try simp only [Act.put, List.setIfInBounds_toArray, List.set_cons_zero, List.set_cons_succ]
    refine wpAnyH_take (i := 2) (v := ?_) (by rw [List.getElem?_toArray]; rfl) (by kernel_rfl) (by kernel_rfl) (by kernel_rfl) (by exact fun _ _ _ h => h) (Or.inl ⟨by rfl, ?_⟩) h0 ?_
    rotate_left
    · intro W hW
      go_simp
      all_goals with_reducible rfl
    try simp only [Act.put, List.setIfInBounds_toArray, List.set_cons_zero, List.set_cons_succ]
    refine wpAnyH_take (i := 3) (v := ?_) (by rw [List.getElem?_toArray]; rfl) (by kernel_rfl) (by kernel_rfl) (by kernel_rfl) (by exact fun _ _ _ h => h) (Or.inl ⟨by rfl, ?_⟩) h0 ?_
    rotate_left
    · intro W hW
      have cc := hW.1
      go_simp
      all_goals with_reducible rfl
    try simp only [Act.put, List.setIfInBounds_toArray, List.set_cons_zero, List.set_cons_succ]
    refine wpAnyH_take (i := 4) (v := ?_) (by rw [List.getElem?_toArray]; rfl) (by kernel_rfl) (by kernel_rfl) (by kernel_rfl) (by exact fun _ _ _ h => h) (Or.inl ⟨by rfl, ?_⟩) h0 ?_
    rotate_left
    · intro W hW
      have cc := hW.2.row HKY.out.len
      go_simp
      all_goals with_reducible rfl
    try simp only [Act.put, List.setIfInBounds_toArray, List.set_cons_zero, List.set_cons_succ]
    refine wpAnyH_ready (rs := [5]) (by kernel_rfl) (by simp) ?_
    refine AllReadyH.cons (by rw [List.getElem?_toArray]; rfl) (fun K hK => ?_) AllReadyH.nil
    rw [if_pos (by rfl)]
    have hup := fun ty => del_any (K := Ky) (i := i) (V := v0) ty Mx.out.s.mp EW.out.b.ok HKY.out.len HF.out
    have hs3 := putMap_size w2 m (mes (E.eraseIdx i)) c
    have M3 := Lib.hid (Mx.out.s.putMap (mes (E.eraseIdx i)) c)
    have T3 := Lib.hid (Mx.out.t.chg (putMap_chg w2 m (mes (E.eraseIdx i)) c) (fun g h1 h2 => Mx.out.m (by obtain rfl := List.mem_singleton.1 h2; exact h1)))
    have K3 : Hid (HashAt (putMap w2 m (mes (E.eraseIdx i)) c) w.heap.size Ky) := by
      show _ = _
      rw [putMap_other (by have := HMM.out; omega)]; exact HKx.out
    have C3 := Lib.hid ((Chg.below Bx.out (Nat.le_refl _) (p :: m :: bl)).putMap (b := m) (.inl (by simp)) (mes (E.eraseIdx i)) c)
    have c3 := M3.out.c0
    go_wp2_with fail
    refine hK.out _ _ (⟨c3, K3.out⟩) (fun h3 => ?_)
    clear hK K
    try simp only [Act.put, List.setIfInBounds_toArray, List.set_cons_zero, List.set_cons_succ]
    refine wpAnyH_done (by kernel_rfl) ?_ _
    have CX := Lib.hid Mx.out
    clear h3 h0 c3 Mx HKx HVx hup Bx
    have hs4 : Hid (w.heap.size + 2 ≤ (putMap w2 m (mes (E.eraseIdx i)) c).heap.size) := by show _ ≤ _; rw [hs3]; exact HSX.out
    clear hs3
    generalize putMap w2 m (mes (E.eraseIdx i)) c = w3 at *
    go_wp2_with fail
    refine wp_region_held_drew (S := fun W => HashAt W w.heap.size Ky) (by kernel_rfl) (K3.out.on ((Below.refl _ _).drew)) (fun h0 => ?_)
    replace M3 := Lib.hid (M3.out.on ((Below.refl _ _).drew))
    replace T3 := Lib.hid (T3.out.on ((Below.refl _ _).drew))
    replace K3 := Lib.hid (K3.out.on ((Below.refl _ _).drew))
    replace C3 := Lib.hid C3.out.drew
    replace hs4 : Hid (w.heap.size + 2 ≤ w3.drew.heap.size) := hs4
    generalize w3.drew = w3 at *
    refine wpAnyH_take (i := 0) (v := ?_) (by rw [List.getElem?_toArray]; rfl) (by kernel_rfl) (by kernel_rfl) (by kernel_rfl) (by exact fun _ _ _ h => h) (Or.inl ⟨by rfl, ?_⟩) h0 ?_
    rotate_left
    · intro W hW
      go_simp
      all_goals with_reducible rfl
    try simp only [Act.put, List.setIfInBounds_toArray, List.set_cons_zero, List.set_cons_succ]
    refine wpAnyH_take (i := 1) (v := ?_) (by rw [List.getElem?_toArray]; rfl) (by kernel_rfl) (by kernel_rfl) (by kernel_rfl) (by exact fun _ _ _ h => h) (Or.inl ⟨by rfl, ?_⟩) h0 ?_
    rotate_left
    · intro W hW
      go_simp
      all_goals with_reducible rfl
    try simp only [Act.put, List.setIfInBounds_toArray, List.set_cons_zero, List.set_cons_succ]
    refine wpAnyH_take (i := 2) (v := ?_) (by rw [List.getElem?_toArray]; rfl) (by kernel_rfl) (by kernel_rfl) (by kernel_rfl) (by exact fun _ _ _ h => h) (Or.inl ⟨by rfl, ?_⟩) h0 ?_
    rotate_left
    · intro W hW
      go_simp
      all_goals with_reducible rfl
    try simp only [Act.put, List.setIfInBounds_toArray, List.set_cons_zero, List.set_cons_succ]
    refine wpAnyH_take (i := 3) (v := ?_) (by rw [List.getElem?_toArray]; rfl) (by kernel_rfl) (by kernel_rfl) (by kernel_rfl) (by exact fun _ _ _ h => h) (Or.inl ⟨by rfl, ?_⟩) h0 ?_
    rotate_left
    · intro W hW
      go_simp
      all_goals with_reducible rfl
    try simp only [Act.put, List.setIfInBounds_toArray, List.set_cons_zero, List.set_cons_succ]
    refine wpAnyH_take (i := 5) (v := ?_) (by rw [List.getElem?_toArray]; rfl) (by kernel_rfl) (by kernel_rfl) (by kernel_rfl) (by exact fun _ _ _ h => h) (Or.inl ⟨by rfl, ?_⟩) h0 ?_
    rotate_left
    · intro W hW
      have cc := hW.row HKY.out.len
      go_simp
      all_goals with_reducible rfl
    try simp only [Act.put, List.setIfInBounds_toArray, List.set_cons_zero, List.set_cons_succ]
    refine wpAnyH_ready (rs := [4]) (by kernel_rfl) (by simp) ?_
    refine AllReadyH.cons (by rw [List.getElem?_toArray]; rfl) (fun K hK => ?_) AllReadyH.nil
    rw [if_pos (by rfl)]
    have ct := M3.out.c1
    go_wp2_with fail
    refine hK.out _ _ (h0) (fun h4 => ?_)
    clear hK K
    try simp only [Act.put, List.setIfInBounds_toArray, List.set_cons_zero, List.set_cons_succ]
    refine wpAnyH_ready (rs := [6]) (by kernel_rfl) (by simp) ?_
    refine AllReadyH.cons (by rw [List.getElem?_toArray]; rfl) (fun K hK => ?_) AllReadyH.nil
    rw [if_pos (by rfl)]
    go_wp2_with fail
    refine (without_top (E' := E.eraseIdx i) HKY.out T3.out (fun k hk => by rw [GONE.out.2.1 k, if_neg hk]) (fun k => by rw [GONE.out.1.key, GONE.out.2.1 k, EW.out.key]; by_cases hk : k = Ky <;> simp [hk]) HIN.out).mono ?_
    rintro e w4 ⟨top4, bl4, rfl, c4, t4, in4⟩
    have M4 := Lib.hid (M3.out.chg c4 CX.out.p CX.out.m)
    have C4 := Lib.hid (C3.out.trans (T := p :: m :: bl) (c4.wider (fun g hg => by simp [hg])) (fun g hg _ => hg))
    have K4 := Lib.hid (K3.out.chg' c4 (fun h => by have := CX.out.t.lt; have := LTB.out _ h; omega))
    have T4 := Lib.hid t4
    have IN4 := Lib.hid in4
    go_wp2_with fail
    refine hK.out _ _ (K4.out) (fun h5 => ?_)
    clear hK K
    try simp only [Act.put, List.setIfInBounds_toArray, List.set_cons_zero, List.set_cons_succ]
    refine wpAnyH_take (i := 7) (v := ?_) (by rw [List.getElem?_toArray]; rfl) (by kernel_rfl) (by kernel_rfl) (by kernel_rfl) (by exact fun _ _ _ h => h) (Or.inl ⟨by rfl, ?_⟩) h5 ?_
    rotate_left
    · intro W hW
      go_simp
      all_goals with_reducible rfl
    try simp only [Act.put, List.setIfInBounds_toArray, List.set_cons_zero, List.set_cons_succ]
    refine wpAnyH_take (i := 8) (v := ?_) (by rw [List.getElem?_toArray]; rfl) (by kernel_rfl) (by kernel_rfl) (by kernel_rfl) (by exact fun _ _ _ h => h) (Or.inl ⟨by rfl, ?_⟩) h5 ?_
    rotate_left
    · intro W hW
      go_simp
      all_goals with_reducible rfl
    try simp only [Act.put, List.setIfInBounds_toArray, List.set_cons_zero, List.set_cons_succ]
    refine wpAnyH_ready (rs := [9]) (by kernel_rfl) (by simp) ?_
    refine AllReadyH.cons (by rw [List.getElem?_toArray]; rfl) (fun K hK => ?_) AllReadyH.nil
    rw [if_pos (by rfl)]
    have ct2 := M4.out.c1
    have cf2 : w4.frozen? ⟨p, 1, none⟩ = false := Joins.unfrozen_of_block M4.out.blk 1
    have M5 := Lib.hid (M4.out.setTop top4)
    have C5 := Lib.hid (C4.out.setCell (p := ⟨p, 1, none⟩) (.inl (by simp)) (.pointer top4))
    have D5 := Lib.hid ((Chg.refl w4 [p]).setCell (p := ⟨p, 1, none⟩) (.inl (by simp)) (.pointer top4))
    have K5 := Lib.hid (K4.out.other (a := ⟨p, 1, none⟩) (by have := HMP.out; simp; omega) (.pointer top4))
    go_wp2_with fail
    refine hK.out _ _ (K5.out) (fun h6 => ?_)
    clear hK K
    try simp only [Act.put, List.setIfInBounds_toArray, List.set_cons_zero, List.set_cons_succ]
    refine wpAnyH_done (by kernel_rfl) ?_ _
    go_wp2_with fail
    go_ret
    have hg := GONE.out
    refine ⟨rfl, C5.out, E.eraseIdx i, c, top4, bl4, ⟨M5.out, T4.out.chg D5.out (fun g h1 h2 => CX.out.p (by obtain rfl := List.mem_singleton.1 h2; exact IN4.out _ h1)), hg.1, CX.out.n.gone i, fun h => CX.out.p (IN4.out _ h), fun h => CX.out.m (IN4.out _ h)⟩, fun g h => .inl (IN4.out g h), fun k => ?_, by omega, by omega⟩
    rw [hg.2.1 k, HZ.out]
  have e2 : (V == zero32) = false := by simpa using hz
  have HZ := Lib.hid hz
  clear hz
  rcases hY : Y with _ | ⟨i, v0⟩
  · as_aux_lemma =>
    have HF : Hid (fndE Ky E 0 = none) := by show _ = _; rw [HY.out, hY]
    clear hY
    have MORE := Lib.hid (EW.out.more c HKY.out LV.out BV.out HZ.out HF.out)
    have HNO := Lib.hid (fnd_none HF.out)
    go_wp2_with fail
    refine wp_region_held_drew (S := fun W => W.cell? ⟨p, 0, none⟩ = some (.map (some m)) ∧ HashAt W w.heap.size Ky ∧ HashAt W (w.heap.size + 1) V) (by kernel_rfl) (⟨(Mx.out.s.on ((Below.refl _ _).drew)).c0, HKx.out.on ((Below.refl _ _).drew), HVx.out.on ((Below.refl _ _).drew)⟩) (fun h0 => ?_)
    replace Mx := Lib.hid (Mx.out.on ((Below.refl _ _).drew))
    replace HKx := Lib.hid (HKx.out.on ((Below.refl _ _).drew))
    replace HVx := Lib.hid (HVx.out.on ((Below.refl _ _).drew))
    replace Bx := Lib.hid Bx.out.drew
    replace HSX : Hid (w.heap.size + 2 ≤ w2.drew.heap.size) := HSX
    clear cx hln rv ro
    generalize w2.drew = w2 at *
    refine wpAnyH_take (i := 0) (v := ?_) (by rw [List.getElem?_toArray]; rfl) (by kernel_rfl) (by kernel_rfl) (by kernel_rfl) (by exact fun _ _ _ h => h) (Or.inl ⟨by rfl, ?_⟩) h0 ?_
    rotate_left
    · intro W hW
      go_simp
      all_goals with_reducible rfl
    try simp only [Act.put, List.setIfInBounds_toArray, List.set_cons_zero, List.set_cons_succ]
    refine wpAnyH_take (i := 1) (v := ?_) (by rw [List.getElem?_toArray]; rfl) (by kernel_rfl) (by kernel_rfl) (by kernel_rfl) (by exact fun _ _ _ h => h) (Or.inl ⟨by rfl, ?_⟩) h0 ?_
    rotate_left
    · intro W hW
      go_simp
      all_goals with_reducible rfl
    try simp only [Act.put, List.setIfInBounds_toArray, List.set_cons_zero, List.set_cons_succ]
    refine wpAnyH_take (i := 2) (v := ?_) (by rw [List.getElem?_toArray]; rfl) (by kernel_rfl) (by kernel_rfl) (by kernel_rfl) (by exact fun _ _ _ h => h) (Or.inl ⟨by rfl, ?_⟩) h0 ?_
    rotate_left
    · intro W hW
      go_simp
      all_goals with_reducible rfl
    try simp only [Act.put, List.setIfInBounds_toArray, List.set_cons_zero, List.set_cons_succ]
    refine wpAnyH_take (i := 3) (v := ?_) (by rw [List.getElem?_toArray]; rfl) (by kernel_rfl) (by kernel_rfl) (by kernel_rfl) (by exact fun _ _ _ h => h) (Or.inl ⟨by rfl, ?_⟩) h0 ?_
    rotate_left
    · intro W hW
      have cc := hW.1
      go_simp
      all_goals with_reducible rfl
    try simp only [Act.put, List.setIfInBounds_toArray, List.set_cons_zero, List.set_cons_succ]
    refine wpAnyH_take (i := 4) (v := ?_) (by rw [List.getElem?_toArray]; rfl) (by kernel_rfl) (by kernel_rfl) (by kernel_rfl) (by exact fun _ _ _ h => h) (Or.inl ⟨by rfl, ?_⟩) h0 ?_
    rotate_left
    · intro W hW
      have cc := hW.2.1.row HKY.out.len
      go_simp
      all_goals with_reducible rfl
    try simp only [Act.put, List.setIfInBounds_toArray, List.set_cons_zero, List.set_cons_succ]
    refine wpAnyH_take (i := 5) (v := ?_) (by rw [List.getElem?_toArray]; rfl) (by kernel_rfl) (by kernel_rfl) (by kernel_rfl) (by exact fun _ _ _ h => h) (Or.inl ⟨by rfl, ?_⟩) h0 ?_
    rotate_left
    · intro W hW
      have cc := hW.2.2.row LV.out
      go_simp
      all_goals with_reducible rfl
    try simp only [Act.put, List.setIfInBounds_toArray, List.set_cons_zero, List.set_cons_succ]
    refine wpAnyH_ready (rs := [6]) (by kernel_rfl) (by simp) ?_
    refine AllReadyH.cons (by rw [List.getElem?_toArray]; rfl) (fun K hK => ?_) AllReadyH.nil
    rw [if_pos (by rfl)]
    have hup := upd_new (V := V) Mx.out.s.mp EW.out.b.ok HKY.out.len HF.out
    have hs3 := putMap_size w2 m (mes (E ++ [⟨Ky, V, c⟩])) (c + 1)
    have M3 := Lib.hid (Mx.out.s.putMap (mes (E ++ [⟨Ky, V, c⟩])) (c + 1))
    have T3 := Lib.hid (Mx.out.t.chg (putMap_chg w2 m (mes (E ++ [⟨Ky, V, c⟩])) (c + 1)) (fun g h1 h2 => Mx.out.m (by obtain rfl := List.mem_singleton.1 h2; exact h1)))
    have K3 : Hid (HashAt (putMap w2 m (mes (E ++ [⟨Ky, V, c⟩])) (c + 1)) w.heap.size Ky) := by
      show _ = _
      rw [putMap_other (by have := HMM.out; omega)]; exact HKx.out
    have V3 : Hid (HashAt (putMap w2 m (mes (E ++ [⟨Ky, V, c⟩])) (c + 1)) (w.heap.size + 1) V) := by
      show _ = _
      rw [putMap_other (by have := HMM.out; omega)]; exact HVx.out
    have C3 := Lib.hid ((Chg.below Bx.out (Nat.le_refl _) (p :: m :: bl)).putMap (b := m) (.inl (by simp)) (mes (E ++ [⟨Ky, V, c⟩])) (c + 1))
    have c3 := M3.out.c0
    go_wp2_with fail
    refine hK.out _ _ (⟨c3, K3.out, V3.out⟩) (fun h3 => ?_)
    clear hK K
    try simp only [Act.put, List.setIfInBounds_toArray, List.set_cons_zero, List.set_cons_succ]
    refine wpAnyH_done (by kernel_rfl) ?_ _
    have CX := Lib.hid Mx.out
    clear h3 h0 c3 V3 Mx HKx HVx hup Bx
    have hs4 : Hid (w.heap.size + 2 ≤ (putMap w2 m (mes (E ++ [⟨Ky, V, c⟩])) (c + 1)).heap.size) := by show _ ≤ _; rw [hs3]; exact HSX.out
    clear hs3
    generalize putMap w2 m (mes (E ++ [⟨Ky, V, c⟩])) (c + 1) = w3 at *
    go_wp2_with fail
    refine wp_region_held_drew (S := fun W => HashAt W w.heap.size Ky) (by kernel_rfl) (K3.out.on ((Below.refl _ _).drew)) (fun h0 => ?_)
    replace M3 := Lib.hid (M3.out.on ((Below.refl _ _).drew))
    replace T3 := Lib.hid (T3.out.on ((Below.refl _ _).drew))
    replace K3 := Lib.hid (K3.out.on ((Below.refl _ _).drew))
    replace C3 := Lib.hid C3.out.drew
    replace hs4 : Hid (w.heap.size + 2 ≤ w3.drew.heap.size) := hs4
    generalize w3.drew = w3 at *
    refine wpAnyH_take (i := 0) (v := ?_) (by rw [List.getElem?_toArray]; rfl) (by kernel_rfl) (by kernel_rfl) (by kernel_rfl) (by exact fun _ _ _ h => h) (Or.inl ⟨by rfl, ?_⟩) h0 ?_
    rotate_left
    · intro W hW
      go_simp
      all_goals with_reducible rfl
    try simp only [Act.put, List.setIfInBounds_toArray, List.set_cons_zero, List.set_cons_succ]
    refine wpAnyH_take (i := 1) (v := ?_) (by rw [List.getElem?_toArray]; rfl) (by kernel_rfl) (by kernel_rfl) (by kernel_rfl) (by exact fun _ _ _ h => h) (Or.inl ⟨by rfl, ?_⟩) h0 ?_
    rotate_left
    · intro W hW
      go_simp
      all_goals with_reducible rfl
    try simp only [Act.put, List.setIfInBounds_toArray, List.set_cons_zero, List.set_cons_succ]
    refine wpAnyH_take (i := 2) (v := ?_) (by rw [List.getElem?_toArray]; rfl) (by kernel_rfl) (by kernel_rfl) (by kernel_rfl) (by exact fun _ _ _ h => h) (Or.inl ⟨by rfl, ?_⟩) h0 ?_
    rotate_left
    · intro W hW
      go_simp
      all_goals with_reducible rfl
    try simp only [Act.put, List.setIfInBounds_toArray, List.set_cons_zero, List.set_cons_succ]
    refine wpAnyH_take (i := 3) (v := ?_) (by rw [List.getElem?_toArray]; rfl) (by kernel_rfl) (by kernel_rfl) (by kernel_rfl) (by exact fun _ _ _ h => h) (Or.inl ⟨by rfl, ?_⟩) h0 ?_
    rotate_left
    · intro W hW
      go_simp
      all_goals with_reducible rfl
    try simp only [Act.put, List.setIfInBounds_toArray, List.set_cons_zero, List.set_cons_succ]
    refine wpAnyH_take (i := 5) (v := ?_) (by rw [List.getElem?_toArray]; rfl) (by kernel_rfl) (by kernel_rfl) (by kernel_rfl) (by exact fun _ _ _ h => h) (Or.inl ⟨by rfl, ?_⟩) h0 ?_
    rotate_left
    · intro W hW
      have cc := hW.row HKY.out.len
      go_simp
      all_goals with_reducible rfl
    try simp only [Act.put, List.setIfInBounds_toArray, List.set_cons_zero, List.set_cons_succ]
    refine wpAnyH_ready (rs := [4]) (by kernel_rfl) (by simp) ?_
    refine AllReadyH.cons (by rw [List.getElem?_toArray]; rfl) (fun K hK => ?_) AllReadyH.nil
    rw [if_pos (by rfl)]
    have ct := M3.out.c1
    go_wp2_with fail
    refine hK.out _ _ (h0) (fun h4 => ?_)
    clear hK K
    try simp only [Act.put, List.setIfInBounds_toArray, List.set_cons_zero, List.set_cons_succ]
    refine wpAnyH_ready (rs := [6]) (by kernel_rfl) (by simp) ?_
    refine AllReadyH.cons (by rw [List.getElem?_toArray]; rfl) (fun K hK => ?_) AllReadyH.nil
    rw [if_pos (by rfl)]
    go_wp2_with fail
    refine (with_top (E' := E ++ [⟨Ky, V, c⟩]) HKY.out T3.out MORE.out.2 (fun k => by simp [or_comm, eq_comm]) HNO.out).mono ?_
    rintro e w4 ⟨top4, bl4, rfl, c4, t4, in4⟩
    have M4 := Lib.hid (M3.out.chg c4 CX.out.p CX.out.m)
    have C4 := Lib.hid (C3.out.trans (T := p :: m :: bl) (c4.wider (fun g hg => by simp [hg])) (fun g hg _ => hg))
    have K4 := Lib.hid (K3.out.chg' c4 (fun h => by have := CX.out.t.lt; have := LTB.out _ h; omega))
    have T4 := Lib.hid t4
    have IN4 := Lib.hid in4
    go_wp2_with fail
    refine hK.out _ _ (K4.out) (fun h5 => ?_)
    clear hK K
    try simp only [Act.put, List.setIfInBounds_toArray, List.set_cons_zero, List.set_cons_succ]
    refine wpAnyH_take (i := 7) (v := ?_) (by rw [List.getElem?_toArray]; rfl) (by kernel_rfl) (by kernel_rfl) (by kernel_rfl) (by exact fun _ _ _ h => h) (Or.inl ⟨by rfl, ?_⟩) h5 ?_
    rotate_left
    · intro W hW
      go_simp
      all_goals with_reducible rfl
    try simp only [Act.put, List.setIfInBounds_toArray, List.set_cons_zero, List.set_cons_succ]
    refine wpAnyH_take (i := 8) (v := ?_) (by rw [List.getElem?_toArray]; rfl) (by kernel_rfl) (by kernel_rfl) (by kernel_rfl) (by exact fun _ _ _ h => h) (Or.inl ⟨by rfl, ?_⟩) h5 ?_
    rotate_left
    · intro W hW
      go_simp
      all_goals with_reducible rfl
    try simp only [Act.put, List.setIfInBounds_toArray, List.set_cons_zero, List.set_cons_succ]
    refine wpAnyH_ready (rs := [9]) (by kernel_rfl) (by simp) ?_
    refine AllReadyH.cons (by rw [List.getElem?_toArray]; rfl) (fun K hK => ?_) AllReadyH.nil
    rw [if_pos (by rfl)]
    have ct2 := M4.out.c1
    have cf2 : w4.frozen? ⟨p, 1, none⟩ = false := Joins.unfrozen_of_block M4.out.blk 1
    have M5 := Lib.hid (M4.out.setTop top4)
    have C5 := Lib.hid (C4.out.setCell (p := ⟨p, 1, none⟩) (.inl (by simp)) (.pointer top4))
    have D5 := Lib.hid ((Chg.refl w4 [p]).setCell (p := ⟨p, 1, none⟩) (.inl (by simp)) (.pointer top4))
    have K5 := Lib.hid (K4.out.other (a := ⟨p, 1, none⟩) (by have := HMP.out; simp; omega) (.pointer top4))
    go_wp2_with fail
    refine hK.out _ _ (K5.out) (fun h6 => ?_)
    clear hK K
    try simp only [Act.put, List.setIfInBounds_toArray, List.set_cons_zero, List.set_cons_succ]
    refine wpAnyH_done (by kernel_rfl) ?_ _
    go_wp2_with fail
    go_ret
    have hg := MORE.out
    have hnp : ∀ g ∈ bl4, g < w.heap.size → g ∈ bl := fun g h hl => by
      rcases IN4.out g h with h | h
      · exact h
      · have := hs4.out; omega
    refine ⟨rfl, C5.out, E ++ [⟨Ky, V, c⟩], c + 1, top4, bl4, ⟨M5.out, T4.out.chg D5.out (fun g h1 h2 => CX.out.p (by obtain rfl := List.mem_singleton.1 h2; exact hnp _ h1 HMP.out)), hg.1, CX.out.n.more Ky V, fun h => CX.out.p (hnp _ h HMP.out), fun h => CX.out.m (hnp _ h HMM.out)⟩, fun g h => (IN4.out g h).imp id (fun h => by have := hs4.out; omega), hg.2, by simp, by simp; omega⟩
  as_aux_lemma =>
    have HF : Hid (fndE Ky E 0 = some (i, v0)) := by show _ = _; rw [HY.out, hY]
    clear hY
    have OVER := Lib.hid (EW.out.over LV.out BV.out HZ.out HF.out)
    have HIN : Hid (∃ x ∈ E, x.k = Ky) := by
      obtain ⟨A, e, B, h1, h2, -⟩ := fnd_split HF.out
      exact ⟨e, by rw [h1]; simp, h2⟩
    have HKS : Hid (∀ k, (∃ x ∈ E.modify i fun e => { e with v := V }, x.k = k) ↔ ∃ x ∈ E, x.k = k) := fun k => by
      have := OVER.out.2.2
      constructor
      · rintro ⟨x, hx, rfl⟩
        have : x.k ∈ E.map (·.k) := by rw [← this]; exact List.mem_map.2 ⟨x, hx, rfl⟩
        obtain ⟨y, hy, e⟩ := List.mem_map.1 this
        exact ⟨y, hy, e⟩
      · rintro ⟨x, hx, rfl⟩
        have : x.k ∈ (E.modify i fun e => { e with v := V }).map (·.k) := by rw [this]; exact List.mem_map.2 ⟨x, hx, rfl⟩
        obtain ⟨y, hy, e⟩ := List.mem_map.1 this
        exact ⟨y, hy, e⟩
    go_wp2_with fail
    refine wp_region_held_drew (S := fun W => W.cell? ⟨p, 0, none⟩ = some (.map (some m)) ∧ HashAt W w.heap.size Ky ∧ HashAt W (w.heap.size + 1) V) (by kernel_rfl) (⟨(Mx.out.s.on ((Below.refl _ _).drew)).c0, HKx.out.on ((Below.refl _ _).drew), HVx.out.on ((Below.refl _ _).drew)⟩) (fun h0 => ?_)
    replace Mx := Lib.hid (Mx.out.on ((Below.refl _ _).drew))
    replace HKx := Lib.hid (HKx.out.on ((Below.refl _ _).drew))
    replace HVx := Lib.hid (HVx.out.on ((Below.refl _ _).drew))
    replace Bx := Lib.hid Bx.out.drew
    replace HSX : Hid (w.heap.size + 2 ≤ w2.drew.heap.size) := HSX
    clear cx hln rv ro
    generalize w2.drew = w2 at *
    refine wpAnyH_take (i := 0) (v := ?_) (by rw [List.getElem?_toArray]; rfl) (by kernel_rfl) (by kernel_rfl) (by kernel_rfl) (by exact fun _ _ _ h => h) (Or.inl ⟨by rfl, ?_⟩) h0 ?_
    rotate_left
    · intro W hW
      go_simp
      all_goals with_reducible rfl
    try simp only [Act.put, List.setIfInBounds_toArray, List.set_cons_zero, List.set_cons_succ]
    refine wpAnyH_take (i := 1) (v := ?_) (by rw [List.getElem?_toArray]; rfl) (by kernel_rfl) (by kernel_rfl) (by kernel_rfl) (by exact fun _ _ _ h => h) (Or.inl ⟨by rfl, ?_⟩) h0 ?_
    rotate_left
    · intro W hW
      go_simp
      all_goals with_reducible rfl
    try simp only [Act.put, List.setIfInBounds_toArray, List.set_cons_zero, List.set_cons_succ]
    refine wpAnyH_take (i := 2) (v := ?_) (by rw [List.getElem?_toArray]; rfl) (by kernel_rfl) (by kernel_rfl) (by kernel_rfl) (by exact fun _ _ _ h => h) (Or.inl ⟨by rfl, ?_⟩) h0 ?_
    rotate_left
    · intro W hW
      go_simp
      all_goals with_reducible rfl
    try simp only [Act.put, List.setIfInBounds_toArray, List.set_cons_zero, List.set_cons_succ]
    refine wpAnyH_take (i := 3) (v := ?_) (by rw [List.getElem?_toArray]; rfl) (by kernel_rfl) (by kernel_rfl) (by kernel_rfl) (by exact fun _ _ _ h => h) (Or.inl ⟨by rfl, ?_⟩) h0 ?_
    rotate_left
    · intro W hW
      have cc := hW.1
      go_simp
      all_goals with_reducible rfl
    try simp only [Act.put, List.setIfInBounds_toArray, List.set_cons_zero, List.set_cons_succ]
    refine wpAnyH_take (i := 4) (v := ?_) (by rw [List.getElem?_toArray]; rfl) (by kernel_rfl) (by kernel_rfl) (by kernel_rfl) (by exact fun _ _ _ h => h) (Or.inl ⟨by rfl, ?_⟩) h0 ?_
    rotate_left
    · intro W hW
      have cc := hW.2.1.row HKY.out.len
      go_simp
      all_goals with_reducible rfl
    try simp only [Act.put, List.setIfInBounds_toArray, List.set_cons_zero, List.set_cons_succ]
    refine wpAnyH_take (i := 5) (v := ?_) (by rw [List.getElem?_toArray]; rfl) (by kernel_rfl) (by kernel_rfl) (by kernel_rfl) (by exact fun _ _ _ h => h) (Or.inl ⟨by rfl, ?_⟩) h0 ?_
    rotate_left
    · intro W hW
      have cc := hW.2.2.row LV.out
      go_simp
      all_goals with_reducible rfl
    try simp only [Act.put, List.setIfInBounds_toArray, List.set_cons_zero, List.set_cons_succ]
    refine wpAnyH_ready (rs := [6]) (by kernel_rfl) (by simp) ?_
    refine AllReadyH.cons (by rw [List.getElem?_toArray]; rfl) (fun K hK => ?_) AllReadyH.nil
    rw [if_pos (by rfl)]
    have hup := upd_old (V := V) Mx.out.s.mp EW.out.b.ok HKY.out.len HKY.out.by_ HF.out
    have hs3 := putMap_size w2 m (mes (E.modify i fun e => { e with v := V })) c
    have M3 := Lib.hid (Mx.out.s.putMap (mes (E.modify i fun e => { e with v := V })) c)
    have T3 := Lib.hid (Mx.out.t.chg (putMap_chg w2 m (mes (E.modify i fun e => { e with v := V })) c) (fun g h1 h2 => Mx.out.m (by obtain rfl := List.mem_singleton.1 h2; exact h1)))
    have K3 : Hid (HashAt (putMap w2 m (mes (E.modify i fun e => { e with v := V })) c) w.heap.size Ky) := by
      show _ = _
      rw [putMap_other (by have := HMM.out; omega)]; exact HKx.out
    have V3 : Hid (HashAt (putMap w2 m (mes (E.modify i fun e => { e with v := V })) c) (w.heap.size + 1) V) := by
      show _ = _
      rw [putMap_other (by have := HMM.out; omega)]; exact HVx.out
    have C3 := Lib.hid ((Chg.below Bx.out (Nat.le_refl _) (p :: m :: bl)).putMap (b := m) (.inl (by simp)) (mes (E.modify i fun e => { e with v := V })) c)
    have c3 := M3.out.c0
    go_wp2_with fail
    refine hK.out _ _ (⟨c3, K3.out, V3.out⟩) (fun h3 => ?_)
    clear hK K
    try simp only [Act.put, List.setIfInBounds_toArray, List.set_cons_zero, List.set_cons_succ]
    refine wpAnyH_done (by kernel_rfl) ?_ _
    have CX := Lib.hid Mx.out
    clear h3 h0 c3 V3 Mx HKx HVx hup Bx
    have hs4 : Hid (w.heap.size + 2 ≤ (putMap w2 m (mes (E.modify i fun e => { e with v := V })) c).heap.size) := by show _ ≤ _; rw [hs3]; exact HSX.out
    clear hs3
    generalize putMap w2 m (mes (E.modify i fun e => { e with v := V })) c = w3 at *
    go_wp2_with fail
    refine wp_region_held_drew (S := fun W => HashAt W w.heap.size Ky) (by kernel_rfl) (K3.out.on ((Below.refl _ _).drew)) (fun h0 => ?_)
    replace M3 := Lib.hid (M3.out.on ((Below.refl _ _).drew))
    replace T3 := Lib.hid (T3.out.on ((Below.refl _ _).drew))
    replace K3 := Lib.hid (K3.out.on ((Below.refl _ _).drew))
    replace C3 := Lib.hid C3.out.drew
    replace hs4 : Hid (w.heap.size + 2 ≤ w3.drew.heap.size) := hs4
    generalize w3.drew = w3 at *
    refine wpAnyH_take (i := 0) (v := ?_) (by rw [List.getElem?_toArray]; rfl) (by kernel_rfl) (by kernel_rfl) (by kernel_rfl) (by exact fun _ _ _ h => h) (Or.inl ⟨by rfl, ?_⟩) h0 ?_
    rotate_left
    · intro W hW
      go_simp
      all_goals with_reducible rfl
    try simp only [Act.put, List.setIfInBounds_toArray, List.set_cons_zero, List.set_cons_succ]
    refine wpAnyH_take (i := 1) (v := ?_) (by rw [List.getElem?_toArray]; rfl) (by kernel_rfl) (by kernel_rfl) (by kernel_rfl) (by exact fun _ _ _ h => h) (Or.inl ⟨by rfl, ?_⟩) h0 ?_
    rotate_left
    · intro W hW
      go_simp
      all_goals with_reducible rfl
    try simp only [Act.put, List.setIfInBounds_toArray, List.set_cons_zero, List.set_cons_succ]
    refine wpAnyH_take (i := 2) (v := ?_) (by rw [List.getElem?_toArray]; rfl) (by kernel_rfl) (by kernel_rfl) (by kernel_rfl) (by exact fun _ _ _ h => h) (Or.inl ⟨by rfl, ?_⟩) h0 ?_
    rotate_left
    · intro W hW
      go_simp
      all_goals with_reducible rfl
    try simp only [Act.put, List.setIfInBounds_toArray, List.set_cons_zero, List.set_cons_succ]
    refine wpAnyH_take (i := 4) (v := ?_) (by rw [List.getElem?_toArray]; rfl) (by kernel_rfl) (by kernel_rfl) (by kernel_rfl) (by exact fun _ _ _ h => h) (Or.inl ⟨by rfl, ?_⟩) h0 ?_
    rotate_left
    · intro W hW
      have cc := hW.row HKY.out.len
      go_simp
      all_goals with_reducible rfl
    try simp only [Act.put, List.setIfInBounds_toArray, List.set_cons_zero, List.set_cons_succ]
    refine wpAnyH_ready (rs := [3]) (by kernel_rfl) (by simp) ?_
    refine AllReadyH.cons (by rw [List.getElem?_toArray]; rfl) (fun K hK => ?_) AllReadyH.nil
    rw [if_pos (by rfl)]
    have ct := M3.out.c1
    go_wp2_with fail
    refine hK.out _ _ (h0) (fun h4 => ?_)
    clear hK K
    try simp only [Act.put, List.setIfInBounds_toArray, List.set_cons_zero, List.set_cons_succ]
    refine wpAnyH_ready (rs := [5]) (by kernel_rfl) (by simp) ?_
    refine AllReadyH.cons (by rw [List.getElem?_toArray]; rfl) (fun K hK => ?_) AllReadyH.nil
    rw [if_pos (by rfl)]
    go_wp2_with fail
    refine (forget_top (E' := E.modify i fun e => { e with v := V }) HKY.out T3.out (fun k hk => by rw [OVER.out.2.1 k, if_neg hk]) HKS.out HIN.out).mono ?_
    rintro e w4 ⟨rfl, c4, t4⟩
    have M4 := Lib.hid (M3.out.chg c4 CX.out.p CX.out.m)
    have C4 := Lib.hid (C3.out.trans (T := p :: m :: bl) (c4.wider (fun g hg => by simp [hg])) (fun g hg _ => hg))
    have K4 := Lib.hid (K3.out.chg' c4 (fun h => by have := CX.out.t.lt; have := LTB.out _ h; omega))
    have T4 := Lib.hid t4
    go_wp2_with fail
    refine hK.out _ _ (K4.out) (fun h5 => ?_)
    clear hK K
    try simp only [Act.put, List.setIfInBounds_toArray, List.set_cons_zero, List.set_cons_succ]
    refine wpAnyH_done (by kernel_rfl) ?_ _
    go_wp2_with fail
    go_ret
    have hg := OVER.out
    have hl : (E.modify i fun e => { e with v := V }).length = E.length := by simp
    exact ⟨rfl, C4.out, E.modify i fun e => { e with v := V }, c, top, bl, ⟨M4.out, T4.out, hg.1, CX.out.n.over i V, CX.out.p, CX.out.m⟩, fun g h => .inl h, hg.2.1, by omega, by omega⟩
end Go.Proofs.YtjlodnecdngdfaaDoor
