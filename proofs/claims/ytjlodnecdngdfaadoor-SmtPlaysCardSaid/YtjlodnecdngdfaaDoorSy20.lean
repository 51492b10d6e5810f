/-
  Package smt: a side noted in a proof.; Within smt's Prove: what stands, and how it goes on.
-/
import Derived.Test.YtjlodnecdngdfaaDoorSy2
import Derived.Test.YtjlodnecdngdfaaDoorSy10
import Derived.Test.YtjlodnecdngdfaaDoorSy11
import Derived.Test.YtjlodnecdngdfaaDoorSy13
import Derived.Test.YtjlodnecdngdfaaDoorSy14
import Derived.Test.YtjlodnecdngdfaaDoorSy19
namespace Go.Proofs.YtjlodnecdngdfaaDoor
open Go.RowKit
set_option maxRecDepth 100000

theorem or_bit : ∀ x : Fin 256, ∀ t : Fin 8, ∀ j : Fin 8, bits .or .u8 (x.val : Int) (((128 : Nat) / 2 ^ t.val : Nat) : Int) / ((2 ^ (7 - j.val) : Nat) : Int) % 2 = if j.val = t.val then 1 else (x.val : Int) / ((2 ^ (7 - j.val) : Nat) : Int) % 2 := by decide +kernel
theorem or_by : ∀ x : Fin 256, ∀ t : Fin 8, 0 ≤ bits .or .u8 (x.val : Int) (((128 : Nat) / 2 ^ t.val : Nat) : Int) ∧ bits .or .u8 (x.val : Int) (((128 : Nat) / 2 ^ t.val : Nat) : Int) < 256 := by decide +kernel
/-- A mask with one bit more. -/
def mOr (M : List Int) (l : Nat) : List Int := M.set (l / 8) (bits .or .u8 (M.getD (l / 8) 0) (((128 : Nat) / 2 ^ (l % 8) : Nat) : Int))
theorem mOr_ok {M : List Int} {l : Nat} (h : KyOk M) (hl : l < 256) : KyOk (mOr M l) ∧ ∀ i, i < 256 → bitI (mOr M l) i = if i = l then 1 else bitI M i := by
  have hx := h.by_.getD (l / 8)
  obtain ⟨x, hx2⟩ : ∃ x : Fin 256, M.getD (l / 8) 0 = (x.val : Int) := ⟨⟨(M.getD (l / 8) 0).toNat, by omega⟩, by show _ = (((M.getD (l / 8) 0).toNat : Nat) : Int); omega⟩
  have hb := or_by x ⟨l % 8, by omega⟩
  have hlen := h.len
  refine ⟨⟨by unfold mOr; rw [List.length_set]; exact hlen, fun y hy => ?_⟩, fun i hi => ?_⟩
  · unfold mOr at hy
    rcases List.mem_or_eq_of_mem_set hy with hy | hy
    · exact h.by_ y hy
    · rw [hy, hx2]; exact hb
  · unfold bitI mOr
    by_cases e8 : i / 8 = l / 8
    · have e1 : (M.set (l / 8) (bits .or .u8 (M.getD (l / 8) 0) (((128 : Nat) / 2 ^ (l % 8) : Nat) : Int))).getD (i / 8) 0 = bits .or .u8 (M.getD (l / 8) 0) (((128 : Nat) / 2 ^ (l % 8) : Nat) : Int) := by
        rw [e8, List.getD, List.getElem?_set_self (by omega)]; rfl
      have hj := or_bit x ⟨l % 8, by omega⟩ ⟨i % 8, by omega⟩
      rw [e1, e8, hx2]
      have ec : ((2 : Int) ^ (7 - i % 8)) = ((2 ^ (7 - i % 8) : Nat) : Int) := by rw [Int.natCast_pow]; rfl
      rw [ec]
      simp only at hj
      rw [hj]
      by_cases e : i = l
      · rw [if_pos e, if_pos (by omega)]
      · rw [if_neg e, if_neg (by omega)]
    · rw [if_neg (fun e => e8 (by rw [e]))]
      rw [List.getD, List.getElem?_set_ne (fun e => e8 e.symm)]
      rfl

theorem HsS.cellS {w0 w w' : World} {b : Nat} {M : List Int} {u v : Value} {Ss : List (List Int)} (h : HsS w0 w v Ss) (hp : PfB 48 w b M u) (hc : Chg w w' [b]) (hb : w0.heap.size ≤ b) : HsS w0 w' v Ss :=
  ⟨own_chg2 h.own hc (fun k hk hm => own_ne h.own hp (by decide) (by rw [hk]; simpa using hm)), h.ok, h.fresh, h.below.trans (hc.toBelow h.below.size (fun k hk => by have := List.mem_singleton.1 hk; omega))⟩
def AdQ (w0 w : World) (b l : Nat) (M : List Int) (v : Value) (Ss : List (List Int)) (F : List Int) (e : Ending) (w' : World) : Prop :=
  e = .returned (.tuple #[]) ∧ ∃ M' v', PfB 48 w' b M' v' ∧ HsS w0 w' v' (if F = zero32 then Ss else Ss ++ [F]) ∧ KyOk M' ∧ (∀ i, i < 256 → bitI M' i = if F = zero32 then bitI M i else if i = l then 1 else bitI M i) ∧ Chg w w' (b :: v.ownBlock.toList) ∧ (v'.ownBlock = v.ownBlock ∨ ∀ g, v'.ownBlock = some g → w.heap.size ≤ g)

theorem PfB.setMask {w : World} {b l : Nat} {M : List Int} {v : Value} (h : PfB 48 w b M v) (hM : M.length = 32) (hl : l < 32) (x : Int) : PfB 48 (w.setCell ⟨b, l, none⟩ (.int .u8 x)) b (M.set l x) v := by
  have e : (w.setCell ⟨b, l, none⟩ (.int .u8 x)).heap[b]? = some (.cells ((pfRow M v).toArray.setIfInBounds l (.int .u8 x)) 48 (0, 0)) := Joins.block_setCell h _
  unfold PfB
  rw [e]
  congr 2
  apply Array.ext'
  simp only [pfRow, Array.toList_setIfInBounds]
  rw [List.set_append_left _ _ (by rw [hc_len, hM]; exact hl)]
  congr 1
  simp [hc, List.map_set]
theorem PfB.setSides {w : World} {b : Nat} {M : List Int} {v : Value} (h : PfB 48 w b M v) (hM : M.length = 32) (u : Value) : PfB 48 (w.setCell ⟨b, 32, none⟩ u) b M u := by
  have e : (w.setCell ⟨b, 32, none⟩ u).heap[b]? = some (.cells ((pfRow M v).toArray.setIfInBounds 32 u) 48 (0, 0)) := Joins.block_setCell h _
  unfold PfB
  rw [e]
  congr 2
  apply Array.ext'
  simp only [pfRow, Array.toList_setIfInBounds]
  rw [List.set_append_right _ _ (by rw [hc_len, hM]; exact Nat.le_refl _), hc_len, hM]
  rfl
theorem PfB.byte {w : World} {b l : Nat} {M : List Int} {v : Value} (h : PfB 48 w b M v) (hM : M.length = 32) (hl : l < 32) : w.cell? ⟨b, l, none⟩ = some (.int .u8 (M.getD l 0)) := by
  rw [cell_of_row _ _ _ _ _ _ h]
  have h2 : (pfRow M v)[l]? = some (.int .u8 (M.getD l 0)) := by
    unfold pfRow hc
    rw [List.getElem?_append_left (by simp; omega)]
    simp [List.getD, show l < M.length by omega]
  simpa using h2
@[go_sem ↓] theorem Tryd.slice_hs (ps : Array (Nat × Value)) : Instr.buildSlice 46 1 ps = rowNew 46 ps := rfl
@[go_sem] theorem Tryd.run_slice_hs (w : World) (F : List Int) (hF : F.length = 32) :
    (rowNew 46 #[(0, .agg (hc F).toArray)]).run Tryd.prog w = .ok (.slice (some ⟨w.heap.size, 0, none⟩) 1 1) (w.alloc (.cells (hc F).toArray 24)) :=
  run_bs_one w Tryd.underlying46 (by kernel_rfl) (Tryd.zero_hash w) (n := 32) (by decide) (by decide) (by rw [hc_len, hF])

set_option maxHeartbeats 16000000 in
theorem add_any {w0 w : World} {b l : Nat} {M F : List Int} {v : Value} {Ss : List (List Int)} (hp : PfB 48 w b M v) (hs : HsS w0 w v Ss) (hb : w0.heap.size ≤ b) (ky : KyOk M) (lF : F.length = 32) (bF : Bytes F) (hl : l < 256) (hn : Ss.length ≤ 300) :
    Calls Tryd.prog 43 #[.pointer (some ⟨b, 0, none⟩), .int .i64 l, .agg (hc F).toArray] w (AdQ w0 w b l M v Ss F) := by
  obtain ⟨qa, ca, rfl⟩ := own_slice hs.own
  have NLT : Hid (∀ g, (Value.slice qa Ss.length ca).ownBlock = some g → g < w.heap.size) := fun g hg => own_lt hs.own hg
  obtain ⟨i0, hi, hz0, hz1, hz2⟩ := info_parts Tryd.infoHs
  replace hi := Lib.hid hi
  replace hz0 := Lib.hid hz0
  replace hz1 := Lib.hid hz1
  replace hz2 := Lib.hid hz2
  have b1 : Below w.heap.size w (w.alloc (.cells (hc F).toArray 24)) := (Below.refl _ _).alloc (Nat.le_refl _) _
  have HF := Lib.hid (HashAt.new w F)
  have P1 := Lib.hid (hp.on b1)
  have S1 := Lib.hid (hs.on b1)
  have C1 := Lib.hid (Chg.below b1 (Nat.le_refl _) (b :: (Value.slice qa Ss.length ca).ownBlock.toList))
  have KY := Lib.hid ky
  have BF := Lib.hid bF
  have HB := Lib.hid hb
  have BLT := Lib.hid hp.lt
  have lM := ky.len
  have hlF := hc_len F
  have hlM := hc_len M
  have z32 := zero32_len
  clear hp hs bF b1 ky hb
  have rF := HF.out.row lF
  by_cases hz : F = zero32
  · have e1 : (F == zero32) = true := by rw [hz]; simp
    have HZ := Lib.hid hz
    clear hz
    go_enter Tryd.func43, Tryd.ntmps43
    go_wp2_with fail
    refine bodyPost_ret (v := .tuple #[]) (results_none rfl _ _ _) rfl ?_
    exact ⟨rfl, M, _, P1.out, by rw [if_pos HZ.out]; exact S1.out, KY.out, fun i _ => by rw [if_pos HZ.out], C1.out, .inl rfl⟩
  · have e1 : (F == zero32) = false := by simpa using hz
    have HZ := Lib.hid hz
    clear hz
    go_enter Tryd.func43, Tryd.ntmps43
    go_wp2_with fail
    clear e1
    obtain ⟨q, hq⟩ : ∃ q, l / 8 = q := ⟨_, rfl⟩
    obtain ⟨t, ht⟩ : ∃ t, l % 8 = t := ⟨_, rfl⟩
    have cl8 : q < 32 := by omega
    have ct8 : t < 8 := by omega
    have g1 : ((l : Nat) : Int).tdiv 8 = (q : Int) := by
      rw [Int.tdiv_eq_ediv_of_nonneg (by omega)]; omega
    have g2 : ((l : Nat) : Int).tmod 8 = (t : Int) := by
      rw [Int.tmod_eq_emod_of_nonneg (by omega)]; omega
    have g3 : IntKind.i64.wrap (q : Int) = (q : Int) := IntWalk.i64_in _ (by omega)
    have g4 : (q : Int) < 32 := by omega
    have HO := mOr_ok KY.out hl
    have HMO : Hid (mOr M l = M.set q (bits .or .u8 (M.getD q 0) (((128 : Nat) / 2 ^ t : Nat) : Int))) := by show mOr M l = _; unfold mOr; rw [hq, ht]
    have HQ := Lib.hid hq
    have HT8 := Lib.hid ht
    replace HO := Lib.hid HO
    clear hq ht
    obtain ⟨x, hx⟩ : ∃ x : Int, M.getD q 0 = x := ⟨_, rfl⟩
    have HX := Lib.hid hx
    have hbx : 0 ≤ x ∧ x < 256 := by rw [← hx]; exact KY.out.by_.getD q
    obtain ⟨y, hy⟩ : ∃ y : Int, bits .or .u8 x (128 / 2 ^ t) = y := ⟨_, rfl⟩
    generalize hw1 : w.alloc (.cells (hc F).toArray 24) = w1 at *
    clear hw1
    have P2 := P1.out.on (Below.refl _ _).drew
    refine wp_region_held_drew (S := fun W => ∃ Mx, PfB 48 W b Mx (.slice qa Ss.length ca)) (by kernel_rfl) (⟨M, P2⟩) (fun h0 => ?_)
    refine wpAnyH_take (i := 0) (v := ?_) (by rw [List.getElem?_toArray]; rfl) (by kernel_rfl) (by kernel_rfl) (by kernel_rfl) (by exact fun _ _ _ h => h) (Or.inl ⟨by rfl, ?_⟩) h0 ?_
    rotate_left
    · intro W hW
      go_simp
      all_goals with_reducible rfl
    try simp only [Act.put, List.setIfInBounds_toArray, List.set_cons_zero, List.set_cons_succ]
    refine wpAnyH_take (i := 1) (v := ?_) (by rw [List.getElem?_toArray]; rfl) (by kernel_rfl) (by kernel_rfl) (by kernel_rfl) (by exact fun _ _ _ h => h) (Or.inl ⟨by rfl, ?_⟩) h0 ?_
    rotate_left
    · intro W hW
      go_simp
      all_goals with_reducible rfl
    try simp only [Act.put, List.setIfInBounds_toArray, List.set_cons_zero, List.set_cons_succ]
    refine wpAnyH_take (i := 2) (v := ?_) (by rw [List.getElem?_toArray]; rfl) (by kernel_rfl) (by kernel_rfl) (by kernel_rfl) (by exact fun _ _ _ h => h) (Or.inl ⟨by rfl, ?_⟩) h0 ?_
    rotate_left
    · intro W hW
      go_simp
      all_goals with_reducible rfl
    try simp only [Act.put, List.setIfInBounds_toArray, List.set_cons_zero, List.set_cons_succ]
    refine wpAnyH_take (i := 3) (v := ?_) (by rw [List.getElem?_toArray]; rfl) (by kernel_rfl) (by kernel_rfl) (by kernel_rfl) (by exact fun _ _ _ h => h) (Or.inl ⟨by rfl, ?_⟩) h0 ?_
    rotate_left
    · intro W hW
      go_simp
      all_goals with_reducible rfl
    try simp only [Act.put, List.setIfInBounds_toArray, List.set_cons_zero, List.set_cons_succ]
    refine wpAnyH_take (i := 4) (v := ?_) (by rw [List.getElem?_toArray]; rfl) (by kernel_rfl) (by kernel_rfl) (by kernel_rfl) (by exact fun _ _ _ h => h) (Or.inl ⟨by rfl, ?_⟩) h0 ?_
    rotate_left
    · intro W hW
      go_simp
      all_goals with_reducible rfl
    try simp only [Act.put, List.setIfInBounds_toArray, List.set_cons_zero, List.set_cons_succ]
    refine wpAnyH_take (i := 5) (v := ?_) (by rw [List.getElem?_toArray]; rfl) (by kernel_rfl) (by kernel_rfl) (by kernel_rfl) (by exact fun _ _ _ h => h) (Or.inl ⟨by rfl, ?_⟩) h0 ?_
    rotate_left
    · intro W hW
      go_simp
      all_goals with_reducible rfl
    try simp only [Act.put, List.setIfInBounds_toArray, List.set_cons_zero, List.set_cons_succ]
    refine wpAnyH_take (i := 7) (v := ?_) (by rw [List.getElem?_toArray]; rfl) (by kernel_rfl) (by kernel_rfl) (by kernel_rfl) (by exact fun _ _ _ h => h) (Or.inl ⟨by rfl, ?_⟩) h0 ?_
    rotate_left
    · intro W hW
      go_simp
      all_goals with_reducible rfl
    try simp only [Act.put, List.setIfInBounds_toArray, List.set_cons_zero, List.set_cons_succ]
    refine wpAnyH_take (i := 8) (v := ?_) (by rw [List.getElem?_toArray]; rfl) (by kernel_rfl) (by kernel_rfl) (by kernel_rfl) (by exact fun _ _ _ h => h) (Or.inl ⟨by rfl, ?_⟩) h0 ?_
    rotate_left
    · intro W hW
      go_simp
      all_goals with_reducible rfl
    try simp only [Act.put, List.setIfInBounds_toArray, List.set_cons_zero, List.set_cons_succ]
    refine wpAnyH_take (i := 9) (v := ?_) (by rw [List.getElem?_toArray]; rfl) (by kernel_rfl) (by kernel_rfl) (by kernel_rfl) (by exact fun _ _ _ h => h) (Or.inl ⟨by rfl, ?_⟩) h0 ?_
    rotate_left
    · intro W hW
      go_simp
      all_goals with_reducible rfl
    try simp only [Act.put, List.setIfInBounds_toArray, List.set_cons_zero, List.set_cons_succ]
    refine wpAnyH_take (i := 11) (v := ?_) (by rw [List.getElem?_toArray]; rfl) (by kernel_rfl) (by kernel_rfl) (by kernel_rfl) (by exact fun _ _ _ h => h) (Or.inl ⟨by rfl, ?_⟩) h0 ?_
    rotate_left
    · intro W hW
      go_simp
      all_goals with_reducible rfl
    try simp only [Act.put, List.setIfInBounds_toArray, List.set_cons_zero, List.set_cons_succ]
    refine wpAnyH_take (i := 12) (v := ?_) (by rw [List.getElem?_toArray]; rfl) (by kernel_rfl) (by kernel_rfl) (by kernel_rfl) (by exact fun _ _ _ h => h) (Or.inl ⟨by rfl, ?_⟩) h0 ?_
    rotate_left
    · intro W hW
      go_simp
      all_goals with_reducible rfl
    try simp only [Act.put, List.setIfInBounds_toArray, List.set_cons_zero, List.set_cons_succ]
    refine wpAnyH_ready (rs := [6]) (by kernel_rfl) (by simp) ?_
    refine AllReadyH.cons (by rw [List.getElem?_toArray]; rfl) (fun K hK => ?_) AllReadyH.nil
    rw [if_pos (by rfl)]
    have cc := P2.byte lM cl8
    rw [hx] at cc
    go_wp2_with fail
    refine hK.out _ _ (⟨M, P2⟩) (fun h6 => ?_)
    clear hK K
    try simp only [Act.put, List.setIfInBounds_toArray, List.set_cons_zero, List.set_cons_succ]
    refine wpAnyH_take (i := 10) (v := ?_) (by rw [List.getElem?_toArray]; rfl) (by kernel_rfl) (by kernel_rfl) (by kernel_rfl) (by exact fun _ _ _ h => h) (Or.inl ⟨by rfl, ?_⟩) h6 ?_
    rotate_left
    · intro W hW
      go_simp
      all_goals with_reducible rfl
    try simp only [Act.put, List.setIfInBounds_toArray, List.set_cons_zero, List.set_cons_succ]
    refine wpAnyH_take (i := 13) (v := ?_) (by rw [List.getElem?_toArray]; rfl) (by kernel_rfl) (by kernel_rfl) (by kernel_rfl) (by exact fun _ _ _ h => h) (Or.inl ⟨by rfl, ?_⟩) h6 ?_
    rotate_left
    · intro W hW
      go_simp
      all_goals with_reducible rfl
    try simp only [Act.put, List.setIfInBounds_toArray, List.set_cons_zero, List.set_cons_succ]
    refine wpAnyH_ready (rs := [14]) (by kernel_rfl) (by simp) ?_
    refine AllReadyH.cons (by rw [List.getElem?_toArray]; rfl) (fun K hK => ?_) AllReadyH.nil
    rw [if_pos (by rfl)]
    have z2 := P2.byte lM cl8
    have f2 := Joins.unfrozen_of_block P2 q
    have P3 := P2.setMask lM cl8 y
    go_wp2_with fail
    refine hK.out _ _ (⟨_, P3⟩) (fun h1 => ?_)
    clear hK K
    try simp only [Act.put, List.setIfInBounds_toArray, List.set_cons_zero, List.set_cons_succ]
    refine wpAnyH_done (by kernel_rfl) ?_ _
    go_wp2_with fail
    have lM2 := HO.out.1.len
    have P2 := Lib.hid (show PfB 48 (w1.setCell ⟨b, q, none⟩ (.int .u8 y)).drew b (mOr M l) (.slice qa Ss.length ca) from by
      rw [HMO.out, HX.out]
      have e : (((128 : Nat) / 2 ^ t : Nat) : Int) = 128 / 2 ^ t := by rw [Int.natCast_ediv, Int.natCast_pow]; rfl
      rw [e, hy]
      exact P1.out.setMask lM cl8 y)
    have c2 : Chg w1 (w1.setCell ⟨b, q, none⟩ (.int .u8 y)).drew [b] := ((Chg.refl _ _).setCell (p := ⟨b, q, none⟩) (.inl (by simp)) _).drew
    have S2 := Lib.hid (S1.out.cellS P1.out c2 HB.out)
    have C2 := Lib.hid (C1.out.trans c2 (fun g hg _ => by rw [List.mem_singleton.1 hg]; simp))
    have H2 := Lib.hid (HF.out.chg' c2 (by have := BLT.out; simp; omega))
    obtain ⟨fb, hfb⟩ : ∃ fb, w.heap.size = fb := ⟨_, rfl⟩
    have HFB := Lib.hid hfb
    rw [hfb] at H2 ⊢
    clear c2 P1 S1 C1 HF rF hfb h1 h6 P3 z2 f2 cc
    generalize (w1.setCell ⟨b, q, none⟩ (.int .u8 y)).drew = w2 at *
    have r2 := H2.out.row lF
    refine wp_region_held_drew (S := fun W => rowOf W fb 0 32 = hc F) (by kernel_rfl) (r2) (fun h0 => ?_)
    refine wpAnyH_take (i := 0) (v := ?_) (by rw [List.getElem?_toArray]; rfl) (by kernel_rfl) (by kernel_rfl) (by kernel_rfl) (by exact fun _ _ _ h => h) (Or.inl ⟨by rfl, ?_⟩) h0 ?_
    rotate_left
    · intro W hW
      go_simp
      all_goals with_reducible rfl
    try simp only [Act.put, List.setIfInBounds_toArray, List.set_cons_zero, List.set_cons_succ]
    refine wpAnyH_take (i := 1) (v := ?_) (by rw [List.getElem?_toArray]; rfl) (by kernel_rfl) (by kernel_rfl) (by kernel_rfl) (by exact fun _ _ _ h => h) (Or.inl ⟨by rfl, ?_⟩) h0 ?_
    rotate_left
    · intro W hW
      go_simp
      all_goals with_reducible rfl
    try simp only [Act.put, List.setIfInBounds_toArray, List.set_cons_zero, List.set_cons_succ]
    refine wpAnyH_take (i := 2) (v := ?_) (by rw [List.getElem?_toArray]; rfl) (by kernel_rfl) (by kernel_rfl) (by kernel_rfl) (by exact fun _ _ _ h => h) (Or.inl ⟨by rfl, ?_⟩) h0 ?_
    rotate_left
    · intro W hW
      go_simp
      all_goals with_reducible rfl
    try simp only [Act.put, List.setIfInBounds_toArray, List.set_cons_zero, List.set_cons_succ]
    refine wpAnyH_take (i := 3) (v := ?_) (by rw [List.getElem?_toArray]; rfl) (by kernel_rfl) (by kernel_rfl) (by kernel_rfl) (by exact fun _ _ _ h => h) (Or.inl ⟨by rfl, ?_⟩) h0 ?_
    rotate_left
    · intro W hW
      go_simp
      all_goals with_reducible rfl
    try simp only [Act.put, List.setIfInBounds_toArray, List.set_cons_zero, List.set_cons_succ]
    refine wpAnyH_take (i := 5) (v := ?_) (by rw [List.getElem?_toArray]; rfl) (by kernel_rfl) (by kernel_rfl) (by kernel_rfl) (by exact fun _ _ _ h => h) (Or.inl ⟨by rfl, ?_⟩) h0 ?_
    rotate_left
    · intro W hW
      have cc := hW
      go_simp
      all_goals with_reducible rfl
    try simp only [Act.put, List.setIfInBounds_toArray, List.set_cons_zero, List.set_cons_succ]
    refine wpAnyH_ready (rs := [4, 6]) (by kernel_rfl) (by simp) ?_
    refine AllReadyH.cons (by rw [List.getElem?_toArray]; rfl) (fun K hK => ?_) (AllReadyH.cons (by rw [List.getElem?_toArray]; rfl) (fun K hK => ?_) (AllReadyH.nil))
    · rw [if_pos (by rfl)]
      have c4 := P2.out.sides lM2
      go_wp2_with fail
      refine hK.out _ _ (h0) (fun h0 => ?_)
      clear hK K
      try simp only [Act.put, List.setIfInBounds_toArray, List.set_cons_zero, List.set_cons_succ]
      refine wpAnyH_ready (rs := [6]) (by kernel_rfl) (by simp) ?_
      refine AllReadyH.cons (by rw [List.getElem?_toArray]; rfl) (fun K hK => ?_) AllReadyH.nil
      rw [if_pos (by rfl)]
      go_wp2_with fail
      have h0 : rowOf (w2.alloc (.cells (hc F).toArray 24)) fb 0 32 = hc F := (H2.out.on ((Below.refl _ _).alloc (Nat.le_refl _) (.cells (hc F).toArray 24))).row lF
      refine hK.out _ _ (h0) (fun h0 => ?_)
      clear hK K
      try simp only [Act.put, List.setIfInBounds_toArray, List.set_cons_zero, List.set_cons_succ]
      have S4 := Lib.hid (S2.out.on ((Below.refl _ _).alloc (Nat.le_refl _) (.cells (hc F).toArray 24)))
      have P4 := Lib.hid (P2.out.on ((Below.refl _ _).alloc (Nat.le_refl _) (.cells (hc F).toArray 24)))
      have R4 := Lib.hid (one_hs (w := w2) lF BF.out)
      have H4 := Lib.hid (H2.out.on ((Below.refl _ _).alloc (Nat.le_refl _) (.cells (hc F).toArray 24)))
      have C4 := Lib.hid (C2.out.alloc (.cells (hc F).toArray 24))
      have Z4 : Hid (w.heap.size ≤ (w2.alloc (.cells (hc F).toArray 24)).heap.size) := by have := C2.out.size; show _ ≤ _; simp; omega
      generalize w2.alloc (.cells (hc F).toArray 24) = w4 at *
      refine wpAnyH_ready (rs := [7]) (by kernel_rfl) (by simp) ?_
      refine AllReadyH.cons (by rw [List.getElem?_toArray]; rfl) (fun K hK => ?_) AllReadyH.nil
      rw [if_pos (by rfl)]
      have S4d : HsS w0 w4.drew (.slice qa Ss.length ca) Ss := S4.out.on ((Below.refl _ _).drew)
      refine wp_append_row _ _ rfl Tryd.underlying46 hi.out hz0.out hz1.out hz2.out zero_cells S4d.own ((show RdHs w4.drew (some ⟨w2.heap.size, 0, none⟩) [F] from R4.out).src (P := Tryd.prog) (HsOk.one lF BF.out) Tryd.underlying46) (by unfold maxLen; (try simp only [List.length_singleton]); omega) (by (try simp only [List.length_singleton]); omega) ?_
      intro q6 k6 w6 own6' grow6' fr6'
      have own6 : w6.ownsRow 0 24 32 (.slice q6 (Ss.length + 1) k6) (Ss.length + 1) (hcs Ss ++ hcs [F]) := own6'
      have grow6 : w4.drew.grownBy w6 (Value.slice qa Ss.length ca).ownBlock := grow6'
      have fr6 : (Value.slice q6 (Ss.length + 1) k6).ownBlock = (Value.slice qa Ss.length ca).ownBlock ∨ (Value.slice q6 (Ss.length + 1) k6).ownBlock = some w4.drew.heap.size := fr6'
      have c6 : Chg w4.drew w6 (Value.slice qa Ss.length ca).ownBlock.toList := Chg.grown grow6 (fun g hg => by simp [hg])
      have nb : b ∉ (Value.slice qa Ss.length ca).ownBlock.toList := fun hm => own_ne S4d.own P4.out (by decide) (by simpa using hm)
      have P6 := Lib.hid (PfB.chg (w := w4.drew) P4.out c6 nb)
      have S6 := Lib.hid (S4d.grow (HsOk.one lF BF.out) rfl own6 grow6 fr6)
      have C6 := Lib.hid (C4.out.drew.trans c6 (fun g hg _ => List.mem_cons_of_mem _ hg))
      have H6 : HashAt w6 fb F := HashAt.chg' (w := w4.drew) H4.out c6 (fun hm => by have := NLT.out fb (by simpa using hm); have := HFB.out; omega)
      have FR6 := Lib.hid fr6
      have rF6 := H6.row lF
      have z2 := P6.out.sides lM2
      have f2 := Joins.unfrozen_of_block P6.out 32
      have H7 := Lib.hid (HashAt.chg' (S := [b]) H6 ((Chg.refl _ _).setCell (p := ⟨b, 32, none⟩) (.inl (by simp)) (.slice q6 (Ss.length + 1) k6)) (by have := BLT.out; have := HFB.out; simp; omega))
      clear own6' grow6' fr6' own6 grow6 fr6 c6 nb S4d H6
      refine hK.out _ _ (rF6) (fun h0 => ?_)
      clear hK K
      try simp only [Act.put, List.setIfInBounds_toArray, List.set_cons_zero, List.set_cons_succ]
      refine wpAnyH_take (i := 8) (v := ?_) (by rw [List.getElem?_toArray]; rfl) (by kernel_rfl) (by kernel_rfl) (by kernel_rfl) (by exact fun _ _ _ h => h) (Or.inl ⟨by rfl, ?_⟩) h0 ?_
      rotate_left
      · intro W hW
        go_simp
        all_goals with_reducible rfl
      try simp only [Act.put, List.setIfInBounds_toArray, List.set_cons_zero, List.set_cons_succ]
      refine wpAnyH_take (i := 9) (v := ?_) (by rw [List.getElem?_toArray]; rfl) (by kernel_rfl) (by kernel_rfl) (by kernel_rfl) (by exact fun _ _ _ h => h) (Or.inl ⟨by rfl, ?_⟩) h0 ?_
      rotate_left
      · intro W hW
        go_simp
        all_goals with_reducible rfl
      try simp only [Act.put, List.setIfInBounds_toArray, List.set_cons_zero, List.set_cons_succ]
      refine wpAnyH_ready (rs := [10]) (by kernel_rfl) (by simp) ?_
      refine AllReadyH.cons (by rw [List.getElem?_toArray]; rfl) (fun K hK => ?_) AllReadyH.nil
      rw [if_pos (by rfl)]
      go_wp2_with fail
      refine hK.out _ _ (H7.out.row lF) (fun h0 => ?_)
      clear hK K
      try simp only [Act.put, List.setIfInBounds_toArray, List.set_cons_zero, List.set_cons_succ]
      refine wpAnyH_done (by kernel_rfl) ?_ _
      go_wp2_with fail
      have p7 := P6.out.setSides lM2 (.slice q6 (Ss.length + 1) k6)
      have c7 : Chg w6 (w6.setCell ⟨b, 32, none⟩ (.slice q6 (Ss.length + 1) k6)) [b] := (Chg.refl _ _).setCell (p := ⟨b, 32, none⟩) (.inl (by simp)) _
      have s7 := S6.out.cellS P6.out c7 HB.out
      refine bodyPost_ret (v := .tuple #[]) (results_none rfl _ _ _) rfl ?_
      refine ⟨rfl, _, _, p7, by rw [if_neg HZ.out]; exact s7, HO.out.1, fun i hi => by rw [if_neg HZ.out]; exact HO.out.2 i hi, (C6.out.trans c7 (fun g hg _ => by rw [List.mem_singleton.1 hg]; simp)), ?_⟩
      rcases FR6.out with h | h
      · exact .inl h
      · exact .inr (fun g hg => by rw [h] at hg; have := Z4.out; simp at hg; omega)
    · rw [if_pos (by rfl)]
      go_wp2_with fail
      have h0 : rowOf (w2.alloc (.cells (hc F).toArray 24)) fb 0 32 = hc F := (H2.out.on ((Below.refl _ _).alloc (Nat.le_refl _) (.cells (hc F).toArray 24))).row lF
      refine hK.out _ _ (h0) (fun h0 => ?_)
      clear hK K
      try simp only [Act.put, List.setIfInBounds_toArray, List.set_cons_zero, List.set_cons_succ]
      have S4 := Lib.hid (S2.out.on ((Below.refl _ _).alloc (Nat.le_refl _) (.cells (hc F).toArray 24)))
      have P4 := Lib.hid (P2.out.on ((Below.refl _ _).alloc (Nat.le_refl _) (.cells (hc F).toArray 24)))
      have R4 := Lib.hid (one_hs (w := w2) lF BF.out)
      have H4 := Lib.hid (H2.out.on ((Below.refl _ _).alloc (Nat.le_refl _) (.cells (hc F).toArray 24)))
      have C4 := Lib.hid (C2.out.alloc (.cells (hc F).toArray 24))
      have Z4 : Hid (w.heap.size ≤ (w2.alloc (.cells (hc F).toArray 24)).heap.size) := by have := C2.out.size; show _ ≤ _; simp; omega
      generalize w2.alloc (.cells (hc F).toArray 24) = w4 at *
      refine wpAnyH_ready (rs := [4]) (by kernel_rfl) (by simp) ?_
      refine AllReadyH.cons (by rw [List.getElem?_toArray]; rfl) (fun K hK => ?_) AllReadyH.nil
      rw [if_pos (by rfl)]
      have c4 := P4.out.sides lM2
      go_wp2_with fail
      refine hK.out _ _ (h0) (fun h0 => ?_)
      clear hK K
      try simp only [Act.put, List.setIfInBounds_toArray, List.set_cons_zero, List.set_cons_succ]
      refine wpAnyH_ready (rs := [7]) (by kernel_rfl) (by simp) ?_
      refine AllReadyH.cons (by rw [List.getElem?_toArray]; rfl) (fun K hK => ?_) AllReadyH.nil
      rw [if_pos (by rfl)]
      have S4d : HsS w0 w4.drew (.slice qa Ss.length ca) Ss := S4.out.on ((Below.refl _ _).drew)
      refine wp_append_row _ _ rfl Tryd.underlying46 hi.out hz0.out hz1.out hz2.out zero_cells S4d.own ((show RdHs w4.drew (some ⟨w2.heap.size, 0, none⟩) [F] from R4.out).src (P := Tryd.prog) (HsOk.one lF BF.out) Tryd.underlying46) (by unfold maxLen; (try simp only [List.length_singleton]); omega) (by (try simp only [List.length_singleton]); omega) ?_
      intro q6 k6 w6 own6' grow6' fr6'
      have own6 : w6.ownsRow 0 24 32 (.slice q6 (Ss.length + 1) k6) (Ss.length + 1) (hcs Ss ++ hcs [F]) := own6'
      have grow6 : w4.drew.grownBy w6 (Value.slice qa Ss.length ca).ownBlock := grow6'
      have fr6 : (Value.slice q6 (Ss.length + 1) k6).ownBlock = (Value.slice qa Ss.length ca).ownBlock ∨ (Value.slice q6 (Ss.length + 1) k6).ownBlock = some w4.drew.heap.size := fr6'
      have c6 : Chg w4.drew w6 (Value.slice qa Ss.length ca).ownBlock.toList := Chg.grown grow6 (fun g hg => by simp [hg])
      have nb : b ∉ (Value.slice qa Ss.length ca).ownBlock.toList := fun hm => own_ne S4d.own P4.out (by decide) (by simpa using hm)
      have P6 := Lib.hid (PfB.chg (w := w4.drew) P4.out c6 nb)
      have S6 := Lib.hid (S4d.grow (HsOk.one lF BF.out) rfl own6 grow6 fr6)
      have C6 := Lib.hid (C4.out.drew.trans c6 (fun g hg _ => List.mem_cons_of_mem _ hg))
      have H6 : HashAt w6 fb F := HashAt.chg' (w := w4.drew) H4.out c6 (fun hm => by have := NLT.out fb (by simpa using hm); have := HFB.out; omega)
      have FR6 := Lib.hid fr6
      have rF6 := H6.row lF
      have z2 := P6.out.sides lM2
      have f2 := Joins.unfrozen_of_block P6.out 32
      have H7 := Lib.hid (HashAt.chg' (S := [b]) H6 ((Chg.refl _ _).setCell (p := ⟨b, 32, none⟩) (.inl (by simp)) (.slice q6 (Ss.length + 1) k6)) (by have := BLT.out; have := HFB.out; simp; omega))
      clear own6' grow6' fr6' own6 grow6 fr6 c6 nb S4d H6
      refine hK.out _ _ (rF6) (fun h0 => ?_)
      clear hK K
      try simp only [Act.put, List.setIfInBounds_toArray, List.set_cons_zero, List.set_cons_succ]
      refine wpAnyH_take (i := 8) (v := ?_) (by rw [List.getElem?_toArray]; rfl) (by kernel_rfl) (by kernel_rfl) (by kernel_rfl) (by exact fun _ _ _ h => h) (Or.inl ⟨by rfl, ?_⟩) h0 ?_
      rotate_left
      · intro W hW
        go_simp
        all_goals with_reducible rfl
      try simp only [Act.put, List.setIfInBounds_toArray, List.set_cons_zero, List.set_cons_succ]
      refine wpAnyH_take (i := 9) (v := ?_) (by rw [List.getElem?_toArray]; rfl) (by kernel_rfl) (by kernel_rfl) (by kernel_rfl) (by exact fun _ _ _ h => h) (Or.inl ⟨by rfl, ?_⟩) h0 ?_
      rotate_left
      · intro W hW
        go_simp
        all_goals with_reducible rfl
      try simp only [Act.put, List.setIfInBounds_toArray, List.set_cons_zero, List.set_cons_succ]
      refine wpAnyH_ready (rs := [10]) (by kernel_rfl) (by simp) ?_
      refine AllReadyH.cons (by rw [List.getElem?_toArray]; rfl) (fun K hK => ?_) AllReadyH.nil
      rw [if_pos (by rfl)]
      go_wp2_with fail
      refine hK.out _ _ (H7.out.row lF) (fun h0 => ?_)
      clear hK K
      try simp only [Act.put, List.setIfInBounds_toArray, List.set_cons_zero, List.set_cons_succ]
      refine wpAnyH_done (by kernel_rfl) ?_ _
      go_wp2_with fail
      have p7 := P6.out.setSides lM2 (.slice q6 (Ss.length + 1) k6)
      have c7 : Chg w6 (w6.setCell ⟨b, 32, none⟩ (.slice q6 (Ss.length + 1) k6)) [b] := (Chg.refl _ _).setCell (p := ⟨b, 32, none⟩) (.inl (by simp)) _
      have s7 := S6.out.cellS P6.out c7 HB.out
      refine bodyPost_ret (v := .tuple #[]) (results_none rfl _ _ _) rfl ?_
      refine ⟨rfl, _, _, p7, by rw [if_neg HZ.out]; exact s7, HO.out.1, fun i hi => by rw [if_neg HZ.out]; exact HO.out.2 i hi, (C6.out.trans c7 (fun g hg _ => by rw [List.mem_singleton.1 hg]; simp)), ?_⟩
      rcases FR6.out with h | h
      · exact .inl h
      · exact .inr (fun g hg => by rw [h] at hg; have := Z4.out; simp at hg; omega)

end Go.Proofs.YtjlodnecdngdfaaDoor
namespace Go.Proofs.YtjlodnecdngdfaaDoor
open Go.RowKit
set_option maxRecDepth 100000

/-- What stays throughout. -/
structure PlF (w0 w : World) (p m : Nat) (bl : List Nat) (kb : Nat) : Prop where
  hkb : w.heap.size = kb
  lp : p < kb
  lm : m < kb
  lbl : ∀ g ∈ bl, g < kb
  lw0 : w0.heap.size ≤ kb
  lbg : ∀ g ∈ bl, w0.heap.size ≤ g
  pn : p ∉ bl
  mn : m ∉ bl
  nd : bl.Nodup
  ng : 1 ∉ bl
structure PlS (w0 w wr : World) (p m c : Nat) (E : List En) (top : Option Addr) (bl : List Nat) (kb : Nat) (K M : List Int) (v : Value) (Ss : List (List Int)) : Prop where
  s : MpS wr p m (mes E) c top
  chg : Chg w wr bl
  hK : HashAt wr kb K
  hR : PfB 48 wr (kb + 1) zero32 (.slice none 0 0)
  hP : PfB 48 wr (kb + 2) M v
  hs : HsS w0 wr v Ss
  nw : ∀ g, v.ownBlock = some g → kb + 3 ≤ g
section
variable {w0 w wr w' : World} {p m c : Nat} {E : List En} {top : Option Addr} {bl : List Nat} {kb : Nat} {K M M' : List Int} {v v' : Value} {Ss Ts : List (List Int)}
theorem HsS.chg {S : List Nat} (h : HsS w0 wr v Ss) (hc : Chg wr w' S) (hS : ∀ k ∈ S, w0.heap.size ≤ k) (hv : ∀ k, v.ownBlock = some k → k ∉ S) : HsS w0 w' v Ss :=
  ⟨own_chg2 h.own hc hv, h.ok, h.fresh, h.below.trans (hc.toBelow h.below.size hS)⟩
theorem PlS.size (_ : PlF w0 w p m bl kb) (h : PlS w0 w wr p m c E top bl kb K M v Ss) : kb + 2 < wr.heap.size := h.hP.lt
theorem PlS.tree {S : List Nat} (F : PlF w0 w p m bl kb) (h : PlS w0 w wr p m c E top bl kb K M v Ss) (hc : Chg wr w' S) (hS : ∀ g ∈ S, g ∈ bl) : PlS w0 w w' p m c E top bl kb K M v Ss := by
  have hl : ∀ g, kb ≤ g → g ∉ S := fun g hg hm => by have := F.lbl g (hS g hm); omega
  exact ⟨h.s.chg hc (fun hm => F.pn (hS _ hm)) (fun hm => F.mn (hS _ hm)), h.chg.trans hc (fun g hg _ => hS g hg), h.hK.chg' hc (hl _ (by omega)), h.hR.chg hc (hl _ (by omega)), h.hP.chg hc (hl _ (by omega)),
    h.hs.chg hc (fun k hk => F.lbg k (hS k hk)) (fun k hk => hl k (by have := h.nw k hk; omega)), h.nw⟩
theorem PlS.on (F : PlF w0 w p m bl kb) (h : PlS w0 w wr p m c E top bl kb K M v Ss) (hb : Below wr.heap.size wr w') : PlS w0 w w' p m c E top bl kb K M v Ss :=
  h.tree F (Chg.below hb (Nat.le_refl _) []) (by simp)
/-- A side noted. -/
theorem PlS.add {l : Nat} {G : List Int} {e : Ending} (F : PlF w0 w p m bl kb) (h : PlS w0 w wr p m c E top bl kb K M v Ss) (hq : AdQ w0 wr (kb + 2) l M v Ss G e w') :
    e = .returned (.tuple #[]) ∧ ∃ M' v', PlS w0 w w' p m c E top bl kb K M' v' (if G = zero32 then Ss else Ss ++ [G]) ∧ KyOk M' ∧ (∀ i, i < 256 → bitI M' i = if G = zero32 then bitI M i else if i = l then 1 else bitI M i) ∧ Chg wr w' ((kb + 2) :: v.ownBlock.toList) := by
  obtain ⟨he, M', v', h1, h2, h3, h4, h5, h6⟩ := hq
  have hl : ∀ g, g < kb + 2 → g ∉ (kb + 2) :: v.ownBlock.toList := fun g hg hm => by
    rcases List.mem_cons.1 hm with rfl | hm
    · omega
    · have := h.nw g (by simpa using hm); omega
  have hF := F.hkb
  refine ⟨he, M', v', ⟨h.s.chg h5 (hl _ (by have := F.lp; omega)) (hl _ (by have := F.lm; omega)), h.chg.trans h5 (fun g hg hlt => ?_), h.hK.chg' h5 (hl _ (by omega)), h.hR.chg h5 (hl _ (by omega)), h1, h2, fun g hg => ?_⟩, h3, h4, h5⟩
  · exact absurd hg (hl g (by omega))
  · rcases h6 with e | e
    · rw [e] at hg; exact h.nw g hg
    · have := e g hg; have := h.size F; omega
/-- The part of the tree that is still to be walked, and how the whole stands once it is. -/
structure TlS (wr : World) (E : List En) (top : Option Addr) (bl : List Nat) (t : Tr) (b : Nat) (bs : List Nat) : Prop where
  tr : TrA wr (vOf E) t b bs
  nd : bs.Nodup
  ins : ∀ g ∈ bs, g ∈ bl
  cont : ∀ W S, Chg wr W S → (∀ g ∈ bl, g ∈ S → g ∈ bs) → TrA W (vOf E) t b bs → TopS W E top bl
theorem TlS.chg {t : Tr} {b : Nat} {bs S : List Nat} (h : TlS wr E top bl t b bs) (hc : Chg wr w' S) (hS : ∀ g ∈ bl, g ∉ S) : TlS w' E top bl t b bs :=
  ⟨h.tr.chg hc (fun g hg => hS g (h.ins g hg)), h.nd, h.ins, fun W T hT hx ht => h.cont W (S ++ T) ((Chg.refl wr _).trans hc (fun _ hg _ => List.mem_append.2 (.inl hg)) |>.trans hT (fun _ hg _ => List.mem_append.2 (.inr hg)))
    (fun g hg hm => (List.mem_append.1 hm).elim (fun h2 => absurd h2 (hS g hg)) (hx g hg)) ht⟩
theorem TlS.on {t : Tr} {b : Nat} {bs : List Nat} (h : TlS wr E top bl t b bs) (hb : Below wr.heap.size wr w') : TlS w' E top bl t b bs := h.chg (Chg.below hb (Nat.le_refl _) []) (by simp)
/-- The tree itself reckoned anew. -/
theorem TlS.self {t : Tr} {b : Nat} {bs : List Nat} (h : TlS wr E top bl t b bs) (hc : Chg wr w' bs) (ht : TrA w' (vOf E) t b bs) : TlS w' E top bl t b bs :=
  ⟨ht, h.nd, h.ins, fun W T hT hx ht => h.cont W (bs ++ T) ((Chg.refl wr _).trans hc (fun _ hg _ => List.mem_append.2 (.inl hg)) |>.trans hT (fun _ hg _ => List.mem_append.2 (.inr hg)))
    (fun g hg hm => (List.mem_append.1 hm).elim id (hx g hg)) ht⟩
theorem TlS.topS {t : Tr} {b : Nat} {bs : List Nat} (h : TlS wr E top bl t b bs) : TopS wr E top bl := h.cont wr [] (Chg.refl _ _) (by simp) h.tr
/-- Down a branch: the other branch may be reckoned meanwhile. -/
theorem TlS.down {k : List Int} {f : Nat} {l r : Tr} {b : Nat} {bs : List Nat} (h : TlS wr E top bl (.nd k f l r) b bs) :
    ∃ x y bl1 bl2, (∃ n : Nd, NdB wr b n ∧ n.ok ∧ n.key = k ∧ n.fork = (f : Int) ∧ n.lo = some ⟨x, 0, none⟩ ∧ n.hi = some ⟨y, 0, none⟩) ∧ TrA wr (vOf E) l x bl1 ∧ TrA wr (vOf E) r y bl2 ∧ bl1.Nodup ∧ bl2.Nodup ∧ (∀ g ∈ bl1, g ∈ bl) ∧ (∀ g ∈ bl2, g ∈ bl) ∧ b ∉ bl1 ∧ b ∉ bl2 ∧
      (∀ W, Chg wr W bl2 → TrA W (vOf E) r y bl2 → TlS W E top bl l x bl1) ∧ (∀ W, Chg wr W bl1 → TrA W (vOf E) l x bl1 → TlS W E top bl r y bl2) := by
  obtain ⟨x, y, bl1, bl2, hbl, hnd, htl, htr⟩ := h.tr
  have hn := h.nd
  rw [hbl] at hn
  obtain ⟨nb, nd12⟩ := List.nodup_cons.1 hn
  obtain ⟨nd1, nd2, nd3⟩ := List.nodup_append.1 nd12
  have i1 : ∀ g ∈ bl1, g ∈ bl := fun g hg => h.ins g (by rw [hbl]; simp [hg])
  have i2 : ∀ g ∈ bl2, g ∈ bl := fun g hg => h.ins g (by rw [hbl]; simp [hg])
  have n1 : b ∉ bl1 := fun hm => nb (by simp [hm])
  have n2 : b ∉ bl2 := fun hm => nb (by simp [hm])
  have d12 : ∀ g ∈ bl1, g ∉ bl2 := fun g h1 h2 => nd3 g h1 g h2 rfl
  have ib : b ∈ bl := h.ins b (by rw [hbl]; simp)
  refine ⟨x, y, bl1, bl2, ?_, htl, htr, nd1, nd2, i1, i2, n1, n2, fun W hc ht => ⟨htl.chg hc d12, nd1, i1, fun U T hT hx hu => ?_⟩, fun W hc ht => ⟨htr.chg hc (fun g hg hm => d12 g hm hg), nd2, i2, fun U T hT hx hu => ?_⟩⟩
  · obtain ⟨n, q1, q2, q3, q4, q5, q6, -, -⟩ := hnd
    exact ⟨n, q1, q2, q3, q4, q5, q6⟩
  · refine h.cont U (bl2 ++ T) ((Chg.refl wr _).trans hc (fun _ hg _ => List.mem_append.2 (.inl hg)) |>.trans hT (fun _ hg _ => List.mem_append.2 (.inr hg))) (fun g hg hm => ?_) ?_
    · rw [hbl]
      rcases List.mem_append.1 hm with hm | hm
      · simp [hm]
      · have := hx g hg hm; simp [this]
    · exact ⟨x, y, bl1, bl2, hbl, (hnd.chg hc n2).chg hT (fun hm => n1 (hx b ib hm)), hu, ht.chg hT (fun g hg hm => d12 g (hx g (i2 g hg) hm) hg)⟩
  · refine h.cont U (bl1 ++ T) ((Chg.refl wr _).trans hc (fun _ hg _ => List.mem_append.2 (.inl hg)) |>.trans hT (fun _ hg _ => List.mem_append.2 (.inr hg))) (fun g hg hm => ?_) ?_
    · rw [hbl]
      rcases List.mem_append.1 hm with hm | hm
      · simp [hm]
      · have := hx g hg hm; simp [this]
    · exact ⟨x, y, bl1, bl2, hbl, (hnd.chg hc n1).chg hT (fun hm => n2 (hx b ib hm)), ht.chg hT (fun g hg hm => d12 g hg (hx g (i1 g hg) hm)), hu⟩
/-- Ahead of the walk. -/
theorem TlS.start {t : Tr} {b : Nat} (ht : TrA wr (vOf E) t b bl) (hn : bl.Nodup) (ok : t.ok) (hk : ∀ k, k ∈ t.keys ↔ ∃ x ∈ E, x.k = k) : TlS wr E (some ⟨b, 0, none⟩) bl t b bl :=
  ⟨ht, hn, fun _ h => h, fun _ _ _ _ hu => .inr ⟨b, t, rfl, ok, hk, hu, hn⟩⟩
/-- What Prove answers, and what it leaves. -/
def PvQ (w0 w : World) (p m c : Nat) (E : List En) (top : Option Addr) (bl : List Nat) (K : List Int) (e : Ending) (w' : World) : Prop :=
  ∃ M q k Ss, e = .returned (.agg (pfRow M (.slice q Ss.length k)).toArray) ∧ PvN (vOf E) (E.map (·.k)) K 256 M Ss ∧ HsS w0 w' (.slice q Ss.length k) Ss ∧ MpW w0 w' p m E c top bl ∧ Chg w w' bl ∧ (∀ g, (Value.slice q Ss.length k).ownBlock = some g → w.heap.size ≤ g)
/-- At the end. -/
theorem PlS.done (F : PlF w0 w p m bl kb) (h : PlS w0 w wr p m c E top bl kb K M v Ss) (ht : TopS wr E top bl) (hM : MpW w0 w p m E c top bl) {u : Value} (hw : w' = wr.setCells (kb + 1) 0 (pfRow M u)) : HsS w0 w' v Ss ∧ MpW w0 w' p m E c top bl ∧ Chg w w' bl := by
  subst hw
  have c1 : Chg wr (wr.setCells (kb + 1) 0 (pfRow M u)) [kb + 1] := (Chg.refl wr [kb + 1]).setCells (b := kb + 1) (.inl (by simp)) (pfRow M u) 0
  have hk := F.hkb
  refine ⟨h.hs.chg c1 (fun g hg => by have := F.lw0; have := List.mem_singleton.1 hg; omega) (fun g hg hm => by have := h.nw g hg; have := List.mem_singleton.1 hm; omega), ?_, h.chg.trans c1 (fun g hg hlt => by have := List.mem_singleton.1 hg; omega)⟩
  refine ⟨⟨h.s.chg c1 (by have := F.lp; simp; omega) (by have := F.lm; simp; omega), ht.chg c1 (fun g hg hm => by have := F.lbl g hg; have := List.mem_singleton.1 hm; omega), hM.map.e, hM.map.n, hM.map.p, hM.map.m⟩, ?_, hM.pg, hM.mg, hM.bg⟩
  exact h.hs.below.trans (c1.toBelow h.hs.below.size (fun g hg => by have := F.lw0; have := List.mem_singleton.1 hg; omega))
end
end Go.Proofs.YtjlodnecdngdfaaDoor
