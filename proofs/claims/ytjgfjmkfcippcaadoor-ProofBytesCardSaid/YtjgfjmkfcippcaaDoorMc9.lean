/-
  The way up from the leaf of one pair, reckoned: part 0.; The way up from the leaf of one pair, reckoned: part 1.; The way up from the leaf of one pair, reckoned: part 2.; The way up from the leaf of one pair, reckoned: part 3.; The root of one pair is not zero.; basculelaw05.knows answers true.; Package smt: no map, and one that nobody made; a proof's cells.; Slices of hashes; rows of hashes of the call's own.; Bits of a hash, in package proof and in the document; how many are set.; Whether a proof may be, in package proof and in the document.
-/
import Derived.Lib.BitFns
import Derived.Laws.Bits64
import Derived.Test.YtjgfjmkfcippcaaDoorMc6
import Derived.Test.YtjgfjmkfcippcaaDoorMc7
import Derived.Test.YtjgfjmkfcippcaaDoorMc8
namespace Go.Proofs.YtjgfjmkfcippcaaDoor
open Go.RowKit
set_option maxRecDepth 100000
theorem seg_leaf : eqN (lfN k1N v2N) rd0 = true := by decide +kernel
theorem seg_0 : eqN (upN k1N 256 0 16 rd0) rd1 = true := by decide +kernel
theorem seg_1 : eqN (upN k1N 256 16 16 rd1) rd2 = true := by decide +kernel
theorem seg_2 : eqN (upN k1N 256 32 16 rd2) rd3 = true := by decide +kernel
theorem seg_3 : eqN (upN k1N 256 48 16 rd3) rd4 = true := by decide +kernel
end Go.Proofs.YtjgfjmkfcippcaaDoor
namespace Go.Proofs.YtjgfjmkfcippcaaDoor
open Go.RowKit
set_option maxRecDepth 100000
theorem seg_4 : eqN (upN k1N 256 64 16 rd4) rd5 = true := by decide +kernel
theorem seg_5 : eqN (upN k1N 256 80 16 rd5) rd6 = true := by decide +kernel
theorem seg_6 : eqN (upN k1N 256 96 16 rd6) rd7 = true := by decide +kernel
theorem seg_7 : eqN (upN k1N 256 112 16 rd7) rd8 = true := by decide +kernel
end Go.Proofs.YtjgfjmkfcippcaaDoor
namespace Go.Proofs.YtjgfjmkfcippcaaDoor
open Go.RowKit
set_option maxRecDepth 100000
theorem seg_8 : eqN (upN k1N 256 128 16 rd8) rd9 = true := by decide +kernel
theorem seg_9 : eqN (upN k1N 256 144 16 rd9) rd10 = true := by decide +kernel
theorem seg_10 : eqN (upN k1N 256 160 16 rd10) rd11 = true := by decide +kernel
theorem seg_11 : eqN (upN k1N 256 176 16 rd11) rd12 = true := by decide +kernel
end Go.Proofs.YtjgfjmkfcippcaaDoor
namespace Go.Proofs.YtjgfjmkfcippcaaDoor
open Go.RowKit
set_option maxRecDepth 100000
theorem seg_12 : eqN (upN k1N 256 192 16 rd12) rd13 = true := by decide +kernel
theorem seg_13 : eqN (upN k1N 256 208 16 rd13) rd14 = true := by decide +kernel
theorem seg_14 : eqN (upN k1N 256 224 16 rd14) rd15 = true := by decide +kernel
theorem seg_15 : eqN (upN k1N 256 240 16 rd15) rd16 = true := by decide +kernel
end Go.Proofs.YtjgfjmkfcippcaaDoor
namespace Go.Proofs.YtjgfjmkfcippcaaDoor
open Go.RowKit
set_option maxRecDepth 100000
theorem k1N_to : castL k1N = K1 := by rfl
theorem v2N_to : castL v2N = V2 := by rfl
theorem k1N_by : ByN k1N := by
  intro x hx
  simp only [k1N, List.mem_cons, List.not_mem_nil, or_false, or_self] at hx
  omega
theorem v2N_by : ByN v2N := by
  intro x hx
  simp only [v2N, List.mem_cons, List.not_mem_nil, or_false, or_self] at hx
  omega
theorem K1_bytes : Bytes K1 := by
  intro x hx
  simp only [K1, List.mem_cons, List.not_mem_nil, or_false, or_self] at hx
  omega
theorem V2_bytes : Bytes V2 := by
  intro x hx
  simp only [V2, List.mem_cons, List.not_mem_nil, or_false, or_self] at hx
  omega
theorem rd_leaf : lfH K1 V2 = castL rd0 ∧ ByN rd0 := by
  have h := lfN_to k1N_by v2N_by
  have b := lfN_by k1N v2N
  rw [eqN_iff.1 seg_leaf] at h b
  rw [← k1N_to, ← v2N_to]
  exact ⟨h, b⟩
/-- The root of the pair K1, V2. -/
def rtK : List Int := upH K1 256 (lfH K1 V2) 256
theorem rd_root : rtK = castL rd16 := by
  have h0 : upH (castL k1N) 256 (lfH K1 V2) 0 = castL rd0 ∧ ByN rd0 := rd_leaf
  have h := up_more h0 seg_0
  have h := up_more (k := 16) h seg_1
  have h := up_more (k := 32) h seg_2
  have h := up_more (k := 48) h seg_3
  have h := up_more (k := 64) h seg_4
  have h := up_more (k := 80) h seg_5
  have h := up_more (k := 96) h seg_6
  have h := up_more (k := 112) h seg_7
  have h := up_more (k := 128) h seg_8
  have h := up_more (k := 144) h seg_9
  have h := up_more (k := 160) h seg_10
  have h := up_more (k := 176) h seg_11
  have h := up_more (k := 192) h seg_12
  have h := up_more (k := 208) h seg_13
  have h := up_more (k := 224) h seg_14
  have h := up_more (k := 240) h seg_15
  have h1 := h.1
  rw [k1N_to] at h1
  exact h1
theorem rtK_len : rtK.length = 32 := upH_len _ _ (lfH_len _ _) _
theorem rtK_bytes : Bytes rtK := upH_bytes _ _ (lfH_bytes _ _) _
theorem rtK_some : (rtK == zero32) = false := by
  rw [rd_root, ← z32N_to]
  simp only [beq_eq_false_iff_ne, ne_eq]
  intro h
  have := castL_inj h
  simp [rd16, z32N] at this
theorem lfK_some : lfH K1 V2 = sha (frm (sn leafS) [K1, V2]) := lfH_some _ (by simp [V2, zero32])
end Go.Proofs.YtjgfjmkfcippcaaDoor
namespace Go.Proofs.YtjgfjmkfcippcaaDoor
open Go.RowKit
set_option maxRecDepth 100000

theorem num5_any (n : Int) (w : World) : Calls Tryd.prog 15 #[.int .i64 n] w fun e w' => e = .returned (.int .i64 n) ∧ w' = w := by
  go_enter Tryd.func15, Tryd.ntmps15
  go_wp2_with fail
  go_ret
  exact ⟨rfl, rfl⟩

theorem V2_zero : (V2 == zero32) = false := by simp [V2, zero32]
theorem zero_V2 : (zero32 == V2) = false := by simp [V2, zero32]
set_option maxHeartbeats 8000000 in
theorem knows5_any {w : World} (hT : Tbl w) : Calls Tryd.prog 13 #[] w fun e w' => e = .returned (.bool true) ∧ Below w.heap.size w w' := by
  have HT := Lib.hid hT
  have hpos := hT.pos
  have z32 := zero32_len
  have k32 := K1_len
  have v32 := V2_len
  have hlz := hc_len zero32
  clear hT
  go_enter Tryd.func13, Tryd.ntmps13
  go_wp2_with fail
  refine New_nil.mono ?_
  rintro e w1 ⟨p, m, rfl, hp, hm, hb1, hM1⟩
  go_wp2_with fail
  refine (Root_nil hM1).mono ?_
  rintro e w2 ⟨rfl, hb2⟩
  have M2 := hM1.on hb2
  have B2 := hb1.trans (hb2.mono hb1.size)
  have lp2 := M2.lp
  have lm2 := M2.lm
  have H2 := HashAt.new w2 zero32
  have th2 := H2.there zero32_len
  have H3 := Lib.hid (H2.put zero32_len zero32_len)
  have B3' : Below w2.heap.size w2 ((w2.alloc (.cells (hc zero32).toArray 23)).setCells w2.heap.size 0 (hc zero32)) := below_setCells' _ (Nat.le_refl _) _ _ ((Below.refl _ _).alloc (Nat.le_refl _) _)
  have M3 := Lib.hid (M2.on B3')
  have B3 := Lib.hid (B2.trans (B3'.mono B2.size))
  have hs3 := B3'.size
  have hs2 := B2.size
  have hq3 : w2.heap.size < ((w2.alloc (.cells (hc zero32).toArray 23)).setCells w2.heap.size 0 (hc zero32)).heap.size := H3.out.lt
  clear hb1 hM1 hb2 M2 B2 H2 B3'
  go_wp2_with fail
  clear th2
  obtain ⟨q3, hq⟩ : ∃ q, q = w2.heap.size := ⟨_, rfl⟩
  rw [← hq] at H3 M3 B3 lp2 lm2 hs3 hs2 hq3 ⊢
  generalize (w2.alloc (.cells (hc zero32).toArray 23)).setCells q3 0 (hc zero32) = w3 at *
  clear hq
  refine (Put_new V2_len V2_zero zero_V2 M3.out).mono ?_
  rintro e w4 ⟨rfl, hc4, b, hb4, hM4, hN4⟩
  have M4 := Lib.hid hM4
  have N4 := Lib.hid hN4
  have B4 := Lib.hid (B3.out.trans (hc4.toBelow B3.out.size (by intro k hk; simp at hk; rcases hk with rfl | rfl <;> assumption)))
  have H4 := Lib.hid (H3.out.chg hc4 (by simp; omega))
  have hs4 := hc4.size
  clear hc4 hM4 hN4 H3 M3 B3
  go_wp2_with fail
  refine (Root_leaf (n := ⟨K1, 256, none, none, zero32, false, zero32, 0, false⟩) (V := V2) (HT.out.on B4.out hpos) ⟨K1_len, zero32_len, zero32_len⟩ rfl K1_bytes V2_len V2_bytes rfl rfl rfl N4.out M4.out (by omega) (by omega) (by simp; omega)).mono ?_
  rintro e w5 ⟨rfl, hc5, n5, ok5, hf5, hn5⟩
  have M5 := M4.out.chg hc5 (by simp; omega) (by simp; omega)
  obtain ⟨R, hR⟩ : ∃ R, upH K1 256 (lfH K1 V2) 256 = R := ⟨_, rfl⟩
  have lR : R.length = 32 := hR ▸ rtK_len
  have dR : (R == zero32) = false := hR ▸ rtK_some
  rw [hR]
  clear hR
  have H5 := HashAt.new w5 zero32
  have th5 := H5.there zero32_len
  have R5 := Lib.hid (H5.put zero32_len lR)
  have B5' : Below w5.heap.size w5 ((w5.alloc (.cells (hc zero32).toArray 23)).setCells w5.heap.size 0 (hc R)) := below_setCells' _ (Nat.le_refl _) _ _ ((Below.refl _ _).alloc (Nat.le_refl _) _)
  have B5 := B4.out.trans (hc5.toBelow B4.out.size (by intro k hk; simp at hk; subst hk; omega))
  have M6 := Lib.hid (M5.on B5')
  have N6 := Lib.hid (hn5.on B5')
  have H6 := Lib.hid ((H4.out.chg hc5 (by simp; omega)).on B5')
  have B6 := Lib.hid (B5.trans (B5'.mono B5.size))
  have hlR := hc_len R
  have hs5 := hc5.size
  have hs6 := B5'.size
  have OK5 := Lib.hid ok5
  have HF5 := Lib.hid hf5
  have DR := Lib.hid dR
  clear hc5 hn5 M5 H5 B5' B5 M4 N4 B4 H4 ok5 hf5 dR
  go_wp2_with fail
  clear th5
  obtain ⟨q5, hq⟩ : ∃ q, q = w5.heap.size := ⟨_, rfl⟩
  rw [← hq] at R5 M6 N6 H6 B6 hs5 hs6 ⊢
  generalize (w5.alloc (.cells (hc zero32).toArray 23)).setCells q5 0 (hc R) = w6 at *
  clear hq
  refine (Put_gone V2_len V2_zero M6.out N6.out OK5.out HF5.out (by omega) (by omega)).mono ?_
  rintro e w7 ⟨rfl, hc7, hM7⟩
  have M7 := Lib.hid hM7
  have B7 := Lib.hid (B6.out.trans (hc7.toBelow B6.out.size (by intro k hk; simp at hk; rcases hk with rfl | rfl <;> assumption)))
  have H7 := Lib.hid (H6.out.chg hc7 (by simp; omega))
  have R7 := Lib.hid (R5.out.chg hc7 (by simp; omega))
  clear hc7 hM7 H6 R5 B6 M6 N6
  go_wp2_with fail
  have hzz : (zero32 == zero32) = true := beq_self_eq_true _
  have dR := DR.out
  refine wp_region_held_drew (S := fun W => Below w.heap.size w W ∧ HashAt W q3 zero32 ∧ HashAt W q5 R ∧ MpS W p m #[] 1 none) (by kernel_rfl) (⟨B7.out.drew, H7.out.on ((Below.refl _ _).drew), R7.out.on ((Below.refl _ _).drew), M7.out.on ((Below.refl _ _).drew)⟩) (fun h0 => ?_)
  refine wpAnyH_take (i := 0) (v := ?_) (by rw [List.getElem?_toArray]; rfl) (by kernel_rfl) (by kernel_rfl) (by kernel_rfl) (by exact fun _ _ _ h => h) (Or.inl ⟨by rfl, ?_⟩) h0 ?_
  rotate_left
  · intro W hW
    go_simp
    all_goals with_reducible rfl
  try simp only [Act.put, List.setIfInBounds_toArray, List.set_cons_zero, List.set_cons_succ]
  refine wpAnyH_take (i := 2) (v := ?_) (by rw [List.getElem?_toArray]; rfl) (by kernel_rfl) (by kernel_rfl) (by kernel_rfl) (by exact fun _ _ _ h => h) (Or.inl ⟨by rfl, ?_⟩) h0 ?_
  rotate_left
  · intro W hW
    go_simp
    all_goals with_reducible rfl
  try simp only [Act.put, List.setIfInBounds_toArray, List.set_cons_zero, List.set_cons_succ]
  refine wpAnyH_take (i := 5) (v := ?_) (by rw [List.getElem?_toArray]; rfl) (by kernel_rfl) (by kernel_rfl) (by kernel_rfl) (by exact fun _ _ _ h => h) (Or.inl ⟨by rfl, ?_⟩) h0 ?_
  rotate_left
  · intro W hW
    go_simp
    all_goals with_reducible rfl
  try simp only [Act.put, List.setIfInBounds_toArray, List.set_cons_zero, List.set_cons_succ]
  refine wpAnyH_ready (rs := [1]) (by kernel_rfl) (by simp) ?_
  refine AllReadyH.cons (by rw [List.getElem?_toArray]; rfl) (fun K hK => ?_) AllReadyH.nil
  rw [if_pos (by rfl)]
  go_wp2_with fail
  refine (num5_any 0 _).mono ?_
  rintro e wx ⟨rfl, hwx⟩
  obtain rfl := hwx.symm
  clear hwx
  go_wp2_with fail
  refine hK.out _ _ (h0) (fun hn1 => ?_)
  clear hK K
  try simp only [Act.put, List.setIfInBounds_toArray, List.set_cons_zero, List.set_cons_succ]
  refine wpAnyH_ready (rs := [3]) (by kernel_rfl) (by simp) ?_
  refine AllReadyH.cons (by rw [List.getElem?_toArray]; rfl) (fun K hK => ?_) AllReadyH.nil
  rw [if_pos (by rfl)]
  go_wp2_with fail
  refine (num5_any 0 _).mono ?_
  rintro e wx ⟨rfl, hwx⟩
  obtain rfl := hwx.symm
  clear hwx
  go_wp2_with fail
  refine hK.out _ _ (hn1) (fun hn3 => ?_)
  clear hK K
  try simp only [Act.put, List.setIfInBounds_toArray, List.set_cons_zero, List.set_cons_succ]
  refine wpAnyH_take (i := 4) (v := ?_) (by rw [List.getElem?_toArray]; rfl) (by kernel_rfl) (by kernel_rfl) (by kernel_rfl) (by exact fun _ _ _ h => h) (Or.inl ⟨by rfl, ?_⟩) hn3 ?_
  rotate_left
  · intro W hW
    go_simp
    all_goals with_reducible rfl
  try simp only [Act.put, List.setIfInBounds_toArray, List.set_cons_zero, List.set_cons_succ]
  refine wpAnyH_ready (rs := [6]) (by kernel_rfl) (by simp) ?_
  refine AllReadyH.cons (by rw [List.getElem?_toArray]; rfl) (fun K hK => ?_) AllReadyH.nil
  rw [if_pos (by rfl)]
  go_wp2_with fail
  refine (num5_any 0 _).mono ?_
  rintro e wx ⟨rfl, hwx⟩
  obtain rfl := hwx.symm
  clear hwx
  go_wp2_with fail
  refine hK.out _ _ (hn3) (fun hn6 => ?_)
  clear hK K
  try simp only [Act.put, List.setIfInBounds_toArray, List.set_cons_zero, List.set_cons_succ]
  refine wpAnyH_take (i := 7) (v := ?_) (by rw [List.getElem?_toArray]; rfl) (by kernel_rfl) (by kernel_rfl) (by kernel_rfl) (by exact fun _ _ _ h => h) (Or.inl ⟨by rfl, ?_⟩) hn6 ?_
  rotate_left
  · intro W hW
    go_simp
    all_goals with_reducible rfl
  try simp only [Act.put, List.setIfInBounds_toArray, List.set_cons_zero, List.set_cons_succ]
  refine wpAnyH_take (i := 8) (v := ?_) (by rw [List.getElem?_toArray]; rfl) (by kernel_rfl) (by kernel_rfl) (by kernel_rfl) (by exact fun _ _ _ h => h) (Or.inl ⟨by rfl, ?_⟩) hn6 ?_
  rotate_left
  · intro W hW
    go_simp
    all_goals with_reducible rfl
  try simp only [Act.put, List.setIfInBounds_toArray, List.set_cons_zero, List.set_cons_succ]
  refine wpAnyH_take (i := 9) (v := ?_) (by rw [List.getElem?_toArray]; rfl) (by kernel_rfl) (by kernel_rfl) (by kernel_rfl) (by exact fun _ _ _ h => h) (Or.inl ⟨by rfl, ?_⟩) hn6 ?_
  rotate_left
  · intro W hW
    go_simp
    all_goals with_reducible rfl
  try simp only [Act.put, List.setIfInBounds_toArray, List.set_cons_zero, List.set_cons_succ]
  refine wpAnyH_take (i := 10) (v := ?_) (by rw [List.getElem?_toArray]; rfl) (by kernel_rfl) (by kernel_rfl) (by kernel_rfl) (by exact fun _ _ _ h => h) (Or.inl ⟨by rfl, ?_⟩) hn6 ?_
  rotate_left
  · intro W hW
    have ca := hW.2.1.row zero32_len
    go_simp
    all_goals with_reducible rfl
  try simp only [Act.put, List.setIfInBounds_toArray, List.set_cons_zero, List.set_cons_succ]
  refine wpAnyH_take (i := 11) (v := ?_) (by rw [List.getElem?_toArray]; rfl) (by kernel_rfl) (by kernel_rfl) (by kernel_rfl) (by exact fun _ _ _ h => h) (Or.inl ⟨by rfl, ?_⟩) hn6 ?_
  rotate_left
  · intro W hW
    go_simp
    all_goals with_reducible rfl
  try simp only [Act.put, List.setIfInBounds_toArray, List.set_cons_zero, List.set_cons_succ]
  refine wpAnyH_take (i := 12) (v := ?_) (by rw [List.getElem?_toArray]; rfl) (by kernel_rfl) (by kernel_rfl) (by kernel_rfl) (by exact fun _ _ _ h => h) (Or.inl ⟨by rfl, ?_⟩) hn6 ?_
  rotate_left
  · intro W hW
    go_simp
    all_goals with_reducible rfl
  try simp only [Act.put, List.setIfInBounds_toArray, List.set_cons_zero, List.set_cons_succ]
  refine wpAnyH_take (i := 13) (v := ?_) (by rw [List.getElem?_toArray]; rfl) (by kernel_rfl) (by kernel_rfl) (by kernel_rfl) (by exact fun _ _ _ h => h) (Or.inl ⟨by rfl, ?_⟩) hn6 ?_
  rotate_left
  · intro W hW
    go_simp
    all_goals with_reducible rfl
  try simp only [Act.put, List.setIfInBounds_toArray, List.set_cons_zero, List.set_cons_succ]
  refine wpAnyH_take (i := 14) (v := ?_) (by rw [List.getElem?_toArray]; rfl) (by kernel_rfl) (by kernel_rfl) (by kernel_rfl) (by exact fun _ _ _ h => h) (Or.inl ⟨by rfl, ?_⟩) hn6 ?_
  rotate_left
  · intro W hW
    go_simp
    all_goals with_reducible rfl
  try simp only [Act.put, List.setIfInBounds_toArray, List.set_cons_zero, List.set_cons_succ]
  refine wpAnyH_take (i := 15) (v := ?_) (by rw [List.getElem?_toArray]; rfl) (by kernel_rfl) (by kernel_rfl) (by kernel_rfl) (by exact fun _ _ _ h => h) (Or.inl ⟨by rfl, ?_⟩) hn6 ?_
  rotate_left
  · intro W hW
    have cb := hW.2.2.1.row lR
    go_simp
    all_goals with_reducible rfl
  try simp only [Act.put, List.setIfInBounds_toArray, List.set_cons_zero, List.set_cons_succ]
  refine wpAnyH_take (i := 16) (v := ?_) (by rw [List.getElem?_toArray]; rfl) (by kernel_rfl) (by kernel_rfl) (by kernel_rfl) (by exact fun _ _ _ h => h) (Or.inl ⟨by rfl, ?_⟩) hn6 ?_
  rotate_left
  · intro W hW
    have ca := hW.2.1.row zero32_len
    go_simp
    all_goals with_reducible rfl
  try simp only [Act.put, List.setIfInBounds_toArray, List.set_cons_zero, List.set_cons_succ]
  refine wpAnyH_take (i := 17) (v := ?_) (by rw [List.getElem?_toArray]; rfl) (by kernel_rfl) (by kernel_rfl) (by kernel_rfl) (by exact fun _ _ _ h => h) (Or.inl ⟨by rfl, ?_⟩) hn6 ?_
  rotate_left
  · intro W hW
    go_simp
    all_goals with_reducible rfl
  try simp only [Act.put, List.setIfInBounds_toArray, List.set_cons_zero, List.set_cons_succ]
  refine wpAnyH_take (i := 18) (v := ?_) (by rw [List.getElem?_toArray]; rfl) (by kernel_rfl) (by kernel_rfl) (by kernel_rfl) (by exact fun _ _ _ h => h) (Or.inl ⟨by rfl, ?_⟩) hn6 ?_
  rotate_left
  · intro W hW
    go_simp
    all_goals with_reducible rfl
  try simp only [Act.put, List.setIfInBounds_toArray, List.set_cons_zero, List.set_cons_succ]
  refine wpAnyH_take (i := 19) (v := ?_) (by rw [List.getElem?_toArray]; rfl) (by kernel_rfl) (by kernel_rfl) (by kernel_rfl) (by exact fun _ _ _ h => h) (Or.inl ⟨by rfl, ?_⟩) hn6 ?_
  rotate_left
  · intro W hW
    go_simp
    all_goals with_reducible rfl
  try simp only [Act.put, List.setIfInBounds_toArray, List.set_cons_zero, List.set_cons_succ]
  refine wpAnyH_take (i := 20) (v := ?_) (by rw [List.getElem?_toArray]; rfl) (by kernel_rfl) (by kernel_rfl) (by kernel_rfl) (by exact fun _ _ _ h => h) (Or.inl ⟨by rfl, ?_⟩) hn6 ?_
  rotate_left
  · intro W hW
    go_simp
    all_goals with_reducible rfl
  try simp only [Act.put, List.setIfInBounds_toArray, List.set_cons_zero, List.set_cons_succ]
  refine wpAnyH_take (i := 22) (v := ?_) (by rw [List.getElem?_toArray]; rfl) (by kernel_rfl) (by kernel_rfl) (by kernel_rfl) (by exact fun _ _ _ h => h) (Or.inl ⟨by rfl, ?_⟩) hn6 ?_
  rotate_left
  · intro W hW
    have ca := hW.2.1.row zero32_len
    go_simp
    all_goals with_reducible rfl
  try simp only [Act.put, List.setIfInBounds_toArray, List.set_cons_zero, List.set_cons_succ]
  refine wpAnyH_ready (rs := [21]) (by kernel_rfl) (by simp) ?_
  refine AllReadyH.cons (by rw [List.getElem?_toArray]; rfl) (fun K hK => ?_) AllReadyH.nil
  rw [if_pos (by rfl)]
  go_wp2_with fail
  refine (Root_nil hn6.2.2.2).mono ?_
  rintro e w8 ⟨rfl, hb8⟩
  go_wp2_with fail
  refine hK.out _ _ (⟨hn6.1.trans (hb8.mono hn6.1.size), hn6.2.1.on hb8, hn6.2.2.1.on hb8, hn6.2.2.2.on hb8⟩) (fun hr => ?_)
  clear hK K
  try simp only [Act.put, List.setIfInBounds_toArray, List.set_cons_zero, List.set_cons_succ]
  refine wpAnyH_take (i := 23) (v := ?_) (by rw [List.getElem?_toArray]; rfl) (by kernel_rfl) (by kernel_rfl) (by kernel_rfl) (by exact fun _ _ _ h => h) (Or.inl ⟨by rfl, ?_⟩) hr ?_
  rotate_left
  · intro W hW
    go_simp
    all_goals with_reducible rfl
  try simp only [Act.put, List.setIfInBounds_toArray, List.set_cons_zero, List.set_cons_succ]
  refine wpAnyH_take (i := 24) (v := ?_) (by rw [List.getElem?_toArray]; rfl) (by kernel_rfl) (by kernel_rfl) (by kernel_rfl) (by exact fun _ _ _ h => h) (Or.inl ⟨by rfl, ?_⟩) hr ?_
  rotate_left
  · intro W hW
    go_simp
    all_goals with_reducible rfl
  try simp only [Act.put, List.setIfInBounds_toArray, List.set_cons_zero, List.set_cons_succ]
  refine wpAnyH_take (i := 25) (v := ?_) (by rw [List.getElem?_toArray]; rfl) (by kernel_rfl) (by kernel_rfl) (by kernel_rfl) (by exact fun _ _ _ h => h) (Or.inl ⟨by rfl, ?_⟩) hr ?_
  rotate_left
  · intro W hW
    go_simp
    all_goals with_reducible rfl
  try simp only [Act.put, List.setIfInBounds_toArray, List.set_cons_zero, List.set_cons_succ]
  refine wpAnyH_take (i := 26) (v := ?_) (by rw [List.getElem?_toArray]; rfl) (by kernel_rfl) (by kernel_rfl) (by kernel_rfl) (by exact fun _ _ _ h => h) (Or.inl ⟨by rfl, ?_⟩) hr ?_
  rotate_left
  · intro W hW
    go_simp
    all_goals with_reducible rfl
  try simp only [Act.put, List.setIfInBounds_toArray, List.set_cons_zero, List.set_cons_succ]
  refine wpAnyH_take (i := 27) (v := ?_) (by rw [List.getElem?_toArray]; rfl) (by kernel_rfl) (by kernel_rfl) (by kernel_rfl) (by exact fun _ _ _ h => h) (Or.inl ⟨by rfl, ?_⟩) hr ?_
  rotate_left
  · intro W hW
    go_simp
    all_goals with_reducible rfl
  try simp only [Act.put, List.setIfInBounds_toArray, List.set_cons_zero, List.set_cons_succ]
  refine wpAnyH_take (i := 29) (v := ?_) (by rw [List.getElem?_toArray]; rfl) (by kernel_rfl) (by kernel_rfl) (by kernel_rfl) (by exact fun _ _ _ h => h) (Or.inl ⟨by rfl, ?_⟩) hr ?_
  rotate_left
  · intro W hW
    have ca := hW.2.1.row zero32_len
    go_simp
    all_goals with_reducible rfl
  try simp only [Act.put, List.setIfInBounds_toArray, List.set_cons_zero, List.set_cons_succ]
  refine wpAnyH_ready (rs := [28]) (by kernel_rfl) (by simp) ?_
  refine AllReadyH.cons (by rw [List.getElem?_toArray]; rfl) (fun K hK => ?_) AllReadyH.nil
  rw [if_pos (by rfl)]
  go_wp2_with fail
  refine (Get_none hr.2.2.2).mono ?_
  rintro e w9 ⟨rfl, hb9⟩
  go_wp2_with fail
  refine hK.out _ _ (⟨hr.1.trans (hb9.mono hr.1.size), hr.2.1.on hb9, hr.2.2.1.on hb9, hr.2.2.2.on hb9⟩) (fun hg => ?_)
  clear hK K
  try simp only [Act.put, List.setIfInBounds_toArray, List.set_cons_zero, List.set_cons_succ]
  refine wpAnyH_take (i := 30) (v := ?_) (by rw [List.getElem?_toArray]; rfl) (by kernel_rfl) (by kernel_rfl) (by kernel_rfl) (by exact fun _ _ _ h => h) (Or.inl ⟨by rfl, ?_⟩) hg ?_
  rotate_left
  · intro W hW
    go_simp
    all_goals with_reducible rfl
  try simp only [Act.put, List.setIfInBounds_toArray, List.set_cons_zero, List.set_cons_succ]
  refine wpAnyH_take (i := 31) (v := ?_) (by rw [List.getElem?_toArray]; rfl) (by kernel_rfl) (by kernel_rfl) (by kernel_rfl) (by exact fun _ _ _ h => h) (Or.inl ⟨by rfl, ?_⟩) hg ?_
  rotate_left
  · intro W hW
    go_simp
    all_goals with_reducible rfl
  try simp only [Act.put, List.setIfInBounds_toArray, List.set_cons_zero, List.set_cons_succ]
  refine wpAnyH_take (i := 32) (v := ?_) (by rw [List.getElem?_toArray]; rfl) (by kernel_rfl) (by kernel_rfl) (by kernel_rfl) (by exact fun _ _ _ h => h) (Or.inl ⟨by rfl, ?_⟩) hg ?_
  rotate_left
  · intro W hW
    go_simp
    all_goals with_reducible rfl
  try simp only [Act.put, List.setIfInBounds_toArray, List.set_cons_zero]
  refine wpAnyH_done (by kernel_rfl) ?_ _
  have BE := Lib.hid hg.1
  go_wp2_with fail
  go_ret
  exact ⟨rfl, BE.out⟩
end Go.Proofs.YtjgfjmkfcippcaaDoor
namespace Go.Proofs.YtjgfjmkfcippcaaDoor
open Go.RowKit
set_option maxRecDepth 100000

/-- No map, or one that nobody made. -/
def Nm (w : World) (v : Value) : Prop := v = .pointer none ∨ ∃ p, v = .pointer (some ⟨p, 0, none⟩) ∧ w.cell? ⟨p, 0, none⟩ = some (.map none)
theorem Nm.on {w w' : World} {v : Value} (h : Nm w v) (hb : Below w.heap.size w w') : Nm w' v := by
  rcases h with h | ⟨p, h, c⟩
  · exact .inl h
  · exact .inr ⟨p, h, by rw [hb.cell (World.block_lt_of_cell? w _ c)]; exact c⟩
theorem Nm.alloc {w : World} {v : Value} (h : Nm w v) (o : Obj) : Nm (w.alloc o) v := h.on ((Below.refl _ _).alloc (Nat.le_refl _) o)
theorem made_N {w : World} {v : Value} (h : Nm w v) : Calls Tryd.prog 47 #[v] w fun e w' => e = .returned (.bool false) ∧ w' = w := by
  rcases h with rfl | ⟨p, rfl, c⟩
  · exact made_none
  · exact made_no c

/-! ### A proof's cells -/
def pfRow (F : List Int) (v : Value) : List Value := hc F ++ [v]
theorem pfRow_len {F : List Int} (h : F.length = 32) (v : Value) : (pfRow F v).length = 33 := by simp [pfRow, hc_len, h]
def PfB (t : TypeId) (w : World) (b : Nat) (F : List Int) (v : Value) : Prop := w.heap[b]? = some (.cells (pfRow F v).toArray t (0, 0))
section
variable {t : TypeId} {w w' : World} {b : Nat} {F : List Int} {v : Value}
theorem PfB.lt (h : PfB t w b F v) : b < w.heap.size := (Array.getElem?_eq_some_iff.1 h).1
theorem PfB.new (w : World) (F : List Int) (v : Value) : PfB t (w.alloc (.cells (pfRow F v).toArray t)) w.heap.size F v := heap_alloc_new w _
theorem PfB.chg {S : List Nat} (h : PfB t w b F v) (hc : Chg w w' S) (hS : b ∉ S) : PfB t w' b F v := by
  unfold PfB
  rw [hc.block b h.lt hS]; exact h
theorem PfB.on (h : PfB t w b F v) (hb : Below w.heap.size w w') : PfB t w' b F v := h.chg (S := []) (Chg.below hb (Nat.le_refl _) []) (by simp)
theorem PfB.alloc (h : PfB t w b F v) (o : Obj) : PfB t (w.alloc o) b F v := h.on ((Below.refl _ _).alloc (Nat.le_refl _) o)
theorem PfB.mask (h : PfB t w b F v) (hF : F.length = 32) : rowOf w b 0 32 = hc F := by
  rw [rowOf_block h]
  simp [pfRow, hc_len, hF]
theorem PfB.whole (h : PfB t w b F v) (hF : F.length = 32) : rowOf w b 0 33 = pfRow F v := by
  rw [rowOf_block h]
  have := pfRow_len hF v
  simp [List.take_of_length_le (Nat.le_of_eq this)]
theorem PfB.sides (h : PfB t w b F v) (hF : F.length = 32) : w.cell? ⟨b, 32, none⟩ = some v := by
  rw [cell_of_row _ _ _ _ _ _ h]
  simp [pfRow, hc_len, hF]
theorem PfB.there (h : PfB t w b F v) (hF : F.length = 32) : w.there b 0 33 := fun j hj => by
  refine ⟨?_, Joins.unfrozen_of_block h _⟩
  rw [cell_of_row _ _ _ _ _ _ h]
  have := pfRow_len hF v
  simp [this]; omega
theorem PfB.put (h : PfB t w b F v) (hF : F.length = 32) {G : List Int} (hG : G.length = 32) (u : Value) : PfB t (w.setCells b 0 (pfRow G u)) b G u := by
  have := setCells_block (b := b) (t := t) (fr := (0, 0)) (pfRow G u) (o := 0) (w := w) (pre := []) (mid := pfRow F v) (post := []) (by simpa [PfB] using h) rfl (by rw [pfRow_len hF, pfRow_len hG])
  simpa [PfB] using this
theorem PfB.others (h : PfB t w b F v) {k : Nat} (hk : b ≠ k) (o : Nat) (vs : List Value) : PfB t (w.setCells k o vs) b F v := by
  unfold PfB
  rw [setCells_other hk]; exact h
end
theorem pf_one (F : List Int) {v : Value} (hv : v.oneCell' = true) : (pfRow F v).toArray.all (·.oneCell') = true := by
  refine all_oneCell_toArray fun u hu => ?_
  simp only [pfRow, List.mem_append, List.mem_cons, List.not_mem_nil, or_false] at hu
  rcases hu with hu | rfl
  · exact (Array.all_eq_true_iff_forall_mem.1 (hc_one _)) u (by simpa using hu)
  · exact hv
@[go_sem ↓] theorem load33 (a : Addr) : loadCellsFrom a 0 33 #[] = rowLoad a 33 := rfl
theorem run_storeCells_pf {P : Program} (w : World) (b : Nat) (F : List Int) (v : Value) (hF : F.length = 32) (hv : v.oneCell' = true) (ht : w.there b 0 33) : (storeCells ⟨b, 0, none⟩ (pfRow F v) 0).run P w = .ok () (w.setCells b 0 (pfRow F v)) := by
  have e := pfRow_len hF v
  have := run_storeCells_cells (P := P) b 0 (pfRow F v) 0 w (fun j hj => by rw [e] at hj; simpa using (ht j hj).1) (fun j hj => by rw [e] at hj; simpa using (ht j hj).2) (fun u hu => (Array.all_eq_true_iff_forall_mem.1 (pf_one F hv)) u (by simpa using hu))
  simpa using this
@[go_sem] theorem run_storeCells_pf0 {P : Program} (w : World) (b : Nat) (F : List Int) (q : Option Addr) (n k : Nat) (hF : F.length = 32) (ht : w.there b 0 33) : (storeCells ⟨b, 0, none⟩ (pfRow F (.slice q n k)) 0).run P w = .ok () (w.setCells b 0 (pfRow F (.slice q n k))) :=
  run_storeCells_pf w b F _ hF rfl ht
@[go_sem ↓] theorem Tryd.zero_pf (w : World) : (zeroValue 30).run Tryd.prog w = .ok (.agg (pfRow zero32 (.slice none 0 0)).toArray) w := by kernel_rfl
@[go_sem] theorem pfRow_len' {F : List Int} (h : F.length = 32) (v : Value) : (pfRow F v).length = 33 := pfRow_len h v

set_option maxHeartbeats 4000000 in
theorem Put_N {w : World} {v : Value} (hv : Nm w v) {K V : List Int} : Calls Tryd.prog 16 #[v, .agg (hc K).toArray, .agg (hc V).toArray] w fun e w' => e = .returned (.int .i64 1) ∧ Below w.heap.size w w' := by
  have B0 := Lib.hid (((Below.refl w.heap.size w).alloc (Nat.le_refl _) (.cells (hc K).toArray 23)).alloc (by simp) (.cells (hc V).toArray 23))
  have N0 := Lib.hid ((hv.alloc (.cells (hc K).toArray 23)).alloc (.cells (hc V).toArray 23))
  clear hv
  go_enter Tryd.func16, Tryd.ntmps16
  go_wp2_with fail
  refine (made_N N0.out).mono ?_
  rintro e wn ⟨rfl, h⟩
  obtain rfl := h.symm
  clear h
  go_wp2_with fail
  go_ret
  exact ⟨rfl, B0.out⟩
set_option maxHeartbeats 4000000 in
theorem Get_N {w : World} {v : Value} (hv : Nm w v) {K : List Int} : Calls Tryd.prog 17 #[v, .agg (hc K).toArray] w fun e w' => e = .returned (.agg (hc zero32).toArray) ∧ Below w.heap.size w w' := by
  have HZ := HashAt.new (w.alloc (.cells (hc K).toArray 23)) zero32
  simp only [World.size_alloc] at HZ
  have B0 := ((Below.refl w.heap.size w).alloc (Nat.le_refl _) (.cells (hc K).toArray 23)).alloc (by simp) (.cells (hc zero32).toArray 23)
  have N0 := Lib.hid ((hv.alloc (.cells (hc K).toArray 23)).alloc (.cells (hc zero32).toArray 23))
  have th := HZ.there zero32_len
  have hput := (HZ.put zero32_len zero32_len).row zero32_len
  have z32 := zero32_len
  have HX := Lib.hid (below_setCells' (B := w.heap.size) (w.heap.size + 1) (by omega) (hc zero32) 0 B0)
  clear hv HZ B0
  go_enter Tryd.func17, Tryd.ntmps17
  go_wp2_with fail
  refine (made_N N0.out).mono ?_
  rintro e wn ⟨rfl, h⟩
  obtain rfl := h.symm
  clear h
  go_wp2_with fail
  refine bodyPost_ret (v := .agg (hc zero32).toArray) (by simp [results, Tryd.results17, go_sem, hput, z32]) rfl ⟨rfl, HX.out⟩
set_option maxHeartbeats 4000000 in
theorem Root_N {w : World} {v : Value} (hv : Nm w v) : Calls Tryd.prog 18 #[v] w fun e w' => e = .returned (.agg (hc zero32).toArray) ∧ Below w.heap.size w w' := by
  have HZ := HashAt.new w zero32
  have B0 := (Below.refl w.heap.size w).alloc (Nat.le_refl _) (.cells (hc zero32).toArray 23)
  have N0 := Lib.hid (hv.alloc (.cells (hc zero32).toArray 23))
  have th := HZ.there zero32_len
  have hput := (HZ.put zero32_len zero32_len).row zero32_len
  have z32 := zero32_len
  have HX := Lib.hid (below_setCells' (B := w.heap.size) w.heap.size (Nat.le_refl _) (hc zero32) 0 B0)
  clear hv HZ B0
  go_enter Tryd.func18, Tryd.ntmps18
  go_wp2_with fail
  refine (made_N N0.out).mono ?_
  rintro e wn ⟨rfl, h⟩
  obtain rfl := h.symm
  clear h
  go_wp2_with fail
  refine bodyPost_ret (v := .agg (hc zero32).toArray) (by simp [results, Tryd.results18, go_sem, hput, z32]) rfl ⟨rfl, HX.out⟩
set_option maxHeartbeats 4000000 in
theorem Pairs_N {w : World} {v : Value} (hv : Nm w v) : Calls Tryd.prog 19 #[v] w fun e w' => e = .returned (.slice none 0 0) ∧ w' = w := by
  go_enter Tryd.func19, Tryd.ntmps19
  go_wp2_with fail
  refine (made_N hv).mono ?_
  rintro e wn ⟨rfl, h⟩
  obtain rfl := h.symm
  clear h
  go_wp2_with fail
  go_ret
  exact ⟨rfl, rfl⟩
set_option maxHeartbeats 4000000 in
theorem Prove_N {w : World} {v : Value} (hv : Nm w v) {K : List Int} : Calls Tryd.prog 14 #[v, .agg (hc K).toArray] w fun e w' => e = .returned (.agg (pfRow zero32 (.slice none 0 0)).toArray) ∧ Below w.heap.size w w' := by
  have z32 := zero32_len
  have P1 := (PfB.new (t := 30) (w.alloc (.cells (hc K).toArray 23)) zero32 (.slice none 0 0)).alloc (.cells (pfRow zero32 (.slice none 0 0)).toArray 30)
  have P2 := PfB.new (t := 30) ((w.alloc (.cells (hc K).toArray 23)).alloc (.cells (pfRow zero32 (.slice none 0 0)).toArray 30)) zero32 (.slice none 0 0)
  simp only [World.size_alloc] at P1 P2
  have B0 := (((Below.refl w.heap.size w).alloc (Nat.le_refl _) (.cells (hc K).toArray 23)).alloc (by simp) (.cells (pfRow zero32 (.slice none 0 0)).toArray 30)).alloc (by simp; omega) (.cells (pfRow zero32 (.slice none 0 0)).toArray 30)
  have N0 := Lib.hid (((hv.alloc (.cells (hc K).toArray 23)).alloc (.cells (pfRow zero32 (.slice none 0 0)).toArray 30)).alloc (.cells (pfRow zero32 (.slice none 0 0)).toArray 30))
  have r2 := P2.whole zero32_len
  have th := P1.there zero32_len
  have hput := (P1.put zero32_len zero32_len (.slice none 0 0)).whole zero32_len
  have HX := Lib.hid (below_setCells' (B := w.heap.size) (w.heap.size + 1) (by omega) (pfRow zero32 (.slice none 0 0)) 0 B0)
  have lp := pfRow_len zero32_len (.slice none 0 0)
  clear hv P1 P2 B0
  go_enter Tryd.func14, Tryd.ntmps14
  go_wp2_with fail
  go_step3
  go_wp2_with fail
  refine (made_N N0.out).mono ?_
  rintro e wn ⟨rfl, h⟩
  obtain rfl := h.symm
  clear h
  go_wp2_with fail
  try rw [Exit.noGoto_ret]
  refine bodyPost_ret (v := .agg (pfRow zero32 (.slice none 0 0)).toArray) (by simp [results, Tryd.results14, go_sem, hput, lp]) rfl ⟨rfl, HX.out⟩
end Go.Proofs.YtjgfjmkfcippcaaDoor
namespace Go.Proofs.YtjgfjmkfcippcaaDoor
set_option maxRecDepth 100000
open Go.RowKit

/-- A slice of hashes. -/
def RdHs (w : World) (q : Option Addr) (Ss : List (List Int)) : Prop := Ss = [] ∨ ∃ b off, q = some ⟨b, off, none⟩ ∧ ∀ i, i < Ss.length → rowOf w b (off + i * 32) 32 = hc (Ss.getD i [])
theorem blk_onB2 {w w' : World} {b : Nat} {x : Obj} (h : w.heap[b]? = some x) (hb : Below w.heap.size w w') : w'.heap[b]? = some x := by
  rw [hb.block b (Array.getElem?_eq_some_iff.1 h).1]; exact h
theorem rowOf_on {w w' : World} {b o n : Nat} (h : 0 < (rowOf w b o n).length) (hb : Below w.heap.size w w') : rowOf w' b o n = rowOf w b o n := by
  unfold rowOf at *
  cases e : w.heap[b]? with
  | none => rw [e] at h; simp at h
  | some x => rw [blk_onB2 e hb]
theorem RdHs.on {w w' : World} {q : Option Addr} {Ss : List (List Int)} (h : RdHs w q Ss) (hS : ∀ i, i < Ss.length → (Ss.getD i []).length = 32) (hb : Below w.heap.size w w') : RdHs w' q Ss := by
  rcases h with h | ⟨b, off, e, hx⟩
  · exact .inl h
  · refine .inr ⟨b, off, e, fun i hi => ?_⟩
    rw [rowOf_on (by rw [hx i hi, hc_len, hS i hi]; omega) hb]
    exact hx i hi
/-- The cells of a row of hashes. -/
def hcs (Ss : List (List Int)) : List Value := Ss.flatMap hc
theorem hcs_append (A B : List (List Int)) : hcs (A ++ B) = hcs A ++ hcs B := by simp [hcs]
theorem hcs_one (F : List Int) : hcs [F] = hc F := by simp [hcs]
/-- Hashes: 32 bytes each. -/
def HsOk (Ss : List (List Int)) : Prop := ∀ F ∈ Ss, F.length = 32 ∧ Bytes F
theorem HsOk.get {Ss : List (List Int)} (h : HsOk Ss) (i : Nat) (hi : i < Ss.length) : (Ss.getD i []).length = 32 ∧ Bytes (Ss.getD i []) := by
  have e : Ss.getD i [] = Ss[i] := by simp [List.getD, hi]
  rw [e]
  exact h _ (List.getElem_mem hi)
theorem HsOk.nil : HsOk [] := fun _ h => by cases h
theorem HsOk.append {A B : List (List Int)} (hA : HsOk A) (hB : HsOk B) : HsOk (A ++ B) := fun F h => (List.mem_append.1 h).elim (hA F) (hB F)
theorem HsOk.one {F : List Int} (h : F.length = 32) (b : Bytes F) : HsOk [F] := fun G hG => by
  obtain rfl := List.mem_singleton.1 hG
  exact ⟨h, b⟩
theorem hcs_len : ∀ {Ss : List (List Int)}, HsOk Ss → (hcs Ss).length = Ss.length * 32
  | [], _ => rfl
  | F :: Ss, h => by
    have h1 := hcs_len (Ss := Ss) (fun G hG => h G (List.mem_cons_of_mem _ hG))
    have h2 := (h F (List.mem_cons_self ..)).1
    have e : hcs (F :: Ss) = hc F ++ hcs Ss := rfl
    rw [e, List.length_append, h1, hc_len, h2, List.length_cons]
    omega
theorem hcs_mid (tail : List Value) : ∀ {Ss : List (List Int)}, HsOk Ss → ∀ i, i < Ss.length → ((hcs Ss ++ tail).drop (i * 32)).take 32 = hc (Ss.getD i [])
  | [], _, i, hi => by simp at hi
  | F :: Ss, h, i, hi => by
    have h2 := (h F (List.mem_cons_self ..)).1
    have e : hcs (F :: Ss) ++ tail = hc F ++ (hcs Ss ++ tail) := by rw [← List.append_assoc]; rfl
    have hl : (hc F).length = 32 := by rw [hc_len, h2]
    rw [e]
    cases i with
    | zero => rw [Nat.zero_mul, List.drop_zero]; exact List.take_left' hl
    | succ i =>
      rw [List.drop_append, hl, List.drop_eq_nil_of_le (by omega), List.nil_append, show (i + 1) * 32 - 32 = i * 32 by omega]
      exact hcs_mid tail (fun G hG => h G (List.mem_cons_of_mem _ hG)) i (by simpa using hi)
theorem hcs_cell : ∀ {Ss : List (List Int)}, HsOk Ss → ∀ {j : Nat} {u : Value}, (hcs Ss)[j]? = some u → j / 32 < Ss.length ∧ (hc (Ss.getD (j / 32) []))[j % 32]? = some u
  | [], _, j, u, hj => by simp [hcs] at hj
  | F :: Ss, h, j, u, hj => by
    have h2 := (h F (List.mem_cons_self ..)).1
    have hl : (hc F).length = 32 := by rw [hc_len, h2]
    have e : hcs (F :: Ss) = hc F ++ hcs Ss := rfl
    rw [e] at hj
    by_cases hlt : j < 32
    · rw [List.getElem?_append_left (by omega)] at hj
      rw [show j / 32 = 0 by omega, show j % 32 = j by omega]
      exact ⟨by simp, hj⟩
    · rw [List.getElem?_append_right (by omega), hl] at hj
      obtain ⟨h3, h4⟩ := hcs_cell (fun G hG => h G (List.mem_cons_of_mem _ hG)) hj
      have e1 : j / 32 = (j - 32) / 32 + 1 := by omega
      have e2 : j % 32 = (j - 32) % 32 := by omega
      rw [e1, e2]
      exact ⟨by simp; omega, h4⟩
theorem hcs_cells_one (Ss : List (List Int)) : ∀ u ∈ hcs Ss, u.oneCell' = true := by
  intro u hu
  obtain ⟨F, _, hF⟩ := List.mem_flatMap.1 hu
  exact (Array.all_eq_true_iff_forall_mem.1 (hc_one F)) u (by simpa using hF)

/-! ### A row that reads as hashes -/
theorem RdHs.cell {w : World} {b off : Nat} {Ss : List (List Int)} (hx : ∀ i, i < Ss.length → rowOf w b (off + i * 32) 32 = hc (Ss.getD i [])) (ok : HsOk Ss) {j : Nat} {u : Value} (hj : (hcs Ss)[j]? = some u) : w.cell? ⟨b, off + j, none⟩ = some u := by
  obtain ⟨h1, h2⟩ := hcs_cell ok hj
  have := range_rowOf w b (off + j / 32 * 32) 32 (j % 32) u (by rw [hx _ h1]; exact h2)
  rw [show off + j / 32 * 32 + j % 32 = off + j by omega] at this
  exact this
theorem RdHs.src {P : Program} {w : World} {tx e' : TypeId} {q : Option Addr} {c : Nat} {Ss : List (List Int)} (h : RdHs w q Ss) (ok : HsOk Ss) (hk : P.underlying tx = some (.slice e')) : Src P 32 tx (.slice q Ss.length c) Ss.length (hcs Ss) w := by
  rcases h with rfl | ⟨b, off, rfl, hx⟩
  · cases q with
    | none => exact Src.ofNil w hk c
    | some a => exact Src.ofSlice w hk a 0 c [] (by simp) (fun j u hu => by simp at hu) (by simp)
  · refine Src.ofSlice w hk _ _ _ _ (hcs_len ok) (fun j u hu => ?_) (hcs_cells_one Ss)
    rw [addr_add]
    exact RdHs.cell hx ok hu
theorem rdHs_block {w : World} {b : Nat} {T : TypeId} {fr : Nat × Nat} {tail : List Value} {Ss : List (List Int)} (h : w.heap[b]? = some (.cells (hcs Ss ++ tail).toArray T fr)) (ok : HsOk Ss) : RdHs w (some ⟨b, 0, none⟩) Ss := by
  refine .inr ⟨b, 0, rfl, fun i hi => ?_⟩
  rw [rowOf_block h, Nat.zero_add, ← hcs_mid tail ok i hi]
  simp [List.take_drop]
theorem RdHs.nil (w : World) (q : Option Addr) : RdHs w q [] := .inl rfl

/-- A row of hashes that the call lays. -/
structure HsS (w wr : World) (v : Value) (Ss : List (List Int)) : Prop where
  own : wr.ownsRow 0 23 32 v Ss.length (hcs Ss)
  ok : HsOk Ss
  fresh : ∀ g, v.ownBlock = some g → w.heap.size ≤ g
  below : Below w.heap.size w wr
theorem HsS.start (w : World) : HsS w w (.slice none 0 0) [] := ⟨World.ownsRow_nil w 0 _ 32, HsOk.nil, by simp [Value.ownBlock], Below.refl _ _⟩
theorem HsS.on {w wr w1 : World} {v : Value} {Ss : List (List Int)} (h : HsS w wr v Ss) (hb : Below wr.heap.size wr w1) : HsS w w1 v Ss :=
  ⟨own_on h.own hb, h.ok, h.fresh, h.below.trans (hb.mono h.below.size)⟩
theorem HsS.grow {w wr w2 : World} {v v' : Value} {Ss Ts : List (List Int)} {m : Nat} (h : HsS w wr v Ss) (ok : HsOk Ts) (hm : Ts.length = m) (own : w2.ownsRow 0 23 32 v' (Ss.length + m) (hcs Ss ++ hcs Ts)) (grow : wr.grownBy w2 v.ownBlock) (fr : v'.ownBlock = v.ownBlock ∨ v'.ownBlock = some wr.heap.size) : HsS w w2 v' (Ss ++ Ts) := by
  subst hm
  refine ⟨by rw [List.length_append, hcs_append]; exact own, h.ok.append ok, fun g hg => ?_, h.below.grown grow h.below.size (fun k hk => h.fresh k hk)⟩
  rcases fr with e | e
  · rw [e] at hg; exact h.fresh g hg
  · rw [e] at hg; have := h.below.size; simp at hg; omega
theorem HsS.rd {w wr : World} {q : Option Addr} {n c : Nat} {Ss : List (List Int)} (h : HsS w wr (.slice q n c) Ss) : n = Ss.length ∧ RdHs wr q Ss ∧ n ≤ c ∧ c ≤ maxLen := by
  rcases h.own.2 with ⟨e, h0⟩ | ⟨g, cap, cur, e, _, hg, hnc, hcm, hcs', htake⟩
  · simp only [Value.slice.injEq] at e
    obtain ⟨rfl, rfl, rfl⟩ := e
    have h1 : Ss = [] := List.eq_nil_of_length_eq_zero h0
    subst h1
    exact ⟨rfl, .inl rfl, Nat.le_refl _, by unfold maxLen; omega⟩
  · simp only [Value.slice.injEq] at e
    obtain ⟨rfl, rfl, rfl⟩ := e
    refine ⟨rfl, ?_, hnc, hcm⟩
    have hc2 : cur = (hcs Ss ++ cur.toList.drop (Ss.length * 32)).toArray := by
      apply Array.ext'
      show cur.toList = hcs Ss ++ cur.toList.drop (Ss.length * 32)
      rw [← htake, List.take_append_drop]
    rw [hc2] at hg
    exact rdHs_block hg h.ok
theorem one_hs {w : World} {F : List Int} (h : F.length = 32) (b : Bytes F) : RdHs (w.alloc (.cells (hc F).toArray 23)) (some ⟨w.heap.size, 0, none⟩) [F] := by
  refine rdHs_block (tail := []) (T := 23) (fr := (0, 0)) ?_ (HsOk.one h b)
  rw [List.append_nil, hcs_one]
  exact heap_alloc_new w _
theorem Tryd.infoHs : (Tryd.prog.info? 23).map (fun i => (i.zero, i.size, i.bytes)) = some (some (.agg (hc zero32).toArray), 32, 32) := by kernel_rfl
theorem zero_cells : (Value.agg (hc zero32).toArray).cells.size = 32 := by rfl

end Go.Proofs.YtjgfjmkfcippcaaDoor
namespace Go.Proofs.YtjgfjmkfcippcaaDoor
set_option maxRecDepth 100000
open Go.RowKit

set_option maxHeartbeats 2000000 in
theorem pbit_any {w : World} {K : List Int} {i : Nat} (hK : K.length = 32) (bK : Bytes K) (hi : i < 256) : Calls Tryd.prog 59 #[.agg (hc K).toArray, .int .i64 i] w fun e w' => e = .returned (.int .i64 (bitI K i)) ∧ Below w.heap.size w w' := by
  have H0 := HashAt.new w K
  have B0 := Lib.hid ((Below.refl w.heap.size w).alloc (Nat.le_refl _) (.cells (hc K).toArray 23))
  have hc0 := H0.cell (i := i / 8) (by omega)
  have hb := bK.getD (i / 8)
  obtain ⟨x, hx⟩ : ∃ x : Nat, K.getD (i / 8) 0 = (x : Int) := ⟨(K.getD (i / 8) 0).toNat, by omega⟩
  have hR : Hid (bitI K i = ((x / 2 ^ (7 - i % 8) : Nat) : Int) % 2) := by
    show bitI K i = _
    unfold bitI
    rw [hx, Int.natCast_ediv, Int.natCast_pow]
    rfl
  rw [hx] at hc0 hb
  clear hx bK
  have e1 : ((i : Nat) : Int).tdiv 8 = ((i / 8 : Nat) : Int) := by
    rw [Int.tdiv_eq_ediv_of_nonneg (by omega)]; omega
  have e2 : ((i : Nat) : Int).tmod 8 = ((i % 8 : Nat) : Int) := by
    rw [Int.tmod_eq_emod_of_nonneg (by omega)]; omega
  have hlK := hc_len K
  have hs : x / 2 ^ (7 - i % 8) ≤ x := Nat.div_le_self _ _
  have hd : ((x : Int) / 2 ^ (7 - i % 8)) = ((x / 2 ^ (7 - i % 8) : Nat) : Int) := by rw [Int.natCast_ediv, Int.natCast_pow]; rfl
  generalize x / 2 ^ (7 - i % 8) = y at hs hd hR
  have e3 : wrap64 ((x : Int) / 2 ^ (7 - i % 8)) = (y : Int) := by
    rw [hd]
    unfold wrap64
    omega
  have e4 := and_one (x := y) (by omega)
  clear hd
  go_enter Tryd.func59, Tryd.ntmps59
  go_wp2_with fail
  go_ret
  exact ⟨by rw [hR.out]; rfl, B0.out⟩
set_option maxHeartbeats 2000000 in
theorem rbit_any {w : World} {K : List Int} {i : Nat} (hK : K.length = 32) (bK : Bytes K) (hi : i < 256) : Calls Tryd.prog 60 #[.agg (hc K).toArray, .int .i64 i] w fun e w' => e = .returned (.int .i64 (bitI K i)) ∧ Below w.heap.size w w' := by
  have H0 := HashAt.new w K
  have B0 := Lib.hid ((Below.refl w.heap.size w).alloc (Nat.le_refl _) (.cells (hc K).toArray 23))
  have hc0 := H0.cell (i := i / 8) (by omega)
  have hb := bK.getD (i / 8)
  obtain ⟨x, hx⟩ : ∃ x : Nat, K.getD (i / 8) 0 = (x : Int) := ⟨(K.getD (i / 8) 0).toNat, by omega⟩
  have hR : Hid (bitI K i = ((x / 2 ^ (7 - i % 8) : Nat) : Int) % 2) := by
    show bitI K i = _
    unfold bitI
    rw [hx, Int.natCast_ediv, Int.natCast_pow]
    rfl
  rw [hx] at hc0 hb
  clear hx bK
  have e1 : ((i : Nat) : Int).tdiv 8 = ((i / 8 : Nat) : Int) := by
    rw [Int.tdiv_eq_ediv_of_nonneg (by omega)]; omega
  have e2 : ((i : Nat) : Int).tmod 8 = ((i % 8 : Nat) : Int) := by
    rw [Int.tmod_eq_emod_of_nonneg (by omega)]; omega
  have hlK := hc_len K
  have hs : x / 2 ^ (7 - i % 8) ≤ x := Nat.div_le_self _ _
  have hd : ((x : Int) / 2 ^ (7 - i % 8)) = ((x / 2 ^ (7 - i % 8) : Nat) : Int) := by rw [Int.natCast_ediv, Int.natCast_pow]; rfl
  generalize x / 2 ^ (7 - i % 8) = y at hs hd hR
  have e3 : wrap64 ((x : Int) / 2 ^ (7 - i % 8)) = (y : Int) := by
    rw [hd]
    unfold wrap64
    omega
  have e4 : (y : Int).tmod 2 = (y : Int) % 2 := Int.tmod_eq_emod_of_nonneg (by omega)
  have e5 : IntKind.u64.wrap (7 - (i : Int) % 8) = 7 - (i : Int) % 8 := by rw [IntKind.wrap_u64]; omega
  clear hd
  go_enter Tryd.func60, Tryd.ntmps60
  go_wp2_with fail
  go_ret
  exact ⟨by rw [hR.out]; rfl, B0.out⟩

theorem ones_any (x : Int) (w : World) (h0 : 0 ≤ x) (h1 : x ≤ 255) : Calls Tryd.prog 61 #[.int .u8 x] w fun e w' => e = .returned (.int .i64 (Lib.onesCount x.toNat)) ∧ w' = w := by
  rw [← Lib.pop8_int x h0 h1]
  go_enter Tryd.func61, Tryd.ntmps61
  go_wp2
  go_ret
  exact ⟨by kernel_rfl, rfl⟩
/-- How many of the first n bits are set. -/
def cntI (M : List Int) : Nat → Nat
  | 0 => 0
  | n + 1 => cntI M n + (bitI M n).toNat
theorem bitI_two {M : List Int} (n : Nat) : bitI M n = 0 ∨ bitI M n = 1 := by unfold bitI; omega
theorem cntI_le (M : List Int) : ∀ n, cntI M n ≤ n
  | 0 => Nat.le_refl _
  | n + 1 => by
    have := cntI_le M n
    rcases bitI_two (M := M) n with e | e <;> simp only [cntI, e] <;> simp <;> omega
theorem cntI_mono (M : List Int) {a b : Nat} (h : a ≤ b) : cntI M a ≤ cntI M b := by
  induction b with
  | zero => have : a = 0 := by omega
            subst this; exact Nat.le_refl _
  | succ b ih =>
    by_cases e : a = b + 1
    · subst e; exact Nat.le_refl _
    · have := ih (by omega)
      simp only [cntI]
      omega
def pcN (x : Nat) : Nat := x / 128 % 2 + x / 64 % 2 + x / 32 % 2 + x / 16 % 2 + x / 8 % 2 + x / 4 % 2 + x / 2 % 2 + x % 2
theorem pcN_ones : ∀ n : Fin 256, Lib.onesCount n.val = pcN n.val := by decide +kernel
theorem bitI_at (M : List Int) (k j : Nat) (hj : j < 8) : bitI M (8 * k + j) = M.getD k 0 / 2 ^ (7 - j) % 2 := by
  unfold bitI
  rw [show (8 * k + j) / 8 = k by omega, show (8 * k + j) % 8 = j by omega]
theorem cntI_byte {M : List Int} (bM : Bytes M) (k : Nat) : cntI M (8 * (k + 1)) = cntI M (8 * k) + Lib.onesCount (M.getD k 0).toNat := by
  have hb := bM.getD k
  obtain ⟨x, hx⟩ : ∃ x : Nat, M.getD k 0 = (x : Int) := ⟨(M.getD k 0).toNat, by omega⟩
  have ho := pcN_ones ⟨x, by omega⟩
  simp only at ho
  rw [hx, Int.toNat_natCast, ho]
  have e : ∀ j, j < 8 → (bitI M (8 * k + j)).toNat = x / 2 ^ (7 - j) % 2 := fun j hj => by
    rw [bitI_at M k j hj, hx]
    have : ((x : Int) / 2 ^ (7 - j) % 2) = ((x / 2 ^ (7 - j) % 2 : Nat) : Int) := by
      rw [Int.natCast_emod, Int.natCast_ediv, Int.natCast_pow]; rfl
    rw [this, Int.toNat_natCast]
  have e0 := e 0 (by omega)
  have e1 := e 1 (by omega)
  have e2 := e 2 (by omega)
  have e3 := e 3 (by omega)
  have e4 := e 4 (by omega)
  have e5 := e 5 (by omega)
  have e6 := e 6 (by omega)
  have e7 := e 7 (by omega)
  rw [show 8 * (k + 1) = 8 * k + 7 + 1 by omega]
  simp only [cntI, show 8 * k + 7 = 8 * k + 6 + 1 by omega]
  simp only [show 8 * k + 6 = 8 * k + 5 + 1 by omega]
  simp only [show 8 * k + 5 = 8 * k + 4 + 1 by omega]
  simp only [show 8 * k + 4 = 8 * k + 3 + 1 by omega]
  simp only [show 8 * k + 3 = 8 * k + 2 + 1 by omega]
  simp only [show 8 * k + 2 = 8 * k + 1 + 1 by omega]
  rw [Nat.add_zero] at e0
  simp only [Nat.add_assoc, Nat.reduceAdd]
  rw [e0, e1, e2, e3, e4, e5, e6, e7]
  simp only [pcN, Nat.reduceSub, Nat.reducePow]
  omega
/-- May a proof be? -/
def okS (M : List Int) (Ss : List (List Int)) : Bool := decide (cntI M 256 = Ss.length ∧ zero32 ∉ Ss)
end Go.Proofs.YtjgfjmkfcippcaaDoor
namespace Go.Proofs.YtjgfjmkfcippcaaDoor
set_option maxRecDepth 100000
open Go.RowKit

theorem idxH32 (w : World) {F : List Int} {i : Nat} (hi : i < 32) (hF : F.length = 32) : (Instr.index 23 (.agg (hc F).toArray) (.int .i64 (i : Int))).run Tryd.prog w = .ok (.int .u8 (F.getD i 0)) w := by
  have hl : (hc F)[i]? = some (.int .u8 (F.getD i 0)) := by simp [hc, List.getD, show i < F.length by omega]
  have e : (i : Int).toNat = i := by omega
  have hsz : (sizeOf 5).run Tryd.prog w = .ok 1 w := by kernel_rfl
  simp [Instr.index, asIntOf, run_underlying Tryd.underlying23, hsz, part, hl, go_sem]
  try (intro h; omega)
/-- What stands in memory within Right. -/
structure RgS (t : TypeId) (w wr : World) (M : List Int) (q : Option Addr) (k : Nat) (Ss : List (List Int)) : Prop where
  below : Below w.heap.size w wr
  pf : PfB t wr w.heap.size M (.slice q Ss.length k)
  hs : RdHs wr q Ss
theorem RgS.on {t : TypeId} {w wr w1 : World} {M : List Int} {q : Option Addr} {k : Nat} {Ss : List (List Int)} (h : RgS t w wr M q k Ss) (ok : HsOk Ss) (hb : Below wr.heap.size wr w1) : RgS t w w1 M q k Ss :=
  ⟨h.below.trans (hb.mono h.below.size), h.pf.on hb, h.hs.on (fun i hi => (ok.get i hi).1) hb⟩
theorem okS_cnt {M : List Int} {Ss : List (List Int)} (h : ¬ cntI M 256 = Ss.length) : okS M Ss = false := decide_eq_false fun e => h e.1
theorem okS_zero {M : List Int} {Ss : List (List Int)} {i : Nat} (hi : i < Ss.length) (h : Ss.getD i [] = zero32) : okS M Ss = false := decide_eq_false fun e => e.2 (by rw [← h]; simp [List.getD, hi])
theorem okS_yes {M : List Int} {Ss : List (List Int)} (hc : cntI M 256 = Ss.length) (h : ∀ i, i < Ss.length → ¬ Ss.getD i [] = zero32) : okS M Ss = true := decide_eq_true ⟨hc, fun hm => by
  obtain ⟨i, hi, e⟩ := List.getElem_of_mem hm
  exact h i hi (by simp [List.getD, hi, e])⟩
theorem RgS.start {t : TypeId} {w : World} {M : List Int} {q : Option Addr} {k : Nat} {Ss : List (List Int)} (hs : RdHs w q Ss) (ok : HsOk Ss) : RgS t w (w.alloc (.cells (pfRow M (.slice q Ss.length k)).toArray t)) M q k Ss :=
  ⟨(Below.refl _ _).alloc (Nat.le_refl _) _, PfB.new _ _ _, hs.on (fun i hi => (ok.get i hi).1) ((Below.refl _ _).alloc (Nat.le_refl _) _)⟩

set_option maxHeartbeats 8000000 in
theorem Right_any {w : World} {M : List Int} {q : Option Addr} {k : Nat} {Ss : List (List Int)} (hM : M.length = 32) (bM : Bytes M) (hs : RdHs w q Ss) (ok : HsOk Ss) (hn : Ss.length ≤ 140737488355328) :
    Calls Tryd.prog 25 #[.agg (pfRow M (.slice q Ss.length k)).toArray] w fun e w' => e = .returned (.bool (okS M Ss)) ∧ Below w.heap.size w w' := by
  have S0 : Hid (RgS 30 w _ M q k Ss) := Lib.hid (RgS.start (t := 30) (k := k) hs ok)
  have rm := S0.out.pf.mask hM
  have hlM := hc_len M
  have hlp := pfRow_len hM (.slice q Ss.length k)
  have BM := Lib.hid bM
  have OK := Lib.hid ok
  have z32 := zero32_len
  clear bM hs ok
  go_enter Tryd.func25, Tryd.ntmps25
  go_wp2_with fail
  clear rm
  generalize w.alloc (.cells (pfRow M (.slice q Ss.length k)).toArray 30) = w1 at *
  go_loopw [3, 10] (fun nv iv wr => ∃ j c : Nat, iv = .int .i64 (j : Int) ∧ j ≤ 32 ∧ nv = .int .i64 (c : Int) ∧ Hid (c = cntI M (8 * j)) ∧ Hid (RgS 30 w wr M q k Ss)) (fun _ iv _ => 32 - (intOf iv).toNat)
  case atStart => exact ⟨0, 0, rfl, by omega, rfl, rfl, S0⟩
  case round =>
    clear S0
    obtain ⟨j, c, rfl, hj, rfl, hc, hS⟩ := hrel
    by_cases hlt : j < 32
    · have hix := fun W => idxH32 W hlt hM
      have hb := BM.out.getD j
      have hcb := Lib.hid (cntI_byte BM.out j)
      have hcl : c ≤ 256 := by have := cntI_le M (8 * j); rw [hc.out]; omega
      obtain ⟨x, hx⟩ : ∃ x, M.getD j 0 = x := ⟨_, rfl⟩
      rw [hx] at hix hb hcb
      clear hx
      go_wp2_with fail
      refine (ones_any x wr hb.1 (by omega)).mono ?_
      rintro e wn ⟨rfl, h⟩
      obtain rfl := h.symm
      clear h
      have hol : Lib.onesCount x.toNat ≤ 8 := by
        have h1 := Lib.onesCount_le8 ⟨x.toNat, by omega⟩
        exact h1
      obtain ⟨d, hd⟩ : ∃ d, Lib.onesCount x.toNat = d := ⟨_, rfl⟩
      rw [hd] at hcb hol ⊢
      clear hd hix hb
      have hw : wrap64 ((c : Int) + (d : Int)) = ((c + d : Nat) : Int) := by unfold wrap64; omega
      go_wp2_with fail
      go_roundw
      case rel => exact ⟨j + 1, c + d, by go_num, by omega, by go_num, by show _ = _; rw [hcb.out, hc.out], hS⟩
      case measure => simp [intOf]; omega
    · obtain rfl : j = 32 := by omega
      have sd := hS.out.pf.sides hM
      have hcc := Lib.hid (show c = cntI M 256 from hc.out)
      clear hc
      by_cases hcn : c = Ss.length
      · have HC := Lib.hid (show cntI M 256 = Ss.length by rw [← hcc.out]; exact hcn)
        clear hcc
        subst hcn
        go_wp2_with fail
        go_loopw [26] (fun iv wr => ∃ i : Nat, iv = .int .i64 (i : Int) ∧ i ≤ Ss.length ∧ Hid (∀ m, m < i → ¬ Ss.getD m [] = zero32) ∧ Hid (RgS 30 w wr M q k Ss)) (fun iv _ => Ss.length - (intOf iv).toNat)
        case atStart => exact ⟨0, rfl, by omega, fun m hm => by omega, hS⟩
        case round =>
          clear hS sd
          obtain ⟨i, rfl, hi, hz, hS⟩ := hrel
          by_cases hlt : i < Ss.length
          · have hne : Ss ≠ [] := fun e => by rw [e] at hlt; simp at hlt
            obtain ⟨b, off, rfl, hx⟩ := hS.out.hs.resolve_left hne
            have r1 := hx i hlt
            have hl := (OK.out.get i hlt).1
            obtain ⟨F, hF⟩ : ∃ F, Ss.getD i [] = F := ⟨_, rfl⟩
            have HF := Lib.hid hF
            rw [hF] at r1 hl
            have lc := hc_len F
            have HZ := HashAt.new wr zero32
            have th := HZ.there zero32_len
            have rr := (HZ.put zero32_len hl).row hl
            have B1 : Below wr.heap.size wr ((wr.alloc (.cells (hc zero32).toArray 23)).setCells wr.heap.size 0 (hc F)) := below_setCells' _ (Nat.le_refl _) _ _ ((Below.refl _ _).alloc (Nat.le_refl _) _)
            have S1 := Lib.hid (hS.out.on OK.out B1)
            clear hx hne hF HZ B1
            by_cases he : F = zero32
            · have dz : (F == zero32) = true := by rw [he]; exact beq_self_eq_true _
              have HO := Lib.hid (okS_zero (M := M) hlt (by rw [HF.out]; exact he))
              have BE := Lib.hid S1.out.below
              clear he
              go_wp2_with fail
              go_ret
              exact ⟨by rw [HO.out]; rfl, BE.out⟩
            · have dz : (F == zero32) = false := by simpa using he
              have hz2 : Hid (∀ m, m < i + 1 → ¬ Ss.getD m [] = zero32) := fun m hm => by
                by_cases e : m = i
                · subst e; rw [HF.out]; exact he
                · exact hz.out m (by omega)
              clear he
              go_wp2_with fail
              go_roundw
              case rel => exact ⟨i + 1, by go_num, by omega, hz2, S1⟩
              case measure => simp [intOf]; omega
          · obtain rfl : i = Ss.length := by omega
            have HO := Lib.hid (okS_yes (M := M) HC.out hz.out)
            have BE := Lib.hid hS.out.below
            clear hS
            go_wp2_with fail
            go_ret
            exact ⟨by rw [HO.out]; rfl, BE.out⟩
      · have HO := Lib.hid (okS_cnt (M := M) (Ss := Ss) (by rw [← hcc.out]; exact hcn))
        have BE := Lib.hid hS.out.below
        have hd : ((c : Int) == (Ss.length : Int)) = false := by simp; omega
        clear hS
        go_wp2_with fail
        go_ret
        exact ⟨by rw [HO.out]; rfl, BE.out⟩

set_option maxHeartbeats 8000000 in
theorem refRight_any {w : World} {M : List Int} {q : Option Addr} {k : Nat} {Ss : List (List Int)} (hM : M.length = 32) (bM : Bytes M) (hs : RdHs w q Ss) (ok : HsOk Ss) (hn : Ss.length ≤ 140737488355328) :
    Calls Tryd.prog 26 #[.agg (pfRow M (.slice q Ss.length k)).toArray] w fun e w' => e = .returned (.bool (okS M Ss)) ∧ Below w.heap.size w w' := by
  have S0 : Hid (RgS 43 w _ M q k Ss) := Lib.hid (RgS.start (t := 43) (k := k) hs ok)
  have hlM := hc_len M
  have hlp := pfRow_len hM (.slice q Ss.length k)
  have BM := Lib.hid bM
  have OK := Lib.hid ok
  have z32 := zero32_len
  clear bM hs ok
  go_enter Tryd.func26, Tryd.ntmps26
  go_wp2_with fail
  generalize w.alloc (.cells (pfRow M (.slice q Ss.length k)).toArray 43) = w1 at *
  go_loopw [3, 4] (fun nv iv wr => ∃ j c : Nat, iv = .int .i64 (j : Int) ∧ j ≤ 256 ∧ nv = .int .i64 (c : Int) ∧ Hid (c = cntI M j) ∧ Hid (RgS 43 w wr M q k Ss)) (fun _ iv _ => 256 - (intOf iv).toNat)
  case atStart => exact ⟨0, 0, rfl, by omega, rfl, rfl, S0⟩
  case round =>
    clear S0
    obtain ⟨j, c, rfl, hj, rfl, hc, hS⟩ := hrel
    by_cases hlt : j < 256
    · have rm := hS.out.pf.mask hM
      have hcl : c ≤ 256 := by have := cntI_le M j; rw [hc.out]; omega
      go_wp2_with fail
      refine (rbit_any hM BM.out hlt).mono ?_
      rintro e w2 ⟨rfl, hb2⟩
      have S2 := Lib.hid (hS.out.on OK.out hb2)
      have hcb := Lib.hid (show cntI M (j + 1) = cntI M j + (bitI M j).toNat from rfl)
      obtain ⟨d, hd, hd1⟩ : ∃ d : Nat, bitI M j = (d : Int) ∧ d ≤ 1 := by
        rcases bitI_two (M := M) j with e | e
        · exact ⟨0, e, by omega⟩
        · exact ⟨1, e, by omega⟩
      rw [hd] at hcb ⊢
      rw [Int.toNat_natCast] at hcb
      clear hd hb2 hS rm
      have hw : wrap64 ((c : Int) + (d : Int)) = ((c + d : Nat) : Int) := by unfold wrap64; omega
      go_wp2_with fail
      go_roundw
      case rel => exact ⟨j + 1, c + d, by go_num, by omega, by go_num, by show _ = _; rw [hcb.out, hc.out], S2⟩
      case measure => simp [intOf]; omega
    · obtain rfl : j = 256 := by omega
      have sd := hS.out.pf.sides hM
      by_cases hcn : c = Ss.length
      · have HC := Lib.hid (show cntI M 256 = Ss.length by rw [← hc.out]; exact hcn)
        clear hc
        subst hcn
        go_wp2_with fail
        go_loopw [5] (fun iv wr => ∃ i : Nat, iv = .int .i64 (i : Int) ∧ i ≤ Ss.length ∧ Hid (∀ m, m < i → ¬ Ss.getD m [] = zero32) ∧ Hid (RgS 43 w wr M q k Ss)) (fun iv _ => Ss.length - (intOf iv).toNat)
        case atStart => exact ⟨0, rfl, by omega, fun m hm => by omega, hS⟩
        case round =>
          clear hS sd
          obtain ⟨i, rfl, hi, hz, hS⟩ := hrel
          by_cases hlt : i < Ss.length
          · have hne : Ss ≠ [] := fun e => by rw [e] at hlt; simp at hlt
            have sd := hS.out.pf.sides hM
            obtain ⟨b, off, rfl, hx⟩ := hS.out.hs.resolve_left hne
            have r1 := hx i hlt
            have hl := (OK.out.get i hlt).1
            obtain ⟨F, hF⟩ : ∃ F, Ss.getD i [] = F := ⟨_, rfl⟩
            have HF := Lib.hid hF
            rw [hF] at r1 hl
            have lc := hc_len F
            clear hx hne hF
            by_cases he : F = zero32
            · have dz : (F == zero32) = true := by rw [he]; exact beq_self_eq_true _
              have HO := Lib.hid (okS_zero (M := M) hlt (by rw [HF.out]; exact he))
              have BE := Lib.hid hS.out.below
              clear he
              go_wp2_with fail
              go_ret
              exact ⟨by rw [HO.out]; rfl, BE.out⟩
            · have dz : (F == zero32) = false := by simpa using he
              have hz2 : Hid (∀ m, m < i + 1 → ¬ Ss.getD m [] = zero32) := fun m hm => by
                by_cases e : m = i
                · subst e; rw [HF.out]; exact he
                · exact hz.out m (by omega)
              clear he
              go_wp2_with fail
              go_roundw
              case rel => exact ⟨i + 1, by go_num, by omega, hz2, hS⟩
              case measure => simp [intOf]; omega
          · obtain rfl : i = Ss.length := by omega
            have HO := Lib.hid (okS_yes (M := M) HC.out hz.out)
            have BE := Lib.hid hS.out.below
            clear hS
            go_wp2_with fail
            go_ret
            exact ⟨by rw [HO.out]; rfl, BE.out⟩
      · have HO := Lib.hid (okS_cnt (M := M) (Ss := Ss) (by rw [← hc.out]; exact hcn))
        have BE := Lib.hid hS.out.below
        have hd : ((c : Int) == (Ss.length : Int)) = false := by simp; omega
        clear hS
        go_wp2_with fail
        go_ret
        exact ⟨by rw [HO.out]; rfl, BE.out⟩
end Go.Proofs.YtjgfjmkfcippcaaDoor
