/-
  BookNil: the walk. No book, and one that nobody made.
-/
import Derived.Test.YtimcjnocmbbahaaDoorBookNilL
namespace Go.Proofs.YtimcjnocmbbahaaDoor
open Go.RowKit
set_option maxRecDepth 100000

@[go_sem ↓] theorem load35 (a : Addr) : loadCellsFrom a 0 35 #[] = rowLoad a 35 := rfl
def bk0 : List Value := [.map none, .map none] ++ (hc zero32 ++ [.bool false])
@[go_sem] theorem Tryd.run_bk0 (w : World) : (rowBuild 49 #[]).run Tryd.prog w = .ok (.agg bk0.toArray) w := by
  unfold rowBuild; kernel_rfl
theorem op_hash {W : World} {b : Nat} {k : Int} {s : ByteArray} {vL : Value} {F : List Int} {T : TypeId} {fr : Nat × Nat} (h : W.heap[b]? = some (.cells (opRow k s vL F).toArray T fr)) (hF : F.length = 32) : rowOf W b 3 32 = hc F := by
  rw [rowOf_block h]
  simp [opRow, hc_len, hF, List.take_of_length_le]
structure KSt (w W : World) (b : Nat) (row : List Value) (v : Value) : Prop where
  below : Below w.heap.size w W
  blk : W.heap[b]? = some (.cells row.toArray 30 (0, 0))
  nil : NilK W v
theorem KSt.on {w W W' : World} {b : Nat} {row : List Value} {v : Value} (h : KSt w W b row v) (hb : Below W.heap.size W W') : KSt w W' b row v :=
  ⟨h.below.trans (hb.mono h.below.size), blk_onB h.blk hb, h.nil.on hb⟩
theorem getD_blobs {L : List (List Int)} (i : Nat) : (L.getD i []).length ≤ (blobs L).length := by
  by_cases hi : i < L.length
  · have h1 := blobs_len hi
    have h2 := blobs_le L (i + 1)
    omega
  · simp [List.getD, show L.length ≤ i by omega]

set_option maxHeartbeats 16000000 in
theorem BookNil_walk {w : World} {k : Int} {s : ByteArray} {vL : Value} {F : List Int} {L : List (List Int)} (hL : RdL w vL L []) (bL : ∀ b ∈ L, Bytes b) (hln : L.length ≤ maxLen) (hC : Cap0 w vL L) (hs : s.size ≤ maxLen) (hF : F.length = 32) (hT : Tbl w) :
    Calls Tryd.prog 4 #[.agg (opRow k s vL F).toArray] w fun e w' => e = .returned (.bool true) ∧ Below w.heap.size w w' := by
  have HV : Hid (∃ q c, vL = .slice q L.length c) := by obtain ⟨q, c, e, _⟩ := hL; exact ⟨q, c, e⟩
  have B1 : Below w.heap.size w (w.alloc (.cells (opRow k s vL F).toArray 30)) := (Below.refl _ _).alloc (Nat.le_refl _) _
  have HL1 := Lib.hid (hL.onb B1)
  have HB1 := Lib.hid (heap_alloc_new w (.cells (opRow k s vL F).toArray 30))
  have cr := row_of HB1.out (n := 35) (opRow_len hF)
  have hl := opRow_len (k := k) (s := s) (vL := vL) hF
  have HL0 := Lib.hid hL
  have HC0 := Lib.hid hC
  have HT0 := Lib.hid hT
  have HS := Lib.hid hs
  have HF := Lib.hid hF
  have HLN := Lib.hid hln
  have BL := Lib.hid bL
  have HB1' := Lib.hid B1
  have lF := hc_len F
  clear hL bL hC hs hT B1 hln
  go_enter Tryd.func4, Tryd.ntmps4
  go_wp2_with fail
  refine (Long_any (k := k) (s := s) (F := F) HL1.out HLN.out).mono ?_
  rintro e w1 ⟨b, rfl, hb, hb1⟩
  have BB1 := Lib.hid (HB1'.out.trans (hb1.mono HB1'.out.size))
  have HB2 := Lib.hid (blk_onB HB1.out hb1)
  clear hb1 HB1 HB1' HL1 cr hl
  generalize w.heap.size = b0 at HB2 ⊢
  cases b
  case true =>
    clear hb
    go_wp2_with fail
    refine (knows_any (HT0.out.on BB1.out HT0.out.pos)).mono ?_
    rintro e w2 ⟨rfl, hb2⟩
    go_wp2_with fail
    go_ret
    exact ⟨rfl, BB1.out.trans (hb2.mono BB1.out.size)⟩
  obtain ⟨hbl, hl200⟩ := hb rfl
  clear hb
  have HN24 : Hid (L.length * 24 ≤ 140737488355328) := by show _ ≤ _; omega
  have HXL : Hid (∀ i, (L.getD i []).length ≤ 140737488355328) := fun i => by have := getD_blobs (L := L) i; omega
  have hcs := cut_size s
  obtain ⟨t1, ht1⟩ : ∃ t1, cut255 s = t1 := ⟨_, rfl⟩
  rw [ht1] at hcs
  have hlq : (frm (sn t1) L).length ≤ 40000 := by rw [frm_len, sn_len]; omega
  have hbq := frm_bytes (sn_bytes t1) (by rw [sn_len]; exact hcs) BL.out
  have hby0 : Bytes (L.getD 0 []) := by
    by_cases h0 : 0 < L.length
    · exact BL.out _ (by simp [List.getD, h0])
    · have : L = [] := List.eq_nil_of_length_eq_zero (by omega)
      subst this; unfold Bytes; simp
  have hly0 := getD_blobs (L := L) 0
  have hly1 : (L.getD 0 []).length ≤ 6000 := by omega
  obtain ⟨Y0, hY0⟩ : ∃ Y0, L.getD 0 [] = Y0 := ⟨_, rfl⟩
  obtain ⟨Q, hQ⟩ : ∃ Q, frm (sn t1) L = Q := ⟨_, rfl⟩
  rw [hY0] at hby0 hly1
  rw [hQ] at hlq hbq
  obtain ⟨X, hX⟩ : ∃ X, sha Y0 = X := ⟨_, rfl⟩
  obtain ⟨Z, hZ⟩ : ∃ Z, sha Q = Z := ⟨_, rfl⟩
  have LX : Hid (X.length = 32) := by rw [← hX]; exact sha_len _
  have LZ : Hid (Z.length = 32) := by rw [← hZ]; exact sha_len _
  have EY0 := Lib.hid hY0
  have EQ := Lib.hid hQ
  have EX := Lib.hid hX
  have EZ := Lib.hid hZ
  have BY0 := Lib.hid hby0
  have LY0 := Lib.hid hly1
  have LQ := Lib.hid hlq
  have BQ := Lib.hid hbq
  have HCUT := Lib.hid ht1
  have S0 : Hid (KSt w w1 b0 (opRow k s vL F) (.pointer none)) := ⟨BB1.out, HB2.out, .inl rfl⟩
  have cr := op_hash S0.out.blk HF.out
  clear hbl hl200 hcs hlq hbq hby0 hly0 hly1 hY0 hQ hX hZ ht1 BB1 HB2
  go_wp2_with fail
  refine wp_loop_rounds 3 ?_
  rw [rounds_succ]
  go_wp2_with fail
  refine (Seek_nilK (F := F) (Lib.hid S0.out.nil)).mono ?_
  rintro e ws ⟨rfl, hbs⟩
  have Ss := Lib.hid (S0.out.on hbs)
  clear S0 hbs cr
  go_wp2_with fail
  refine (Clash_nilK Ss.out.nil).mono ?_
  rintro e wc ⟨rfl, hwc⟩
  obtain rfl := hwc.symm
  clear hwc
  have BZ := Lib.hid Ss.out.below
  have HB := Lib.hid Ss.out.blk
  have HN := Lib.hid Ss.out.nil
  have HL := Lib.hid (HL0.out.onb BZ.out)
  have HC := Lib.hid (HC0.out.on BZ.out)
  have HT := Lib.hid (HT0.out.on BZ.out HT0.out.pos)
  go_wp2_with fail
  generalize ws = wz at *
  refine wp_region_held_drew (S := fun W => Below wz.heap.size wz W ∧ True) (by kernel_rfl) (⟨(Below.refl _ _).drew, trivial⟩) (fun h0 => ?_)
  refine wpAnyH_take (i := 0) (v := ?_) (by rw [List.getElem?_toArray]; rfl) (by kernel_rfl) (by kernel_rfl) (by kernel_rfl) (by exact fun _ _ _ h => h) (Or.inl ⟨by rfl, ?_⟩) h0 ?_
  rotate_left
  · intro W hW
    go_simp
    all_goals with_reducible rfl
  try simp only [Act.put, List.setIfInBounds_toArray, List.set_cons_zero, List.set_cons_succ]
  refine wpAnyH_take (i := 1) (v := ?_) (by rw [List.getElem?_toArray]; rfl) (by kernel_rfl) (by kernel_rfl) (by kernel_rfl) (by exact fun _ _ _ h => h) (Or.inl ⟨by rfl, ?_⟩) h0 ?_
  rotate_left
  · intro W hW
    have hr := row_of (blk_onB HB.out hW.1) (n := 35) (opRow_len HF.out)
    have hl := opRow_len (k := k) (s := s) (vL := vL) HF.out
    go_simp
    all_goals with_reducible rfl
  try simp only [Act.put, List.setIfInBounds_toArray, List.set_cons_zero, List.set_cons_succ]
  refine wpAnyH_take (i := 4) (v := ?_) (by rw [List.getElem?_toArray]; rfl) (by kernel_rfl) (by kernel_rfl) (by kernel_rfl) (by exact fun _ _ _ h => h) (Or.inl ⟨by rfl, ?_⟩) h0 ?_
  rotate_left
  · intro W hW
    have hr := row_of (blk_onB HB.out hW.1) (n := 35) (opRow_len HF.out)
    have hl := opRow_len (k := k) (s := s) (vL := vL) HF.out
    go_simp
    all_goals with_reducible rfl
  try simp only [Act.put, List.setIfInBounds_toArray, List.set_cons_zero, List.set_cons_succ]
  refine wpAnyH_ready (rs := [2]) (by kernel_rfl) (by simp) ?_
  refine AllReadyH.cons (by rw [List.getElem?_toArray]; rfl) (fun K hK => ?_) AllReadyH.nil
  rw [if_pos (by rfl)]
  have KK := first_any (k := k) (s := s) (F := F) (HC.out.on h0.1) HV.out HLN.out
  skip
  go_wp2_with fail
  refine KK.mono ?_
  rintro e w2 ⟨u2, rfl, hr2, hb2⟩
  rw [EY0.out] at hr2
  have R2 := Lib.hid hr2
  clear hr2
  clear KK
  go_wp2_with fail
  refine hK.out _ _ (⟨h0.1.trans (hb2.mono h0.1.size), trivial⟩) (fun h2 => ?_)
  clear hK K
  try simp only [Act.put, List.setIfInBounds_toArray, List.set_cons_zero, List.set_cons_succ]
  clear hb2
  refine wpAnyH_ready (rs := [3]) (by kernel_rfl) (by simp) ?_
  refine AllReadyH.cons (by rw [List.getElem?_toArray]; rfl) (fun K hK => ?_) AllReadyH.nil
  rw [if_pos (by rfl)]
  have KK := Sum_nilK (HN.out.on h2.1) R2.out BY0.out (HT.out.on h2.1 HT.out.pos)
  rw [EX.out] at KK
  go_wp2_with fail
  refine KK.mono ?_
  rintro e w3 ⟨rfl, hb3⟩
  skip
  clear KK
  go_wp2_with fail
  refine hK.out _ _ (⟨h2.1.trans (hb3.mono h2.1.size), trivial⟩) (fun h3 => ?_)
  clear hK K
  try simp only [Act.put, List.setIfInBounds_toArray, List.set_cons_zero, List.set_cons_succ]
  clear hb3 R2
  refine wpAnyH_ready (rs := [5]) (by kernel_rfl) (by simp) ?_
  refine AllReadyH.cons (by rw [List.getElem?_toArray]; rfl) (fun K hK => ?_) AllReadyH.nil
  rw [if_pos (by rfl)]
  have KK := first_any (k := k) (s := s) (F := F) (HC.out.on h3.1) HV.out HLN.out
  skip
  go_wp2_with fail
  refine KK.mono ?_
  rintro e w5 ⟨u5, rfl, hr5, hb5⟩
  rw [EY0.out] at hr5
  have R5 := Lib.hid hr5
  clear hr5
  clear KK
  go_wp2_with fail
  refine hK.out _ _ (⟨h3.1.trans (hb5.mono h3.1.size), trivial⟩) (fun h5 => ?_)
  clear hK K
  try simp only [Act.put, List.setIfInBounds_toArray, List.set_cons_zero, List.set_cons_succ]
  clear hb5
  refine wpAnyH_ready (rs := [6]) (by kernel_rfl) (by simp) ?_
  refine AllReadyH.cons (by rw [List.getElem?_toArray]; rfl) (fun K hK => ?_) AllReadyH.nil
  rw [if_pos (by rfl)]
  have KK := refSum_any R5.out.rd BY0.out (by have := LY0.out; omega)
  rw [EX.out] at KK
  go_wp2_with fail
  refine KK.mono ?_
  rintro e w6 ⟨rfl, hb6⟩
  skip
  clear KK
  go_wp2_with fail
  refine hK.out _ _ (⟨h5.1.trans (hb6.mono h5.1.size), trivial⟩) (fun h6 => ?_)
  clear hK K
  try simp only [Act.put, List.setIfInBounds_toArray, List.set_cons_zero, List.set_cons_succ]
  clear hb6 R5
  refine wpAnyH_take (i := 7) (v := ?_) (by rw [List.getElem?_toArray]; rfl) (by kernel_rfl) (by kernel_rfl) (by kernel_rfl) (by exact fun _ _ _ h => h) (Or.inl ⟨by rfl, ?_⟩) h6 ?_
  rotate_left
  · intro W hW
    have hl := LX.out
    go_simp
    all_goals with_reducible rfl
  try simp only [Act.put, List.setIfInBounds_toArray, List.set_cons_zero, List.set_cons_succ]
  refine wpAnyH_take (i := 8) (v := ?_) (by rw [List.getElem?_toArray]; rfl) (by kernel_rfl) (by kernel_rfl) (by kernel_rfl) (by exact fun _ _ _ h => h) (Or.inl ⟨by rfl, ?_⟩) h6 ?_
  rotate_left
  · intro W hW
    go_simp
    all_goals with_reducible rfl
  try simp only [Act.put, List.setIfInBounds_toArray, List.set_cons_zero, List.set_cons_succ]
  refine wpAnyH_take (i := 9) (v := ?_) (by rw [List.getElem?_toArray]; rfl) (by kernel_rfl) (by kernel_rfl) (by kernel_rfl) (by exact fun _ _ _ h => h) (Or.inl ⟨by rfl, ?_⟩) h6 ?_
  rotate_left
  · intro W hW
    go_simp
    all_goals with_reducible rfl
  try simp only [Act.put, List.setIfInBounds_toArray, List.set_cons_zero, List.set_cons_succ]
  refine wpAnyH_take (i := 10) (v := ?_) (by rw [List.getElem?_toArray]; rfl) (by kernel_rfl) (by kernel_rfl) (by kernel_rfl) (by exact fun _ _ _ h => h) (Or.inl ⟨by rfl, ?_⟩) h6 ?_
  rotate_left
  · intro W hW
    go_simp
    all_goals with_reducible rfl
  try simp only [Act.put, List.setIfInBounds_toArray, List.set_cons_zero, List.set_cons_succ]
  refine wpAnyH_take (i := 11) (v := ?_) (by rw [List.getElem?_toArray]; rfl) (by kernel_rfl) (by kernel_rfl) (by kernel_rfl) (by exact fun _ _ _ h => h) (Or.inl ⟨by rfl, ?_⟩) h6 ?_
  rotate_left
  · intro W hW
    have hc := (opAt (blk_onB HB.out hW.1)).1
    go_simp
    all_goals with_reducible rfl
  try simp only [Act.put, List.setIfInBounds_toArray, List.set_cons_zero, List.set_cons_succ]
  refine wpAnyH_take (i := 12) (v := ?_) (by rw [List.getElem?_toArray]; rfl) (by kernel_rfl) (by kernel_rfl) (by kernel_rfl) (by exact fun _ _ _ h => h) (Or.inl ⟨by rfl, ?_⟩) h6 ?_
  rotate_left
  · intro W hW
    go_simp
    all_goals with_reducible rfl
  try simp only [Act.put, List.setIfInBounds_toArray, List.set_cons_zero, List.set_cons_succ]
  refine wpAnyH_take (i := 13) (v := ?_) (by rw [List.getElem?_toArray]; rfl) (by kernel_rfl) (by kernel_rfl) (by kernel_rfl) (by exact fun _ _ _ h => h) (Or.inl ⟨by rfl, ?_⟩) h6 ?_
  rotate_left
  · intro W hW
    have hc := (opAt (blk_onB HB.out hW.1)).2
    go_simp
    all_goals with_reducible rfl
  try simp only [Act.put, List.setIfInBounds_toArray, List.set_cons_zero, List.set_cons_succ]
  refine wpAnyH_take (i := 16) (v := ?_) (by rw [List.getElem?_toArray]; rfl) (by kernel_rfl) (by kernel_rfl) (by kernel_rfl) (by exact fun _ _ _ h => h) (Or.inl ⟨by rfl, ?_⟩) h6 ?_
  rotate_left
  · intro W hW
    go_simp
    all_goals with_reducible rfl
  try simp only [Act.put, List.setIfInBounds_toArray, List.set_cons_zero, List.set_cons_succ]
  refine wpAnyH_take (i := 17) (v := ?_) (by rw [List.getElem?_toArray]; rfl) (by kernel_rfl) (by kernel_rfl) (by kernel_rfl) (by exact fun _ _ _ h => h) (Or.inl ⟨by rfl, ?_⟩) h6 ?_
  rotate_left
  · intro W hW
    have hc := (opAt (blk_onB HB.out hW.1)).1
    go_simp
    all_goals with_reducible rfl
  try simp only [Act.put, List.setIfInBounds_toArray, List.set_cons_zero, List.set_cons_succ]
  refine wpAnyH_take (i := 18) (v := ?_) (by rw [List.getElem?_toArray]; rfl) (by kernel_rfl) (by kernel_rfl) (by kernel_rfl) (by exact fun _ _ _ h => h) (Or.inl ⟨by rfl, ?_⟩) h6 ?_
  rotate_left
  · intro W hW
    go_simp
    all_goals with_reducible rfl
  try simp only [Act.put, List.setIfInBounds_toArray, List.set_cons_zero, List.set_cons_succ]
  refine wpAnyH_take (i := 19) (v := ?_) (by rw [List.getElem?_toArray]; rfl) (by kernel_rfl) (by kernel_rfl) (by kernel_rfl) (by exact fun _ _ _ h => h) (Or.inl ⟨by rfl, ?_⟩) h6 ?_
  rotate_left
  · intro W hW
    have hc := (opAt (blk_onB HB.out hW.1)).2
    go_simp
    all_goals with_reducible rfl
  try simp only [Act.put, List.setIfInBounds_toArray, List.set_cons_zero, List.set_cons_succ]
  refine wpAnyH_ready (rs := [14]) (by kernel_rfl) (by simp) ?_
  refine AllReadyH.cons (by rw [List.getElem?_toArray]; rfl) (fun K hK => ?_) AllReadyH.nil
  rw [if_pos (by rfl)]
  have KK := Parts_any (HL.out.onb h6.1) HN24.out HXL.out
  skip
  go_wp2_with fail
  refine KK.mono ?_
  rintro e w14 ⟨vp, vs, rfl, hp⟩
  have hb14 := hp.below
  have RP := Lib.hid hp.rdl
  clear hp
  clear KK
  go_wp2_with fail
  refine hK.out _ _ (⟨h6.1.trans (hb14.mono h6.1.size), trivial⟩) (fun h14 => ?_)
  clear hK K
  try simp only [Act.put, List.setIfInBounds_toArray, List.set_cons_zero, List.set_cons_succ]
  clear hb14
  refine wpAnyH_ready (rs := [15]) (by kernel_rfl) (by simp) ?_
  refine AllReadyH.cons (by rw [List.getElem?_toArray]; rfl) (fun K hK => ?_) AllReadyH.nil
  rw [if_pos (by rfl)]
  have KK := Tagged_nilK (s := s) (t := t1) (HN.out.on h14.1) RP.out (HT.out.on h14.1 HT.out.pos) HS.out HCUT.out (by rw [EQ.out]; have := LQ.out; omega) (by rw [EQ.out]; exact BQ.out)
  rw [EQ.out, EZ.out] at KK
  go_wp2_with fail
  refine KK.mono ?_
  rintro e w15 ⟨rfl, hb15⟩
  skip
  clear KK
  go_wp2_with fail
  refine hK.out _ _ (⟨h14.1.trans (hb15.mono h14.1.size), trivial⟩) (fun h15 => ?_)
  clear hK K
  try simp only [Act.put, List.setIfInBounds_toArray, List.set_cons_zero, List.set_cons_succ]
  clear hb15 RP
  refine wpAnyH_ready (rs := [20]) (by kernel_rfl) (by simp) ?_
  refine AllReadyH.cons (by rw [List.getElem?_toArray]; rfl) (fun K hK => ?_) AllReadyH.nil
  rw [if_pos (by rfl)]
  have KK := refTagged_any (s := s) (t := t1) (HL.out.onb h15.1) HS.out HCUT.out (by rw [EQ.out]; have := LQ.out; omega) (by rw [EQ.out]; exact BQ.out)
  rw [EQ.out, EZ.out] at KK
  go_wp2_with fail
  refine KK.mono ?_
  rintro e w20 ⟨rfl, hb20⟩
  skip
  clear KK
  go_wp2_with fail
  refine hK.out _ _ (⟨h15.1.trans (hb20.mono h15.1.size), trivial⟩) (fun h20 => ?_)
  clear hK K
  try simp only [Act.put, List.setIfInBounds_toArray, List.set_cons_zero, List.set_cons_succ]
  clear hb20
  refine wpAnyH_take (i := 21) (v := ?_) (by rw [List.getElem?_toArray]; rfl) (by kernel_rfl) (by kernel_rfl) (by kernel_rfl) (by exact fun _ _ _ h => h) (Or.inl ⟨by rfl, ?_⟩) h20 ?_
  rotate_left
  · intro W hW
    have hl := LZ.out
    go_simp
    all_goals with_reducible rfl
  try simp only [Act.put, List.setIfInBounds_toArray, List.set_cons_zero, List.set_cons_succ]
  refine wpAnyH_take (i := 22) (v := ?_) (by rw [List.getElem?_toArray]; rfl) (by kernel_rfl) (by kernel_rfl) (by kernel_rfl) (by exact fun _ _ _ h => h) (Or.inl ⟨by rfl, ?_⟩) h20 ?_
  rotate_left
  · intro W hW
    go_simp
    all_goals with_reducible rfl
  try simp only [Act.put, List.setIfInBounds_toArray, List.set_cons_zero, List.set_cons_succ]
  refine wpAnyH_take (i := 23) (v := ?_) (by rw [List.getElem?_toArray]; rfl) (by kernel_rfl) (by kernel_rfl) (by kernel_rfl) (by exact fun _ _ _ h => h) (Or.inl ⟨by rfl, ?_⟩) h20 ?_
  rotate_left
  · intro W hW
    go_simp
    all_goals with_reducible rfl
  try simp only [Act.put, List.setIfInBounds_toArray, List.set_cons_zero, List.set_cons_succ]
  refine wpAnyH_take (i := 24) (v := ?_) (by rw [List.getElem?_toArray]; rfl) (by kernel_rfl) (by kernel_rfl) (by kernel_rfl) (by exact fun _ _ _ h => h) (Or.inl ⟨by rfl, ?_⟩) h20 ?_
  rotate_left
  · intro W hW
    go_simp
    all_goals with_reducible rfl
  try simp only [Act.put, List.setIfInBounds_toArray, List.set_cons_zero, List.set_cons_succ]
  refine wpAnyH_take (i := 25) (v := ?_) (by rw [List.getElem?_toArray]; rfl) (by kernel_rfl) (by kernel_rfl) (by kernel_rfl) (by exact fun _ _ _ h => h) (Or.inl ⟨by rfl, ?_⟩) h20 ?_
  rotate_left
  · intro W hW
    go_simp
    all_goals with_reducible rfl
  try simp only [Act.put, List.setIfInBounds_toArray, List.set_cons_zero, List.set_cons_succ]
  refine wpAnyH_take (i := 26) (v := ?_) (by rw [List.getElem?_toArray]; rfl) (by kernel_rfl) (by kernel_rfl) (by kernel_rfl) (by exact fun _ _ _ h => h) (Or.inl ⟨by rfl, ?_⟩) h20 ?_
  rotate_left
  · intro W hW
    have hr := op_hash (blk_onB HB.out hW.1) HF.out
    have hl := HF.out
    have hl2 := hc_len F
    go_simp
    all_goals with_reducible rfl
  try simp only [Act.put, List.setIfInBounds_toArray, List.set_cons_zero, List.set_cons_succ]
  refine wpAnyH_ready (rs := [27]) (by kernel_rfl) (by simp) ?_
  refine AllReadyH.cons (by rw [List.getElem?_toArray]; rfl) (fun K hK => ?_) AllReadyH.nil
  rw [if_pos (by rfl)]
  have KK := Put_nilK (F := F) (a := .slice none 0 0) (HN.out.on h20.1)
  skip
  go_wp2_with fail
  refine KK.mono ?_
  rintro e w27 ⟨rfl, hb27⟩
  skip
  clear KK
  go_wp2_with fail
  refine hK.out _ _ (⟨h20.1.trans (hb27.mono h20.1.size), trivial⟩) (fun h27 => ?_)
  clear hK K
  try simp only [Act.put, List.setIfInBounds_toArray, List.set_cons_zero, List.set_cons_succ]
  clear hb27
  refine wpAnyH_ready (rs := [28]) (by kernel_rfl) (by simp) ?_
  refine AllReadyH.cons (by rw [List.getElem?_toArray]; rfl) (fun K hK => ?_) AllReadyH.nil
  rw [if_pos (by rfl)]
  have KK := num_bk w27 1
  skip
  go_wp2_with fail
  refine KK.mono ?_
  rintro e w28 ⟨rfl, hq28⟩
  obtain rfl := hq28.symm
  clear hq28
  clear KK
  go_wp2_with fail
  refine hK.out _ _ (h27) (fun h28 => ?_)
  clear hK K
  try simp only [Act.put, List.setIfInBounds_toArray, List.set_cons_zero, List.set_cons_succ]
  refine wpAnyH_take (i := 29) (v := ?_) (by rw [List.getElem?_toArray]; rfl) (by kernel_rfl) (by kernel_rfl) (by kernel_rfl) (by exact fun _ _ _ h => h) (Or.inl ⟨by rfl, ?_⟩) h28 ?_
  rotate_left
  · intro W hW
    go_simp
    all_goals with_reducible rfl
  try simp only [Act.put, List.setIfInBounds_toArray, List.set_cons_zero, List.set_cons_succ]
  refine wpAnyH_take (i := 30) (v := ?_) (by rw [List.getElem?_toArray]; rfl) (by kernel_rfl) (by kernel_rfl) (by kernel_rfl) (by exact fun _ _ _ h => h) (Or.inl ⟨by rfl, ?_⟩) h28 ?_
  rotate_left
  · intro W hW
    go_simp
    all_goals with_reducible rfl
  try simp only [Act.put, List.setIfInBounds_toArray, List.set_cons_zero, List.set_cons_succ]
  refine wpAnyH_take (i := 31) (v := ?_) (by rw [List.getElem?_toArray]; rfl) (by kernel_rfl) (by kernel_rfl) (by kernel_rfl) (by exact fun _ _ _ h => h) (Or.inl ⟨by rfl, ?_⟩) h28 ?_
  rotate_left
  · intro W hW
    go_simp
    all_goals with_reducible rfl
  try simp only [Act.put, List.setIfInBounds_toArray, List.set_cons_zero, List.set_cons_succ]
  refine wpAnyH_take (i := 32) (v := ?_) (by rw [List.getElem?_toArray]; rfl) (by kernel_rfl) (by kernel_rfl) (by kernel_rfl) (by exact fun _ _ _ h => h) (Or.inl ⟨by rfl, ?_⟩) h28 ?_
  rotate_left
  · intro W hW
    go_simp
    all_goals with_reducible rfl
  try simp only [Act.put, List.setIfInBounds_toArray, List.set_cons_zero, List.set_cons_succ]
  refine wpAnyH_take (i := 33) (v := ?_) (by rw [List.getElem?_toArray]; rfl) (by kernel_rfl) (by kernel_rfl) (by kernel_rfl) (by exact fun _ _ _ h => h) (Or.inl ⟨by rfl, ?_⟩) h28 ?_
  rotate_left
  · intro W hW
    go_simp
    all_goals with_reducible rfl
  try simp only [Act.put, List.setIfInBounds_toArray, List.set_cons_zero, List.set_cons_succ]
  refine wpAnyH_take (i := 34) (v := ?_) (by rw [List.getElem?_toArray]; rfl) (by kernel_rfl) (by kernel_rfl) (by kernel_rfl) (by exact fun _ _ _ h => h) (Or.inl ⟨by rfl, ?_⟩) h28 ?_
  rotate_left
  · intro W hW
    go_simp
    all_goals with_reducible rfl
  try simp only [Act.put, List.setIfInBounds_toArray, List.set_cons_zero, List.set_cons_succ]
  refine wpAnyH_take (i := 35) (v := ?_) (by rw [List.getElem?_toArray]; rfl) (by kernel_rfl) (by kernel_rfl) (by kernel_rfl) (by exact fun _ _ _ h => h) (Or.inl ⟨by rfl, ?_⟩) h28 ?_
  rotate_left
  · intro W hW
    go_simp
    all_goals with_reducible rfl
  try simp only [Act.put, List.setIfInBounds_toArray, List.set_cons_zero, List.set_cons_succ]
  refine wpAnyH_take (i := 36) (v := ?_) (by rw [List.getElem?_toArray]; rfl) (by kernel_rfl) (by kernel_rfl) (by kernel_rfl) (by exact fun _ _ _ h => h) (Or.inl ⟨by rfl, ?_⟩) h28 ?_
  rotate_left
  · intro W hW
    go_simp
    all_goals with_reducible rfl
  try simp only [Act.put, List.setIfInBounds_toArray, List.set_cons_zero, List.set_cons_succ]
  refine wpAnyH_take (i := 37) (v := ?_) (by rw [List.getElem?_toArray]; rfl) (by kernel_rfl) (by kernel_rfl) (by kernel_rfl) (by exact fun _ _ _ h => h) (Or.inl ⟨by rfl, ?_⟩) h28 ?_
  rotate_left
  · intro W hW
    go_simp
    all_goals with_reducible rfl
  try simp only [Act.put, List.setIfInBounds_toArray, List.set_cons_zero, List.set_cons_succ]
  refine wpAnyH_take (i := 38) (v := ?_) (by rw [List.getElem?_toArray]; rfl) (by kernel_rfl) (by kernel_rfl) (by kernel_rfl) (by exact fun _ _ _ h => h) (Or.inl ⟨by rfl, ?_⟩) h28 ?_
  rotate_left
  · intro W hW
    go_simp
    all_goals with_reducible rfl
  try simp only [Act.put, List.setIfInBounds_toArray, List.set_cons_zero, List.set_cons_succ]
  refine wpAnyH_ready (rs := [39]) (by kernel_rfl) (by simp) ?_
  refine AllReadyH.cons (by rw [List.getElem?_toArray]; rfl) (fun K hK => ?_) AllReadyH.nil
  rw [if_pos (by rfl)]
  have KK := Len_nilK (HN.out.on h28.1)
  skip
  go_wp2_with fail
  refine KK.mono ?_
  rintro e w39 ⟨rfl, hq39⟩
  obtain rfl := hq39.symm
  clear hq39
  clear KK
  go_wp2_with fail
  refine hK.out _ _ (h28) (fun h39 => ?_)
  clear hK K
  try simp only [Act.put, List.setIfInBounds_toArray, List.set_cons_zero, List.set_cons_succ]
  refine wpAnyH_take (i := 40) (v := ?_) (by rw [List.getElem?_toArray]; rfl) (by kernel_rfl) (by kernel_rfl) (by kernel_rfl) (by exact fun _ _ _ h => h) (Or.inl ⟨by rfl, ?_⟩) h39 ?_
  rotate_left
  · intro W hW
    go_simp
    all_goals with_reducible rfl
  try simp only [Act.put, List.setIfInBounds_toArray, List.set_cons_zero, List.set_cons_succ]
  refine wpAnyH_take (i := 41) (v := ?_) (by rw [List.getElem?_toArray]; rfl) (by kernel_rfl) (by kernel_rfl) (by kernel_rfl) (by exact fun _ _ _ h => h) (Or.inl ⟨by rfl, ?_⟩) h39 ?_
  rotate_left
  · intro W hW
    go_simp
    all_goals with_reducible rfl
  try simp only [Act.put, List.setIfInBounds_toArray, List.set_cons_zero, List.set_cons_succ]
  refine wpAnyH_done (by kernel_rfl) ?_ _
  have SE := Lib.hid (Ss.out.on h39.1)
  clear Ss BZ HB HN HL HC HT
  go_wp2_with fail
  have hb := (Below.refl w27.heap.size w27).alloc (Nat.le_refl _) (.cells bk0.toArray 49)
  have S1 : Hid (KSt w (w27.alloc (.cells bk0.toArray 49)) b0 (opRow k s vL F) (.pointer (some ⟨w27.heap.size, 0, none⟩))) := ⟨(SE.out.on hb).below, (SE.out.on hb).blk, .inr ⟨_, rfl, (Joins.cell_of_block (heap_alloc_new w27 _) 0).trans rfl⟩⟩
  have cr := op_hash S1.out.blk HF.out
  clear SE hb
  rw [rounds_succ]
  generalize w27.alloc (.cells bk0.toArray 49) = xa at *
  generalize Value.pointer (some ⟨w27.heap.size, 0, none⟩) = vxa at *
  go_wp2_with fail
  refine (Seek_nilK (F := F) (Lib.hid S1.out.nil)).mono ?_
  rintro e ws ⟨rfl, hbs⟩
  have Ss := Lib.hid (S1.out.on hbs)
  clear S1 hbs cr
  go_wp2_with fail
  refine (Clash_nilK Ss.out.nil).mono ?_
  rintro e wc ⟨rfl, hwc⟩
  obtain rfl := hwc.symm
  clear hwc
  have BZ := Lib.hid Ss.out.below
  have HB := Lib.hid Ss.out.blk
  have HN := Lib.hid Ss.out.nil
  have HL := Lib.hid (HL0.out.onb BZ.out)
  have HC := Lib.hid (HC0.out.on BZ.out)
  have HT := Lib.hid (HT0.out.on BZ.out HT0.out.pos)
  go_wp2_with fail
  generalize ws = wz at *
  refine wp_region_held_drew (S := fun W => Below wz.heap.size wz W ∧ True) (by kernel_rfl) (⟨(Below.refl _ _).drew, trivial⟩) (fun h0 => ?_)
  refine wpAnyH_take (i := 0) (v := ?_) (by rw [List.getElem?_toArray]; rfl) (by kernel_rfl) (by kernel_rfl) (by kernel_rfl) (by exact fun _ _ _ h => h) (Or.inl ⟨by rfl, ?_⟩) h0 ?_
  rotate_left
  · intro W hW
    go_simp
    all_goals with_reducible rfl
  try simp only [Act.put, List.setIfInBounds_toArray, List.set_cons_zero, List.set_cons_succ]
  refine wpAnyH_take (i := 1) (v := ?_) (by rw [List.getElem?_toArray]; rfl) (by kernel_rfl) (by kernel_rfl) (by kernel_rfl) (by exact fun _ _ _ h => h) (Or.inl ⟨by rfl, ?_⟩) h0 ?_
  rotate_left
  · intro W hW
    have hr := row_of (blk_onB HB.out hW.1) (n := 35) (opRow_len HF.out)
    have hl := opRow_len (k := k) (s := s) (vL := vL) HF.out
    go_simp
    all_goals with_reducible rfl
  try simp only [Act.put, List.setIfInBounds_toArray, List.set_cons_zero, List.set_cons_succ]
  refine wpAnyH_take (i := 4) (v := ?_) (by rw [List.getElem?_toArray]; rfl) (by kernel_rfl) (by kernel_rfl) (by kernel_rfl) (by exact fun _ _ _ h => h) (Or.inl ⟨by rfl, ?_⟩) h0 ?_
  rotate_left
  · intro W hW
    have hr := row_of (blk_onB HB.out hW.1) (n := 35) (opRow_len HF.out)
    have hl := opRow_len (k := k) (s := s) (vL := vL) HF.out
    go_simp
    all_goals with_reducible rfl
  try simp only [Act.put, List.setIfInBounds_toArray, List.set_cons_zero, List.set_cons_succ]
  refine wpAnyH_ready (rs := [2]) (by kernel_rfl) (by simp) ?_
  refine AllReadyH.cons (by rw [List.getElem?_toArray]; rfl) (fun K hK => ?_) AllReadyH.nil
  rw [if_pos (by rfl)]
  have KK := first_any (k := k) (s := s) (F := F) (HC.out.on h0.1) HV.out HLN.out
  skip
  go_wp2_with fail
  refine KK.mono ?_
  rintro e w2 ⟨u2, rfl, hr2, hb2⟩
  rw [EY0.out] at hr2
  have R2 := Lib.hid hr2
  clear hr2
  clear KK
  go_wp2_with fail
  refine hK.out _ _ (⟨h0.1.trans (hb2.mono h0.1.size), trivial⟩) (fun h2 => ?_)
  clear hK K
  try simp only [Act.put, List.setIfInBounds_toArray, List.set_cons_zero, List.set_cons_succ]
  clear hb2
  refine wpAnyH_ready (rs := [3]) (by kernel_rfl) (by simp) ?_
  refine AllReadyH.cons (by rw [List.getElem?_toArray]; rfl) (fun K hK => ?_) AllReadyH.nil
  rw [if_pos (by rfl)]
  have KK := Sum_nilK (HN.out.on h2.1) R2.out BY0.out (HT.out.on h2.1 HT.out.pos)
  rw [EX.out] at KK
  go_wp2_with fail
  refine KK.mono ?_
  rintro e w3 ⟨rfl, hb3⟩
  skip
  clear KK
  go_wp2_with fail
  refine hK.out _ _ (⟨h2.1.trans (hb3.mono h2.1.size), trivial⟩) (fun h3 => ?_)
  clear hK K
  try simp only [Act.put, List.setIfInBounds_toArray, List.set_cons_zero, List.set_cons_succ]
  clear hb3 R2
  refine wpAnyH_ready (rs := [5]) (by kernel_rfl) (by simp) ?_
  refine AllReadyH.cons (by rw [List.getElem?_toArray]; rfl) (fun K hK => ?_) AllReadyH.nil
  rw [if_pos (by rfl)]
  have KK := first_any (k := k) (s := s) (F := F) (HC.out.on h3.1) HV.out HLN.out
  skip
  go_wp2_with fail
  refine KK.mono ?_
  rintro e w5 ⟨u5, rfl, hr5, hb5⟩
  rw [EY0.out] at hr5
  have R5 := Lib.hid hr5
  clear hr5
  clear KK
  go_wp2_with fail
  refine hK.out _ _ (⟨h3.1.trans (hb5.mono h3.1.size), trivial⟩) (fun h5 => ?_)
  clear hK K
  try simp only [Act.put, List.setIfInBounds_toArray, List.set_cons_zero, List.set_cons_succ]
  clear hb5
  refine wpAnyH_ready (rs := [6]) (by kernel_rfl) (by simp) ?_
  refine AllReadyH.cons (by rw [List.getElem?_toArray]; rfl) (fun K hK => ?_) AllReadyH.nil
  rw [if_pos (by rfl)]
  have KK := refSum_any R5.out.rd BY0.out (by have := LY0.out; omega)
  rw [EX.out] at KK
  go_wp2_with fail
  refine KK.mono ?_
  rintro e w6 ⟨rfl, hb6⟩
  skip
  clear KK
  go_wp2_with fail
  refine hK.out _ _ (⟨h5.1.trans (hb6.mono h5.1.size), trivial⟩) (fun h6 => ?_)
  clear hK K
  try simp only [Act.put, List.setIfInBounds_toArray, List.set_cons_zero, List.set_cons_succ]
  clear hb6 R5
  refine wpAnyH_take (i := 7) (v := ?_) (by rw [List.getElem?_toArray]; rfl) (by kernel_rfl) (by kernel_rfl) (by kernel_rfl) (by exact fun _ _ _ h => h) (Or.inl ⟨by rfl, ?_⟩) h6 ?_
  rotate_left
  · intro W hW
    have hl := LX.out
    go_simp
    all_goals with_reducible rfl
  try simp only [Act.put, List.setIfInBounds_toArray, List.set_cons_zero, List.set_cons_succ]
  refine wpAnyH_take (i := 8) (v := ?_) (by rw [List.getElem?_toArray]; rfl) (by kernel_rfl) (by kernel_rfl) (by kernel_rfl) (by exact fun _ _ _ h => h) (Or.inl ⟨by rfl, ?_⟩) h6 ?_
  rotate_left
  · intro W hW
    go_simp
    all_goals with_reducible rfl
  try simp only [Act.put, List.setIfInBounds_toArray, List.set_cons_zero, List.set_cons_succ]
  refine wpAnyH_take (i := 9) (v := ?_) (by rw [List.getElem?_toArray]; rfl) (by kernel_rfl) (by kernel_rfl) (by kernel_rfl) (by exact fun _ _ _ h => h) (Or.inl ⟨by rfl, ?_⟩) h6 ?_
  rotate_left
  · intro W hW
    go_simp
    all_goals with_reducible rfl
  try simp only [Act.put, List.setIfInBounds_toArray, List.set_cons_zero, List.set_cons_succ]
  refine wpAnyH_take (i := 10) (v := ?_) (by rw [List.getElem?_toArray]; rfl) (by kernel_rfl) (by kernel_rfl) (by kernel_rfl) (by exact fun _ _ _ h => h) (Or.inl ⟨by rfl, ?_⟩) h6 ?_
  rotate_left
  · intro W hW
    go_simp
    all_goals with_reducible rfl
  try simp only [Act.put, List.setIfInBounds_toArray, List.set_cons_zero, List.set_cons_succ]
  refine wpAnyH_take (i := 11) (v := ?_) (by rw [List.getElem?_toArray]; rfl) (by kernel_rfl) (by kernel_rfl) (by kernel_rfl) (by exact fun _ _ _ h => h) (Or.inl ⟨by rfl, ?_⟩) h6 ?_
  rotate_left
  · intro W hW
    have hc := (opAt (blk_onB HB.out hW.1)).1
    go_simp
    all_goals with_reducible rfl
  try simp only [Act.put, List.setIfInBounds_toArray, List.set_cons_zero, List.set_cons_succ]
  refine wpAnyH_take (i := 12) (v := ?_) (by rw [List.getElem?_toArray]; rfl) (by kernel_rfl) (by kernel_rfl) (by kernel_rfl) (by exact fun _ _ _ h => h) (Or.inl ⟨by rfl, ?_⟩) h6 ?_
  rotate_left
  · intro W hW
    go_simp
    all_goals with_reducible rfl
  try simp only [Act.put, List.setIfInBounds_toArray, List.set_cons_zero, List.set_cons_succ]
  refine wpAnyH_take (i := 13) (v := ?_) (by rw [List.getElem?_toArray]; rfl) (by kernel_rfl) (by kernel_rfl) (by kernel_rfl) (by exact fun _ _ _ h => h) (Or.inl ⟨by rfl, ?_⟩) h6 ?_
  rotate_left
  · intro W hW
    have hc := (opAt (blk_onB HB.out hW.1)).2
    go_simp
    all_goals with_reducible rfl
  try simp only [Act.put, List.setIfInBounds_toArray, List.set_cons_zero, List.set_cons_succ]
  refine wpAnyH_take (i := 16) (v := ?_) (by rw [List.getElem?_toArray]; rfl) (by kernel_rfl) (by kernel_rfl) (by kernel_rfl) (by exact fun _ _ _ h => h) (Or.inl ⟨by rfl, ?_⟩) h6 ?_
  rotate_left
  · intro W hW
    go_simp
    all_goals with_reducible rfl
  try simp only [Act.put, List.setIfInBounds_toArray, List.set_cons_zero, List.set_cons_succ]
  refine wpAnyH_take (i := 17) (v := ?_) (by rw [List.getElem?_toArray]; rfl) (by kernel_rfl) (by kernel_rfl) (by kernel_rfl) (by exact fun _ _ _ h => h) (Or.inl ⟨by rfl, ?_⟩) h6 ?_
  rotate_left
  · intro W hW
    have hc := (opAt (blk_onB HB.out hW.1)).1
    go_simp
    all_goals with_reducible rfl
  try simp only [Act.put, List.setIfInBounds_toArray, List.set_cons_zero, List.set_cons_succ]
  refine wpAnyH_take (i := 18) (v := ?_) (by rw [List.getElem?_toArray]; rfl) (by kernel_rfl) (by kernel_rfl) (by kernel_rfl) (by exact fun _ _ _ h => h) (Or.inl ⟨by rfl, ?_⟩) h6 ?_
  rotate_left
  · intro W hW
    go_simp
    all_goals with_reducible rfl
  try simp only [Act.put, List.setIfInBounds_toArray, List.set_cons_zero, List.set_cons_succ]
  refine wpAnyH_take (i := 19) (v := ?_) (by rw [List.getElem?_toArray]; rfl) (by kernel_rfl) (by kernel_rfl) (by kernel_rfl) (by exact fun _ _ _ h => h) (Or.inl ⟨by rfl, ?_⟩) h6 ?_
  rotate_left
  · intro W hW
    have hc := (opAt (blk_onB HB.out hW.1)).2
    go_simp
    all_goals with_reducible rfl
  try simp only [Act.put, List.setIfInBounds_toArray, List.set_cons_zero, List.set_cons_succ]
  refine wpAnyH_ready (rs := [14]) (by kernel_rfl) (by simp) ?_
  refine AllReadyH.cons (by rw [List.getElem?_toArray]; rfl) (fun K hK => ?_) AllReadyH.nil
  rw [if_pos (by rfl)]
  have KK := Parts_any (HL.out.onb h6.1) HN24.out HXL.out
  skip
  go_wp2_with fail
  refine KK.mono ?_
  rintro e w14 ⟨vp, vs, rfl, hp⟩
  have hb14 := hp.below
  have RP := Lib.hid hp.rdl
  clear hp
  clear KK
  go_wp2_with fail
  refine hK.out _ _ (⟨h6.1.trans (hb14.mono h6.1.size), trivial⟩) (fun h14 => ?_)
  clear hK K
  try simp only [Act.put, List.setIfInBounds_toArray, List.set_cons_zero, List.set_cons_succ]
  clear hb14
  refine wpAnyH_ready (rs := [15]) (by kernel_rfl) (by simp) ?_
  refine AllReadyH.cons (by rw [List.getElem?_toArray]; rfl) (fun K hK => ?_) AllReadyH.nil
  rw [if_pos (by rfl)]
  have KK := Tagged_nilK (s := s) (t := t1) (HN.out.on h14.1) RP.out (HT.out.on h14.1 HT.out.pos) HS.out HCUT.out (by rw [EQ.out]; have := LQ.out; omega) (by rw [EQ.out]; exact BQ.out)
  rw [EQ.out, EZ.out] at KK
  go_wp2_with fail
  refine KK.mono ?_
  rintro e w15 ⟨rfl, hb15⟩
  skip
  clear KK
  go_wp2_with fail
  refine hK.out _ _ (⟨h14.1.trans (hb15.mono h14.1.size), trivial⟩) (fun h15 => ?_)
  clear hK K
  try simp only [Act.put, List.setIfInBounds_toArray, List.set_cons_zero, List.set_cons_succ]
  clear hb15 RP
  refine wpAnyH_ready (rs := [20]) (by kernel_rfl) (by simp) ?_
  refine AllReadyH.cons (by rw [List.getElem?_toArray]; rfl) (fun K hK => ?_) AllReadyH.nil
  rw [if_pos (by rfl)]
  have KK := refTagged_any (s := s) (t := t1) (HL.out.onb h15.1) HS.out HCUT.out (by rw [EQ.out]; have := LQ.out; omega) (by rw [EQ.out]; exact BQ.out)
  rw [EQ.out, EZ.out] at KK
  go_wp2_with fail
  refine KK.mono ?_
  rintro e w20 ⟨rfl, hb20⟩
  skip
  clear KK
  go_wp2_with fail
  refine hK.out _ _ (⟨h15.1.trans (hb20.mono h15.1.size), trivial⟩) (fun h20 => ?_)
  clear hK K
  try simp only [Act.put, List.setIfInBounds_toArray, List.set_cons_zero, List.set_cons_succ]
  clear hb20
  refine wpAnyH_take (i := 21) (v := ?_) (by rw [List.getElem?_toArray]; rfl) (by kernel_rfl) (by kernel_rfl) (by kernel_rfl) (by exact fun _ _ _ h => h) (Or.inl ⟨by rfl, ?_⟩) h20 ?_
  rotate_left
  · intro W hW
    have hl := LZ.out
    go_simp
    all_goals with_reducible rfl
  try simp only [Act.put, List.setIfInBounds_toArray, List.set_cons_zero, List.set_cons_succ]
  refine wpAnyH_take (i := 22) (v := ?_) (by rw [List.getElem?_toArray]; rfl) (by kernel_rfl) (by kernel_rfl) (by kernel_rfl) (by exact fun _ _ _ h => h) (Or.inl ⟨by rfl, ?_⟩) h20 ?_
  rotate_left
  · intro W hW
    go_simp
    all_goals with_reducible rfl
  try simp only [Act.put, List.setIfInBounds_toArray, List.set_cons_zero, List.set_cons_succ]
  refine wpAnyH_take (i := 23) (v := ?_) (by rw [List.getElem?_toArray]; rfl) (by kernel_rfl) (by kernel_rfl) (by kernel_rfl) (by exact fun _ _ _ h => h) (Or.inl ⟨by rfl, ?_⟩) h20 ?_
  rotate_left
  · intro W hW
    go_simp
    all_goals with_reducible rfl
  try simp only [Act.put, List.setIfInBounds_toArray, List.set_cons_zero, List.set_cons_succ]
  refine wpAnyH_take (i := 24) (v := ?_) (by rw [List.getElem?_toArray]; rfl) (by kernel_rfl) (by kernel_rfl) (by kernel_rfl) (by exact fun _ _ _ h => h) (Or.inl ⟨by rfl, ?_⟩) h20 ?_
  rotate_left
  · intro W hW
    go_simp
    all_goals with_reducible rfl
  try simp only [Act.put, List.setIfInBounds_toArray, List.set_cons_zero, List.set_cons_succ]
  refine wpAnyH_take (i := 25) (v := ?_) (by rw [List.getElem?_toArray]; rfl) (by kernel_rfl) (by kernel_rfl) (by kernel_rfl) (by exact fun _ _ _ h => h) (Or.inl ⟨by rfl, ?_⟩) h20 ?_
  rotate_left
  · intro W hW
    go_simp
    all_goals with_reducible rfl
  try simp only [Act.put, List.setIfInBounds_toArray, List.set_cons_zero, List.set_cons_succ]
  refine wpAnyH_take (i := 26) (v := ?_) (by rw [List.getElem?_toArray]; rfl) (by kernel_rfl) (by kernel_rfl) (by kernel_rfl) (by exact fun _ _ _ h => h) (Or.inl ⟨by rfl, ?_⟩) h20 ?_
  rotate_left
  · intro W hW
    have hr := op_hash (blk_onB HB.out hW.1) HF.out
    have hl := HF.out
    have hl2 := hc_len F
    go_simp
    all_goals with_reducible rfl
  try simp only [Act.put, List.setIfInBounds_toArray, List.set_cons_zero, List.set_cons_succ]
  refine wpAnyH_ready (rs := [27]) (by kernel_rfl) (by simp) ?_
  refine AllReadyH.cons (by rw [List.getElem?_toArray]; rfl) (fun K hK => ?_) AllReadyH.nil
  rw [if_pos (by rfl)]
  have KK := Put_nilK (F := F) (a := .slice none 0 0) (HN.out.on h20.1)
  skip
  go_wp2_with fail
  refine KK.mono ?_
  rintro e w27 ⟨rfl, hb27⟩
  skip
  clear KK
  go_wp2_with fail
  refine hK.out _ _ (⟨h20.1.trans (hb27.mono h20.1.size), trivial⟩) (fun h27 => ?_)
  clear hK K
  try simp only [Act.put, List.setIfInBounds_toArray, List.set_cons_zero, List.set_cons_succ]
  clear hb27
  refine wpAnyH_ready (rs := [28]) (by kernel_rfl) (by simp) ?_
  refine AllReadyH.cons (by rw [List.getElem?_toArray]; rfl) (fun K hK => ?_) AllReadyH.nil
  rw [if_pos (by rfl)]
  have KK := num_bk w27 1
  skip
  go_wp2_with fail
  refine KK.mono ?_
  rintro e w28 ⟨rfl, hq28⟩
  obtain rfl := hq28.symm
  clear hq28
  clear KK
  go_wp2_with fail
  refine hK.out _ _ (h27) (fun h28 => ?_)
  clear hK K
  try simp only [Act.put, List.setIfInBounds_toArray, List.set_cons_zero, List.set_cons_succ]
  refine wpAnyH_take (i := 29) (v := ?_) (by rw [List.getElem?_toArray]; rfl) (by kernel_rfl) (by kernel_rfl) (by kernel_rfl) (by exact fun _ _ _ h => h) (Or.inl ⟨by rfl, ?_⟩) h28 ?_
  rotate_left
  · intro W hW
    go_simp
    all_goals with_reducible rfl
  try simp only [Act.put, List.setIfInBounds_toArray, List.set_cons_zero, List.set_cons_succ]
  refine wpAnyH_take (i := 30) (v := ?_) (by rw [List.getElem?_toArray]; rfl) (by kernel_rfl) (by kernel_rfl) (by kernel_rfl) (by exact fun _ _ _ h => h) (Or.inl ⟨by rfl, ?_⟩) h28 ?_
  rotate_left
  · intro W hW
    go_simp
    all_goals with_reducible rfl
  try simp only [Act.put, List.setIfInBounds_toArray, List.set_cons_zero, List.set_cons_succ]
  refine wpAnyH_take (i := 31) (v := ?_) (by rw [List.getElem?_toArray]; rfl) (by kernel_rfl) (by kernel_rfl) (by kernel_rfl) (by exact fun _ _ _ h => h) (Or.inl ⟨by rfl, ?_⟩) h28 ?_
  rotate_left
  · intro W hW
    go_simp
    all_goals with_reducible rfl
  try simp only [Act.put, List.setIfInBounds_toArray, List.set_cons_zero, List.set_cons_succ]
  refine wpAnyH_take (i := 32) (v := ?_) (by rw [List.getElem?_toArray]; rfl) (by kernel_rfl) (by kernel_rfl) (by kernel_rfl) (by exact fun _ _ _ h => h) (Or.inl ⟨by rfl, ?_⟩) h28 ?_
  rotate_left
  · intro W hW
    go_simp
    all_goals with_reducible rfl
  try simp only [Act.put, List.setIfInBounds_toArray, List.set_cons_zero, List.set_cons_succ]
  refine wpAnyH_take (i := 33) (v := ?_) (by rw [List.getElem?_toArray]; rfl) (by kernel_rfl) (by kernel_rfl) (by kernel_rfl) (by exact fun _ _ _ h => h) (Or.inl ⟨by rfl, ?_⟩) h28 ?_
  rotate_left
  · intro W hW
    go_simp
    all_goals with_reducible rfl
  try simp only [Act.put, List.setIfInBounds_toArray, List.set_cons_zero, List.set_cons_succ]
  refine wpAnyH_take (i := 34) (v := ?_) (by rw [List.getElem?_toArray]; rfl) (by kernel_rfl) (by kernel_rfl) (by kernel_rfl) (by exact fun _ _ _ h => h) (Or.inl ⟨by rfl, ?_⟩) h28 ?_
  rotate_left
  · intro W hW
    go_simp
    all_goals with_reducible rfl
  try simp only [Act.put, List.setIfInBounds_toArray, List.set_cons_zero, List.set_cons_succ]
  refine wpAnyH_take (i := 35) (v := ?_) (by rw [List.getElem?_toArray]; rfl) (by kernel_rfl) (by kernel_rfl) (by kernel_rfl) (by exact fun _ _ _ h => h) (Or.inl ⟨by rfl, ?_⟩) h28 ?_
  rotate_left
  · intro W hW
    go_simp
    all_goals with_reducible rfl
  try simp only [Act.put, List.setIfInBounds_toArray, List.set_cons_zero, List.set_cons_succ]
  refine wpAnyH_take (i := 36) (v := ?_) (by rw [List.getElem?_toArray]; rfl) (by kernel_rfl) (by kernel_rfl) (by kernel_rfl) (by exact fun _ _ _ h => h) (Or.inl ⟨by rfl, ?_⟩) h28 ?_
  rotate_left
  · intro W hW
    go_simp
    all_goals with_reducible rfl
  try simp only [Act.put, List.setIfInBounds_toArray, List.set_cons_zero, List.set_cons_succ]
  refine wpAnyH_take (i := 37) (v := ?_) (by rw [List.getElem?_toArray]; rfl) (by kernel_rfl) (by kernel_rfl) (by kernel_rfl) (by exact fun _ _ _ h => h) (Or.inl ⟨by rfl, ?_⟩) h28 ?_
  rotate_left
  · intro W hW
    go_simp
    all_goals with_reducible rfl
  try simp only [Act.put, List.setIfInBounds_toArray, List.set_cons_zero, List.set_cons_succ]
  refine wpAnyH_take (i := 38) (v := ?_) (by rw [List.getElem?_toArray]; rfl) (by kernel_rfl) (by kernel_rfl) (by kernel_rfl) (by exact fun _ _ _ h => h) (Or.inl ⟨by rfl, ?_⟩) h28 ?_
  rotate_left
  · intro W hW
    go_simp
    all_goals with_reducible rfl
  try simp only [Act.put, List.setIfInBounds_toArray, List.set_cons_zero, List.set_cons_succ]
  refine wpAnyH_ready (rs := [39]) (by kernel_rfl) (by simp) ?_
  refine AllReadyH.cons (by rw [List.getElem?_toArray]; rfl) (fun K hK => ?_) AllReadyH.nil
  rw [if_pos (by rfl)]
  have KK := Len_nilK (HN.out.on h28.1)
  skip
  go_wp2_with fail
  refine KK.mono ?_
  rintro e w39 ⟨rfl, hq39⟩
  obtain rfl := hq39.symm
  clear hq39
  clear KK
  go_wp2_with fail
  refine hK.out _ _ (h28) (fun h39 => ?_)
  clear hK K
  try simp only [Act.put, List.setIfInBounds_toArray, List.set_cons_zero, List.set_cons_succ]
  refine wpAnyH_take (i := 40) (v := ?_) (by rw [List.getElem?_toArray]; rfl) (by kernel_rfl) (by kernel_rfl) (by kernel_rfl) (by exact fun _ _ _ h => h) (Or.inl ⟨by rfl, ?_⟩) h39 ?_
  rotate_left
  · intro W hW
    go_simp
    all_goals with_reducible rfl
  try simp only [Act.put, List.setIfInBounds_toArray, List.set_cons_zero, List.set_cons_succ]
  refine wpAnyH_take (i := 41) (v := ?_) (by rw [List.getElem?_toArray]; rfl) (by kernel_rfl) (by kernel_rfl) (by kernel_rfl) (by exact fun _ _ _ h => h) (Or.inl ⟨by rfl, ?_⟩) h39 ?_
  rotate_left
  · intro W hW
    go_simp
    all_goals with_reducible rfl
  try simp only [Act.put, List.setIfInBounds_toArray, List.set_cons_zero, List.set_cons_succ]
  refine wpAnyH_done (by kernel_rfl) ?_ _
  have SE := Lib.hid (Ss.out.on h39.1)
  clear Ss BZ HB HN HL HC HT
  go_wp2_with fail
  have hb := (Below.refl w27.heap.size w27).alloc (Nat.le_refl _) (.cells bk0.toArray 49)
  have S2 : Hid (KSt w (w27.alloc (.cells bk0.toArray 49)) b0 (opRow k s vL F) (.pointer (some ⟨w27.heap.size, 0, none⟩))) := ⟨(SE.out.on hb).below, (SE.out.on hb).blk, .inr ⟨_, rfl, (Joins.cell_of_block (heap_alloc_new w27 _) 0).trans rfl⟩⟩
  have cr := op_hash S2.out.blk HF.out
  clear SE hb
  rw [rounds_succ]
  generalize w27.alloc (.cells bk0.toArray 49) = xb at *
  generalize Value.pointer (some ⟨w27.heap.size, 0, none⟩) = vxb at *
  go_wp2_with fail
  refine (knows_any (HT0.out.on S2.out.below HT0.out.pos)).mono ?_
  rintro e w9 ⟨rfl, hb9⟩
  go_wp2_with fail
  go_ret
  exact ⟨rfl, S2.out.below.trans (hb9.mono S2.out.below.size)⟩
end Go.Proofs.YtimcjnocmbbahaaDoor
