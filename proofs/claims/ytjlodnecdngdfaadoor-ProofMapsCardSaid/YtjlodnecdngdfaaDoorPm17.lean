/-
  The document's strings that are digested for a row of one pair.; The document's strings that are digested for any rising row of pairs.; The document's map: all strings that are digested for its root.
-/
import Derived.Test.YtjlodnecdngdfaaDoorPm2
import Derived.Test.YtjlodnecdngdfaaDoorPm16
namespace Go.Proofs.YtjlodnecdngdfaaDoor
open Go.RowKit
set_option maxRecDepth 100000

set_option maxHeartbeats 64000000 in
theorem texts_one {w : World} {q : Option Addr} {c d : Nat} {x : List Int × List Int} (hq : RdQ w q [x]) (ok : PrOk x) (hd : d ≤ 256) :
    Calls Tryd.prog 66 #[.slice q 1 c, .int .i64 (d : Int)] w (TtQ w [x] d) := by
  obtain ⟨b, off, rfl, rd⟩ := hq.resolve_left (by simp)
  have b1 : Below w.heap.size w (w.alloc (.cells (hc zero32).toArray 24)) := (Below.refl _ _).alloc (Nat.le_refl _) _
  have B0 := Lib.hid b1.drew
  have RZ := Lib.hid ((HashAt.new w zero32).on (Below.refl _ _).drew)
  have OKX := Lib.hid ok
  have z32 := zero32_len
  have lK := ok.k.len
  have lV := ok.l
  have hlK := hc_len x.1
  have hlV := hc_len x.2
  have RK : Hid (∀ W, Below (w.alloc (.cells (hc zero32).toArray 24)).drew.heap.size (w.alloc (.cells (hc zero32).toArray 24)).drew W → rowOf W b off 32 = hc x.1 ∧ rowOf W b (off + 32) 32 = hc x.2) := fun W hW => by
    have hb : Below w.heap.size w W := b1.drew.trans (hW.mono b1.drew.size)
    have := rowOf_half ok.k.len ok.l ((rd.on (fun y hy => by rw [List.mem_singleton.1 hy]; exact ok) hb) 0 (by simp))
    simpa using this
  obtain ⟨h, hh⟩ : ∃ h, lfH x.1 x.2 = h := ⟨_, rfl⟩
  have HH := Lib.hid hh
  have LH : Hid (h.length = 32) := by show _ = _; rw [← hh]; exact lfH_len _ _
  have BH : Hid (Bytes h) := by show Bytes h; rw [← hh]; exact lfH_bytes _ _
  have hlH := hc_len h
  have lH := LH.out
  have RK2 : Hid (∀ W, Below w.heap.size w W → rowOf W b off 32 = hc x.1 ∧ rowOf W b (off + 32) 32 = hc x.2) := fun W hb => by
    have := rowOf_half ok.k.len ok.l ((rd.on (fun y hy => by rw [List.mem_singleton.1 hy]; exact ok) hb) 0 (by simp))
    simpa using this
  have RZ0 : Hid (w.heap.size < (w.alloc (.cells (hc zero32).toArray 24)).drew.heap.size) := by show _ < _; simp
  obtain ⟨i0, hi, hz0, hz1, hz2⟩ := info_parts Tryd.infoU8s
  replace hi := Lib.hid hi
  replace hz0 := Lib.hid hz0
  replace hz1 := Lib.hid hz1
  replace hz2 := Lib.hid hz2
  clear hq ok rd hh b1
  go_enter Tryd.func66, Tryd.ntmps66
  go_upto_region 8 with fail
  refine wp_region_held_drew (S := fun W => LfS (w.alloc (.cells (hc zero32).toArray 24)).drew W none) (by kernel_rfl) (LfS.start _) (fun h0 => ?_)
  generalize (w.alloc (.cells (hc zero32).toArray 24)).drew = w1 at *
  have LS0 := Lib.hid (LfS.start w1)
  refine wpAnyH_take (i := 0) (v := ?_) (by rw [List.getElem?_toArray]; rfl) (by kernel_rfl) (by kernel_rfl) (by kernel_rfl) (by exact fun _ _ _ h => h) (Or.inl ⟨by rfl, ?_⟩) h0 ?_
  rotate_left
  · intro W hW
    go_simp
    all_goals with_reducible rfl
  try simp only [Act.put, List.setIfInBounds_toArray, List.set_cons_zero, List.set_cons_succ]
  refine wpAnyH_take (i := 1) (v := ?_) (by rw [List.getElem?_toArray]; rfl) (by kernel_rfl) (by kernel_rfl) (by kernel_rfl) (by exact fun _ _ _ h => h) (Or.inl ⟨by rfl, ?_⟩) h0 ?_
  rotate_left
  · intro W hW
    go_simp
    all_goals with_reducible rfl
  try simp only [Act.put, List.setIfInBounds_toArray, List.set_cons_zero, List.set_cons_succ]
  refine wpAnyH_take (i := 2) (v := ?_) (by rw [List.getElem?_toArray]; rfl) (by kernel_rfl) (by kernel_rfl) (by kernel_rfl) (by exact fun _ _ _ h => h) (Or.inl ⟨by rfl, ?_⟩) h0 ?_
  rotate_left
  · intro W hW
    go_simp
    all_goals with_reducible rfl
  try simp only [Act.put, List.setIfInBounds_toArray, List.set_cons_zero, List.set_cons_succ]
  refine wpAnyH_take (i := 3) (v := ?_) (by rw [List.getElem?_toArray]; rfl) (by kernel_rfl) (by kernel_rfl) (by kernel_rfl) (by exact fun _ _ _ h => h) (Or.inl ⟨by rfl, ?_⟩) h0 ?_
  rotate_left
  · intro W hW
    have cc := (RK.out W hW.below).1
    go_simp
    all_goals with_reducible rfl
  try simp only [Act.put, List.setIfInBounds_toArray, List.set_cons_zero, List.set_cons_succ]
  refine wpAnyH_take (i := 4) (v := ?_) (by rw [List.getElem?_toArray]; rfl) (by kernel_rfl) (by kernel_rfl) (by kernel_rfl) (by exact fun _ _ _ h => h) (Or.inl ⟨by rfl, ?_⟩) h0 ?_
  rotate_left
  · intro W hW
    go_simp
    all_goals with_reducible rfl
  try simp only [Act.put, List.setIfInBounds_toArray, List.set_cons_zero, List.set_cons_succ]
  refine wpAnyH_take (i := 5) (v := ?_) (by rw [List.getElem?_toArray]; rfl) (by kernel_rfl) (by kernel_rfl) (by kernel_rfl) (by exact fun _ _ _ h => h) (Or.inl ⟨by rfl, ?_⟩) h0 ?_
  rotate_left
  · intro W hW
    go_simp
    all_goals with_reducible rfl
  try simp only [Act.put, List.setIfInBounds_toArray, List.set_cons_zero, List.set_cons_succ]
  refine wpAnyH_take (i := 6) (v := ?_) (by rw [List.getElem?_toArray]; rfl) (by kernel_rfl) (by kernel_rfl) (by kernel_rfl) (by exact fun _ _ _ h => h) (Or.inl ⟨by rfl, ?_⟩) h0 ?_
  rotate_left
  · intro W hW
    go_simp
    all_goals with_reducible rfl
  try simp only [Act.put, List.setIfInBounds_toArray, List.set_cons_zero, List.set_cons_succ]
  refine wpAnyH_take (i := 7) (v := ?_) (by rw [List.getElem?_toArray]; rfl) (by kernel_rfl) (by kernel_rfl) (by kernel_rfl) (by exact fun _ _ _ h => h) (Or.inl ⟨by rfl, ?_⟩) h0 ?_
  rotate_left
  · intro W hW
    have cc := (RK.out W hW.below).2
    go_simp
    all_goals with_reducible rfl
  try simp only [Act.put, List.setIfInBounds_toArray, List.set_cons_zero, List.set_cons_succ]
  refine wpAnyH_ready (rs := [8, 9]) (by kernel_rfl) (by simp) ?_
  refine AllReadyH.cons (by rw [List.getElem?_toArray]; rfl) (fun KX hKK => ?_) (AllReadyH.cons (by rw [List.getElem?_toArray]; rfl) (fun KX hKK => ?_) (AllReadyH.nil))
  · first | rw [if_pos (by rfl)] | skip
    have LF := Lib.hid (refLeaf_any (w := w1) OKX.out.k.len OKX.out.l OKX.out.k.by_ OKX.out.b)
    rw [HH.out] at LF
    go_wp2_with fail
    refine LF.out.mono ?_
    rintro e W1 ⟨rfl, b2⟩
    have LS1 := Lib.hid (LS0.out.on b2)
    clear b2 LF
    go_wp2_with fail
    refine hKK.out _ _ (LfS.of LS1.out.below) (fun h0 => ?_)
    clear hKK KX
    try simp only [Act.put, List.setIfInBounds_toArray, List.set_cons_zero, List.set_cons_succ]
    refine wpAnyH_ready (rs := [9]) (by kernel_rfl) (by simp) ?_
    refine AllReadyH.cons (by rw [List.getElem?_toArray]; rfl) (fun KX hKK => ?_) AllReadyH.nil
    first | rw [if_pos (by rfl)] | skip
    have LS2 := Lib.hid LS1.out.lay
    go_wp2_with fail
    refine hKK.out _ _ (LfS.of LS2.out.below) (fun h0 => ?_)
    clear hKK KX
    try simp only [Act.put, List.setIfInBounds_toArray, List.set_cons_zero, List.set_cons_succ]
    obtain ⟨hb, hhb⟩ : ∃ hb, W1.heap.size = hb := ⟨_, rfl⟩
    rw [hhb] at LS2 ⊢
    clear hhb
    generalize W1.alloc (.cells (hc zero32).toArray 24) = W2 at *
    refine wpAnyH_ready (rs := [10]) (by kernel_rfl) (by simp) ?_
    refine AllReadyH.cons (by rw [List.getElem?_toArray]; rfl) (fun KX hKK => ?_) AllReadyH.nil
    first | rw [if_pos (by rfl)] | skip
    obtain ⟨zb, lob, ltb⟩ := LS2.out.blk hb rfl
    have th := zb.there zero32_len
    have H9 := Lib.hid (zb.put zero32_len LH.out)
    have c9 : Chg W2 (W2.setCells hb 0 (hc h)) [hb] := (Chg.refl W2 [hb]).setCells (b := hb) (.inl (by simp)) (hc h) 0
    have h1 : Below w1.heap.size w1 (W2.setCells hb 0 (hc h)) := LS2.out.below.trans (c9.toBelow LS2.out.below.size (fun g hg => by rw [List.mem_singleton.1 hg]; exact lob))
    have HLO : Hid (w1.heap.size ≤ hb ∧ hb < (W2.setCells hb 0 (hc h)).heap.size) := ⟨lob, by have := c9.size; omega⟩
    go_wp2_with fail
    refine hKK.out _ _ (LfS.of h1) (fun h0 => ?_)
    clear hKK KX
    try simp only [Act.put, List.setIfInBounds_toArray, List.set_cons_zero, List.set_cons_succ]
    clear th c9 zb lob ltb
    have B9 := Lib.hid h1
    clear h1
    generalize W2.setCells hb 0 (hc h) = w9 at *
    refine wpAnyH_done (by kernel_rfl) ?_ _
    clear h0
    go_wp2_with fail
    have w10e := Lib.hid (Below.refl w9.heap.size w9)
    have B10 := Lib.hid B9.out.drew
    refine wp_region_held_drew (S := fun W => Below w1.heap.size w1 W) (by kernel_rfl) (B10.out) (fun h0 => ?_)
    have H10 := Lib.hid (H9.out.on (Below.refl _ _).drew)
    have NLT0 : Hid (hb < w9.drew.heap.size) := HLO.out.2
    generalize w9.drew = w10 at *
    have BW10 := Lib.hid (B0.out.trans (B10.out.mono B0.out.size))
    have NLT : Hid (w.heap.size < w10.heap.size) := by have := RZ.out.lt; have := B10.out.size; show _ < _; omega
    refine wpAnyH_take (i := 0) (v := ?_) (by rw [List.getElem?_toArray]; rfl) (by kernel_rfl) (by kernel_rfl) (by kernel_rfl) (by exact fun _ _ _ h => h) (Or.inl ⟨by rfl, ?_⟩) h0 ?_
    rotate_left
    · intro W hW
      go_simp
      all_goals with_reducible rfl
    try simp only [Act.put, List.setIfInBounds_toArray, List.set_cons_zero, List.set_cons_succ]
    refine wpAnyH_take (i := 1) (v := ?_) (by rw [List.getElem?_toArray]; rfl) (by kernel_rfl) (by kernel_rfl) (by kernel_rfl) (by exact fun _ _ _ h => h) (Or.inl ⟨by rfl, ?_⟩) h0 ?_
    rotate_left
    · intro W hW
      go_simp
      all_goals with_reducible rfl
    try simp only [Act.put, List.setIfInBounds_toArray, List.set_cons_zero, List.set_cons_succ]
    refine wpAnyH_take (i := 2) (v := ?_) (by rw [List.getElem?_toArray]; rfl) (by kernel_rfl) (by kernel_rfl) (by kernel_rfl) (by exact fun _ _ _ h => h) (Or.inl ⟨by rfl, ?_⟩) h0 ?_
    rotate_left
    · intro W hW
      go_simp
      all_goals with_reducible rfl
    try simp only [Act.put, List.setIfInBounds_toArray, List.set_cons_zero, List.set_cons_succ]
    refine wpAnyH_take (i := 3) (v := ?_) (by rw [List.getElem?_toArray]; rfl) (by kernel_rfl) (by kernel_rfl) (by kernel_rfl) (by exact fun _ _ _ h => h) (Or.inl ⟨by rfl, ?_⟩) h0 ?_
    rotate_left
    · intro W hW
      have cc := (RK.out W hW).1
      go_simp
      all_goals with_reducible rfl
    try simp only [Act.put, List.setIfInBounds_toArray, List.set_cons_zero, List.set_cons_succ]
    refine wpAnyH_take (i := 4) (v := ?_) (by rw [List.getElem?_toArray]; rfl) (by kernel_rfl) (by kernel_rfl) (by kernel_rfl) (by exact fun _ _ _ h => h) (Or.inl ⟨by rfl, ?_⟩) h0 ?_
    rotate_left
    · intro W hW
      go_simp
      all_goals with_reducible rfl
    try simp only [Act.put, List.setIfInBounds_toArray, List.set_cons_zero, List.set_cons_succ]
    refine wpAnyH_take (i := 5) (v := ?_) (by rw [List.getElem?_toArray]; rfl) (by kernel_rfl) (by kernel_rfl) (by kernel_rfl) (by exact fun _ _ _ h => h) (Or.inl ⟨by rfl, ?_⟩) h0 ?_
    rotate_left
    · intro W hW
      go_simp
      all_goals with_reducible rfl
    try simp only [Act.put, List.setIfInBounds_toArray, List.set_cons_zero, List.set_cons_succ]
    refine wpAnyH_take (i := 6) (v := ?_) (by rw [List.getElem?_toArray]; rfl) (by kernel_rfl) (by kernel_rfl) (by kernel_rfl) (by exact fun _ _ _ h => h) (Or.inl ⟨by rfl, ?_⟩) h0 ?_
    rotate_left
    · intro W hW
      go_simp
      all_goals with_reducible rfl
    try simp only [Act.put, List.setIfInBounds_toArray, List.set_cons_zero, List.set_cons_succ]
    refine wpAnyH_take (i := 7) (v := ?_) (by rw [List.getElem?_toArray]; rfl) (by kernel_rfl) (by kernel_rfl) (by kernel_rfl) (by exact fun _ _ _ h => h) (Or.inl ⟨by rfl, ?_⟩) h0 ?_
    rotate_left
    · intro W hW
      have cc := (RK.out W hW).2
      go_simp
      all_goals with_reducible rfl
    try simp only [Act.put, List.setIfInBounds_toArray, List.set_cons_zero, List.set_cons_succ]
    refine wpAnyH_ready (rs := [8]) (by kernel_rfl) (by simp) ?_
    refine AllReadyH.cons (by rw [List.getElem?_toArray]; rfl) (fun KX hKK => ?_) AllReadyH.nil
    first | rw [if_pos (by rfl)] | skip
    have LT := Lib.hid (LeafText_any (w := w10) OKX.out.k.len OKX.out.l)
    go_wp2_with fail
    refine LT.out.mono ?_
    rintro e w11 ⟨q1, n1, c1, rfl, f11⟩
    have F11 := Lib.hid f11
    have B11 := Lib.hid (B10.out.trans (f11.below.mono B10.out.size))
    clear f11 LT
    go_wp2_with fail
    refine hKK.out _ _ (B11.out) (fun h0 => ?_)
    clear hKK KX
    try simp only [Act.put, List.setIfInBounds_toArray, List.set_cons_zero, List.set_cons_succ]
    refine wpAnyH_ready (rs := [9]) (by kernel_rfl) (by simp) ?_
    refine AllReadyH.cons (by rw [List.getElem?_toArray]; rfl) (fun KX hKK => ?_) AllReadyH.nil
    first | rw [if_pos (by rfl)] | skip
    have TX := Lib.hid (TxS.lit (N := w10.heap.size) (w := w) F11.out BW10.out (Nat.le_refl _))
    have B12 := Lib.hid (B11.out.alloc B11.out.size (.cells #[.slice q1 n1 c1] 82))
    have H12 := Lib.hid ((H10.out.on F11.out.below).alloc (.cells #[.slice q1 n1 c1] 82))
    go_wp2_with fail
    refine hKK.out _ _ (B12.out) (fun h0 => ?_)
    clear hKK KX
    try simp only [Act.put, List.setIfInBounds_toArray, List.set_cons_zero, List.set_cons_succ]
    refine wpAnyH_take (i := 10) (v := ?_) (by rw [List.getElem?_toArray]; rfl) (by kernel_rfl) (by kernel_rfl) (by kernel_rfl) (by exact fun _ _ _ h => h) (Or.inl ⟨by rfl, ?_⟩) h0 ?_
    rotate_left
    · intro W hW
      go_simp
      all_goals with_reducible rfl
    try simp only [Act.put, List.setIfInBounds_toArray, List.set_cons_zero, List.set_cons_succ]
    refine wpAnyH_done (by kernel_rfl) ?_ _
    clear h0
    have R12 := Lib.hid (RZ.out.on (show Below w1.heap.size w1 (w11.alloc (.cells #[.slice q1 n1 c1] 82)) from B12.out))
    have NS12 : Hid (w10.heap.size ≤ (w11.alloc (.cells #[.slice q1 n1 c1] 82)).heap.size) := by have := F11.out.below.size; show _ ≤ _; simp; omega
    have HBW : Hid (w.heap.size ≤ hb) := by have := RZ0.out; have := HLO.out.1; show _ ≤ _; omega
    have HBW2 : Hid (w.heap.size < hb) := by have := RZ0.out; have := HLO.out.1; show _ < _; omega
    have HBN := NLT0
    generalize w11.alloc (.cells #[.slice q1 n1 c1] 82) = w12 at *
    go_wp2_with fail
    go_loopw [12, 13] (fun ov iv wr => ∃ (k : Nat) (q : Option Addr) (n c : Nat) (Ls : List (List Int)) (h : List Int), iv = .int .i64 (255 - (k : Int)) ∧ k ≤ 256 - d ∧ ov = .slice q n c ∧ Hid (n = Ls.length ∧ Ls.length = k + 1 ∧ TtOk Ls ∧ h.length = 32 ∧ Bytes h) ∧ Hid (TxS w10.heap.size w wr (.slice q n c) Ls) ∧ Hid (HashAt wr hb h) ∧ Hid (HashAt wr w.heap.size zero32) ∧ Hid (w10.heap.size ≤ wr.heap.size)) (fun _ iv _ => (intOf iv + 1 - (d : Int)).toNat)
    case atStart => exact ⟨0, _, _, _, _, h, rfl, by omega, rfl, ⟨rfl, rfl, TtOk.one (leaf_len OKX.out.k.len OKX.out.l) (leaf_bytes OKX.out.k.by_ OKX.out.b), LH.out, BH.out⟩, TX, H12, R12, NS12⟩
    case round =>
      clear TX H12 R12 LH BH NS12
      obtain ⟨k, q, n, c, Ls, h, rfl, hk, rfl, HN, TX, HB1, RZ1, NSZ⟩ := hrel
      obtain rfl : n = Ls.length := HN.out.1
      by_cases hlt : k < 256 - d
      · obtain ⟨i, hie⟩ : ∃ i : Nat, 255 - (k : Int) = i := ⟨255 - k, by omega⟩
        have hi2 : i < 256 := by omega
        have hdi : (d : Int) ≤ (i : Int) := by omega
        rw [hie]
        have lH := HN.out.2.2.2.1
        have hlH := hc_len h
        have rH := HB1.out.row lH
        have th1 := (HashAt.new wr zero32).there zero32_len
        have lH0 := lH
        have hi0 := Lib.hid hie
        clear hie
        go_upto_region 14 with fail
        clear th1 rH
        have HA0 := (HashAt.new wr zero32).put zero32_len lH
        have bA : Below wr.heap.size wr ((wr.alloc (.cells (hc zero32).toArray 24)).setCells wr.heap.size 0 (hc h)) := below_setCells' wr.heap.size (Nat.le_refl _) (hc h) 0 ((Below.refl _ _).alloc (Nat.le_refl _) (.cells (hc zero32).toArray 24))
        obtain ⟨ab, hab⟩ : ∃ ab, wr.heap.size = ab := ⟨_, rfl⟩
        have ABL : Hid (wr.heap.size ≤ ab) := by show _ ≤ _; omega
        rw [hab] at HA0
        rw (occs := .pos [2]) [hab] at bA
        rw [hab]
        have HAE := Lib.hid hab
        clear hab
        generalize (wr.alloc (.cells (hc zero32).toArray 24)).setCells ab 0 (hc h) = wa at *
        have th2 := (HashAt.new wa zero32).there zero32_len
        go_upto_region 15 with fail
        clear th2
        have HB0 := (HashAt.new wa zero32).put zero32_len zero32_len
        have bB : Below wa.heap.size wa ((wa.alloc (.cells (hc zero32).toArray 24)).setCells wa.heap.size 0 (hc zero32)) := below_setCells' wa.heap.size (Nat.le_refl _) (hc zero32) 0 ((Below.refl _ _).alloc (Nat.le_refl _) (.cells (hc zero32).toArray 24))
        have HA1b := HA0.on bB
        have ALT := HA0.lt
        obtain ⟨bb, hbb⟩ : ∃ bb, wa.heap.size = bb := ⟨_, rfl⟩
        have ABB : Hid (ab < bb) := by show _ < _; omega
        have BBL : Hid (wr.heap.size ≤ bb) := by have := bA.size; show _ ≤ _; omega
        have bAB := bA.trans (bB.mono bA.size)
        rw [hbb] at HB0 HA1b bAB ⊢
        clear hbb bA bB HA0 ALT
        generalize (wa.alloc (.cells (hc zero32).toArray 24)).setCells bb 0 (hc zero32) = wb at *
        have RKb := (RK2.out wb (TX.out.below.trans (bAB.mono TX.out.below.size))).1
        have RB := Lib.hid (rbit_any (w := wb) (i := i) OKX.out.k.len OKX.out.k.by_ hi2)
        rcases bit01 x.1 i with hbt | hbt
        · rw [hbt] at RB
          clear hbt
          go_wp2_with fail
          refine RB.out.mono ?_
          rintro e w15 ⟨rfl, b15⟩
          have bW := bAB.trans (b15.mono bAB.size)
          have HA2 := Lib.hid (HA1b.on b15)
          have HB2 := Lib.hid (HB0.on b15)
          have TX2 := Lib.hid (TX.out.on bW)
          have HH2 := Lib.hid (HB1.out.on bW)
          have RZ2 := Lib.hid (RZ1.out.on bW)
          have SZ2 : Hid (wr.heap.size ≤ w15.heap.size) := bW.size
          clear b15 bW bAB HA1b HB0 TX HB1 RZ1 RB RKb
          go_upto_region 17 with fail
          have hla := hc_len h
          have hlb := hc_len zero32
          have rA := HA2.out.row lH0
          have rB := HB2.out.row z32
          have AT := Lib.hid (AboveText_any (w := w15) (A := h) (B := zero32) lH0 z32)
          go_wp2_with fail
          clear rA rB
          refine AT.out.mono ?_
          rintro e w20 ⟨q20, n20, c20, rfl, f20⟩
          have F20 := Lib.hid f20
          have b20 : Below w15.heap.size w15 (w20.alloc (.cells #[.slice q20 n20 c20] 82)) := f20.below.trans ((Below.refl w20.heap.size w20).alloc (Nat.le_refl _) _ |>.mono f20.below.size)
          obtain ⟨dn, od⟩ := TX2.out
          have OW : Hid ((w20.alloc (.cells #[.slice q20 n20 c20] 82)).ownsRow 0 82 1 (.slice q Ls.length c) Ls.length dn) := (od.on PBs_ok b20).own
          have HA3 := Lib.hid (HA2.out.on b20)
          have HB3 := Lib.hid (HB2.out.on b20)
          have HH3 := Lib.hid (HH2.out.on b20)
          have RZ3 := Lib.hid (RZ2.out.on b20)
          have SR := Lib.hid (one_src (q := q20) (n := n20) (c := c20) w20)
          have nle : Ls.length ≤ 300 := by have := HN.out.2.1; omega
          go_wp2_with (at_builtin; refine wpList_append_row rfl _ _ rfl Tryd.underlying61 hi.out hz0.out hz1.out hz2.out rfl OW.out SR.out ?b1 ?b2 ?_)
          case b1 => unfold maxLen; omega
          case b2 => omega
          intro q21 k21 w21 own21 grow21 fr21
          have c21 : Chg (w20.alloc (.cells #[.slice q20 n20 c20] 82)) w21 (Value.slice q Ls.length c).ownBlock.toList := Chg.grown grow21 (fun g hg => by simp [hg])
          have nE : ∀ (bk : Nat) (G : List Int), HashAt (w20.alloc (.cells #[.slice q20 n20 c20] 82)) bk G → bk ∉ (Value.slice q Ls.length c).ownBlock.toList := fun bk G hG hm => own_ne OW.out hG (by decide) (by simpa using hm)
          have HA4 := Lib.hid (HA3.out.chg' c21 (nE _ _ HA3.out))
          have HB4 := Lib.hid (HB3.out.chg' c21 (nE _ _ HB3.out))
          have HH4 := Lib.hid (HH3.out.chg' c21 (nE _ _ HH3.out))
          have RZ4 := Lib.hid (RZ3.out.chg' c21 (nE _ _ RZ3.out))
          have TX4 : Hid (TxS w10.heap.size w w21 (.slice q21 (Ls.length + 1) k21) (Ls ++ [frm (sn pairS) [h, zero32]])) := by
            exact TxS.more od (by have := NSZ.out; have := SZ2.out; omega) F20.out own21 grow21 (by first | exact fr21 | simpa using fr21)
          have NS4 : Hid (w10.heap.size ≤ w21.heap.size) := by have := NSZ.out; have := SZ2.out; have := b20.size; have := c21.size; show _ ≤ _; omega
          have TK := Lib.hid (HN.out.2.2.1.app (TtOk.one (pair_len lH0 z32) (pair_bytes HN.out.2.2.2.2 zero32_bytes)))
          clear own21 grow21 fr21 c21 nE HA3 HB3 HH3 RZ3 OW SR od F20 b20 AT HA2 HB2 HH2 RZ2 TX2
          go_upto_region 18 with fail
          have rA := HA4.out.row lH0
          have rB := HB4.out.row z32
          have AB := Lib.hid (refAbove_any (w := w21) (A := h) (B := zero32) lH0 z32 HN.out.2.2.2.2 zero32_bytes)
          have lX := abH_len h zero32
          have bX := Lib.hid (abH_bytes h zero32)
          obtain ⟨X, hX⟩ : ∃ X, abH h zero32 = X := ⟨_, rfl⟩
          rw [hX] at AB lX bX
          clear hX
          go_wp2_with fail
          refine AB.out.mono ?_
          rintro e w22 ⟨rfl, b22⟩
          have HH5 := HH4.out.on b22
          have th := HH5.there lH0
          have hlX := hc_len X
          have H23 := Lib.hid (HH5.put lH0 lX)
          have c23 : Chg w22 (w22.setCells hb 0 (hc X)) [hb] := (Chg.refl w22 [hb]).setCells (b := hb) (.inl (by simp)) (hc X) 0
          have TX23 := Lib.hid ((TX4.out.on b22).hash HH5 c23 HBN.out HBW.out)
          have RZ23 := Lib.hid ((RZ4.out.on b22).chg' c23 (by have := HBW2.out; simp; omega))
          have NS5 : Hid (w10.heap.size ≤ (w22.setCells hb 0 (hc X)).heap.size) := by have := NS4.out; have := b22.size; have := c23.size; show _ ≤ _; omega
          clear b22 c23 AB rA rB HH5
          go_wp2_with fail
          go_roundw
          case rel => exact ⟨k + 1, _, _, _, _, X, by have := hi0.out; rw [← this]; go_num, by omega, rfl, ⟨by rw [List.length_append]; rfl, by rw [List.length_append, HN.out.2.1]; rfl, TK.out, lX, bX.out⟩, TX23, H23, RZ23, NS5⟩
          case measure => simp [intOf]; omega
        · rw [hbt] at RB
          clear hbt
          go_wp2_with fail
          refine RB.out.mono ?_
          rintro e w15 ⟨rfl, b15⟩
          have BW15 := Lib.hid (bAB.trans (b15.mono bAB.size))
          have HA1 := Lib.hid (HA1b.on b15)
          have HBz := Lib.hid (HB0.on b15)
          clear b15 bAB HA1b HB0 RB RKb
          have rA := HA1.out.row lH
          have rB := HBz.out.row z32
          have tA := HA1.out.there lH
          have nAB : ab ≠ bb := fun e => by have := ABB.out; omega
          have tB := (HBz.out.others (fun e => nAB e.symm) 0 (hc zero32)).there z32
          go_upto_region 17 with fail
          clear rA rB tA tB
          have cS : Chg w15 ((w15.setCells ab 0 (hc zero32)).setCells bb 0 (hc h)) [ab, bb] := ((Chg.refl w15 [ab, bb]).setCells (b := ab) (.inl (by simp)) (hc zero32) 0).setCells (b := bb) (.inl (by simp)) (hc h) 0
          have bS : Below wr.heap.size wr ((w15.setCells ab 0 (hc zero32)).setCells bb 0 (hc h)) := below_setCells' bb BBL.out (hc h) 0 (below_setCells' ab ABL.out (hc zero32) 0 BW15.out)
          have HA2 := Lib.hid ((HA1.out.put lH z32).others nAB 0 (hc h))
          have HB2 := Lib.hid ((HBz.out.others (fun e => nAB e.symm) 0 (hc zero32)).put z32 lH)
          have TX2 := Lib.hid (TX.out.on bS)
          have HH2 := Lib.hid (HB1.out.on bS)
          have RZ2 := Lib.hid (RZ1.out.on bS)
          have SZ2 : Hid (wr.heap.size ≤ ((w15.setCells ab 0 (hc zero32)).setCells bb 0 (hc h)).heap.size) := bS.size
          clear cS bS HA1 HBz nAB TX HB1 RZ1
          generalize (w15.setCells ab 0 (hc zero32)).setCells bb 0 (hc h) = w16 at *
          have hla := hc_len zero32
          have hlb := hc_len h
          have rA := HA2.out.row z32
          have rB := HB2.out.row lH0
          have AT := Lib.hid (AboveText_any (w := w16) (A := zero32) (B := h) z32 lH0)
          go_wp2_with fail
          clear rA rB
          refine AT.out.mono ?_
          rintro e w20 ⟨q20, n20, c20, rfl, f20⟩
          have F20 := Lib.hid f20
          have b20 : Below w16.heap.size w16 (w20.alloc (.cells #[.slice q20 n20 c20] 82)) := f20.below.trans ((Below.refl w20.heap.size w20).alloc (Nat.le_refl _) _ |>.mono f20.below.size)
          obtain ⟨dn, od⟩ := TX2.out
          have OW : Hid ((w20.alloc (.cells #[.slice q20 n20 c20] 82)).ownsRow 0 82 1 (.slice q Ls.length c) Ls.length dn) := (od.on PBs_ok b20).own
          have HA3 := Lib.hid (HA2.out.on b20)
          have HB3 := Lib.hid (HB2.out.on b20)
          have HH3 := Lib.hid (HH2.out.on b20)
          have RZ3 := Lib.hid (RZ2.out.on b20)
          have SR := Lib.hid (one_src (q := q20) (n := n20) (c := c20) w20)
          have nle : Ls.length ≤ 300 := by have := HN.out.2.1; omega
          go_wp2_with (at_builtin; refine wpList_append_row rfl _ _ rfl Tryd.underlying61 hi.out hz0.out hz1.out hz2.out rfl OW.out SR.out ?b1 ?b2 ?_)
          case b1 => unfold maxLen; omega
          case b2 => omega
          intro q21 k21 w21 own21 grow21 fr21
          have c21 : Chg (w20.alloc (.cells #[.slice q20 n20 c20] 82)) w21 (Value.slice q Ls.length c).ownBlock.toList := Chg.grown grow21 (fun g hg => by simp [hg])
          have nE : ∀ (bk : Nat) (G : List Int), HashAt (w20.alloc (.cells #[.slice q20 n20 c20] 82)) bk G → bk ∉ (Value.slice q Ls.length c).ownBlock.toList := fun bk G hG hm => own_ne OW.out hG (by decide) (by simpa using hm)
          have HA4 := Lib.hid (HA3.out.chg' c21 (nE _ _ HA3.out))
          have HB4 := Lib.hid (HB3.out.chg' c21 (nE _ _ HB3.out))
          have HH4 := Lib.hid (HH3.out.chg' c21 (nE _ _ HH3.out))
          have RZ4 := Lib.hid (RZ3.out.chg' c21 (nE _ _ RZ3.out))
          have TX4 : Hid (TxS w10.heap.size w w21 (.slice q21 (Ls.length + 1) k21) (Ls ++ [frm (sn pairS) [zero32, h]])) := by
            exact TxS.more od (by have := NSZ.out; have := SZ2.out; omega) F20.out own21 grow21 (by first | exact fr21 | simpa using fr21)
          have NS4 : Hid (w10.heap.size ≤ w21.heap.size) := by have := NSZ.out; have := SZ2.out; have := b20.size; have := c21.size; show _ ≤ _; omega
          have TK := Lib.hid (HN.out.2.2.1.app (TtOk.one (pair_len z32 lH0) (pair_bytes zero32_bytes HN.out.2.2.2.2)))
          clear own21 grow21 fr21 c21 nE HA3 HB3 HH3 RZ3 OW SR od F20 b20 AT HA2 HB2 HH2 RZ2 TX2
          go_upto_region 18 with fail
          have rA := HA4.out.row z32
          have rB := HB4.out.row lH0
          have AB := Lib.hid (refAbove_any (w := w21) (A := zero32) (B := h) z32 lH0 zero32_bytes HN.out.2.2.2.2)
          have lX := abH_len zero32 h
          have bX := Lib.hid (abH_bytes zero32 h)
          obtain ⟨X, hX⟩ : ∃ X, abH zero32 h = X := ⟨_, rfl⟩
          rw [hX] at AB lX bX
          clear hX
          go_wp2_with fail
          refine AB.out.mono ?_
          rintro e w22 ⟨rfl, b22⟩
          have HH5 := HH4.out.on b22
          have th := HH5.there lH0
          have hlX := hc_len X
          have H23 := Lib.hid (HH5.put lH0 lX)
          have c23 : Chg w22 (w22.setCells hb 0 (hc X)) [hb] := (Chg.refl w22 [hb]).setCells (b := hb) (.inl (by simp)) (hc X) 0
          have TX23 := Lib.hid ((TX4.out.on b22).hash HH5 c23 HBN.out HBW.out)
          have RZ23 := Lib.hid ((RZ4.out.on b22).chg' c23 (by have := HBW2.out; simp; omega))
          have NS5 : Hid (w10.heap.size ≤ (w22.setCells hb 0 (hc X)).heap.size) := by have := NS4.out; have := b22.size; have := c23.size; show _ ≤ _; omega
          clear b22 c23 AB rA rB HH5
          go_wp2_with fail
          go_roundw
          case rel => exact ⟨k + 1, _, _, _, _, X, by have := hi0.out; rw [← this]; go_num, by omega, rfl, ⟨by rw [List.length_append]; rfl, by rw [List.length_append, HN.out.2.1]; rfl, TK.out, lX, bX.out⟩, TX23, H23, RZ23, NS5⟩
          case measure => simp [intOf]; omega
      · have hdi : ¬ (d : Int) ≤ 255 - (k : Int) := by omega
        have hk2 : k = 256 - d := by omega
        have rH := HB1.out.row HN.out.2.2.2.1
        have th := RZ1.out.there zero32_len
        have lH := HN.out.2.2.2.1
        have hlH := hc_len h
        have hput := (RZ1.out.put zero32_len lH).row lH
        have c9 : Chg wr (wr.setCells w.heap.size 0 (hc h)) [w.heap.size] := (Chg.refl wr [w.heap.size]).setCells (b := w.heap.size) (.inl (by simp)) (hc h) 0
        have TX9 := Lib.hid ((TX.out.hash RZ1.out c9 NLT.out (Nat.le_refl _)).base (Below.refl _ _) (Nat.le_of_lt NLT.out))
        clear c9
        go_wp2_with fail
        refine bodyPost_ret (v := .tuple #[.agg (hc h).toArray, .slice q Ls.length c]) (by simp [results, Tryd.results66, go_sem, hput, lH]) rfl ?_
        obtain ⟨e1, e2, e3, e4, e5⟩ := HN.out
        refine ⟨h, q, c, Ls, rfl, e4, e5, TX9.out, ?_, e3⟩
        simp; omega
  · first | rw [if_pos (by rfl)] | skip
    have LS1 := Lib.hid LS0.out.lay
    go_wp2_with fail
    refine hKK.out _ _ (LfS.of LS1.out.below) (fun h0 => ?_)
    clear hKK KX
    try simp only [Act.put, List.setIfInBounds_toArray, List.set_cons_zero, List.set_cons_succ]
    obtain ⟨hb, hhb⟩ : ∃ hb, w1.heap.size = hb := ⟨_, rfl⟩
    rw [hhb] at LS1 ⊢
    clear hhb
    generalize w1.alloc (.cells (hc zero32).toArray 24) = W1 at *
    refine wpAnyH_ready (rs := [8]) (by kernel_rfl) (by simp) ?_
    refine AllReadyH.cons (by rw [List.getElem?_toArray]; rfl) (fun KX hKK => ?_) AllReadyH.nil
    first | rw [if_pos (by rfl)] | skip
    have LF := Lib.hid (refLeaf_any (w := W1) OKX.out.k.len OKX.out.l OKX.out.k.by_ OKX.out.b)
    rw [HH.out] at LF
    go_wp2_with fail
    refine LF.out.mono ?_
    rintro e W2 ⟨rfl, b2⟩
    have LS2 := Lib.hid (LS1.out.on b2)
    clear b2 LF
    go_wp2_with fail
    refine hKK.out _ _ (LfS.of LS2.out.below) (fun h0 => ?_)
    clear hKK KX
    try simp only [Act.put, List.setIfInBounds_toArray, List.set_cons_zero, List.set_cons_succ]
    refine wpAnyH_ready (rs := [10]) (by kernel_rfl) (by simp) ?_
    refine AllReadyH.cons (by rw [List.getElem?_toArray]; rfl) (fun KX hKK => ?_) AllReadyH.nil
    first | rw [if_pos (by rfl)] | skip
    obtain ⟨zb, lob, ltb⟩ := LS2.out.blk hb rfl
    have th := zb.there zero32_len
    have H9 := Lib.hid (zb.put zero32_len LH.out)
    have c9 : Chg W2 (W2.setCells hb 0 (hc h)) [hb] := (Chg.refl W2 [hb]).setCells (b := hb) (.inl (by simp)) (hc h) 0
    have h1 : Below w1.heap.size w1 (W2.setCells hb 0 (hc h)) := LS2.out.below.trans (c9.toBelow LS2.out.below.size (fun g hg => by rw [List.mem_singleton.1 hg]; exact lob))
    have HLO : Hid (w1.heap.size ≤ hb ∧ hb < (W2.setCells hb 0 (hc h)).heap.size) := ⟨lob, by have := c9.size; omega⟩
    go_wp2_with fail
    refine hKK.out _ _ (LfS.of h1) (fun h0 => ?_)
    clear hKK KX
    try simp only [Act.put, List.setIfInBounds_toArray, List.set_cons_zero, List.set_cons_succ]
    clear th c9 zb lob ltb
    have B9 := Lib.hid h1
    clear h1
    generalize W2.setCells hb 0 (hc h) = w9 at *
    refine wpAnyH_done (by kernel_rfl) ?_ _
    clear h0
    go_wp2_with fail
    have w10e := Lib.hid (Below.refl w9.heap.size w9)
    have B10 := Lib.hid B9.out.drew
    refine wp_region_held_drew (S := fun W => Below w1.heap.size w1 W) (by kernel_rfl) (B10.out) (fun h0 => ?_)
    have H10 := Lib.hid (H9.out.on (Below.refl _ _).drew)
    have NLT0 : Hid (hb < w9.drew.heap.size) := HLO.out.2
    generalize w9.drew = w10 at *
    have BW10 := Lib.hid (B0.out.trans (B10.out.mono B0.out.size))
    have NLT : Hid (w.heap.size < w10.heap.size) := by have := RZ.out.lt; have := B10.out.size; show _ < _; omega
    refine wpAnyH_take (i := 0) (v := ?_) (by rw [List.getElem?_toArray]; rfl) (by kernel_rfl) (by kernel_rfl) (by kernel_rfl) (by exact fun _ _ _ h => h) (Or.inl ⟨by rfl, ?_⟩) h0 ?_
    rotate_left
    · intro W hW
      go_simp
      all_goals with_reducible rfl
    try simp only [Act.put, List.setIfInBounds_toArray, List.set_cons_zero, List.set_cons_succ]
    refine wpAnyH_take (i := 1) (v := ?_) (by rw [List.getElem?_toArray]; rfl) (by kernel_rfl) (by kernel_rfl) (by kernel_rfl) (by exact fun _ _ _ h => h) (Or.inl ⟨by rfl, ?_⟩) h0 ?_
    rotate_left
    · intro W hW
      go_simp
      all_goals with_reducible rfl
    try simp only [Act.put, List.setIfInBounds_toArray, List.set_cons_zero, List.set_cons_succ]
    refine wpAnyH_take (i := 2) (v := ?_) (by rw [List.getElem?_toArray]; rfl) (by kernel_rfl) (by kernel_rfl) (by kernel_rfl) (by exact fun _ _ _ h => h) (Or.inl ⟨by rfl, ?_⟩) h0 ?_
    rotate_left
    · intro W hW
      go_simp
      all_goals with_reducible rfl
    try simp only [Act.put, List.setIfInBounds_toArray, List.set_cons_zero, List.set_cons_succ]
    refine wpAnyH_take (i := 3) (v := ?_) (by rw [List.getElem?_toArray]; rfl) (by kernel_rfl) (by kernel_rfl) (by kernel_rfl) (by exact fun _ _ _ h => h) (Or.inl ⟨by rfl, ?_⟩) h0 ?_
    rotate_left
    · intro W hW
      have cc := (RK.out W hW).1
      go_simp
      all_goals with_reducible rfl
    try simp only [Act.put, List.setIfInBounds_toArray, List.set_cons_zero, List.set_cons_succ]
    refine wpAnyH_take (i := 4) (v := ?_) (by rw [List.getElem?_toArray]; rfl) (by kernel_rfl) (by kernel_rfl) (by kernel_rfl) (by exact fun _ _ _ h => h) (Or.inl ⟨by rfl, ?_⟩) h0 ?_
    rotate_left
    · intro W hW
      go_simp
      all_goals with_reducible rfl
    try simp only [Act.put, List.setIfInBounds_toArray, List.set_cons_zero, List.set_cons_succ]
    refine wpAnyH_take (i := 5) (v := ?_) (by rw [List.getElem?_toArray]; rfl) (by kernel_rfl) (by kernel_rfl) (by kernel_rfl) (by exact fun _ _ _ h => h) (Or.inl ⟨by rfl, ?_⟩) h0 ?_
    rotate_left
    · intro W hW
      go_simp
      all_goals with_reducible rfl
    try simp only [Act.put, List.setIfInBounds_toArray, List.set_cons_zero, List.set_cons_succ]
    refine wpAnyH_take (i := 6) (v := ?_) (by rw [List.getElem?_toArray]; rfl) (by kernel_rfl) (by kernel_rfl) (by kernel_rfl) (by exact fun _ _ _ h => h) (Or.inl ⟨by rfl, ?_⟩) h0 ?_
    rotate_left
    · intro W hW
      go_simp
      all_goals with_reducible rfl
    try simp only [Act.put, List.setIfInBounds_toArray, List.set_cons_zero, List.set_cons_succ]
    refine wpAnyH_take (i := 7) (v := ?_) (by rw [List.getElem?_toArray]; rfl) (by kernel_rfl) (by kernel_rfl) (by kernel_rfl) (by exact fun _ _ _ h => h) (Or.inl ⟨by rfl, ?_⟩) h0 ?_
    rotate_left
    · intro W hW
      have cc := (RK.out W hW).2
      go_simp
      all_goals with_reducible rfl
    try simp only [Act.put, List.setIfInBounds_toArray, List.set_cons_zero, List.set_cons_succ]
    refine wpAnyH_ready (rs := [8]) (by kernel_rfl) (by simp) ?_
    refine AllReadyH.cons (by rw [List.getElem?_toArray]; rfl) (fun KX hKK => ?_) AllReadyH.nil
    first | rw [if_pos (by rfl)] | skip
    have LT := Lib.hid (LeafText_any (w := w10) OKX.out.k.len OKX.out.l)
    go_wp2_with fail
    refine LT.out.mono ?_
    rintro e w11 ⟨q1, n1, c1, rfl, f11⟩
    have F11 := Lib.hid f11
    have B11 := Lib.hid (B10.out.trans (f11.below.mono B10.out.size))
    clear f11 LT
    go_wp2_with fail
    refine hKK.out _ _ (B11.out) (fun h0 => ?_)
    clear hKK KX
    try simp only [Act.put, List.setIfInBounds_toArray, List.set_cons_zero, List.set_cons_succ]
    refine wpAnyH_ready (rs := [9]) (by kernel_rfl) (by simp) ?_
    refine AllReadyH.cons (by rw [List.getElem?_toArray]; rfl) (fun KX hKK => ?_) AllReadyH.nil
    first | rw [if_pos (by rfl)] | skip
    have TX := Lib.hid (TxS.lit (N := w10.heap.size) (w := w) F11.out BW10.out (Nat.le_refl _))
    have B12 := Lib.hid (B11.out.alloc B11.out.size (.cells #[.slice q1 n1 c1] 82))
    have H12 := Lib.hid ((H10.out.on F11.out.below).alloc (.cells #[.slice q1 n1 c1] 82))
    go_wp2_with fail
    refine hKK.out _ _ (B12.out) (fun h0 => ?_)
    clear hKK KX
    try simp only [Act.put, List.setIfInBounds_toArray, List.set_cons_zero, List.set_cons_succ]
    refine wpAnyH_take (i := 10) (v := ?_) (by rw [List.getElem?_toArray]; rfl) (by kernel_rfl) (by kernel_rfl) (by kernel_rfl) (by exact fun _ _ _ h => h) (Or.inl ⟨by rfl, ?_⟩) h0 ?_
    rotate_left
    · intro W hW
      go_simp
      all_goals with_reducible rfl
    try simp only [Act.put, List.setIfInBounds_toArray, List.set_cons_zero, List.set_cons_succ]
    refine wpAnyH_done (by kernel_rfl) ?_ _
    clear h0
    have R12 := Lib.hid (RZ.out.on (show Below w1.heap.size w1 (w11.alloc (.cells #[.slice q1 n1 c1] 82)) from B12.out))
    have NS12 : Hid (w10.heap.size ≤ (w11.alloc (.cells #[.slice q1 n1 c1] 82)).heap.size) := by have := F11.out.below.size; show _ ≤ _; simp; omega
    have HBW : Hid (w.heap.size ≤ hb) := by have := RZ0.out; have := HLO.out.1; show _ ≤ _; omega
    have HBW2 : Hid (w.heap.size < hb) := by have := RZ0.out; have := HLO.out.1; show _ < _; omega
    have HBN := NLT0
    generalize w11.alloc (.cells #[.slice q1 n1 c1] 82) = w12 at *
    go_wp2_with fail
    go_loopw [12, 13] (fun ov iv wr => ∃ (k : Nat) (q : Option Addr) (n c : Nat) (Ls : List (List Int)) (h : List Int), iv = .int .i64 (255 - (k : Int)) ∧ k ≤ 256 - d ∧ ov = .slice q n c ∧ Hid (n = Ls.length ∧ Ls.length = k + 1 ∧ TtOk Ls ∧ h.length = 32 ∧ Bytes h) ∧ Hid (TxS w10.heap.size w wr (.slice q n c) Ls) ∧ Hid (HashAt wr hb h) ∧ Hid (HashAt wr w.heap.size zero32) ∧ Hid (w10.heap.size ≤ wr.heap.size)) (fun _ iv _ => (intOf iv + 1 - (d : Int)).toNat)
    case atStart => exact ⟨0, _, _, _, _, h, rfl, by omega, rfl, ⟨rfl, rfl, TtOk.one (leaf_len OKX.out.k.len OKX.out.l) (leaf_bytes OKX.out.k.by_ OKX.out.b), LH.out, BH.out⟩, TX, H12, R12, NS12⟩
    case round =>
      clear TX H12 R12 LH BH NS12
      obtain ⟨k, q, n, c, Ls, h, rfl, hk, rfl, HN, TX, HB1, RZ1, NSZ⟩ := hrel
      obtain rfl : n = Ls.length := HN.out.1
      by_cases hlt : k < 256 - d
      · obtain ⟨i, hie⟩ : ∃ i : Nat, 255 - (k : Int) = i := ⟨255 - k, by omega⟩
        have hi2 : i < 256 := by omega
        have hdi : (d : Int) ≤ (i : Int) := by omega
        rw [hie]
        have lH := HN.out.2.2.2.1
        have hlH := hc_len h
        have rH := HB1.out.row lH
        have th1 := (HashAt.new wr zero32).there zero32_len
        have lH0 := lH
        have hi0 := Lib.hid hie
        clear hie
        go_upto_region 14 with fail
        clear th1 rH
        have HA0 := (HashAt.new wr zero32).put zero32_len lH
        have bA : Below wr.heap.size wr ((wr.alloc (.cells (hc zero32).toArray 24)).setCells wr.heap.size 0 (hc h)) := below_setCells' wr.heap.size (Nat.le_refl _) (hc h) 0 ((Below.refl _ _).alloc (Nat.le_refl _) (.cells (hc zero32).toArray 24))
        obtain ⟨ab, hab⟩ : ∃ ab, wr.heap.size = ab := ⟨_, rfl⟩
        have ABL : Hid (wr.heap.size ≤ ab) := by show _ ≤ _; omega
        rw [hab] at HA0
        rw (occs := .pos [2]) [hab] at bA
        rw [hab]
        have HAE := Lib.hid hab
        clear hab
        generalize (wr.alloc (.cells (hc zero32).toArray 24)).setCells ab 0 (hc h) = wa at *
        have th2 := (HashAt.new wa zero32).there zero32_len
        go_upto_region 15 with fail
        clear th2
        have HB0 := (HashAt.new wa zero32).put zero32_len zero32_len
        have bB : Below wa.heap.size wa ((wa.alloc (.cells (hc zero32).toArray 24)).setCells wa.heap.size 0 (hc zero32)) := below_setCells' wa.heap.size (Nat.le_refl _) (hc zero32) 0 ((Below.refl _ _).alloc (Nat.le_refl _) (.cells (hc zero32).toArray 24))
        have HA1b := HA0.on bB
        have ALT := HA0.lt
        obtain ⟨bb, hbb⟩ : ∃ bb, wa.heap.size = bb := ⟨_, rfl⟩
        have ABB : Hid (ab < bb) := by show _ < _; omega
        have BBL : Hid (wr.heap.size ≤ bb) := by have := bA.size; show _ ≤ _; omega
        have bAB := bA.trans (bB.mono bA.size)
        rw [hbb] at HB0 HA1b bAB ⊢
        clear hbb bA bB HA0 ALT
        generalize (wa.alloc (.cells (hc zero32).toArray 24)).setCells bb 0 (hc zero32) = wb at *
        have RKb := (RK2.out wb (TX.out.below.trans (bAB.mono TX.out.below.size))).1
        have RB := Lib.hid (rbit_any (w := wb) (i := i) OKX.out.k.len OKX.out.k.by_ hi2)
        rcases bit01 x.1 i with hbt | hbt
        · rw [hbt] at RB
          clear hbt
          go_wp2_with fail
          refine RB.out.mono ?_
          rintro e w15 ⟨rfl, b15⟩
          have bW := bAB.trans (b15.mono bAB.size)
          have HA2 := Lib.hid (HA1b.on b15)
          have HB2 := Lib.hid (HB0.on b15)
          have TX2 := Lib.hid (TX.out.on bW)
          have HH2 := Lib.hid (HB1.out.on bW)
          have RZ2 := Lib.hid (RZ1.out.on bW)
          have SZ2 : Hid (wr.heap.size ≤ w15.heap.size) := bW.size
          clear b15 bW bAB HA1b HB0 TX HB1 RZ1 RB RKb
          go_upto_region 17 with fail
          have hla := hc_len h
          have hlb := hc_len zero32
          have rA := HA2.out.row lH0
          have rB := HB2.out.row z32
          have AT := Lib.hid (AboveText_any (w := w15) (A := h) (B := zero32) lH0 z32)
          go_wp2_with fail
          clear rA rB
          refine AT.out.mono ?_
          rintro e w20 ⟨q20, n20, c20, rfl, f20⟩
          have F20 := Lib.hid f20
          have b20 : Below w15.heap.size w15 (w20.alloc (.cells #[.slice q20 n20 c20] 82)) := f20.below.trans ((Below.refl w20.heap.size w20).alloc (Nat.le_refl _) _ |>.mono f20.below.size)
          obtain ⟨dn, od⟩ := TX2.out
          have OW : Hid ((w20.alloc (.cells #[.slice q20 n20 c20] 82)).ownsRow 0 82 1 (.slice q Ls.length c) Ls.length dn) := (od.on PBs_ok b20).own
          have HA3 := Lib.hid (HA2.out.on b20)
          have HB3 := Lib.hid (HB2.out.on b20)
          have HH3 := Lib.hid (HH2.out.on b20)
          have RZ3 := Lib.hid (RZ2.out.on b20)
          have SR := Lib.hid (one_src (q := q20) (n := n20) (c := c20) w20)
          have nle : Ls.length ≤ 300 := by have := HN.out.2.1; omega
          go_wp2_with (at_builtin; refine wpList_append_row rfl _ _ rfl Tryd.underlying61 hi.out hz0.out hz1.out hz2.out rfl OW.out SR.out ?b1 ?b2 ?_)
          case b1 => unfold maxLen; omega
          case b2 => omega
          intro q21 k21 w21 own21 grow21 fr21
          have c21 : Chg (w20.alloc (.cells #[.slice q20 n20 c20] 82)) w21 (Value.slice q Ls.length c).ownBlock.toList := Chg.grown grow21 (fun g hg => by simp [hg])
          have nE : ∀ (bk : Nat) (G : List Int), HashAt (w20.alloc (.cells #[.slice q20 n20 c20] 82)) bk G → bk ∉ (Value.slice q Ls.length c).ownBlock.toList := fun bk G hG hm => own_ne OW.out hG (by decide) (by simpa using hm)
          have HA4 := Lib.hid (HA3.out.chg' c21 (nE _ _ HA3.out))
          have HB4 := Lib.hid (HB3.out.chg' c21 (nE _ _ HB3.out))
          have HH4 := Lib.hid (HH3.out.chg' c21 (nE _ _ HH3.out))
          have RZ4 := Lib.hid (RZ3.out.chg' c21 (nE _ _ RZ3.out))
          have TX4 : Hid (TxS w10.heap.size w w21 (.slice q21 (Ls.length + 1) k21) (Ls ++ [frm (sn pairS) [h, zero32]])) := by
            exact TxS.more od (by have := NSZ.out; have := SZ2.out; omega) F20.out own21 grow21 (by first | exact fr21 | simpa using fr21)
          have NS4 : Hid (w10.heap.size ≤ w21.heap.size) := by have := NSZ.out; have := SZ2.out; have := b20.size; have := c21.size; show _ ≤ _; omega
          have TK := Lib.hid (HN.out.2.2.1.app (TtOk.one (pair_len lH0 z32) (pair_bytes HN.out.2.2.2.2 zero32_bytes)))
          clear own21 grow21 fr21 c21 nE HA3 HB3 HH3 RZ3 OW SR od F20 b20 AT HA2 HB2 HH2 RZ2 TX2
          go_upto_region 18 with fail
          have rA := HA4.out.row lH0
          have rB := HB4.out.row z32
          have AB := Lib.hid (refAbove_any (w := w21) (A := h) (B := zero32) lH0 z32 HN.out.2.2.2.2 zero32_bytes)
          have lX := abH_len h zero32
          have bX := Lib.hid (abH_bytes h zero32)
          obtain ⟨X, hX⟩ : ∃ X, abH h zero32 = X := ⟨_, rfl⟩
          rw [hX] at AB lX bX
          clear hX
          go_wp2_with fail
          refine AB.out.mono ?_
          rintro e w22 ⟨rfl, b22⟩
          have HH5 := HH4.out.on b22
          have th := HH5.there lH0
          have hlX := hc_len X
          have H23 := Lib.hid (HH5.put lH0 lX)
          have c23 : Chg w22 (w22.setCells hb 0 (hc X)) [hb] := (Chg.refl w22 [hb]).setCells (b := hb) (.inl (by simp)) (hc X) 0
          have TX23 := Lib.hid ((TX4.out.on b22).hash HH5 c23 HBN.out HBW.out)
          have RZ23 := Lib.hid ((RZ4.out.on b22).chg' c23 (by have := HBW2.out; simp; omega))
          have NS5 : Hid (w10.heap.size ≤ (w22.setCells hb 0 (hc X)).heap.size) := by have := NS4.out; have := b22.size; have := c23.size; show _ ≤ _; omega
          clear b22 c23 AB rA rB HH5
          go_wp2_with fail
          go_roundw
          case rel => exact ⟨k + 1, _, _, _, _, X, by have := hi0.out; rw [← this]; go_num, by omega, rfl, ⟨by rw [List.length_append]; rfl, by rw [List.length_append, HN.out.2.1]; rfl, TK.out, lX, bX.out⟩, TX23, H23, RZ23, NS5⟩
          case measure => simp [intOf]; omega
        · rw [hbt] at RB
          clear hbt
          go_wp2_with fail
          refine RB.out.mono ?_
          rintro e w15 ⟨rfl, b15⟩
          have BW15 := Lib.hid (bAB.trans (b15.mono bAB.size))
          have HA1 := Lib.hid (HA1b.on b15)
          have HBz := Lib.hid (HB0.on b15)
          clear b15 bAB HA1b HB0 RB RKb
          have rA := HA1.out.row lH
          have rB := HBz.out.row z32
          have tA := HA1.out.there lH
          have nAB : ab ≠ bb := fun e => by have := ABB.out; omega
          have tB := (HBz.out.others (fun e => nAB e.symm) 0 (hc zero32)).there z32
          go_upto_region 17 with fail
          clear rA rB tA tB
          have cS : Chg w15 ((w15.setCells ab 0 (hc zero32)).setCells bb 0 (hc h)) [ab, bb] := ((Chg.refl w15 [ab, bb]).setCells (b := ab) (.inl (by simp)) (hc zero32) 0).setCells (b := bb) (.inl (by simp)) (hc h) 0
          have bS : Below wr.heap.size wr ((w15.setCells ab 0 (hc zero32)).setCells bb 0 (hc h)) := below_setCells' bb BBL.out (hc h) 0 (below_setCells' ab ABL.out (hc zero32) 0 BW15.out)
          have HA2 := Lib.hid ((HA1.out.put lH z32).others nAB 0 (hc h))
          have HB2 := Lib.hid ((HBz.out.others (fun e => nAB e.symm) 0 (hc zero32)).put z32 lH)
          have TX2 := Lib.hid (TX.out.on bS)
          have HH2 := Lib.hid (HB1.out.on bS)
          have RZ2 := Lib.hid (RZ1.out.on bS)
          have SZ2 : Hid (wr.heap.size ≤ ((w15.setCells ab 0 (hc zero32)).setCells bb 0 (hc h)).heap.size) := bS.size
          clear cS bS HA1 HBz nAB TX HB1 RZ1
          generalize (w15.setCells ab 0 (hc zero32)).setCells bb 0 (hc h) = w16 at *
          have hla := hc_len zero32
          have hlb := hc_len h
          have rA := HA2.out.row z32
          have rB := HB2.out.row lH0
          have AT := Lib.hid (AboveText_any (w := w16) (A := zero32) (B := h) z32 lH0)
          go_wp2_with fail
          clear rA rB
          refine AT.out.mono ?_
          rintro e w20 ⟨q20, n20, c20, rfl, f20⟩
          have F20 := Lib.hid f20
          have b20 : Below w16.heap.size w16 (w20.alloc (.cells #[.slice q20 n20 c20] 82)) := f20.below.trans ((Below.refl w20.heap.size w20).alloc (Nat.le_refl _) _ |>.mono f20.below.size)
          obtain ⟨dn, od⟩ := TX2.out
          have OW : Hid ((w20.alloc (.cells #[.slice q20 n20 c20] 82)).ownsRow 0 82 1 (.slice q Ls.length c) Ls.length dn) := (od.on PBs_ok b20).own
          have HA3 := Lib.hid (HA2.out.on b20)
          have HB3 := Lib.hid (HB2.out.on b20)
          have HH3 := Lib.hid (HH2.out.on b20)
          have RZ3 := Lib.hid (RZ2.out.on b20)
          have SR := Lib.hid (one_src (q := q20) (n := n20) (c := c20) w20)
          have nle : Ls.length ≤ 300 := by have := HN.out.2.1; omega
          go_wp2_with (at_builtin; refine wpList_append_row rfl _ _ rfl Tryd.underlying61 hi.out hz0.out hz1.out hz2.out rfl OW.out SR.out ?b1 ?b2 ?_)
          case b1 => unfold maxLen; omega
          case b2 => omega
          intro q21 k21 w21 own21 grow21 fr21
          have c21 : Chg (w20.alloc (.cells #[.slice q20 n20 c20] 82)) w21 (Value.slice q Ls.length c).ownBlock.toList := Chg.grown grow21 (fun g hg => by simp [hg])
          have nE : ∀ (bk : Nat) (G : List Int), HashAt (w20.alloc (.cells #[.slice q20 n20 c20] 82)) bk G → bk ∉ (Value.slice q Ls.length c).ownBlock.toList := fun bk G hG hm => own_ne OW.out hG (by decide) (by simpa using hm)
          have HA4 := Lib.hid (HA3.out.chg' c21 (nE _ _ HA3.out))
          have HB4 := Lib.hid (HB3.out.chg' c21 (nE _ _ HB3.out))
          have HH4 := Lib.hid (HH3.out.chg' c21 (nE _ _ HH3.out))
          have RZ4 := Lib.hid (RZ3.out.chg' c21 (nE _ _ RZ3.out))
          have TX4 : Hid (TxS w10.heap.size w w21 (.slice q21 (Ls.length + 1) k21) (Ls ++ [frm (sn pairS) [zero32, h]])) := by
            exact TxS.more od (by have := NSZ.out; have := SZ2.out; omega) F20.out own21 grow21 (by first | exact fr21 | simpa using fr21)
          have NS4 : Hid (w10.heap.size ≤ w21.heap.size) := by have := NSZ.out; have := SZ2.out; have := b20.size; have := c21.size; show _ ≤ _; omega
          have TK := Lib.hid (HN.out.2.2.1.app (TtOk.one (pair_len z32 lH0) (pair_bytes zero32_bytes HN.out.2.2.2.2)))
          clear own21 grow21 fr21 c21 nE HA3 HB3 HH3 RZ3 OW SR od F20 b20 AT HA2 HB2 HH2 RZ2 TX2
          go_upto_region 18 with fail
          have rA := HA4.out.row z32
          have rB := HB4.out.row lH0
          have AB := Lib.hid (refAbove_any (w := w21) (A := zero32) (B := h) z32 lH0 zero32_bytes HN.out.2.2.2.2)
          have lX := abH_len zero32 h
          have bX := Lib.hid (abH_bytes zero32 h)
          obtain ⟨X, hX⟩ : ∃ X, abH zero32 h = X := ⟨_, rfl⟩
          rw [hX] at AB lX bX
          clear hX
          go_wp2_with fail
          refine AB.out.mono ?_
          rintro e w22 ⟨rfl, b22⟩
          have HH5 := HH4.out.on b22
          have th := HH5.there lH0
          have hlX := hc_len X
          have H23 := Lib.hid (HH5.put lH0 lX)
          have c23 : Chg w22 (w22.setCells hb 0 (hc X)) [hb] := (Chg.refl w22 [hb]).setCells (b := hb) (.inl (by simp)) (hc X) 0
          have TX23 := Lib.hid ((TX4.out.on b22).hash HH5 c23 HBN.out HBW.out)
          have RZ23 := Lib.hid ((RZ4.out.on b22).chg' c23 (by have := HBW2.out; simp; omega))
          have NS5 : Hid (w10.heap.size ≤ (w22.setCells hb 0 (hc X)).heap.size) := by have := NS4.out; have := b22.size; have := c23.size; show _ ≤ _; omega
          clear b22 c23 AB rA rB HH5
          go_wp2_with fail
          go_roundw
          case rel => exact ⟨k + 1, _, _, _, _, X, by have := hi0.out; rw [← this]; go_num, by omega, rfl, ⟨by rw [List.length_append]; rfl, by rw [List.length_append, HN.out.2.1]; rfl, TK.out, lX, bX.out⟩, TX23, H23, RZ23, NS5⟩
          case measure => simp [intOf]; omega
      · have hdi : ¬ (d : Int) ≤ 255 - (k : Int) := by omega
        have hk2 : k = 256 - d := by omega
        have rH := HB1.out.row HN.out.2.2.2.1
        have th := RZ1.out.there zero32_len
        have lH := HN.out.2.2.2.1
        have hlH := hc_len h
        have hput := (RZ1.out.put zero32_len lH).row lH
        have c9 : Chg wr (wr.setCells w.heap.size 0 (hc h)) [w.heap.size] := (Chg.refl wr [w.heap.size]).setCells (b := w.heap.size) (.inl (by simp)) (hc h) 0
        have TX9 := Lib.hid ((TX.out.hash RZ1.out c9 NLT.out (Nat.le_refl _)).base (Below.refl _ _) (Nat.le_of_lt NLT.out))
        clear c9
        go_wp2_with fail
        refine bodyPost_ret (v := .tuple #[.agg (hc h).toArray, .slice q Ls.length c]) (by simp [results, Tryd.results66, go_sem, hput, lH]) rfl ?_
        obtain ⟨e1, e2, e3, e4, e5⟩ := HN.out
        refine ⟨h, q, c, Ls, rfl, e4, e5, TX9.out, ?_, e3⟩
        simp; omega

end Go.Proofs.YtjlodnecdngdfaaDoor
namespace Go.Proofs.YtjlodnecdngdfaaDoor
open Go.RowKit
set_option maxRecDepth 100000

/-- Behind both halves: their hashes. -/
structure SvS (w2 : World) (b7 b9 : Nat) (h1 h2 : List Int) (W : World) : Prop where
  h7 : HashAt W b7 h1
  h9 : HashAt W b9 h2
  size : w2.heap.size ≤ W.heap.size
structure SvZ (w2 : World) (rb b7 b9 : Nat) (h1 h2 : List Int) (W : World) : Prop where
  s : SvS w2 b7 b9 h1 h2 W
  rz : HashAt W rb zero32
section
variable {w2 W W' : World} {rb b7 b9 : Nat} {h1 h2 : List Int}
theorem SvS.chg {S : List Nat} (h : SvS w2 b7 b9 h1 h2 W) (hc : Chg W W' S) (n7 : b7 ∉ S) (n9 : b9 ∉ S) : SvS w2 b7 b9 h1 h2 W' := ⟨h.h7.chg' hc n7, h.h9.chg' hc n9, Nat.le_trans h.size hc.size⟩
theorem SvZ.on (h : SvZ w2 rb b7 b9 h1 h2 W) (hb : Below W.heap.size W W') : SvZ w2 rb b7 b9 h1 h2 W' := ⟨h.s.chg (Chg.below hb (Nat.le_refl _) []) (by simp) (by simp), h.rz.on hb⟩
theorem SvZ.grown {v : Value} {n : Nat} {xs : List Value} (h : SvZ w2 rb b7 b9 h1 h2 W) (own : W.ownsRow 0 82 1 v n xs) (grow : W.grownBy W' v.ownBlock) : SvZ w2 rb b7 b9 h1 h2 W' := by
  have hc : Chg W W' v.ownBlock.toList := Chg.grown grow (fun g hg => by simp [hg])
  have nE : ∀ (bk : Nat) (G : List Int), HashAt W bk G → bk ∉ v.ownBlock.toList := fun bk G hG hm => own_ne own hG (by decide) (by simpa using hm)
  exact ⟨h.s.chg hc (nE _ _ h.s.h7) (nE _ _ h.s.h9), h.rz.chg' hc (nE _ _ h.rz)⟩
theorem SvS.rzput (h : SvS w2 b7 b9 h1 h2 W) (hc : Chg W W' [rb]) (n7 : b7 ≠ rb) (n9 : b9 ≠ rb) : SvS w2 b7 b9 h1 h2 W' := h.chg hc (by simpa using n7) (by simpa using n9)
end
theorem tt_count {a b l n d : Nat} (h1 : a ≤ n * (256 - d)) (h2 : b ≤ (l - n) * (256 - d)) (hn : n ≤ l) (hd : d < 256) (hl : 2 ≤ l) : a + b + 1 ≤ l * (257 - d) := by
  have e : n * (256 - d) + (l - n) * (256 - d) = l * (256 - d) := by rw [← Nat.add_mul]; congr 1; omega
  have e2 : l * (257 - d) = l * (256 - d) + l := by rw [show 257 - d = (256 - d) + 1 by omega, Nat.mul_succ]
  omega
def TtP (d : Nat) : Prop := ∀ (w : World) (q : Option Addr) (c : Nat) (L : PrL), RdQ w q L → PrsOk L → SrtR L → (∀ x ∈ L, ∀ y ∈ L, AgreeB d x.1 y.1) → L.length ≤ 20 → L.length ≤ c → Calls Tryd.prog 66 #[.slice q L.length c, .int .i64 (d : Int)] w (TtQ w L d)
set_option maxHeartbeats 4000000 in
theorem texts_nil {w : World} {q : Option Addr} {c d : Nat} : Calls Tryd.prog 66 #[.slice q 0 c, .int .i64 (d : Int)] w (TtQ w [] d) := by
  have H0 := HashAt.new w zero32
  have th := H0.there zero32_len
  have z32 := zero32_len
  have hput := (H0.put zero32_len zero32_len).row zero32_len
  have TX : Hid (TxS w.heap.size w ((w.alloc (.cells (hc zero32).toArray 24)).setCells w.heap.size 0 (hc zero32)) (.slice none 0 0) []) := Lib.hid (TxS.nil _ (below_setCells' w.heap.size (Nat.le_refl _) (hc zero32) 0 ((Below.refl _ _).alloc (Nat.le_refl _) (.cells (hc zero32).toArray 24))))
  clear H0
  go_enter Tryd.func66, Tryd.ntmps66
  go_wp2_with fail
  refine bodyPost_ret (v := .tuple #[.agg (hc zero32).toArray, .slice none 0 0]) (by simp [results, Tryd.results66, go_sem, hput, z32]) rfl ?_
  exact ⟨zero32, none, 0, [], rfl, zero32_len, zero32_bytes, TX.out, by simp, TtOk.nil⟩
set_option maxHeartbeats 64000000 in
theorem texts_two {w : World} {q : Option Addr} {c d : Nat} {L : PrL} (hd : d < 256) (ih : TtP (d + 1)) (hq : RdQ w q L) (ok : PrsOk L) (srt : SrtR L) (agr : ∀ x ∈ L, ∀ y ∈ L, AgreeB d x.1 y.1) (h20 : L.length ≤ 20) (hLc : L.length ≤ c) (h2L : 2 ≤ L.length) :
    Calls Tryd.prog 66 #[.slice q L.length c, .int .i64 (d : Int)] w (TtQ w L d) := by
  have b1 : Below w.heap.size w (w.alloc (.cells (hc zero32).toArray 24)) := (Below.refl _ _).alloc (Nat.le_refl _) _
  have RZ1 := Lib.hid (HashAt.new w zero32)
  have B1 := Lib.hid b1
  have IH := Lib.hid ih
  have HQ := Lib.hid hq
  have OK := Lib.hid ok
  have SR0 := Lib.hid srt
  have DL := Lib.hid hd
  have L2 := Lib.hid h2L
  have z32 := zero32_len
  have hsp := ptR_split srt ok agr hd
  have HNL := Lib.hid (ptR_le d L)
  obtain ⟨i0, hi, hz0, hz1, hz2⟩ := info_parts Tryd.infoU8s
  replace hi := Lib.hid hi
  replace hz0 := Lib.hid hz0
  replace hz1 := Lib.hid hz1
  replace hz2 := Lib.hid hz2
  have PT := Lib.hid (part_any (c := c) (hq.on ok b1) ok hd (by omega))
  obtain ⟨n, hn⟩ : ∃ n, ptR d L = n := ⟨_, rfl⟩
  rw [hn] at hsp HNL PT
  have hnL : n ≤ L.length := HNL.out
  have hnc : n ≤ c := by omega
  have ext : ∀ M : PrL, (∀ x ∈ M, x ∈ L) → ∀ z : Int, (∀ x ∈ M, bitI x.1 d = z) → ∀ x ∈ M, ∀ y ∈ M, AgreeB (d + 1) x.1 y.1 := fun M hM z hz x hx y hy i hi => by
    by_cases e : i = d
    · rw [e, hz x hx, hz y hy]
    · exact agr x (hM x hx) y (hM y hy) i (by omega)
  have AGA := Lib.hid (ext (L.take n) (fun x hx => List.mem_of_mem_take hx) 0 hsp.1)
  have AGB := Lib.hid (ext (L.drop n) (fun x hx => List.mem_of_mem_drop hx) 1 hsp.2)
  have lenA : (L.take n).length = n := by rw [List.length_take, Nat.min_eq_left hnL]
  have lenB : (L.drop n).length = L.length - n := List.length_drop
  have e0 : ((L.length : Int) == 0) = false := beq_eq_false_iff_ne.2 (by omega)
  have e1 : (1 : Int) < (L.length : Int) := by omega
  clear hq ok srt agr b1 ih hn hsp ext
  go_enter Tryd.func66, Tryd.ntmps66
  go_wp2_with fail
  clear e0 e1
  refine PT.out.mono ?_
  rintro e w2 ⟨rfl, b2⟩
  have RZ2 := Lib.hid (RZ1.out.on b2)
  have B2 := Lib.hid (B1.out.trans (b2.mono B1.out.size))
  have HQ2 := HQ.out.on OK.out B2.out
  have W2L : Hid (w.heap.size < w2.heap.size) := by have := RZ1.out.lt; have := b2.size; show _ < _; omega
  clear b2 PT B1 RZ1
  have IC := Lib.hid (IH.out w2 q c (L.take n) (HQ2.take n) (fun x hx => OK.out x (List.mem_of_mem_take hx)) (SR0.out.sublist (List.take_sublist _ _)) AGA.out (by simp; omega) (by simp; omega))
  rw [lenA, show ((d + 1 : Nat) : Int) = (d : Int) + 1 by omega] at IC
  go_wp2_with fail
  refine IC.out.mono ?_
  rintro e w3 ⟨h1, q1, c1, Ls1, rfl, lh1, bh1, tx1, cn1, tk1⟩
  have byh1 := Lib.hid bh1
  have tkA := Lib.hid tk1
  have cnA : Hid (Ls1.length ≤ n * (256 - d)) := by rw [lenA, show 257 - (d + 1) = 256 - d by omega] at cn1; exact cn1
  have cA : Hid (Ls1.length ≤ 5120) := by have := cnA.out; have h5 : n * (256 - d) ≤ 20 * 256 := Nat.mul_le_mul (by omega) (by omega); show _ ≤ _; omega
  have hlh1 := hc_len h1
  clear IC cn1 bh1 tk1
  have th := (HashAt.new w3 zero32).there zero32_len
  go_upto_region 6 with fail
  clear th
  have b4 : Below w3.heap.size w3 ((w3.alloc (.cells (hc zero32).toArray 24)).setCells w3.heap.size 0 (hc h1)) := below_setCells' w3.heap.size (Nat.le_refl _) (hc h1) 0 ((Below.refl _ _).alloc (Nat.le_refl _) (.cells (hc zero32).toArray 24))
  have H7 := (HashAt.new w3 zero32).put zero32_len lh1
  obtain ⟨d1, o1⟩ := tx1
  have PL0 : ∀ g, (Value.slice q1 Ls1.length c1).ownBlock = some g → g < w3.heap.size := fun g hg => own_lt o1.own hg
  have o14 := o1.on PBs_ok b4
  have B23 : Below w2.heap.size w2 ((w3.alloc (.cells (hc zero32).toArray 24)).setCells w3.heap.size 0 (hc h1)) := o14.below
  have s34 := b4.size
  obtain ⟨w4, hw4⟩ : ∃ x, (w3.alloc (.cells (hc zero32).toArray 24)).setCells w3.heap.size 0 (hc h1) = x := ⟨_, rfl⟩
  obtain ⟨b7, hb7⟩ : ∃ x, w3.heap.size = x := ⟨_, rfl⟩
  have L7 : b7 < w4.heap.size := by rw [← hw4, ← hb7]; exact H7.lt
  rw [hw4] at H7 o14 B23 s34 ⊢
  rw [hb7] at H7 ⊢
  have PLT : Hid (∀ g, (Value.slice q1 Ls1.length c1).ownBlock = some g → g < w4.heap.size) := fun g hg => by have := PL0 g hg; omega
  have N24 : Hid (w2.heap.size ≤ w4.heap.size) := B23.size
  have B7N : Hid (b7 ≠ w.heap.size) := by have := W2L.out; have := o1.below.size; show _ ≠ _; omega
  clear hw4 hb7 b4 s34 PL0 o1
  have HQ4 := HQ2.on OK.out B23
  have IC := Lib.hid (IH.out w4 (cutQ q c n) (c - n) (L.drop n) (HQ4.drop HNL.out hLc) (fun x hx => OK.out x (List.mem_of_mem_drop hx)) (SR0.out.sublist (List.drop_sublist _ _)) AGB.out (by simp; omega) (by simp; omega))
  rw [lenB, show ((d + 1 : Nat) : Int) = (d : Int) + 1 by omega] at IC
  have RZ4 := Lib.hid (RZ2.out.on B23)
  have OD14 := Lib.hid o14
  have H74 := Lib.hid H7
  have B24 := Lib.hid B23
  clear HQ4 o14 H7 B23
  go_wp2_with fail
  refine IC.out.mono ?_
  rintro e w5 ⟨h2, q2, c2, Ls2, rfl, lh2, bh2, tx2, cn2, tk2⟩
  have byh2 := Lib.hid bh2
  have tkB := Lib.hid tk2
  have cnB : Hid (Ls2.length ≤ (L.length - n) * (256 - d)) := by rw [lenB, show 257 - (d + 1) = 256 - d by omega] at cn2; exact cn2
  have cB : Hid (Ls2.length ≤ 5120) := by have := cnB.out; have h5 : (L.length - n) * (256 - d) ≤ 20 * 256 := Nat.mul_le_mul (by omega) (by omega); show _ ≤ _; omega
  have hlh2 := hc_len h2
  clear IC cn2 bh2 tk2
  have th := (HashAt.new w5 zero32).there zero32_len
  go_upto_region 7 with fail
  clear th
  have b6 : Below w5.heap.size w5 ((w5.alloc (.cells (hc zero32).toArray 24)).setCells w5.heap.size 0 (hc h2)) := below_setCells' w5.heap.size (Nat.le_refl _) (hc h2) 0 ((Below.refl _ _).alloc (Nat.le_refl _) (.cells (hc zero32).toArray 24))
  have H9 := (HashAt.new w5 zero32).put zero32_len lh2
  obtain ⟨d2, o2⟩ := tx2
  have B45 := o2.below.trans (b6.mono o2.below.size)
  have od20 := Lib.hid (o2.on PBs_ok b6)
  have od10 := Lib.hid (OD14.out.on PBs_ok B45)
  have B9N : Hid (w5.heap.size ≠ w.heap.size) := by have := W2L.out; have := o2.below.size; have := N24.out; show _ ≠ _; omega
  have ST5 := Lib.hid (SvZ.mk (w2 := w2) (rb := w.heap.size) (b7 := b7) (b9 := w5.heap.size) (h1 := h1) (h2 := h2) ⟨H74.out.on B45, H9, Nat.le_trans N24.out B45.size⟩ (RZ4.out.on B45))
  clear H9 B45 o2 b6 OD14 H74 RZ4
  obtain ⟨b9, hb9⟩ : ∃ x, w5.heap.size = x := ⟨_, rfl⟩
  rw [hb9] at ST5 B9N od10 od20 ⊢
  clear hb9
  generalize (w5.alloc (.cells (hc zero32).toArray 24)).setCells b9 0 (hc h2) = w5b at *
  have HLX : Hid ((abH h1 h2).length = 32) := abH_len _ _
  have BX := Lib.hid (abH_bytes h1 h2)
  obtain ⟨X, hX⟩ : ∃ X, abH h1 h2 = X := ⟨_, rfl⟩
  have HX := Lib.hid hX
  rw [hX] at HLX BX
  clear hX
  refine wp_region_held_drew (S := fun W => SvS w2 b7 b9 h1 h2 W) (by kernel_rfl) ((ST5.out.on (Below.refl _ _).drew).s) (fun h0 => ?_)
  have ST6 := Lib.hid (ST5.out.on (Below.refl _ _).drew)
  have od1 := Lib.hid (od10.out.on PBs_ok (Below.refl _ _).drew)
  have od2 := Lib.hid (od20.out.on PBs_ok (Below.refl _ _).drew)
  generalize w5b.drew = w6 at *
  refine wpAnyH_take (i := 0) (v := ?_) (by rw [List.getElem?_toArray]; rfl) (by kernel_rfl) (by kernel_rfl) (by kernel_rfl) (by exact fun _ _ _ h => h) (Or.inl ⟨by rfl, ?_⟩) h0 ?_
  rotate_left
  · intro W hW
    have cc := hW.h7.row lh1
    go_simp
    all_goals with_reducible rfl
  try simp only [Act.put, List.setIfInBounds_toArray, List.set_cons_zero, List.set_cons_succ]
  refine wpAnyH_take (i := 1) (v := ?_) (by rw [List.getElem?_toArray]; rfl) (by kernel_rfl) (by kernel_rfl) (by kernel_rfl) (by exact fun _ _ _ h => h) (Or.inl ⟨by rfl, ?_⟩) h0 ?_
  rotate_left
  · intro W hW
    have cc := hW.h9.row lh2
    go_simp
    all_goals with_reducible rfl
  try simp only [Act.put, List.setIfInBounds_toArray, List.set_cons_zero, List.set_cons_succ]
  refine wpAnyH_take (i := 3) (v := ?_) (by rw [List.getElem?_toArray]; rfl) (by kernel_rfl) (by kernel_rfl) (by kernel_rfl) (by exact fun _ _ _ h => h) (Or.inl ⟨by rfl, ?_⟩) h0 ?_
  rotate_left
  · intro W hW
    go_simp
    all_goals with_reducible rfl
  try simp only [Act.put, List.setIfInBounds_toArray, List.set_cons_zero, List.set_cons_succ]
  refine wpAnyH_take (i := 4) (v := ?_) (by rw [List.getElem?_toArray]; rfl) (by kernel_rfl) (by kernel_rfl) (by kernel_rfl) (by exact fun _ _ _ h => h) (Or.inl ⟨by rfl, ?_⟩) h0 ?_
  rotate_left
  · intro W hW
    go_simp
    all_goals with_reducible rfl
  try simp only [Act.put, List.setIfInBounds_toArray, List.set_cons_zero, List.set_cons_succ]
  refine wpAnyH_take (i := 6) (v := ?_) (by rw [List.getElem?_toArray]; rfl) (by kernel_rfl) (by kernel_rfl) (by kernel_rfl) (by exact fun _ _ _ h => h) (Or.inl ⟨by rfl, ?_⟩) h0 ?_
  rotate_left
  · intro W hW
    have cc := hW.h7.row lh1
    go_simp
    all_goals with_reducible rfl
  try simp only [Act.put, List.setIfInBounds_toArray, List.set_cons_zero, List.set_cons_succ]
  refine wpAnyH_take (i := 7) (v := ?_) (by rw [List.getElem?_toArray]; rfl) (by kernel_rfl) (by kernel_rfl) (by kernel_rfl) (by exact fun _ _ _ h => h) (Or.inl ⟨by rfl, ?_⟩) h0 ?_
  rotate_left
  · intro W hW
    have cc := hW.h9.row lh2
    go_simp
    all_goals with_reducible rfl
  try simp only [Act.put, List.setIfInBounds_toArray, List.set_cons_zero, List.set_cons_succ]
  refine wpAnyH_ready (rs := [2]) (by kernel_rfl) (by simp) ?_
  refine AllReadyH.cons (by rw [List.getElem?_toArray]; rfl) (fun KX hKK => ?_) AllReadyH.nil
  first | rw [if_pos (by rfl)] | skip
  have AB := Lib.hid (refAbove_any (w := w6) (A := h1) (B := h2) lh1 lh2 byh1.out byh2.out)
  rw [HX.out] at AB
  go_wp2_with fail
  refine AB.out.mono ?_
  rintro e w7 ⟨rfl, b7⟩
  have ST7 := Lib.hid (ST6.out.on b7)
  have OD1 := Lib.hid (od1.out.on PBs_ok b7)
  have OD2 := Lib.hid (od2.out.on PBs_ok b7)
  clear b7 AB
  go_wp2_with fail
  refine hKK.out _ _ (ST7.out.s) (fun h0 => ?_)
  clear hKK KX
  try simp only [Act.put, List.setIfInBounds_toArray, List.set_cons_zero, List.set_cons_succ]
  clear ST6
  refine wpAnyH_ready (rs := [5]) (by kernel_rfl) (by simp) ?_
  refine AllReadyH.cons (by rw [List.getElem?_toArray]; rfl) (fun KX hKK => ?_) AllReadyH.nil
  first | rw [if_pos (by rfl)] | skip
  have SR := Lib.hid (TxS.src OD2.out.own (TxS.ones OD2.out))
  refine wp_append_row _ _ rfl Tryd.underlying61 hi.out hz0.out hz1.out hz2.out rfl OD1.out.own SR.out ?b1 ?b2 ?_
  case b1 => have := cA.out; have := cB.out; unfold maxLen; omega
  case b2 => have := cA.out; have := cB.out; omega
  intro q8 k8 w8 own8 grow8 fr8
  have TJ := TxS.join OD1.out OD2.out N24.out PLT.out own8 grow8 fr8
  have ST8 := Lib.hid (ST7.out.grown OD1.out.own grow8)
  obtain ⟨dj, odj⟩ := TJ
  replace odj := Lib.hid odj
  clear own8 grow8 fr8 SR
  refine hKK.out _ _ (ST8.out.s) (fun h0 => ?_)
  clear hKK KX
  try simp only [Act.put, List.setIfInBounds_toArray, List.set_cons_zero, List.set_cons_succ]
  clear ST7
  refine wpAnyH_ready (rs := [8]) (by kernel_rfl) (by simp) ?_
  refine AllReadyH.cons (by rw [List.getElem?_toArray]; rfl) (fun KX hKK => ?_) AllReadyH.nil
  first | rw [if_pos (by rfl)] | skip
  have AT := Lib.hid (AboveText_any (w := w8) (A := h1) (B := h2) lh1 lh2)
  go_wp2_with fail
  refine AT.out.mono ?_
  rintro e w9 ⟨q9, n9, c9, rfl, f9⟩
  have F9 := Lib.hid f9
  have ST9 := Lib.hid (ST8.out.on f9.below)
  clear f9 AT
  go_wp2_with fail
  refine hKK.out _ _ (ST9.out.s) (fun h0 => ?_)
  clear hKK KX
  try simp only [Act.put, List.setIfInBounds_toArray, List.set_cons_zero, List.set_cons_succ]
  refine wpAnyH_ready (rs := [9]) (by kernel_rfl) (by simp) ?_
  refine AllReadyH.cons (by rw [List.getElem?_toArray]; rfl) (fun KX hKK => ?_) AllReadyH.nil
  first | rw [if_pos (by rfl)] | skip
  have b10 : Below w9.heap.size w9 (w9.alloc (.cells #[.slice q9 n9 c9] 82)) := (Below.refl _ _).alloc (Nat.le_refl _) _
  have ST10 := Lib.hid (ST9.out.on b10)
  have OW := Lib.hid ((odj.out.on PBs_ok F9.out.below).on PBs_ok b10).own
  have SR := Lib.hid (one_src (q := q9) (n := n9) (c := c9) w9)
  go_wp2_with fail
  refine hKK.out _ _ (ST10.out.s) (fun h0 => ?_)
  clear hKK KX
  try simp only [Act.put, List.setIfInBounds_toArray, List.set_cons_zero, List.set_cons_succ]
  clear b10
  refine wpAnyH_ready (rs := [10]) (by kernel_rfl) (by simp) ?_
  refine AllReadyH.cons (by rw [List.getElem?_toArray]; rfl) (fun KX hKK => ?_) AllReadyH.nil
  first | rw [if_pos (by rfl)] | skip
  have OWN : (w9.alloc (.cells #[.slice q9 n9 c9] 82)).ownsRow 0 82 1 (.slice q8 (Ls1.length + Ls2.length) k8) (Ls1.length + Ls2.length) dj := by have := OW.out; rw [List.length_append] at this; exact this
  refine wp_append_row _ _ rfl Tryd.underlying61 hi.out hz0.out hz1.out hz2.out rfl OWN SR.out ?b1 ?b2 ?_
  case b1 => have := cA.out; have := cB.out; unfold maxLen; omega
  case b2 => have := cA.out; have := cB.out; omega
  intro q11 k11 w11 own11 grow11 fr11
  have ST11 := Lib.hid (ST10.out.grown OWN grow11)
  have hle : (Ls1 ++ Ls2).length = Ls1.length + Ls2.length := List.length_append
  have TM : Hid (TxS w2.heap.size w2 w11 (.slice q11 (Ls1.length + Ls2.length + 1) k11) ((Ls1 ++ Ls2) ++ [frm (sn pairS) [h1, h2]])) := by
    have own12 : w11.ownsRow 0 82 1 (.slice q11 ((Ls1 ++ Ls2).length + 1) k11) ((Ls1 ++ Ls2).length + 1) (dj ++ [.slice q9 n9 c9]) := by rw [hle]; exact own11
    have fr12 : (Value.slice q11 ((Ls1 ++ Ls2).length + 1) k11).ownBlock = (Value.slice q8 (Ls1.length + Ls2.length) k8).ownBlock ∨ (Value.slice q11 ((Ls1 ++ Ls2).length + 1) k11).ownBlock = some (w9.alloc (.cells #[.slice q9 n9 c9] 82)).heap.size := by
      rw [hle]
      first | exact fr11 | simpa using fr11
    have tm := TxS.more odj.out ST8.out.s.size F9.out own12 grow11 fr12
    rw [hle] at tm
    exact tm
  clear own11 grow11 fr11 SR OW OWN hle
  refine hKK.out _ _ (ST11.out.s) (fun h0 => ?_)
  clear hKK KX
  try simp only [Act.put, List.setIfInBounds_toArray, List.set_cons_zero, List.set_cons_succ]
  clear ST9 ST10
  refine wpAnyH_ready (rs := [11]) (by kernel_rfl) (by simp) ?_
  refine AllReadyH.cons (by rw [List.getElem?_toArray]; rfl) (fun KX hKK => ?_) AllReadyH.nil
  first | rw [if_pos (by rfl)] | skip
  have RZ := ST11.out.rz
  have th := RZ.there zero32_len
  have lX := HLX.out
  have hlX := hc_len X
  have c12 : Chg w11 (w11.setCells w.heap.size 0 (hc X)) [w.heap.size] := (Chg.refl w11 [w.heap.size]).setCells (b := w.heap.size) (.inl (by simp)) (hc X) 0
  have H12 := Lib.hid (RZ.put zero32_len lX)
  have TN := Lib.hid (((TM.out.base B2.out (Nat.le_refl _)).hash RZ c12 W2L.out (Nat.le_refl _)).base (Below.refl _ _) (Nat.le_of_lt W2L.out))
  have ST12 := ST11.out.s.rzput c12 B7N.out B9N.out
  go_wp2_with fail
  refine hKK.out _ _ (ST12) (fun h0 => ?_)
  clear hKK KX
  try simp only [Act.put, List.setIfInBounds_toArray, List.set_cons_zero, List.set_cons_succ]
  clear th RZ c12 ST12
  refine wpAnyH_take (i := 12) (v := ?_) (by rw [List.getElem?_toArray]; rfl) (by kernel_rfl) (by kernel_rfl) (by kernel_rfl) (by exact fun _ _ _ h => h) (Or.inl ⟨by rfl, ?_⟩) h0 ?_
  rotate_left
  · intro W hW
    go_simp
    all_goals with_reducible rfl
  try simp only [Act.put, List.setIfInBounds_toArray, List.set_cons_zero, List.set_cons_succ]
  refine wpAnyH_done (by kernel_rfl) ?_ _
  clear h0
  have hput := H12.out.row HLX.out
  have lX := HLX.out
  go_wp2_with fail
  refine bodyPost_ret (v := .tuple #[.agg (hc X).toArray, .slice q11 (Ls1.length + Ls2.length + 1) k11]) (by simp [results, Tryd.results66, go_sem, hput, lX]) rfl ?_
  have hle : ((Ls1 ++ Ls2) ++ [frm (sn pairS) [h1, h2]]).length = Ls1.length + Ls2.length + 1 := by simp; omega
  refine ⟨X, q11, k11, (Ls1 ++ Ls2) ++ [frm (sn pairS) [h1, h2]], by rw [hle], HLX.out, BX.out, by rw [hle]; exact TN.out, ?_, (tkA.out.app tkB.out).app (TtOk.one (pair_len lh1 lh2) (pair_bytes byh1.out byh2.out))⟩
  rw [hle]
  exact tt_count cnA.out cnB.out HNL.out DL.out L2.out

theorem texts_any : ∀ (k d : Nat), d + k = 256 → TtP d := by
  intro k
  induction k with
  | zero =>
    intro d hd w q c L hq ok srt agr h20 hLc
    match L, hq, ok, srt, agr, h20, hLc with
    | [], _, _, _, _, _, _ => exact texts_nil
    | [x], hq, ok, _, _, _, _ => exact texts_one hq (ok x (by simp)) (by omega)
    | x :: y :: L, _, ok, srt, agr, _, _ =>
      have h1 : cmpB x.1 y.1 < 0 := (List.pairwise_cons.1 srt).1 y (by simp)
      obtain ⟨h2, _, _⟩ := cmp_dif (ok x (by simp)).k (ok y (by simp)).k h1
      have := dif_of (agr x (by simp) y (by simp)) (by omega)
      omega
  | succ k ih =>
    intro d hd w q c L hq ok srt agr h20 hLc
    have IH := ih (d + 1) (by omega)
    match L, hq, ok, srt, agr, h20, hLc with
    | [], _, _, _, _, _, _ => exact texts_nil
    | [x], hq, ok, _, _, _, _ => exact texts_one hq (ok x (by simp)) (by omega)
    | x :: y :: L, hq, ok, srt, agr, h20, hLc => exact texts_two (by omega) IH hq ok srt agr h20 hLc (by simp)
end Go.Proofs.YtjlodnecdngdfaaDoor
namespace Go.Proofs.YtjlodnecdngdfaaDoor
open Go.RowKit
set_option maxRecDepth 100000

set_option maxHeartbeats 8000000 in
theorem mapTexts_any {w0 w : World} {pm : Nat} {v : Value} {L : PrL} (hm : RmS w0 w pm v L) (h20 : L.length ≤ 20) :
    Calls Tryd.prog 51 #[.pointer (some ⟨pm, 0, none⟩)] w fun e w' => ∃ q c Ls, e = .returned (.slice q Ls.length c) ∧ TxS w.heap.size w w' (.slice q Ls.length c) Ls ∧ Ls.length ≤ L.length * 257 ∧ TtOk Ls := by
  obtain ⟨q, c, rfl⟩ := hm.slice
  have TA := Lib.hid (texts_any 256 0 rfl w q c L hm.rdq hm.ok hm.srt (fun _ _ _ _ i hi => absurd hi (by omega)) h20 hm.cap.2)
  have cc := hm.cell
  clear hm
  go_enter Tryd.func51, Tryd.ntmps51
  go_wp2_with fail
  clear cc
  refine TA.out.mono ?_
  rintro e w3 ⟨h, q3, c3, Ls, rfl, lh, -, tx, cn, tk⟩
  have th := (HashAt.new w3 zero32).there zero32_len
  have hlh := hc_len h
  have TX := Lib.hid (tx.on (below_setCells' w3.heap.size (Nat.le_refl _) (hc h) 0 ((Below.refl w3.heap.size w3).alloc (Nat.le_refl _) (.cells (hc zero32).toArray 24))))
  have CN := Lib.hid cn
  have TK := Lib.hid tk
  clear tx cn tk TA
  go_wp2_with fail
  go_ret
  exact ⟨q3, c3, Ls, rfl, TX.out, CN.out, TK.out⟩
end Go.Proofs.YtjlodnecdngdfaaDoor
