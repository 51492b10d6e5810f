/-
  The walks of basculeref02: Frame.
-/
import Derived.Test.YtjgfjmkfcippcaaDoorFrameW
import Derived.Test.YtjgfjmkfcippcaaDoorOwnR
import Derived.Test.YtjgfjmkfcippcaaDoorRefPad
import Derived.Test.YtjgfjmkfcippcaaDoorReg
namespace Go.Proofs.YtjgfjmkfcippcaaDoor
open Go.RowKit
set_option maxRecDepth 100000

theorem oldW {w W : World} (hb : Below w.heap.size w W) {p : Addr} {v : Value} (hc : w.cell? p = some v) : W.cell? p = some v := by
  rw [hb.cell (World.block_lt_of_cell? w p hc)]; exact hc
/-- A row that the call itself lays, and appends to. -/
structure FrS (w wr : World) (v : Value) (xs : List Int) (n : Nat) : Prop where
  own : wr.ownsRow 0 5 1 v n (bc xs)
  fresh : ∀ g, v.ownBlock = some g → w.heap.size ≤ g
  below : Below w.heap.size w wr
theorem FrS.len {w wr : World} {v : Value} {xs : List Int} {n : Nat} (h : FrS w wr v xs n) : xs.length = n := by have := h.own.1; simpa using this
theorem FrS.on {w wr w1 : World} {v : Value} {xs : List Int} {n : Nat} (h : FrS w wr v xs n) (hb : Below wr.heap.size wr w1) : FrS w w1 v xs n :=
  ⟨own_on h.own hb, h.fresh, h.below.trans (hb.mono h.below.size)⟩
theorem FrS.drew {w wr : World} {v : Value} {xs : List Int} {n : Nat} (h : FrS w wr v xs n) : FrS w wr.drew v xs n := h.on (Below.refl _ _).drew
theorem FrS.grow {w wr w2 : World} {v v' : Value} {xs ys : List Int} {n m : Nat} (h : FrS w wr v xs n) (own : w2.ownsRow 0 5 1 v' (n + m) (bc xs ++ bc ys)) (grow : wr.grownBy w2 v.ownBlock) (fr : v'.ownBlock = v.ownBlock ∨ v'.ownBlock = some wr.heap.size) : FrS w w2 v' (xs ++ ys) (n + m) := by
  refine ⟨by rw [bc_append]; exact own, fun g hg => ?_, h.below.grown grow h.below.size (fun k hk => h.fresh k hk)⟩
  rcases fr with e | e
  · rw [e] at hg; exact h.fresh g hg
  · rw [e] at hg; have := h.below.size; simp at hg; omega
theorem FrS.rd {w wr : World} {v : Value} {xs : List Int} {n : Nat} (h : FrS w wr v xs n) : Rd wr v xs := by
  have := h.len; subst this
  exact rd_of_row h.own
theorem sn_cells (s : ByteArray) : byteCells s = bc (sn s) := by simp [byteCells, bc, sn]
theorem src_str {P : Program} {w : World} {tx : TypeId} (hk : P.underlying tx = some .string) (t : ByteArray) : Src P 1 tx (.string t) t.size (bc (sn t)) w := by
  rw [← sn_cells]; exact Src.ofString w hk t

set_option maxHeartbeats 8000000 in
theorem refFrame_any {w : World} {s t : ByteArray} {v : Value} {L : List (List Int)} (hL : RdL w v L []) (hs : s.size ≤ maxLen) (hst : cut255 s = t) (hn : (frm (sn t) L).length ≤ 100000000000000) :
    Calls Tryd.prog 78 #[.string s, v] w fun e w' => ∃ q n c, e = .returned (.slice q n c) ∧ FrS w w' (.slice q n c) (frm (sn t) L) n := by
  have h255 : t.size ≤ 255 := by rw [← hst]; exact cut_size s
  unfold maxLen at hs
  have hcut : (s.size ≤ 255 ∧ s = t) ∨ (255 < s.size ∧ s.extract 0 255 = t) := by
    by_cases h : s.size ≤ 255
    · exact .inl ⟨h, by rw [← hst]; exact (if_pos h).symm⟩
    · exact .inr ⟨by omega, by rw [← hst]; exact (if_neg h).symm⟩
  clear hst
  obtain ⟨qL, cL, rfl⟩ : ∃ q c, v = .slice q L.length c := by obtain ⟨q, c, e, _⟩ := hL; exact ⟨q, c, e⟩
  obtain ⟨i0, hi, hz0, hz1, hz2⟩ := info_parts Tryd.infoU8
  have HL := Lib.hid hL
  replace hi := Lib.hid hi
  replace hz0 := Lib.hid hz0
  replace hz1 := Lib.hid hz1
  replace hz2 := Lib.hid hz2
  have hsl := sn_len t
  have HSL := Lib.hid hsl
  have hfl := frm_len (sn t) L
  have hbl : t.size + (blobs L).length ≤ 100000000000000 := by omega
  have hmany := blobs_many L
  have hLn : L.length ≤ 100000000000000 := by omega
  clear hL hsl hfl hn hmany
  go_enter Tryd.func78, Tryd.ntmps78
  rcases hcut with ⟨hc1, hc2⟩ | ⟨hc1, hc2⟩
  · obtain hc3 := hc2.symm
    subst hc3
    have d1 : ¬ (255 < (t.size : Int)) := by omega
    go_wp2_with (refine wpList_make_own _ rfl _ _ _ rfl 0 _ _ _ _ Tryd.underlying64 hi.out hz0.out hz1.out _ _ _ 160 rfl rfl rfl ?ca ?cb ?cc ?_)
    (try case ca => rw [hz2.out]; omega)
    (try case cb => unfold maxLen; omega)
    (try case cc => omega)
    intro w1 own1 grow1
    have F1 : Hid (FrS w w1 (.slice (some ⟨w.heap.size, 0, none⟩) 0 160) [] 0) := ⟨own1, (by intro g hg; simp [Value.ownBlock] at hg; omega), (Below.refl _ _).grown grow1 (Nat.le_refl _) (by intro k hk; simp at hk)⟩
    clear own1 grow1
    go_wp2_with (at_builtin; refine wpList_append_row rfl _ _ rfl Tryd.underlying64 hi.out hz0.out hz1.out hz2.out rfl (F1.out.on ((Below.refl _ _).alloc (Nat.le_refl _) (.cells #[.int .u8 (t.size : Int)] 5))).own (Rd.src (xs := [(t.size : Int)]) Tryd.underlying64 ⟨_, 1, rfl, .inr ⟨w1.heap.size, 0, rfl, fun j hj => by obtain rfl : j = 0 := (by simpa using hj); exact (Joins.cell_of_block (heap_alloc_new w1 _) 0).trans rfl⟩⟩) ?cd ?ce ?_)
    (try case cd => simp; unfold maxLen; omega)
    (try case ce => simp)
    intro q2 k2 w2 own2 grow2 fr2
    have F2 := Lib.hid (FrS.grow (n := 0) (m := 1) (F1.out.on ((Below.refl _ _).alloc (Nat.le_refl _) (.cells #[.int .u8 (t.size : Int)] 5))) own2 grow2 (fr2.imp (fun h => h) (fun e => by rw [e]; simp)))
    clear own2 grow2 fr2
    go_wp2_with (at_builtin; refine wpList_append_row rfl _ _ rfl Tryd.underlying64 hi.out hz0.out hz1.out hz2.out rfl F2.out.own (src_str Tryd.underlying9 t) ?cf ?cg ?_)
    (try case cf => simp; unfold maxLen; omega)
    (try case cg => simp; omega)
    intro q3 k3 w3 own3 grow3 fr3
    have F3 := Lib.hid (FrS.grow (n := 1) (m := t.size) F2.out own3 grow3 fr3)
    clear own3 grow3 fr3 F1 F2 d1
    have H3 : Hid (FrS w w3 (.slice q3 (1 + t.size) k3) (((t.size : Int) :: sn t) ++ blobs (L.take 0)) (1 + t.size)) := by
      have := F3.out
      simp only [List.nil_append, List.cons_append] at this
      show FrS _ _ _ _ _
      simpa [blobs] using this
    clear F3
    go_wp2_with fail
    go_loopw [5, 6] (fun bv iv wr => ∃ (i n : Nat) (q : Option Addr) (k : Nat), iv = .int .i64 i ∧ i ≤ L.length ∧ bv = .slice q n k ∧ Hid (FrS w wr (.slice q n k) (((t.size : Int) :: sn t) ++ blobs (L.take i)) n)) (fun _ iv _ => L.length - (intOf iv).toNat)
    case atStart => exact ⟨0, _, _, _, rfl, by omega, rfl, H3⟩
    case round =>
      clear H3
      obtain ⟨i, n, q, k1, rfl, hil, rfl, HF⟩ := hrel
      by_cases hlt : i < L.length
      · have hbi := blobs_len hlt
        have hb2 := blobs_le L (i + 1)
        have hnl := HF.out.len
        simp only [List.length_append, List.length_cons] at hnl
        rw [HSL.out] at hnl
        have hnn : n + 8 + (L.getD i []).length ≤ 100000000001000 := by omega
        have HB := Lib.hid (blobs_take hlt)
        obtain ⟨b, off, r, m, kc, -, rfl, -, hc, rfl, hrd, -⟩ := HL.out.at hlt
        have HC := Lib.hid hc
        have HRW := Lib.hid hrd
        have HRD := Lib.hid (hrd.on HF.out.below)
        have i0 : (0 : Int) ≤ (i : Int) := by omega
        have i1 : (i : Int) < (L.length : Int) := by omega
        clear hc hrd hbi hb2 hnl
        generalize hxx : L.getD i [] = x at *
        clear hxx
        obtain ⟨lb, hlb⟩ : ∃ lb, x.length = lb := ⟨_, rfl⟩
        rw [hlb] at HC HRW HRD hnn
        have HLB := Lib.hid hlb
        clear hlb
        go_wp2_with fail
        refine wp_region_held_drew (S := fun W => Below w.heap.size w W) (by kernel_rfl) (HF.out.drew.below) (fun h0 => ?_)
        refine wpAnyH_take (i := 0) (v := ?_) (by rw [List.getElem?_toArray]; rfl) (by kernel_rfl) (by kernel_rfl) (by kernel_rfl) (by exact fun _ _ _ h => h) (Or.inl ⟨by rfl, ?_⟩) h0 ?_
        rotate_left
        · intro W hW
          go_simp
          all_goals with_reducible rfl
        try simp only [Act.put, List.setIfInBounds_toArray, List.set_cons_zero, List.set_cons_succ]
        refine wpAnyH_take (i := 1) (v := ?_) (by rw [List.getElem?_toArray]; rfl) (by kernel_rfl) (by kernel_rfl) (by kernel_rfl) (by exact fun _ _ _ h => h) (Or.inl ⟨by rfl, ?_⟩) h0 ?_
        rotate_left
        · intro W hW
          go_simp
          all_goals with_reducible rfl
        try simp only [Act.put, List.setIfInBounds_toArray, List.set_cons_zero, List.set_cons_succ]
        refine wpAnyH_take (i := 2) (v := ?_) (by rw [List.getElem?_toArray]; rfl) (by kernel_rfl) (by kernel_rfl) (by kernel_rfl) (by exact fun _ _ _ h => h) (Or.inl ⟨by rfl, ?_⟩) h0 ?_
        rotate_left
        · intro W hW
          go_simp
          all_goals with_reducible rfl
        try simp only [Act.put, List.setIfInBounds_toArray, List.set_cons_zero, List.set_cons_succ]
        refine wpAnyH_take (i := 3) (v := ?_) (by rw [List.getElem?_toArray]; rfl) (by kernel_rfl) (by kernel_rfl) (by kernel_rfl) (by exact fun _ _ _ h => h) (Or.inl ⟨by rfl, ?_⟩) h0 ?_
        rotate_left
        · intro W hW
          go_simp
          all_goals with_reducible rfl
        try simp only [Act.put, List.setIfInBounds_toArray, List.set_cons_zero, List.set_cons_succ]
        refine wpAnyH_take (i := 4) (v := ?_) (by rw [List.getElem?_toArray]; rfl) (by kernel_rfl) (by kernel_rfl) (by kernel_rfl) (by exact fun _ _ _ h => h) (Or.inl ⟨by rfl, ?_⟩) h0 ?_
        rotate_left
        · intro W hW
          have cc := oldW hW HC.out
          go_simp
          all_goals with_reducible rfl
        try simp only [Act.put, List.setIfInBounds_toArray, List.set_cons_zero, List.set_cons_succ]
        refine wpAnyH_take (i := 5) (v := ?_) (by rw [List.getElem?_toArray]; rfl) (by kernel_rfl) (by kernel_rfl) (by kernel_rfl) (by exact fun _ _ _ h => h) (Or.inl ⟨by rfl, ?_⟩) h0 ?_
        rotate_left
        · intro W hW
          go_simp
          all_goals with_reducible rfl
        try simp only [Act.put, List.setIfInBounds_toArray, List.set_cons_zero, List.set_cons_succ]
        refine wpAnyH_take (i := 6) (v := ?_) (by rw [List.getElem?_toArray]; rfl) (by kernel_rfl) (by kernel_rfl) (by kernel_rfl) (by exact fun _ _ _ h => h) (Or.inl ⟨by rfl, ?_⟩) h0 ?_
        rotate_left
        · intro W hW
          go_simp
          all_goals with_reducible rfl
        try simp only [Act.put, List.setIfInBounds_toArray, List.set_cons_zero, List.set_cons_succ]
        refine wpAnyH_take (i := 9) (v := ?_) (by rw [List.getElem?_toArray]; rfl) (by kernel_rfl) (by kernel_rfl) (by kernel_rfl) (by exact fun _ _ _ h => h) (Or.inl ⟨by rfl, ?_⟩) h0 ?_
        rotate_left
        · intro W hW
          go_simp
          all_goals with_reducible rfl
        try simp only [Act.put, List.setIfInBounds_toArray, List.set_cons_zero, List.set_cons_succ]
        refine wpAnyH_take (i := 10) (v := ?_) (by rw [List.getElem?_toArray]; rfl) (by kernel_rfl) (by kernel_rfl) (by kernel_rfl) (by exact fun _ _ _ h => h) (Or.inl ⟨by rfl, ?_⟩) h0 ?_
        rotate_left
        · intro W hW
          go_simp
          all_goals with_reducible rfl
        try simp only [Act.put, List.setIfInBounds_toArray, List.set_cons_zero, List.set_cons_succ]
        refine wpAnyH_take (i := 11) (v := ?_) (by rw [List.getElem?_toArray]; rfl) (by kernel_rfl) (by kernel_rfl) (by kernel_rfl) (by exact fun _ _ _ h => h) (Or.inl ⟨by rfl, ?_⟩) h0 ?_
        rotate_left
        · intro W hW
          go_simp
          all_goals with_reducible rfl
        try simp only [Act.put, List.setIfInBounds_toArray, List.set_cons_zero, List.set_cons_succ]
        refine wpAnyH_take (i := 12) (v := ?_) (by rw [List.getElem?_toArray]; rfl) (by kernel_rfl) (by kernel_rfl) (by kernel_rfl) (by exact fun _ _ _ h => h) (Or.inl ⟨by rfl, ?_⟩) h0 ?_
        rotate_left
        · intro W hW
          have cc := oldW hW HC.out
          go_simp
          all_goals with_reducible rfl
        try simp only [Act.put, List.setIfInBounds_toArray, List.set_cons_zero, List.set_cons_succ]
        refine wpAnyH_ready (rs := [7]) (by kernel_rfl) (by simp) ?_
        refine AllReadyH.cons (by rw [List.getElem?_toArray]; rfl) (fun K hK => ?_) AllReadyH.nil
        rw [if_pos (by rfl)]
        go_wp2_with fail
        refine (eight_any _ _).mono ?_
        rintro e w7 ⟨rfl, hb7, hbl7⟩
        have F7 := Lib.hid (HF.out.drew.on hbl7)
        have HB7 : Hid (w7.heap[wr.heap.size]? = some (.cells (bc (be8 (lb : Int))).toArray 5 (0, 0))) := hb7
        have R7 := Lib.hid (HRD.out.drew.on hbl7)
        go_wp2_with fail
        refine hK.out _ _ (h0.trans (hbl7.mono h0.size)) (fun h7 => ?_)
        clear hK K
        try simp only [Act.put, List.setIfInBounds_toArray, List.set_cons_zero, List.set_cons_succ]
        clear hb7 hbl7
        refine wpAnyH_ready (rs := [8]) (by kernel_rfl) (by simp) ?_
        refine AllReadyH.cons (by rw [List.getElem?_toArray]; rfl) (fun K hK => ?_) AllReadyH.nil
        rw [if_pos (by rfl)]
        refine wp_append_row _ _ rfl Tryd.underlying64 hi.out hz0.out hz1.out hz2.out rfl F7.out.own (Rd.src (xs := be8 (lb : Int)) Tryd.underlying64 ⟨_, 8, rfl, .inr ⟨wr.heap.size, 0, rfl, fun j hj => by rw [Nat.zero_add, Joins.cell_of_block HB7.out]; simp only [be8_len] at hj; rcases (by omega : j = 0 ∨ j = 1 ∨ j = 2 ∨ j = 3 ∨ j = 4 ∨ j = 5 ∨ j = 6 ∨ j = 7) with e | e | e | e | e | e | e | e <;> subst e <;> rfl⟩⟩) (by rw [be8_len]; unfold maxLen; omega) (by rw [be8_len]; omega) ?_
        intro q8 k8 w8 own8 grow8 fr8
        have F8 := Lib.hid (F7.out.grow own8 grow8 fr8)
        have hB8 := (F7.out.grow own8 grow8 fr8).below
        have R8 := Lib.hid (R7.out.chg (Chg.grown grow8 (S := (Value.slice q n k1).ownBlock.toList) (fun g hg => Option.mem_toList.2 hg)) (fun hne g hg hgl hm => by have h1 := HRW.out.lt hne hg; have h2 := F7.out.fresh g (by simpa using hm); omega))
        clear own8 grow8 fr8
        refine hK.out _ _ (hB8) (fun h8 => ?_)
        clear hK K
        try simp only [Act.put, List.setIfInBounds_toArray, List.set_cons_zero, List.set_cons_succ]
        clear hB8
        refine wpAnyH_ready (rs := [13]) (by kernel_rfl) (by simp) ?_
        refine AllReadyH.cons (by rw [List.getElem?_toArray]; rfl) (fun K hK => ?_) AllReadyH.nil
        rw [if_pos (by rfl)]
        refine wp_append_row _ _ rfl Tryd.underlying64 hi.out hz0.out hz1.out hz2.out rfl F8.out.own (R8.out.src Tryd.underlying64) (by rw [HLB.out, be8_len]; unfold maxLen; omega) (by rw [HLB.out, be8_len]; omega) ?_
        intro q9 k9 w9 own9 grow9 fr9
        have F9 := Lib.hid (F8.out.grow own9 grow9 fr9)
        have hB9 := (F8.out.grow own9 grow9 fr9).below
        clear own9 grow9 fr9
        refine hK.out _ _ (hB9) (fun h9 => ?_)
        clear hK K
        try simp only [Act.put, List.setIfInBounds_toArray, List.set_cons_zero, List.set_cons_succ]
        clear hB9
        refine wpAnyH_take (i := 14) (v := ?_) (by rw [List.getElem?_toArray]; rfl) (by kernel_rfl) (by kernel_rfl) (by kernel_rfl) (by exact fun _ _ _ h => h) (Or.inl ⟨by rfl, ?_⟩) h9 ?_
        rotate_left
        · intro W hW
          go_simp
          all_goals with_reducible rfl
        try simp only [Act.put, List.setIfInBounds_toArray, List.set_cons_zero, List.set_cons_succ]
        refine wpAnyH_done (by kernel_rfl) ?_ _
        go_wp2_with fail
        go_roundw
        case rel =>
          refine ⟨i + 1, _, _, _, by go_num, by omega, rfl, ?_⟩
          show FrS _ _ _ _ _
          rw [HB.out, ← List.append_assoc, ← List.append_assoc, HLB.out]
          simpa only [be8_len, HLB.out] using F9.out
        case measure => simp [intOf]; omega
      · obtain rfl : i = L.length := by omega
        have hF := HF.out
        rw [List.take_length] at hF
        have HF2 := Lib.hid hF
        clear HF hF
        go_wp2_with fail
        go_ret
        refine ⟨_, _, _, rfl, ?_⟩
        have := HF2.out
        rw [← HSL.out] at this
        exact this
  · have hsz255 : (255 : Int) < (s.size : Int) := by omega
    have d1 : (255 : Int) ≤ (s.size : Int) := by omega
    go_wp2_with (refine wpList_make_own _ rfl _ _ _ rfl 0 _ _ _ _ Tryd.underlying64 hi.out hz0.out hz1.out _ _ _ 160 rfl rfl rfl ?da ?db ?dc ?_)
    (try case da => rw [hz2.out]; omega)
    (try case db => unfold maxLen; omega)
    (try case dc => omega)
    intro w1 own1 grow1
    have F1 : Hid (FrS w w1 (.slice (some ⟨w.heap.size, 0, none⟩) 0 160) [] 0) := ⟨own1, (by intro g hg; simp [Value.ownBlock] at hg; omega), (Below.refl _ _).grown grow1 (Nat.le_refl _) (by intro k hk; simp at hk)⟩
    clear own1 grow1
    go_wp2_with (at_builtin; refine wpList_append_row rfl _ _ rfl Tryd.underlying64 hi.out hz0.out hz1.out hz2.out rfl (F1.out.on ((Below.refl _ _).alloc (Nat.le_refl _) (.cells #[.int .u8 (t.size : Int)] 5))).own (Rd.src (xs := [(t.size : Int)]) Tryd.underlying64 ⟨_, 1, rfl, .inr ⟨w1.heap.size, 0, rfl, fun j hj => by obtain rfl : j = 0 := (by simpa using hj); exact (Joins.cell_of_block (heap_alloc_new w1 _) 0).trans rfl⟩⟩) ?dd ?de ?_)
    (try case dd => simp; unfold maxLen; omega)
    (try case de => simp)
    intro q2 k2 w2 own2 grow2 fr2
    have F2 := Lib.hid (FrS.grow (n := 0) (m := 1) (F1.out.on ((Below.refl _ _).alloc (Nat.le_refl _) (.cells #[.int .u8 (t.size : Int)] 5))) own2 grow2 (fr2.imp (fun h => h) (fun e => by rw [e]; simp)))
    clear own2 grow2 fr2
    go_wp2_with (at_builtin; refine wpList_append_row rfl _ _ rfl Tryd.underlying64 hi.out hz0.out hz1.out hz2.out rfl F2.out.own (src_str Tryd.underlying9 t) ?df ?dg ?_)
    (try case df => simp; unfold maxLen; omega)
    (try case dg => simp; omega)
    intro q3 k3 w3 own3 grow3 fr3
    have F3 := Lib.hid (FrS.grow (n := 1) (m := t.size) F2.out own3 grow3 fr3)
    clear own3 grow3 fr3 F1 F2 d1
    have H3 : Hid (FrS w w3 (.slice q3 (1 + t.size) k3) (((t.size : Int) :: sn t) ++ blobs (L.take 0)) (1 + t.size)) := by
      have := F3.out
      simp only [List.nil_append, List.cons_append] at this
      show FrS _ _ _ _ _
      simpa [blobs] using this
    clear F3
    go_wp2_with fail
    go_loopw [5, 6] (fun bv iv wr => ∃ (i n : Nat) (q : Option Addr) (k : Nat), iv = .int .i64 i ∧ i ≤ L.length ∧ bv = .slice q n k ∧ Hid (FrS w wr (.slice q n k) (((t.size : Int) :: sn t) ++ blobs (L.take i)) n)) (fun _ iv _ => L.length - (intOf iv).toNat)
    case atStart => exact ⟨0, _, _, _, rfl, by omega, rfl, H3⟩
    case round =>
      clear H3
      obtain ⟨i, n, q, k1, rfl, hil, rfl, HF⟩ := hrel
      by_cases hlt : i < L.length
      · have hbi := blobs_len hlt
        have hb2 := blobs_le L (i + 1)
        have hnl := HF.out.len
        simp only [List.length_append, List.length_cons] at hnl
        rw [HSL.out] at hnl
        have hnn : n + 8 + (L.getD i []).length ≤ 100000000001000 := by omega
        have HB := Lib.hid (blobs_take hlt)
        obtain ⟨b, off, r, m, kc, -, rfl, -, hc, rfl, hrd, -⟩ := HL.out.at hlt
        have HC := Lib.hid hc
        have HRW := Lib.hid hrd
        have HRD := Lib.hid (hrd.on HF.out.below)
        have i0 : (0 : Int) ≤ (i : Int) := by omega
        have i1 : (i : Int) < (L.length : Int) := by omega
        clear hc hrd hbi hb2 hnl
        generalize hxx : L.getD i [] = x at *
        clear hxx
        obtain ⟨lb, hlb⟩ : ∃ lb, x.length = lb := ⟨_, rfl⟩
        rw [hlb] at HC HRW HRD hnn
        have HLB := Lib.hid hlb
        clear hlb
        go_wp2_with fail
        refine wp_region_held_drew (S := fun W => Below w.heap.size w W) (by kernel_rfl) (HF.out.drew.below) (fun h0 => ?_)
        refine wpAnyH_take (i := 0) (v := ?_) (by rw [List.getElem?_toArray]; rfl) (by kernel_rfl) (by kernel_rfl) (by kernel_rfl) (by exact fun _ _ _ h => h) (Or.inl ⟨by rfl, ?_⟩) h0 ?_
        rotate_left
        · intro W hW
          go_simp
          all_goals with_reducible rfl
        try simp only [Act.put, List.setIfInBounds_toArray, List.set_cons_zero, List.set_cons_succ]
        refine wpAnyH_take (i := 1) (v := ?_) (by rw [List.getElem?_toArray]; rfl) (by kernel_rfl) (by kernel_rfl) (by kernel_rfl) (by exact fun _ _ _ h => h) (Or.inl ⟨by rfl, ?_⟩) h0 ?_
        rotate_left
        · intro W hW
          go_simp
          all_goals with_reducible rfl
        try simp only [Act.put, List.setIfInBounds_toArray, List.set_cons_zero, List.set_cons_succ]
        refine wpAnyH_take (i := 2) (v := ?_) (by rw [List.getElem?_toArray]; rfl) (by kernel_rfl) (by kernel_rfl) (by kernel_rfl) (by exact fun _ _ _ h => h) (Or.inl ⟨by rfl, ?_⟩) h0 ?_
        rotate_left
        · intro W hW
          go_simp
          all_goals with_reducible rfl
        try simp only [Act.put, List.setIfInBounds_toArray, List.set_cons_zero, List.set_cons_succ]
        refine wpAnyH_take (i := 3) (v := ?_) (by rw [List.getElem?_toArray]; rfl) (by kernel_rfl) (by kernel_rfl) (by kernel_rfl) (by exact fun _ _ _ h => h) (Or.inl ⟨by rfl, ?_⟩) h0 ?_
        rotate_left
        · intro W hW
          go_simp
          all_goals with_reducible rfl
        try simp only [Act.put, List.setIfInBounds_toArray, List.set_cons_zero, List.set_cons_succ]
        refine wpAnyH_take (i := 4) (v := ?_) (by rw [List.getElem?_toArray]; rfl) (by kernel_rfl) (by kernel_rfl) (by kernel_rfl) (by exact fun _ _ _ h => h) (Or.inl ⟨by rfl, ?_⟩) h0 ?_
        rotate_left
        · intro W hW
          have cc := oldW hW HC.out
          go_simp
          all_goals with_reducible rfl
        try simp only [Act.put, List.setIfInBounds_toArray, List.set_cons_zero, List.set_cons_succ]
        refine wpAnyH_take (i := 5) (v := ?_) (by rw [List.getElem?_toArray]; rfl) (by kernel_rfl) (by kernel_rfl) (by kernel_rfl) (by exact fun _ _ _ h => h) (Or.inl ⟨by rfl, ?_⟩) h0 ?_
        rotate_left
        · intro W hW
          go_simp
          all_goals with_reducible rfl
        try simp only [Act.put, List.setIfInBounds_toArray, List.set_cons_zero, List.set_cons_succ]
        refine wpAnyH_take (i := 6) (v := ?_) (by rw [List.getElem?_toArray]; rfl) (by kernel_rfl) (by kernel_rfl) (by kernel_rfl) (by exact fun _ _ _ h => h) (Or.inl ⟨by rfl, ?_⟩) h0 ?_
        rotate_left
        · intro W hW
          go_simp
          all_goals with_reducible rfl
        try simp only [Act.put, List.setIfInBounds_toArray, List.set_cons_zero, List.set_cons_succ]
        refine wpAnyH_take (i := 9) (v := ?_) (by rw [List.getElem?_toArray]; rfl) (by kernel_rfl) (by kernel_rfl) (by kernel_rfl) (by exact fun _ _ _ h => h) (Or.inl ⟨by rfl, ?_⟩) h0 ?_
        rotate_left
        · intro W hW
          go_simp
          all_goals with_reducible rfl
        try simp only [Act.put, List.setIfInBounds_toArray, List.set_cons_zero, List.set_cons_succ]
        refine wpAnyH_take (i := 10) (v := ?_) (by rw [List.getElem?_toArray]; rfl) (by kernel_rfl) (by kernel_rfl) (by kernel_rfl) (by exact fun _ _ _ h => h) (Or.inl ⟨by rfl, ?_⟩) h0 ?_
        rotate_left
        · intro W hW
          go_simp
          all_goals with_reducible rfl
        try simp only [Act.put, List.setIfInBounds_toArray, List.set_cons_zero, List.set_cons_succ]
        refine wpAnyH_take (i := 11) (v := ?_) (by rw [List.getElem?_toArray]; rfl) (by kernel_rfl) (by kernel_rfl) (by kernel_rfl) (by exact fun _ _ _ h => h) (Or.inl ⟨by rfl, ?_⟩) h0 ?_
        rotate_left
        · intro W hW
          go_simp
          all_goals with_reducible rfl
        try simp only [Act.put, List.setIfInBounds_toArray, List.set_cons_zero, List.set_cons_succ]
        refine wpAnyH_take (i := 12) (v := ?_) (by rw [List.getElem?_toArray]; rfl) (by kernel_rfl) (by kernel_rfl) (by kernel_rfl) (by exact fun _ _ _ h => h) (Or.inl ⟨by rfl, ?_⟩) h0 ?_
        rotate_left
        · intro W hW
          have cc := oldW hW HC.out
          go_simp
          all_goals with_reducible rfl
        try simp only [Act.put, List.setIfInBounds_toArray, List.set_cons_zero, List.set_cons_succ]
        refine wpAnyH_ready (rs := [7]) (by kernel_rfl) (by simp) ?_
        refine AllReadyH.cons (by rw [List.getElem?_toArray]; rfl) (fun K hK => ?_) AllReadyH.nil
        rw [if_pos (by rfl)]
        go_wp2_with fail
        refine (eight_any _ _).mono ?_
        rintro e w7 ⟨rfl, hb7, hbl7⟩
        have F7 := Lib.hid (HF.out.drew.on hbl7)
        have HB7 : Hid (w7.heap[wr.heap.size]? = some (.cells (bc (be8 (lb : Int))).toArray 5 (0, 0))) := hb7
        have R7 := Lib.hid (HRD.out.drew.on hbl7)
        go_wp2_with fail
        refine hK.out _ _ (h0.trans (hbl7.mono h0.size)) (fun h7 => ?_)
        clear hK K
        try simp only [Act.put, List.setIfInBounds_toArray, List.set_cons_zero, List.set_cons_succ]
        clear hb7 hbl7
        refine wpAnyH_ready (rs := [8]) (by kernel_rfl) (by simp) ?_
        refine AllReadyH.cons (by rw [List.getElem?_toArray]; rfl) (fun K hK => ?_) AllReadyH.nil
        rw [if_pos (by rfl)]
        refine wp_append_row _ _ rfl Tryd.underlying64 hi.out hz0.out hz1.out hz2.out rfl F7.out.own (Rd.src (xs := be8 (lb : Int)) Tryd.underlying64 ⟨_, 8, rfl, .inr ⟨wr.heap.size, 0, rfl, fun j hj => by rw [Nat.zero_add, Joins.cell_of_block HB7.out]; simp only [be8_len] at hj; rcases (by omega : j = 0 ∨ j = 1 ∨ j = 2 ∨ j = 3 ∨ j = 4 ∨ j = 5 ∨ j = 6 ∨ j = 7) with e | e | e | e | e | e | e | e <;> subst e <;> rfl⟩⟩) (by rw [be8_len]; unfold maxLen; omega) (by rw [be8_len]; omega) ?_
        intro q8 k8 w8 own8 grow8 fr8
        have F8 := Lib.hid (F7.out.grow own8 grow8 fr8)
        have hB8 := (F7.out.grow own8 grow8 fr8).below
        have R8 := Lib.hid (R7.out.chg (Chg.grown grow8 (S := (Value.slice q n k1).ownBlock.toList) (fun g hg => Option.mem_toList.2 hg)) (fun hne g hg hgl hm => by have h1 := HRW.out.lt hne hg; have h2 := F7.out.fresh g (by simpa using hm); omega))
        clear own8 grow8 fr8
        refine hK.out _ _ (hB8) (fun h8 => ?_)
        clear hK K
        try simp only [Act.put, List.setIfInBounds_toArray, List.set_cons_zero, List.set_cons_succ]
        clear hB8
        refine wpAnyH_ready (rs := [13]) (by kernel_rfl) (by simp) ?_
        refine AllReadyH.cons (by rw [List.getElem?_toArray]; rfl) (fun K hK => ?_) AllReadyH.nil
        rw [if_pos (by rfl)]
        refine wp_append_row _ _ rfl Tryd.underlying64 hi.out hz0.out hz1.out hz2.out rfl F8.out.own (R8.out.src Tryd.underlying64) (by rw [HLB.out, be8_len]; unfold maxLen; omega) (by rw [HLB.out, be8_len]; omega) ?_
        intro q9 k9 w9 own9 grow9 fr9
        have F9 := Lib.hid (F8.out.grow own9 grow9 fr9)
        have hB9 := (F8.out.grow own9 grow9 fr9).below
        clear own9 grow9 fr9
        refine hK.out _ _ (hB9) (fun h9 => ?_)
        clear hK K
        try simp only [Act.put, List.setIfInBounds_toArray, List.set_cons_zero, List.set_cons_succ]
        clear hB9
        refine wpAnyH_take (i := 14) (v := ?_) (by rw [List.getElem?_toArray]; rfl) (by kernel_rfl) (by kernel_rfl) (by kernel_rfl) (by exact fun _ _ _ h => h) (Or.inl ⟨by rfl, ?_⟩) h9 ?_
        rotate_left
        · intro W hW
          go_simp
          all_goals with_reducible rfl
        try simp only [Act.put, List.setIfInBounds_toArray, List.set_cons_zero, List.set_cons_succ]
        refine wpAnyH_done (by kernel_rfl) ?_ _
        go_wp2_with fail
        go_roundw
        case rel =>
          refine ⟨i + 1, _, _, _, by go_num, by omega, rfl, ?_⟩
          show FrS _ _ _ _ _
          rw [HB.out, ← List.append_assoc, ← List.append_assoc, HLB.out]
          simpa only [be8_len, HLB.out] using F9.out
        case measure => simp [intOf]; omega
      · obtain rfl : i = L.length := by omega
        have hF := HF.out
        rw [List.take_length] at hF
        have HF2 := Lib.hid hF
        clear HF hF
        go_wp2_with fail
        go_ret
        refine ⟨_, _, _, rfl, ?_⟩
        have := HF2.out
        rw [← HSL.out] at this
        exact this
end Go.Proofs.YtjgfjmkfcippcaaDoor
