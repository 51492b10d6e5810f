/-
  The walks of basculeref02: Frame.; SHA-256, plain: what the document's spelling and the program's have in common.; The walk of basculeref02.turn.; The walk of basculeref02.block.
-/
import Derived.Laws.BitsAllLaws
import Derived.Test.YtjlodnecdngdfaaDoorSy1
import Derived.Test.YtjlodnecdngdfaaDoorSy2
namespace Go.Proofs.YtjlodnecdngdfaaDoor
open Go.RowKit
set_option maxRecDepth 100000

theorem oldW {w W : World} (hb : Below w.heap.size w W) {p : Addr} {v : Value} (hc : w.cell? p = some v) : W.cell? p = some v := by
  rw [hb.cell (World.block_lt_of_cell? w p hc)]; exact hc
/-- A row that the call itself lays, and appends to. -/
structure FrS (w wr : World) (v : Value) (xs : List Int) (n : Nat) : Prop where
  own : wr.ownsRow 0 5 1 v n (bc xs)
  fresh : ∀ g, v.ownBlock = some g → w.heap.size ≤ g
  below : Below w.heap.size w wr
theorem FrS.len {w wr : World} {v : Value} {xs : List Int} {n : Nat} (h : FrS w wr v xs n) : xs.length = n := by have := h.own.1; simpa using this
theorem FrS.on {w wr w1 : World} {v : Value} {xs : List Int} {n : Nat} (h : FrS w wr v xs n) (hb : Below wr.heap.size wr w1) : FrS w w1 v xs n :=
  ⟨own_on h.own hb, h.fresh, h.below.trans (hb.mono h.below.size)⟩
theorem FrS.drew {w wr : World} {v : Value} {xs : List Int} {n : Nat} (h : FrS w wr v xs n) : FrS w wr.drew v xs n := h.on (Below.refl _ _).drew
theorem FrS.grow {w wr w2 : World} {v v' : Value} {xs ys : List Int} {n m : Nat} (h : FrS w wr v xs n) (own : w2.ownsRow 0 5 1 v' (n + m) (bc xs ++ bc ys)) (grow : wr.grownBy w2 v.ownBlock) (fr : v'.ownBlock = v.ownBlock ∨ v'.ownBlock = some wr.heap.size) : FrS w w2 v' (xs ++ ys) (n + m) := by
  refine ⟨by rw [bc_append]; exact own, fun g hg => ?_, h.below.grown grow h.below.size (fun k hk => h.fresh k hk)⟩
  rcases fr with e | e
  · rw [e] at hg; exact h.fresh g hg
  · rw [e] at hg; have := h.below.size; simp at hg; omega
theorem FrS.rd {w wr : World} {v : Value} {xs : List Int} {n : Nat} (h : FrS w wr v xs n) : Rd wr v xs := by
  have := h.len; subst this
  exact rd_of_row h.own
theorem sn_cells (s : ByteArray) : byteCells s = bc (sn s) := by simp [byteCells, bc, sn]
theorem src_str {P : Program} {w : World} {tx : TypeId} (hk : P.underlying tx = some .string) (t : ByteArray) : Src P 1 tx (.string t) t.size (bc (sn t)) w := by
  rw [← sn_cells]; exact Src.ofString w hk t

set_option maxHeartbeats 8000000 in
theorem refFrame_any {w : World} {s t : ByteArray} {v : Value} {L : List (List Int)} (hL : RdL w v L []) (hs : s.size ≤ maxLen) (hst : cut255 s = t) (hn : (frm (sn t) L).length ≤ 100000000000000) :
    Calls Tryd.prog 87 #[.string s, v] w fun e w' => ∃ q n c, e = .returned (.slice q n c) ∧ FrS w w' (.slice q n c) (frm (sn t) L) n := by
  have h255 : t.size ≤ 255 := by rw [← hst]; exact cut_size s
  unfold maxLen at hs
  have hcut : (s.size ≤ 255 ∧ s = t) ∨ (255 < s.size ∧ s.extract 0 255 = t) := by
    by_cases h : s.size ≤ 255
    · exact .inl ⟨h, by rw [← hst]; exact (if_pos h).symm⟩
    · exact .inr ⟨by omega, by rw [← hst]; exact (if_neg h).symm⟩
  clear hst
  obtain ⟨qL, cL, rfl⟩ : ∃ q c, v = .slice q L.length c := by obtain ⟨q, c, e, _⟩ := hL; exact ⟨q, c, e⟩
  obtain ⟨i0, hi, hz0, hz1, hz2⟩ := info_parts Tryd.infoU8
  have HL := Lib.hid hL
  replace hi := Lib.hid hi
  replace hz0 := Lib.hid hz0
  replace hz1 := Lib.hid hz1
  replace hz2 := Lib.hid hz2
  have hsl := sn_len t
  have HSL := Lib.hid hsl
  have hfl := frm_len (sn t) L
  have hbl : t.size + (blobs L).length ≤ 100000000000000 := by omega
  have hmany := blobs_many L
  have hLn : L.length ≤ 100000000000000 := by omega
  clear hL hsl hfl hn hmany
  go_enter Tryd.func87, Tryd.ntmps87
  rcases hcut with ⟨hc1, hc2⟩ | ⟨hc1, hc2⟩
  · obtain hc3 := hc2.symm
    subst hc3
    have d1 : ¬ (255 < (t.size : Int)) := by omega
    go_wp2_with (refine wpList_make_own _ rfl _ _ _ rfl 0 _ _ _ _ Tryd.underlying82 hi.out hz0.out hz1.out _ _ _ 160 rfl rfl rfl ?ca ?cb ?cc ?_)
    (try case ca => rw [hz2.out]; omega)
    (try case cb => unfold maxLen; omega)
    (try case cc => omega)
    intro w1 own1 grow1
    have F1 : Hid (FrS w w1 (.slice (some ⟨w.heap.size, 0, none⟩) 0 160) [] 0) := ⟨own1, (by intro g hg; simp [Value.ownBlock] at hg; omega), (Below.refl _ _).grown grow1 (Nat.le_refl _) (by intro k hk; simp at hk)⟩
    clear own1 grow1
    go_wp2_with (at_builtin; refine wpList_append_row rfl _ _ rfl Tryd.underlying82 hi.out hz0.out hz1.out hz2.out rfl (F1.out.on ((Below.refl _ _).alloc (Nat.le_refl _) (.cells #[.int .u8 (t.size : Int)] 5))).own (Rd.src (xs := [(t.size : Int)]) Tryd.underlying82 ⟨_, 1, rfl, .inr ⟨w1.heap.size, 0, rfl, fun j hj => by obtain rfl : j = 0 := (by simpa using hj); exact (Joins.cell_of_block (heap_alloc_new w1 _) 0).trans rfl⟩⟩) ?cd ?ce ?_)
    (try case cd => simp; unfold maxLen; omega)
    (try case ce => simp)
    intro q2 k2 w2 own2 grow2 fr2
    have F2 := Lib.hid (FrS.grow (n := 0) (m := 1) (F1.out.on ((Below.refl _ _).alloc (Nat.le_refl _) (.cells #[.int .u8 (t.size : Int)] 5))) own2 grow2 (fr2.imp (fun h => h) (fun e => by rw [e]; simp)))
    clear own2 grow2 fr2
    go_wp2_with (at_builtin; refine wpList_append_row rfl _ _ rfl Tryd.underlying82 hi.out hz0.out hz1.out hz2.out rfl F2.out.own (src_str Tryd.underlying9 t) ?cf ?cg ?_)
    (try case cf => simp; unfold maxLen; omega)
    (try case cg => simp; omega)
    intro q3 k3 w3 own3 grow3 fr3
    have F3 := Lib.hid (FrS.grow (n := 1) (m := t.size) F2.out own3 grow3 fr3)
    clear own3 grow3 fr3 F1 F2 d1
    have H3 : Hid (FrS w w3 (.slice q3 (1 + t.size) k3) (((t.size : Int) :: sn t) ++ blobs (L.take 0)) (1 + t.size)) := by
      have := F3.out
      simp only [List.nil_append, List.cons_append] at this
      show FrS _ _ _ _ _
      simpa [blobs] using this
    clear F3
    go_wp2_with fail
    go_loopw [5, 6] (fun bv iv wr => ∃ (i n : Nat) (q : Option Addr) (k : Nat), iv = .int .i64 i ∧ i ≤ L.length ∧ bv = .slice q n k ∧ Hid (FrS w wr (.slice q n k) (((t.size : Int) :: sn t) ++ blobs (L.take i)) n)) (fun _ iv _ => L.length - (intOf iv).toNat)
    case atStart => exact ⟨0, _, _, _, rfl, by omega, rfl, H3⟩
    case round =>
      clear H3
      obtain ⟨i, n, q, k1, rfl, hil, rfl, HF⟩ := hrel
      by_cases hlt : i < L.length
      · have hbi := blobs_len hlt
        have hb2 := blobs_le L (i + 1)
        have hnl := HF.out.len
        simp only [List.length_append, List.length_cons] at hnl
        rw [HSL.out] at hnl
        have hnn : n + 8 + (L.getD i []).length ≤ 100000000001000 := by omega
        have HB := Lib.hid (blobs_take hlt)
        obtain ⟨b, off, r, m, kc, -, rfl, -, hc, rfl, hrd, -⟩ := HL.out.at hlt
        have HC := Lib.hid hc
        have HRW := Lib.hid hrd
        have HRD := Lib.hid (hrd.on HF.out.below)
        have i0 : (0 : Int) ≤ (i : Int) := by omega
        have i1 : (i : Int) < (L.length : Int) := by omega
        clear hc hrd hbi hb2 hnl
        generalize hxx : L.getD i [] = x at *
        clear hxx
        obtain ⟨lb, hlb⟩ : ∃ lb, x.length = lb := ⟨_, rfl⟩
        rw [hlb] at HC HRW HRD hnn
        have HLB := Lib.hid hlb
        clear hlb
        go_wp2_with fail
        refine wp_region_held_drew (S := fun W => Below w.heap.size w W) (by kernel_rfl) (HF.out.drew.below) (fun h0 => ?_)
        refine wpAnyH_take (i := 0) (v := ?_) (by rw [List.getElem?_toArray]; rfl) (by kernel_rfl) (by kernel_rfl) (by kernel_rfl) (by exact fun _ _ _ h => h) (Or.inl ⟨by rfl, ?_⟩) h0 ?_
        rotate_left
        · intro W hW
          go_simp
          all_goals with_reducible rfl
        try simp only [Act.put, List.setIfInBounds_toArray, List.set_cons_zero, List.set_cons_succ]
        refine wpAnyH_take (i := 1) (v := ?_) (by rw [List.getElem?_toArray]; rfl) (by kernel_rfl) (by kernel_rfl) (by kernel_rfl) (by exact fun _ _ _ h => h) (Or.inl ⟨by rfl, ?_⟩) h0 ?_
        rotate_left
        · intro W hW
          go_simp
          all_goals with_reducible rfl
        try simp only [Act.put, List.setIfInBounds_toArray, List.set_cons_zero, List.set_cons_succ]
        refine wpAnyH_take (i := 2) (v := ?_) (by rw [List.getElem?_toArray]; rfl) (by kernel_rfl) (by kernel_rfl) (by kernel_rfl) (by exact fun _ _ _ h => h) (Or.inl ⟨by rfl, ?_⟩) h0 ?_
        rotate_left
        · intro W hW
          go_simp
          all_goals with_reducible rfl
        try simp only [Act.put, List.setIfInBounds_toArray, List.set_cons_zero, List.set_cons_succ]
        refine wpAnyH_take (i := 3) (v := ?_) (by rw [List.getElem?_toArray]; rfl) (by kernel_rfl) (by kernel_rfl) (by kernel_rfl) (by exact fun _ _ _ h => h) (Or.inl ⟨by rfl, ?_⟩) h0 ?_
        rotate_left
        · intro W hW
          go_simp
          all_goals with_reducible rfl
        try simp only [Act.put, List.setIfInBounds_toArray, List.set_cons_zero, List.set_cons_succ]
        refine wpAnyH_take (i := 4) (v := ?_) (by rw [List.getElem?_toArray]; rfl) (by kernel_rfl) (by kernel_rfl) (by kernel_rfl) (by exact fun _ _ _ h => h) (Or.inl ⟨by rfl, ?_⟩) h0 ?_
        rotate_left
        · intro W hW
          have cc := oldW hW HC.out
          go_simp
          all_goals with_reducible rfl
        try simp only [Act.put, List.setIfInBounds_toArray, List.set_cons_zero, List.set_cons_succ]
        refine wpAnyH_take (i := 5) (v := ?_) (by rw [List.getElem?_toArray]; rfl) (by kernel_rfl) (by kernel_rfl) (by kernel_rfl) (by exact fun _ _ _ h => h) (Or.inl ⟨by rfl, ?_⟩) h0 ?_
        rotate_left
        · intro W hW
          go_simp
          all_goals with_reducible rfl
        try simp only [Act.put, List.setIfInBounds_toArray, List.set_cons_zero, List.set_cons_succ]
        refine wpAnyH_take (i := 6) (v := ?_) (by rw [List.getElem?_toArray]; rfl) (by kernel_rfl) (by kernel_rfl) (by kernel_rfl) (by exact fun _ _ _ h => h) (Or.inl ⟨by rfl, ?_⟩) h0 ?_
        rotate_left
        · intro W hW
          go_simp
          all_goals with_reducible rfl
        try simp only [Act.put, List.setIfInBounds_toArray, List.set_cons_zero, List.set_cons_succ]
        refine wpAnyH_take (i := 9) (v := ?_) (by rw [List.getElem?_toArray]; rfl) (by kernel_rfl) (by kernel_rfl) (by kernel_rfl) (by exact fun _ _ _ h => h) (Or.inl ⟨by rfl, ?_⟩) h0 ?_
        rotate_left
        · intro W hW
          go_simp
          all_goals with_reducible rfl
        try simp only [Act.put, List.setIfInBounds_toArray, List.set_cons_zero, List.set_cons_succ]
        refine wpAnyH_take (i := 10) (v := ?_) (by rw [List.getElem?_toArray]; rfl) (by kernel_rfl) (by kernel_rfl) (by kernel_rfl) (by exact fun _ _ _ h => h) (Or.inl ⟨by rfl, ?_⟩) h0 ?_
        rotate_left
        · intro W hW
          go_simp
          all_goals with_reducible rfl
        try simp only [Act.put, List.setIfInBounds_toArray, List.set_cons_zero, List.set_cons_succ]
        refine wpAnyH_take (i := 11) (v := ?_) (by rw [List.getElem?_toArray]; rfl) (by kernel_rfl) (by kernel_rfl) (by kernel_rfl) (by exact fun _ _ _ h => h) (Or.inl ⟨by rfl, ?_⟩) h0 ?_
        rotate_left
        · intro W hW
          go_simp
          all_goals with_reducible rfl
        try simp only [Act.put, List.setIfInBounds_toArray, List.set_cons_zero, List.set_cons_succ]
        refine wpAnyH_take (i := 12) (v := ?_) (by rw [List.getElem?_toArray]; rfl) (by kernel_rfl) (by kernel_rfl) (by kernel_rfl) (by exact fun _ _ _ h => h) (Or.inl ⟨by rfl, ?_⟩) h0 ?_
        rotate_left
        · intro W hW
          have cc := oldW hW HC.out
          go_simp
          all_goals with_reducible rfl
        try simp only [Act.put, List.setIfInBounds_toArray, List.set_cons_zero, List.set_cons_succ]
        refine wpAnyH_ready (rs := [7]) (by kernel_rfl) (by simp) ?_
        refine AllReadyH.cons (by rw [List.getElem?_toArray]; rfl) (fun K hK => ?_) AllReadyH.nil
        rw [if_pos (by rfl)]
        go_wp2_with fail
        refine (eight_any _ _).mono ?_
        rintro e w7 ⟨rfl, hb7, hbl7⟩
        have F7 := Lib.hid (HF.out.drew.on hbl7)
        have HB7 : Hid (w7.heap[wr.heap.size]? = some (.cells (bc (be8 (lb : Int))).toArray 5 (0, 0))) := hb7
        have R7 := Lib.hid (HRD.out.drew.on hbl7)
        go_wp2_with fail
        refine hK.out _ _ (h0.trans (hbl7.mono h0.size)) (fun h7 => ?_)
        clear hK K
        try simp only [Act.put, List.setIfInBounds_toArray, List.set_cons_zero, List.set_cons_succ]
        clear hb7 hbl7
        refine wpAnyH_ready (rs := [8]) (by kernel_rfl) (by simp) ?_
        refine AllReadyH.cons (by rw [List.getElem?_toArray]; rfl) (fun K hK => ?_) AllReadyH.nil
        rw [if_pos (by rfl)]
        refine wp_append_row _ _ rfl Tryd.underlying82 hi.out hz0.out hz1.out hz2.out rfl F7.out.own (Rd.src (xs := be8 (lb : Int)) Tryd.underlying82 ⟨_, 8, rfl, .inr ⟨wr.heap.size, 0, rfl, fun j hj => by rw [Nat.zero_add, Joins.cell_of_block HB7.out]; simp only [be8_len] at hj; rcases (by omega : j = 0 ∨ j = 1 ∨ j = 2 ∨ j = 3 ∨ j = 4 ∨ j = 5 ∨ j = 6 ∨ j = 7) with e | e | e | e | e | e | e | e <;> subst e <;> rfl⟩⟩) (by rw [be8_len]; unfold maxLen; omega) (by rw [be8_len]; omega) ?_
        intro q8 k8 w8 own8 grow8 fr8
        have F8 := Lib.hid (F7.out.grow own8 grow8 fr8)
        have hB8 := (F7.out.grow own8 grow8 fr8).below
        have R8 := Lib.hid (R7.out.chg (Chg.grown grow8 (S := (Value.slice q n k1).ownBlock.toList) (fun g hg => Option.mem_toList.2 hg)) (fun hne g hg hgl hm => by have h1 := HRW.out.lt hne hg; have h2 := F7.out.fresh g (by simpa using hm); omega))
        clear own8 grow8 fr8
        refine hK.out _ _ (hB8) (fun h8 => ?_)
        clear hK K
        try simp only [Act.put, List.setIfInBounds_toArray, List.set_cons_zero, List.set_cons_succ]
        clear hB8
        refine wpAnyH_ready (rs := [13]) (by kernel_rfl) (by simp) ?_
        refine AllReadyH.cons (by rw [List.getElem?_toArray]; rfl) (fun K hK => ?_) AllReadyH.nil
        rw [if_pos (by rfl)]
        refine wp_append_row _ _ rfl Tryd.underlying82 hi.out hz0.out hz1.out hz2.out rfl F8.out.own (R8.out.src Tryd.underlying82) (by rw [HLB.out, be8_len]; unfold maxLen; omega) (by rw [HLB.out, be8_len]; omega) ?_
        intro q9 k9 w9 own9 grow9 fr9
        have F9 := Lib.hid (F8.out.grow own9 grow9 fr9)
        have hB9 := (F8.out.grow own9 grow9 fr9).below
        clear own9 grow9 fr9
        refine hK.out _ _ (hB9) (fun h9 => ?_)
        clear hK K
        try simp only [Act.put, List.setIfInBounds_toArray, List.set_cons_zero, List.set_cons_succ]
        clear hB9
        refine wpAnyH_take (i := 14) (v := ?_) (by rw [List.getElem?_toArray]; rfl) (by kernel_rfl) (by kernel_rfl) (by kernel_rfl) (by exact fun _ _ _ h => h) (Or.inl ⟨by rfl, ?_⟩) h9 ?_
        rotate_left
        · intro W hW
          go_simp
          all_goals with_reducible rfl
        try simp only [Act.put, List.setIfInBounds_toArray, List.set_cons_zero, List.set_cons_succ]
        refine wpAnyH_done (by kernel_rfl) ?_ _
        go_wp2_with fail
        go_roundw
        case rel =>
          refine ⟨i + 1, _, _, _, by go_num, by omega, rfl, ?_⟩
          show FrS _ _ _ _ _
          rw [HB.out, ← List.append_assoc, ← List.append_assoc, HLB.out]
          simpa only [be8_len, HLB.out] using F9.out
        case measure => simp [intOf]; omega
      · obtain rfl : i = L.length := by omega
        have hF := HF.out
        rw [List.take_length] at hF
        have HF2 := Lib.hid hF
        clear HF hF
        go_wp2_with fail
        go_ret
        refine ⟨_, _, _, rfl, ?_⟩
        have := HF2.out
        rw [← HSL.out] at this
        exact this
  · have hsz255 : (255 : Int) < (s.size : Int) := by omega
    have d1 : (255 : Int) ≤ (s.size : Int) := by omega
    go_wp2_with (refine wpList_make_own _ rfl _ _ _ rfl 0 _ _ _ _ Tryd.underlying82 hi.out hz0.out hz1.out _ _ _ 160 rfl rfl rfl ?da ?db ?dc ?_)
    (try case da => rw [hz2.out]; omega)
    (try case db => unfold maxLen; omega)
    (try case dc => omega)
    intro w1 own1 grow1
    have F1 : Hid (FrS w w1 (.slice (some ⟨w.heap.size, 0, none⟩) 0 160) [] 0) := ⟨own1, (by intro g hg; simp [Value.ownBlock] at hg; omega), (Below.refl _ _).grown grow1 (Nat.le_refl _) (by intro k hk; simp at hk)⟩
    clear own1 grow1
    go_wp2_with (at_builtin; refine wpList_append_row rfl _ _ rfl Tryd.underlying82 hi.out hz0.out hz1.out hz2.out rfl (F1.out.on ((Below.refl _ _).alloc (Nat.le_refl _) (.cells #[.int .u8 (t.size : Int)] 5))).own (Rd.src (xs := [(t.size : Int)]) Tryd.underlying82 ⟨_, 1, rfl, .inr ⟨w1.heap.size, 0, rfl, fun j hj => by obtain rfl : j = 0 := (by simpa using hj); exact (Joins.cell_of_block (heap_alloc_new w1 _) 0).trans rfl⟩⟩) ?dd ?de ?_)
    (try case dd => simp; unfold maxLen; omega)
    (try case de => simp)
    intro q2 k2 w2 own2 grow2 fr2
    have F2 := Lib.hid (FrS.grow (n := 0) (m := 1) (F1.out.on ((Below.refl _ _).alloc (Nat.le_refl _) (.cells #[.int .u8 (t.size : Int)] 5))) own2 grow2 (fr2.imp (fun h => h) (fun e => by rw [e]; simp)))
    clear own2 grow2 fr2
    go_wp2_with (at_builtin; refine wpList_append_row rfl _ _ rfl Tryd.underlying82 hi.out hz0.out hz1.out hz2.out rfl F2.out.own (src_str Tryd.underlying9 t) ?df ?dg ?_)
    (try case df => simp; unfold maxLen; omega)
    (try case dg => simp; omega)
    intro q3 k3 w3 own3 grow3 fr3
    have F3 := Lib.hid (FrS.grow (n := 1) (m := t.size) F2.out own3 grow3 fr3)
    clear own3 grow3 fr3 F1 F2 d1
    have H3 : Hid (FrS w w3 (.slice q3 (1 + t.size) k3) (((t.size : Int) :: sn t) ++ blobs (L.take 0)) (1 + t.size)) := by
      have := F3.out
      simp only [List.nil_append, List.cons_append] at this
      show FrS _ _ _ _ _
      simpa [blobs] using this
    clear F3
    go_wp2_with fail
    go_loopw [5, 6] (fun bv iv wr => ∃ (i n : Nat) (q : Option Addr) (k : Nat), iv = .int .i64 i ∧ i ≤ L.length ∧ bv = .slice q n k ∧ Hid (FrS w wr (.slice q n k) (((t.size : Int) :: sn t) ++ blobs (L.take i)) n)) (fun _ iv _ => L.length - (intOf iv).toNat)
    case atStart => exact ⟨0, _, _, _, rfl, by omega, rfl, H3⟩
    case round =>
      clear H3
      obtain ⟨i, n, q, k1, rfl, hil, rfl, HF⟩ := hrel
      by_cases hlt : i < L.length
      · have hbi := blobs_len hlt
        have hb2 := blobs_le L (i + 1)
        have hnl := HF.out.len
        simp only [List.length_append, List.length_cons] at hnl
        rw [HSL.out] at hnl
        have hnn : n + 8 + (L.getD i []).length ≤ 100000000001000 := by omega
        have HB := Lib.hid (blobs_take hlt)
        obtain ⟨b, off, r, m, kc, -, rfl, -, hc, rfl, hrd, -⟩ := HL.out.at hlt
        have HC := Lib.hid hc
        have HRW := Lib.hid hrd
        have HRD := Lib.hid (hrd.on HF.out.below)
        have i0 : (0 : Int) ≤ (i : Int) := by omega
        have i1 : (i : Int) < (L.length : Int) := by omega
        clear hc hrd hbi hb2 hnl
        generalize hxx : L.getD i [] = x at *
        clear hxx
        obtain ⟨lb, hlb⟩ : ∃ lb, x.length = lb := ⟨_, rfl⟩
        rw [hlb] at HC HRW HRD hnn
        have HLB := Lib.hid hlb
        clear hlb
        go_wp2_with fail
        refine wp_region_held_drew (S := fun W => Below w.heap.size w W) (by kernel_rfl) (HF.out.drew.below) (fun h0 => ?_)
        refine wpAnyH_take (i := 0) (v := ?_) (by rw [List.getElem?_toArray]; rfl) (by kernel_rfl) (by kernel_rfl) (by kernel_rfl) (by exact fun _ _ _ h => h) (Or.inl ⟨by rfl, ?_⟩) h0 ?_
        rotate_left
        · intro W hW
          go_simp
          all_goals with_reducible rfl
        try simp only [Act.put, List.setIfInBounds_toArray, List.set_cons_zero, List.set_cons_succ]
        refine wpAnyH_take (i := 1) (v := ?_) (by rw [List.getElem?_toArray]; rfl) (by kernel_rfl) (by kernel_rfl) (by kernel_rfl) (by exact fun _ _ _ h => h) (Or.inl ⟨by rfl, ?_⟩) h0 ?_
        rotate_left
        · intro W hW
          go_simp
          all_goals with_reducible rfl
        try simp only [Act.put, List.setIfInBounds_toArray, List.set_cons_zero, List.set_cons_succ]
        refine wpAnyH_take (i := 2) (v := ?_) (by rw [List.getElem?_toArray]; rfl) (by kernel_rfl) (by kernel_rfl) (by kernel_rfl) (by exact fun _ _ _ h => h) (Or.inl ⟨by rfl, ?_⟩) h0 ?_
        rotate_left
        · intro W hW
          go_simp
          all_goals with_reducible rfl
        try simp only [Act.put, List.setIfInBounds_toArray, List.set_cons_zero, List.set_cons_succ]
        refine wpAnyH_take (i := 3) (v := ?_) (by rw [List.getElem?_toArray]; rfl) (by kernel_rfl) (by kernel_rfl) (by kernel_rfl) (by exact fun _ _ _ h => h) (Or.inl ⟨by rfl, ?_⟩) h0 ?_
        rotate_left
        · intro W hW
          go_simp
          all_goals with_reducible rfl
        try simp only [Act.put, List.setIfInBounds_toArray, List.set_cons_zero, List.set_cons_succ]
        refine wpAnyH_take (i := 4) (v := ?_) (by rw [List.getElem?_toArray]; rfl) (by kernel_rfl) (by kernel_rfl) (by kernel_rfl) (by exact fun _ _ _ h => h) (Or.inl ⟨by rfl, ?_⟩) h0 ?_
        rotate_left
        · intro W hW
          have cc := oldW hW HC.out
          go_simp
          all_goals with_reducible rfl
        try simp only [Act.put, List.setIfInBounds_toArray, List.set_cons_zero, List.set_cons_succ]
        refine wpAnyH_take (i := 5) (v := ?_) (by rw [List.getElem?_toArray]; rfl) (by kernel_rfl) (by kernel_rfl) (by kernel_rfl) (by exact fun _ _ _ h => h) (Or.inl ⟨by rfl, ?_⟩) h0 ?_
        rotate_left
        · intro W hW
          go_simp
          all_goals with_reducible rfl
        try simp only [Act.put, List.setIfInBounds_toArray, List.set_cons_zero, List.set_cons_succ]
        refine wpAnyH_take (i := 6) (v := ?_) (by rw [List.getElem?_toArray]; rfl) (by kernel_rfl) (by kernel_rfl) (by kernel_rfl) (by exact fun _ _ _ h => h) (Or.inl ⟨by rfl, ?_⟩) h0 ?_
        rotate_left
        · intro W hW
          go_simp
          all_goals with_reducible rfl
        try simp only [Act.put, List.setIfInBounds_toArray, List.set_cons_zero, List.set_cons_succ]
        refine wpAnyH_take (i := 9) (v := ?_) (by rw [List.getElem?_toArray]; rfl) (by kernel_rfl) (by kernel_rfl) (by kernel_rfl) (by exact fun _ _ _ h => h) (Or.inl ⟨by rfl, ?_⟩) h0 ?_
        rotate_left
        · intro W hW
          go_simp
          all_goals with_reducible rfl
        try simp only [Act.put, List.setIfInBounds_toArray, List.set_cons_zero, List.set_cons_succ]
        refine wpAnyH_take (i := 10) (v := ?_) (by rw [List.getElem?_toArray]; rfl) (by kernel_rfl) (by kernel_rfl) (by kernel_rfl) (by exact fun _ _ _ h => h) (Or.inl ⟨by rfl, ?_⟩) h0 ?_
        rotate_left
        · intro W hW
          go_simp
          all_goals with_reducible rfl
        try simp only [Act.put, List.setIfInBounds_toArray, List.set_cons_zero, List.set_cons_succ]
        refine wpAnyH_take (i := 11) (v := ?_) (by rw [List.getElem?_toArray]; rfl) (by kernel_rfl) (by kernel_rfl) (by kernel_rfl) (by exact fun _ _ _ h => h) (Or.inl ⟨by rfl, ?_⟩) h0 ?_
        rotate_left
        · intro W hW
          go_simp
          all_goals with_reducible rfl
        try simp only [Act.put, List.setIfInBounds_toArray, List.set_cons_zero, List.set_cons_succ]
        refine wpAnyH_take (i := 12) (v := ?_) (by rw [List.getElem?_toArray]; rfl) (by kernel_rfl) (by kernel_rfl) (by kernel_rfl) (by exact fun _ _ _ h => h) (Or.inl ⟨by rfl, ?_⟩) h0 ?_
        rotate_left
        · intro W hW
          have cc := oldW hW HC.out
          go_simp
          all_goals with_reducible rfl
        try simp only [Act.put, List.setIfInBounds_toArray, List.set_cons_zero, List.set_cons_succ]
        refine wpAnyH_ready (rs := [7]) (by kernel_rfl) (by simp) ?_
        refine AllReadyH.cons (by rw [List.getElem?_toArray]; rfl) (fun K hK => ?_) AllReadyH.nil
        rw [if_pos (by rfl)]
        go_wp2_with fail
        refine (eight_any _ _).mono ?_
        rintro e w7 ⟨rfl, hb7, hbl7⟩
        have F7 := Lib.hid (HF.out.drew.on hbl7)
        have HB7 : Hid (w7.heap[wr.heap.size]? = some (.cells (bc (be8 (lb : Int))).toArray 5 (0, 0))) := hb7
        have R7 := Lib.hid (HRD.out.drew.on hbl7)
        go_wp2_with fail
        refine hK.out _ _ (h0.trans (hbl7.mono h0.size)) (fun h7 => ?_)
        clear hK K
        try simp only [Act.put, List.setIfInBounds_toArray, List.set_cons_zero, List.set_cons_succ]
        clear hb7 hbl7
        refine wpAnyH_ready (rs := [8]) (by kernel_rfl) (by simp) ?_
        refine AllReadyH.cons (by rw [List.getElem?_toArray]; rfl) (fun K hK => ?_) AllReadyH.nil
        rw [if_pos (by rfl)]
        refine wp_append_row _ _ rfl Tryd.underlying82 hi.out hz0.out hz1.out hz2.out rfl F7.out.own (Rd.src (xs := be8 (lb : Int)) Tryd.underlying82 ⟨_, 8, rfl, .inr ⟨wr.heap.size, 0, rfl, fun j hj => by rw [Nat.zero_add, Joins.cell_of_block HB7.out]; simp only [be8_len] at hj; rcases (by omega : j = 0 ∨ j = 1 ∨ j = 2 ∨ j = 3 ∨ j = 4 ∨ j = 5 ∨ j = 6 ∨ j = 7) with e | e | e | e | e | e | e | e <;> subst e <;> rfl⟩⟩) (by rw [be8_len]; unfold maxLen; omega) (by rw [be8_len]; omega) ?_
        intro q8 k8 w8 own8 grow8 fr8
        have F8 := Lib.hid (F7.out.grow own8 grow8 fr8)
        have hB8 := (F7.out.grow own8 grow8 fr8).below
        have R8 := Lib.hid (R7.out.chg (Chg.grown grow8 (S := (Value.slice q n k1).ownBlock.toList) (fun g hg => Option.mem_toList.2 hg)) (fun hne g hg hgl hm => by have h1 := HRW.out.lt hne hg; have h2 := F7.out.fresh g (by simpa using hm); omega))
        clear own8 grow8 fr8
        refine hK.out _ _ (hB8) (fun h8 => ?_)
        clear hK K
        try simp only [Act.put, List.setIfInBounds_toArray, List.set_cons_zero, List.set_cons_succ]
        clear hB8
        refine wpAnyH_ready (rs := [13]) (by kernel_rfl) (by simp) ?_
        refine AllReadyH.cons (by rw [List.getElem?_toArray]; rfl) (fun K hK => ?_) AllReadyH.nil
        rw [if_pos (by rfl)]
        refine wp_append_row _ _ rfl Tryd.underlying82 hi.out hz0.out hz1.out hz2.out rfl F8.out.own (R8.out.src Tryd.underlying82) (by rw [HLB.out, be8_len]; unfold maxLen; omega) (by rw [HLB.out, be8_len]; omega) ?_
        intro q9 k9 w9 own9 grow9 fr9
        have F9 := Lib.hid (F8.out.grow own9 grow9 fr9)
        have hB9 := (F8.out.grow own9 grow9 fr9).below
        clear own9 grow9 fr9
        refine hK.out _ _ (hB9) (fun h9 => ?_)
        clear hK K
        try simp only [Act.put, List.setIfInBounds_toArray, List.set_cons_zero, List.set_cons_succ]
        clear hB9
        refine wpAnyH_take (i := 14) (v := ?_) (by rw [List.getElem?_toArray]; rfl) (by kernel_rfl) (by kernel_rfl) (by kernel_rfl) (by exact fun _ _ _ h => h) (Or.inl ⟨by rfl, ?_⟩) h9 ?_
        rotate_left
        · intro W hW
          go_simp
          all_goals with_reducible rfl
        try simp only [Act.put, List.setIfInBounds_toArray, List.set_cons_zero, List.set_cons_succ]
        refine wpAnyH_done (by kernel_rfl) ?_ _
        go_wp2_with fail
        go_roundw
        case rel =>
          refine ⟨i + 1, _, _, _, by go_num, by omega, rfl, ?_⟩
          show FrS _ _ _ _ _
          rw [HB.out, ← List.append_assoc, ← List.append_assoc, HLB.out]
          simpa only [be8_len, HLB.out] using F9.out
        case measure => simp [intOf]; omega
      · obtain rfl : i = L.length := by omega
        have hF := HF.out
        rw [List.take_length] at hF
        have HF2 := Lib.hid hF
        clear HF hF
        go_wp2_with fail
        go_ret
        refine ⟨_, _, _, rfl, ?_⟩
        have := HF2.out
        rw [← HSL.out] at this
        exact this
end Go.Proofs.YtjlodnecdngdfaaDoor
namespace Go.Proofs.YtjlodnecdngdfaaDoor
open Go.RowKit
set_option maxRecDepth 100000

def U32 (x : Int) : Prop := 0 ≤ x ∧ x < 4294967296
theorem U32.mod (x : Int) : U32 (x % 4294967296) := by unfold U32; omega
theorem wrap_u32_u (x : Int) : U32 (IntKind.u32.wrap x) := by rw [IntKind.wrap_u32]; exact U32.mod x
theorem or_U32 (a b : Int) : U32 (bits .or .u32 a b) := wrap_u32_u _
/-- What is joined has no bit in common: the sum. -/
theorem or_add {a b : Nat} {s : Nat} (hb : b < 2 ^ s) (ha : a * 2 ^ s < 4294967296) (hb32 : b < 4294967296) : bits .or .u32 ((a * 2 ^ s : Nat) : Int) (b : Int) = ((a * 2 ^ s + b : Nat) : Int) := by
  rw [u32_or _ _ (by omega) (by omega) (by omega) (by omega)]
  congr 1
  rw [Int.toNat_natCast, Int.toNat_natCast, ← Nat.shiftLeft_eq, Nat.shiftLeft_add_eq_or_of_lt hb]
theorem wd_sum {x0 x1 x2 x3 : Int} (h0 : 0 ≤ x0 ∧ x0 < 256) (h1 : 0 ≤ x1 ∧ x1 < 256) (h2 : 0 ≤ x2 ∧ x2 < 256) (h3 : 0 ≤ x3 ∧ x3 < 256) :
    bits .or .u32 (bits .or .u32 (bits .or .u32 (x0 * 16777216) (x1 * 65536)) (x2 * 256)) x3 = x0 * 16777216 + x1 * 65536 + x2 * 256 + x3 := by
  obtain ⟨y0, rfl⟩ := Int.eq_ofNat_of_zero_le h0.1
  obtain ⟨y1, rfl⟩ := Int.eq_ofNat_of_zero_le h1.1
  obtain ⟨y2, rfl⟩ := Int.eq_ofNat_of_zero_le h2.1
  obtain ⟨y3, rfl⟩ := Int.eq_ofNat_of_zero_le h3.1
  have e1 := or_add (a := y0) (b := y1 * 65536) (s := 24) (by omega) (by omega) (by omega)
  have e2 := or_add (a := y0 * 256 + y1) (b := y2 * 256) (s := 16) (by omega) (by omega) (by omega)
  have e3 := or_add (a := y0 * 65536 + y1 * 256 + y2) (b := y3) (s := 8) (by omega) (by omega) (by omega)
  rw [show ((y0 : Int) * 16777216) = ((y0 * 2 ^ 24 : Nat) : Int) by omega, show ((y1 : Int) * 65536) = ((y1 * 65536 : Nat) : Int) by omega, e1,
    show ((y0 * 2 ^ 24 + y1 * 65536 : Nat) : Int) = (((y0 * 256 + y1) * 2 ^ 16 : Nat) : Int) by omega, show ((y2 : Int) * 256) = ((y2 * 256 : Nat) : Int) by omega, e2,
    show (((y0 * 256 + y1) * 2 ^ 16 + y2 * 256 : Nat) : Int) = (((y0 * 65536 + y1 * 256 + y2) * 2 ^ 8 : Nat) : Int) by omega, e3]
  omega
/-- Turned to the right, as the document does it. -/
def tn (n : Nat) (x : Int) : Int := (x / 2 ^ n + x * 2 ^ (32 - n) % 4294967296) % 4294967296
theorem tn_rk {k : Int} {s n : Nat} (hk : rsh k = s) (hs : s + n = 32) (hs1 : 1 ≤ s) {x : Int} (hx : U32 x) : tn n x = rk k x := by
  obtain ⟨y, rfl⟩ := Int.eq_ofNat_of_zero_le hx.1
  have hy : y < 4294967296 := by have := hx.2; omega
  have e32 : 4294967296 = 2 ^ n * 2 ^ s := by rw [← Nat.pow_add, Nat.add_comm, hs]
  have hdiv : y / 2 ^ n < 2 ^ s := by
    rw [Nat.div_lt_iff_lt_mul (Nat.two_pow_pos n), Nat.mul_comm, ← e32]; exact hy
  have hm : y * 2 ^ s % 4294967296 = y % 2 ^ n * 2 ^ s := by rw [e32, Nat.mul_mod_mul_right]
  have hml : y % 2 ^ n * 2 ^ s < 4294967296 := by
    rw [e32]; exact Nat.mul_lt_mul_of_pos_right (Nat.mod_lt _ (Nat.two_pow_pos n)) (Nat.two_pow_pos s)
  have hs32 : 2 ^ s ≤ 4294967296 := by
    have : (2 : Nat) ^ s ≤ 2 ^ 32 := Nat.pow_le_pow_right (by omega) (by omega)
    simpa using this
  have e1 : ((y : Int) * 2 ^ s % 4294967296) = ((y % 2 ^ n * 2 ^ s : Nat) : Int) := by rw [← hm, Int.natCast_emod, Int.natCast_mul, Int.natCast_pow]; rfl
  have e2 : ((y : Int) / 2 ^ n) = ((y / 2 ^ n : Nat) : Int) := by rw [Int.natCast_ediv, Int.natCast_pow]; rfl
  have hn : 32 - s = n := by omega
  have hn2 : 32 - n = s := by omega
  unfold tn rk
  rw [hk, hn, hn2, e1, e2, or_add hdiv hml (by omega)]
  have : (y / 2 ^ n : Nat) + y % 2 ^ n * 2 ^ s < 4294967296 := by
    have h1 : y % 2 ^ n * 2 ^ s + 2 ^ s ≤ 4294967296 := by
      rw [e32, ← Nat.succ_mul]
      exact Nat.mul_le_mul_right _ (Nat.mod_lt _ (Nat.two_pow_pos n))
    omega
  generalize y / 2 ^ n = A at this ⊢
  generalize y % 2 ^ n * 2 ^ s = C at this ⊢
  omega
theorem tn7 {x : Int} (hx : U32 x) : tn 7 x = rk (-7) x := tn_rk (by decide) (s := 25) rfl (by omega) hx
theorem tn18 {x : Int} (hx : U32 x) : tn 18 x = rk (-18) x := tn_rk (by decide) (s := 14) rfl (by omega) hx
theorem tn17 {x : Int} (hx : U32 x) : tn 17 x = rk (-17) x := tn_rk (by decide) (s := 15) rfl (by omega) hx
theorem tn19 {x : Int} (hx : U32 x) : tn 19 x = rk (-19) x := tn_rk (by decide) (s := 13) rfl (by omega) hx
theorem tn6 {x : Int} (hx : U32 x) : tn 6 x = rk (-6) x := tn_rk (by decide) (s := 26) rfl (by omega) hx
theorem tn11 {x : Int} (hx : U32 x) : tn 11 x = rk (-11) x := tn_rk (by decide) (s := 21) rfl (by omega) hx
theorem tn25 {x : Int} (hx : U32 x) : tn 25 x = rk (-25) x := tn_rk (by decide) (s := 7) rfl (by omega) hx
theorem tn2 {x : Int} (hx : U32 x) : tn 2 x = rk (-2) x := tn_rk (by decide) (s := 30) rfl (by omega) hx
theorem tn13 {x : Int} (hx : U32 x) : tn 13 x = rk (-13) x := tn_rk (by decide) (s := 19) rfl (by omega) hx
theorem tn22 {x : Int} (hx : U32 x) : tn 22 x = rk (-22) x := tn_rk (by decide) (s := 10) rfl (by omega) hx
theorem notI_sub {x : Int} (hx : U32 x) : notI x = (4294967295 - x) % 4294967296 := by
  obtain ⟨y, rfl⟩ := Int.eq_ofNat_of_zero_le hx.1
  have hy : y < 4294967296 := by have := hx.2; omega
  show IntKind.u32.wrap ((BitVec.ofInt 32 4294967295 ^^^ BitVec.ofInt 32 (y : Int)).toNat : Int) = _
  rw [show BitVec.ofInt 32 4294967295 = BitVec.allOnes 32 by decide, BitVec.allOnes_xor, BitVec.toNat_not, BitVec.ofInt_natCast, BitVec.toNat_ofNat, IntKind.wrap_u32, Nat.mod_eq_of_lt (by omega : y < 2 ^ 32)]
  omega

structure St8.ok (s : St8) : Prop where
  a : U32 s.a
  b : U32 s.b
  c : U32 s.c
  d : U32 s.d
  e : U32 s.e
  f : U32 s.f
  g : U32 s.g
  h : U32 s.h
theorem St8.ok.rnd {s : St8} (h : s.ok) (k w : Int) : (s.rnd k w).ok := ⟨U32.mod _, h.a, h.b, h.c, U32.mod _, h.e, h.f, h.g⟩
theorem St8.ok.rounds {s : St8} (h : s.ok) (B : Nat → Int) : ∀ i, (s.rounds B i).ok
  | 0 => h
  | i + 1 => (St8.ok.rounds h B i).rnd _ _
theorem St8.mix_ok (s : St8) (B : Nat → Int) : (s.mix B).ok := ⟨U32.mod _, U32.mod _, U32.mod _, U32.mod _, U32.mod _, U32.mod _, U32.mod _, U32.mod _⟩
theorem iv_ok : iv.ok := ⟨⟨by decide, by decide⟩, ⟨by decide, by decide⟩, ⟨by decide, by decide⟩, ⟨by decide, by decide⟩, ⟨by decide, by decide⟩, ⟨by decide, by decide⟩, ⟨by decide, by decide⟩, ⟨by decide, by decide⟩⟩
theorem shaSt_ok (xs : List Int) : ∀ i, (shaSt xs i).ok
  | 0 => iv_ok
  | _ + 1 => St8.mix_ok _ _
theorem W_U32 (B : Nat → Int) (n : Nat) : U32 (W B n) := by
  by_cases h : n < 16
  · rw [W_low B h]; exact or_U32 _ _
  · rw [W_high B (by omega)]; exact U32.mod _
end Go.Proofs.YtjlodnecdngdfaaDoor
namespace Go.Proofs.YtjlodnecdngdfaaDoor
open Go.RowKit
set_option maxRecDepth 100000

theorem turn_any (x : Int) (n : Nat) (hn : n ≤ 31) (w : World) : Calls Tryd.prog 96 #[.int .u32 x, .int .u64 n] w fun e w' => e = .returned (.int .u32 (tn n x)) ∧ w' = w := by
  have HR : Hid (tn n x = (x / 2 ^ n + x * 2 ^ (32 - n) % 4294967296) % 4294967296) := by exact (rfl : tn n x = _)
  have e1 : min n 32 = n := by omega
  have e2 : min ((32 : Int) - (n : Int)).toNat 32 = 32 - n := by omega
  have h0 : (0 : Int) ≤ 32 - (n : Int) := by omega
  go_enter Tryd.func96, Tryd.ntmps96
  go_wp2_with fail
  rw [← HR.out]
  go_ret
  exact ⟨rfl, rfl⟩
def tnI (k : Int) (x : Int) : Int := tn k.toNat x
theorem turn_i (x k : Int) (h0 : 0 ≤ k) (h1 : k ≤ 31) (w : World) : Calls Tryd.prog 96 #[.int .u32 x, .int .u64 k] w fun e w' => e = .returned (.int .u32 (tnI k x)) ∧ w' = w := by
  obtain ⟨n, rfl⟩ := Int.eq_ofNat_of_zero_le h0
  exact turn_any x n (by omega) w
theorem tnI7 {x : Int} (hx : U32 x) : tnI 7 x = rk (-7) x := tn7 hx
theorem tnI18 {x : Int} (hx : U32 x) : tnI 18 x = rk (-18) x := tn18 hx
theorem tnI17 {x : Int} (hx : U32 x) : tnI 17 x = rk (-17) x := tn17 hx
theorem tnI19 {x : Int} (hx : U32 x) : tnI 19 x = rk (-19) x := tn19 hx
theorem tnI6 {x : Int} (hx : U32 x) : tnI 6 x = rk (-6) x := tn6 hx
theorem tnI11 {x : Int} (hx : U32 x) : tnI 11 x = rk (-11) x := tn11 hx
theorem tnI25 {x : Int} (hx : U32 x) : tnI 25 x = rk (-25) x := tn25 hx
theorem tnI2 {x : Int} (hx : U32 x) : tnI 2 x = rk (-2) x := tn2 hx
theorem tnI13 {x : Int} (hx : U32 x) : tnI 13 x = rk (-13) x := tn13 hx
theorem tnI22 {x : Int} (hx : U32 x) : tnI 22 x = rk (-22) x := tn22 hx
end Go.Proofs.YtjlodnecdngdfaaDoor
namespace Go.Proofs.YtjlodnecdngdfaaDoor
open Go.RowKit
set_option maxRecDepth 100000

set_option maxHeartbeats 8000000 in
theorem block_any {w : World} (S : St8) (hS : S.ok) {b off n c kb : Nat} {B : Nat → Int} (hn : 64 ≤ n) (hB : ∀ i, i < 64 → w.cell? ⟨b, off + i, none⟩ = some (.int .u8 (B i))) (hb8 : ∀ i, i < 64 → 0 ≤ B i ∧ B i < 256)
    (hT : ∀ i, i < 64 → w.cell? ⟨kb, i, none⟩ = some (.int .u32 (rt i))) :
    Calls Tryd.prog 86 #[.agg #[.int .u32 S.a, .int .u32 S.b, .int .u32 S.c, .int .u32 S.d, .int .u32 S.e, .int .u32 S.f, .int .u32 S.g, .int .u32 S.h], .slice (some ⟨b, off, none⟩) n c, .pointer (some ⟨kb, 0, none⟩)] w
      fun e w' => e = .returned (.agg #[.int .u32 (S.mix B).a, .int .u32 (S.mix B).b, .int .u32 (S.mix B).c, .int .u32 (S.mix B).d, .int .u32 (S.mix B).e, .int .u32 (S.mix B).f, .int .u32 (S.mix B).g, .int .u32 (S.mix B).h]) ∧ Below w.heap.size w w' := by
  have HB := Lib.hid hB
  have HB8 := Lib.hid hb8
  have HT := Lib.hid hT
  have HSok := Lib.hid hS
  clear hB hb8 hT hS
  have hz := zero64u
  have h0 := Lib.hid (MxSt.start w S)
  go_enter Tryd.func86, Tryd.ntmps86
  go_wp2_with fail
  clear hz
  go_loopw [8] (fun iv wr => ∃ (i : Nat) (f : Nat → Int), iv = .int .i64 i ∧ i ≤ 16 ∧ Hid (MxSt w wr S f) ∧ Hid (∀ j, j < i → f j = W B j)) (fun iv _ => 16 - (intOf iv).toNat)
  case atStart => exact ⟨0, _, rfl, by omega, h0, fun j hj => by omega⟩
  case round =>
    clear h0
    obtain ⟨i, f, rfl, hi, hm, hf⟩ := hrel
    by_cases hlt : i < 16
    · have q (j : Nat) (hj : j < 64) : wr.cell? ⟨b, off + j, none⟩ = some (.int .u8 (B j)) := hm.out.tab (HB.out j hj)
      have c0 := q (4 * i) (by omega)
      have c1 := q (4 * i + 1) (by omega)
      have c2 := q (4 * i + 2) (by omega)
      have c3 := q (4 * i + 3) (by omega)
      have B0 := HB8.out (4 * i) (by omega)
      have B1 := HB8.out (4 * i + 1) (by omega)
      have B2 := HB8.out (4 * i + 2) (by omega)
      have B3 := HB8.out (4 * i + 3) (by omega)
      have cw := hm.out.rw.cell i (by omega)
      have fw := hm.out.rw.free i
      clear q
      have HN : Hid (MxSt w (wr.setCell ⟨w.heap.size + 1 + 1, i, none⟩ (.int .u32 (B (4 * i) * 16777216 + B (4 * i + 1) * 65536 + B (4 * i + 2) * 256 + B (4 * i + 3)))).drew S (updK f i (W B i))) := by
        have := (hm.out.step (j := i) (by omega) (W B i)).drew
        rw [W_low B hlt, wd, wd_sum B0 B1 B2 B3] at this
        rw [W_low B hlt, wd, wd_sum B0 B1 B2 B3]
        exact this
      have HF : Hid (∀ j, j < i + 1 → updK f i (W B i) j = W B j) := by
        intro j hj
        by_cases e : j = i
        · subst e; rw [updK_same]
        · rw [updK_ne _ _ e]; exact hf.out j (by omega)
      obtain ⟨a0, b0⟩ := B0
      obtain ⟨a1, b1⟩ := B1
      obtain ⟨a2, b2⟩ := B2
      obtain ⟨a3, b3⟩ := B3
      generalize B (4 * i) = x0 at c0 a0 b0 HN
      generalize B (4 * i + 1) = x1 at c1 a1 b1 HN
      generalize B (4 * i + 2) = x2 at c2 a2 b2 HN
      generalize B (4 * i + 3) = x3 at c3 a3 b3 HN
      generalize updK f i (W B i) = f' at HN HF
      go_wp2_with fail
      go_region
      go_wp2_with fail
      go_roundw
      case rel => exact ⟨i + 1, f', by go_num, by omega, HN, HF⟩
      case measure => simp [intOf]; omega
    · obtain rfl : i = 16 := by omega
      clear hlt hi
      have hm0 := hm
      have hf0 := hf
      go_wp2_with fail
      clear hm hf
      rw [show ((16 : Nat) : Int) = 16 from rfl]
      obtain ⟨w0, hw0⟩ : ∃ w0 : World, w0 = wr := ⟨_, rfl⟩
      rw [← hw0] at hm0 ⊢
      clear hw0
      go_loopw [9] (fun iv wr => ∃ (i : Nat) (f : Nat → Int), iv = .int .i64 i ∧ 16 ≤ i ∧ i ≤ 64 ∧ Hid (MxSt w wr S f) ∧ Hid (∀ j, j < i → f j = W B j)) (fun iv _ => 64 - (intOf iv).toNat)
      case atStart => exact ⟨16, _, rfl, by omega, by omega, hm0, hf0⟩
      case round =>
        clear hm0 hf0
        obtain ⟨i, f, rfl, hi0, hi, hm, hf⟩ := hrel
        by_cases hlt : i < 64
        · have cx := hm.out.rw.cell (i - 15) (by omega)
          have cy := hm.out.rw.cell (i - 2) (by omega)
          have e15 : ((i : Int) - 15).toNat = i - 15 := by omega
          have e2 : ((i : Int) - 2).toNat = i - 2 := by omega
          have e16 : ((i : Int) - 16).toNat = i - 16 := by omega
          have e7 : ((i : Int) - 7).toNat = i - 7 := by omega
          have g16 : (16 : Int) ≤ (i : Int) := by omega
          have g64 : (i : Int) < 64 := by omega
          have k16 : IntKind.i64.wrap ((i : Int) - 16) = (i : Int) - 16 := IntWalk.i64_in _ (by omega)
          have k7 : IntKind.i64.wrap ((i : Int) - 7) = (i : Int) - 7 := IntWalk.i64_in _ (by omega)
          have l16 : (i : Int) - 16 < 64 := by omega
          have l7 : (i : Int) - 7 < 64 := by omega
          have m7 : (7 : Int) ≤ (i : Int) := by omega
          have m0 : (0 : Int) ≤ (i : Int) := by omega
          have HV : Hid (W B i = (f (i - 16) + bits .xor .u32 (bits .xor .u32 (tnI 7 (f (i - 15))) (tnI 18 (f (i - 15)))) (f (i - 15) / 8) + f (i - 7) + bits .xor .u32 (bits .xor .u32 (tnI 17 (f (i - 2))) (tnI 19 (f (i - 2)))) (f (i - 2) / 1024)) % 4294967296) := by
            have u1 : U32 (f (i - 15)) := by rw [hf.out (i - 15) (by omega)]; exact W_U32 _ _
            have u2 : U32 (f (i - 2)) := by rw [hf.out (i - 2) (by omega)]; exact W_U32 _ _
            show _ = _
            rw [tnI7 u1, tnI18 u1, tnI17 u2, tnI19 u2]
            rw [(W_high B hi0).trans (nxt_cong (g := f) hi0 (fun j hj => (hf.out j hj).symm))]
            rfl
          have HF : Hid (∀ j, j < i + 1 → updK f i (W B i) j = W B j) := by
            intro j hj
            by_cases e : j = i
            · subst e; rw [updK_same]
            · rw [updK_ne _ _ e]; exact hf.out j (by omega)
          go_wp2_with fail
          clear cx cy
          refine wp_region_held_drew (S := fun W => ∃ g, MxSt w W S g ∧ ∀ j, j < i → g j = f j) (by kernel_rfl) (⟨f, hm.out.drew, fun _ _ => rfl⟩) (fun h0 => ?_)
          refine wpAnyH_take (i := 0) (v := ?_) (by rw [List.getElem?_toArray]; rfl) (by kernel_rfl) (by kernel_rfl) (by kernel_rfl) (by exact fun _ _ _ h => h) (Or.inl ⟨by rfl, ?_⟩) h0 ?_
          rotate_left
          · intro W hW
            go_simp
            all_goals with_reducible rfl
          try simp only [Act.put, List.setIfInBounds_toArray, List.set_cons_zero, List.set_cons_succ]
          refine wpAnyH_take (i := 1) (v := ?_) (by rw [List.getElem?_toArray]; rfl) (by kernel_rfl) (by kernel_rfl) (by kernel_rfl) (by exact fun _ _ _ h => h) (Or.inl ⟨by rfl, ?_⟩) h0 ?_
          rotate_left
          · intro W hW
            go_simp
            all_goals with_reducible rfl
          try simp only [Act.put, List.setIfInBounds_toArray, List.set_cons_zero, List.set_cons_succ]
          refine wpAnyH_take (i := 2) (v := ?_) (by rw [List.getElem?_toArray]; rfl) (by kernel_rfl) (by kernel_rfl) (by kernel_rfl) (by exact fun _ _ _ h => h) (Or.inl ⟨by rfl, ?_⟩) h0 ?_
          rotate_left
          · intro W hW
            go_simp
            all_goals with_reducible rfl
          try simp only [Act.put, List.setIfInBounds_toArray, List.set_cons_zero, List.set_cons_succ]
          refine wpAnyH_take (i := 3) (v := ?_) (by rw [List.getElem?_toArray]; rfl) (by kernel_rfl) (by kernel_rfl) (by kernel_rfl) (by exact fun _ _ _ h => h) (Or.inl ⟨by rfl, ?_⟩) h0 ?_
          rotate_left
          · intro W hW
            go_simp
            all_goals with_reducible rfl
          try simp only [Act.put, List.setIfInBounds_toArray, List.set_cons_zero, List.set_cons_succ]
          refine wpAnyH_take (i := 4) (v := ?_) (by rw [List.getElem?_toArray]; rfl) (by kernel_rfl) (by kernel_rfl) (by kernel_rfl) (by exact fun _ _ _ h => h) (Or.inl ⟨by rfl, ?_⟩) h0 ?_
          rotate_left
          · intro W hW
            obtain ⟨g, hg, hgf⟩ := hW
            have cz := hg.rw.cell (i - 16) (by omega)
            have cv := hg.rw.cell (i - 7) (by omega)
            rw [hgf _ (by omega)] at cz cv
            clear hgf
            go_simp
            all_goals with_reducible rfl
          try simp only [Act.put, List.setIfInBounds_toArray, List.set_cons_zero, List.set_cons_succ]
          refine wpAnyH_take (i := 5) (v := ?_) (by rw [List.getElem?_toArray]; rfl) (by kernel_rfl) (by kernel_rfl) (by kernel_rfl) (by exact fun _ _ _ h => h) (Or.inl ⟨by rfl, ?_⟩) h0 ?_
          rotate_left
          · intro W hW
            go_simp
            all_goals with_reducible rfl
          try simp only [Act.put, List.setIfInBounds_toArray, List.set_cons_zero, List.set_cons_succ]
          refine wpAnyH_take (i := 7) (v := ?_) (by rw [List.getElem?_toArray]; rfl) (by kernel_rfl) (by kernel_rfl) (by kernel_rfl) (by exact fun _ _ _ h => h) (Or.inl ⟨by rfl, ?_⟩) h0 ?_
          rotate_left
          · intro W hW
            go_simp
            all_goals with_reducible rfl
          try simp only [Act.put, List.setIfInBounds_toArray, List.set_cons_zero, List.set_cons_succ]
          refine wpAnyH_take (i := 10) (v := ?_) (by rw [List.getElem?_toArray]; rfl) (by kernel_rfl) (by kernel_rfl) (by kernel_rfl) (by exact fun _ _ _ h => h) (Or.inl ⟨by rfl, ?_⟩) h0 ?_
          rotate_left
          · intro W hW
            go_simp
            all_goals with_reducible rfl
          try simp only [Act.put, List.setIfInBounds_toArray, List.set_cons_zero, List.set_cons_succ]
          refine wpAnyH_take (i := 11) (v := ?_) (by rw [List.getElem?_toArray]; rfl) (by kernel_rfl) (by kernel_rfl) (by kernel_rfl) (by exact fun _ _ _ h => h) (Or.inl ⟨by rfl, ?_⟩) h0 ?_
          rotate_left
          · intro W hW
            go_simp
            all_goals with_reducible rfl
          try simp only [Act.put, List.setIfInBounds_toArray, List.set_cons_zero, List.set_cons_succ]
          refine wpAnyH_take (i := 14) (v := ?_) (by rw [List.getElem?_toArray]; rfl) (by kernel_rfl) (by kernel_rfl) (by kernel_rfl) (by exact fun _ _ _ h => h) (Or.inl ⟨by rfl, ?_⟩) h0 ?_
          rotate_left
          · intro W hW
            go_simp
            all_goals with_reducible rfl
          try simp only [Act.put, List.setIfInBounds_toArray, List.set_cons_zero, List.set_cons_succ]
          refine wpAnyH_take (i := 15) (v := ?_) (by rw [List.getElem?_toArray]; rfl) (by kernel_rfl) (by kernel_rfl) (by kernel_rfl) (by exact fun _ _ _ h => h) (Or.inl ⟨by rfl, ?_⟩) h0 ?_
          rotate_left
          · intro W hW
            go_simp
            all_goals with_reducible rfl
          try simp only [Act.put, List.setIfInBounds_toArray, List.set_cons_zero, List.set_cons_succ]
          refine wpAnyH_take (i := 16) (v := ?_) (by rw [List.getElem?_toArray]; rfl) (by kernel_rfl) (by kernel_rfl) (by kernel_rfl) (by exact fun _ _ _ h => h) (Or.inl ⟨by rfl, ?_⟩) h0 ?_
          rotate_left
          · intro W hW
            go_simp
            all_goals with_reducible rfl
          try simp only [Act.put, List.setIfInBounds_toArray, List.set_cons_zero, List.set_cons_succ]
          refine wpAnyH_take (i := 17) (v := ?_) (by rw [List.getElem?_toArray]; rfl) (by kernel_rfl) (by kernel_rfl) (by kernel_rfl) (by exact fun _ _ _ h => h) (Or.inl ⟨by rfl, ?_⟩) h0 ?_
          rotate_left
          · intro W hW
            obtain ⟨g, hg, hgf⟩ := hW
            have cz := hg.rw.cell (i - 16) (by omega)
            have cv := hg.rw.cell (i - 7) (by omega)
            rw [hgf _ (by omega)] at cz cv
            clear hgf
            go_simp
            all_goals with_reducible rfl
          try simp only [Act.put, List.setIfInBounds_toArray, List.set_cons_zero, List.set_cons_succ]
          refine wpAnyH_take (i := 19) (v := ?_) (by rw [List.getElem?_toArray]; rfl) (by kernel_rfl) (by kernel_rfl) (by kernel_rfl) (by exact fun _ _ _ h => h) (Or.inl ⟨by rfl, ?_⟩) h0 ?_
          rotate_left
          · intro W hW
            go_simp
            all_goals with_reducible rfl
          try simp only [Act.put, List.setIfInBounds_toArray, List.set_cons_zero, List.set_cons_succ]
          refine wpAnyH_take (i := 21) (v := ?_) (by rw [List.getElem?_toArray]; rfl) (by kernel_rfl) (by kernel_rfl) (by kernel_rfl) (by exact fun _ _ _ h => h) (Or.inl ⟨by rfl, ?_⟩) h0 ?_
          rotate_left
          · intro W hW
            go_simp
            all_goals with_reducible rfl
          try simp only [Act.put, List.setIfInBounds_toArray, List.set_cons_zero, List.set_cons_succ]
          refine wpAnyH_take (i := 24) (v := ?_) (by rw [List.getElem?_toArray]; rfl) (by kernel_rfl) (by kernel_rfl) (by kernel_rfl) (by exact fun _ _ _ h => h) (Or.inl ⟨by rfl, ?_⟩) h0 ?_
          rotate_left
          · intro W hW
            go_simp
            all_goals with_reducible rfl
          try simp only [Act.put, List.setIfInBounds_toArray, List.set_cons_zero, List.set_cons_succ]
          refine wpAnyH_take (i := 25) (v := ?_) (by rw [List.getElem?_toArray]; rfl) (by kernel_rfl) (by kernel_rfl) (by kernel_rfl) (by exact fun _ _ _ h => h) (Or.inl ⟨by rfl, ?_⟩) h0 ?_
          rotate_left
          · intro W hW
            go_simp
            all_goals with_reducible rfl
          try simp only [Act.put, List.setIfInBounds_toArray, List.set_cons_zero, List.set_cons_succ]
          refine wpAnyH_ready (rs := [6]) (by kernel_rfl) (by simp) ?_
          refine AllReadyH.cons (by rw [List.getElem?_toArray]; rfl) (fun K hK => ?_) AllReadyH.nil
          rw [if_pos (by rfl)]
          go_wp2_with fail
          refine (turn_i _ _ (by omega) (by omega) _).mono ?_
          rintro e w' ⟨rfl, rfl⟩
          go_wp2_with fail
          refine hK.out _ _ (h0) (fun h1 => ?_)
          clear hK K
          try simp only [Act.put, List.setIfInBounds_toArray, List.set_cons_zero, List.set_cons_succ]
          refine wpAnyH_ready (rs := [8]) (by kernel_rfl) (by simp) ?_
          refine AllReadyH.cons (by rw [List.getElem?_toArray]; rfl) (fun K hK => ?_) AllReadyH.nil
          rw [if_pos (by rfl)]
          go_wp2_with fail
          refine (turn_i _ _ (by omega) (by omega) _).mono ?_
          rintro e w' ⟨rfl, rfl⟩
          go_wp2_with fail
          refine hK.out _ _ (h1) (fun h2 => ?_)
          clear hK K
          try simp only [Act.put, List.setIfInBounds_toArray, List.set_cons_zero, List.set_cons_succ]
          refine wpAnyH_take (i := 9) (v := ?_) (by rw [List.getElem?_toArray]; rfl) (by kernel_rfl) (by kernel_rfl) (by kernel_rfl) (by exact fun _ _ _ h => h) (Or.inl ⟨by rfl, ?_⟩) h2 ?_
          rotate_left
          · intro W hW
            go_simp
            all_goals with_reducible rfl
          try simp only [Act.put, List.setIfInBounds_toArray, List.set_cons_zero, List.set_cons_succ]
          refine wpAnyH_take (i := 12) (v := ?_) (by rw [List.getElem?_toArray]; rfl) (by kernel_rfl) (by kernel_rfl) (by kernel_rfl) (by exact fun _ _ _ h => h) (Or.inl ⟨by rfl, ?_⟩) h2 ?_
          rotate_left
          · intro W hW
            go_simp
            all_goals with_reducible rfl
          try simp only [Act.put, List.setIfInBounds_toArray, List.set_cons_zero, List.set_cons_succ]
          refine wpAnyH_take (i := 13) (v := ?_) (by rw [List.getElem?_toArray]; rfl) (by kernel_rfl) (by kernel_rfl) (by kernel_rfl) (by exact fun _ _ _ h => h) (Or.inl ⟨by rfl, ?_⟩) h2 ?_
          rotate_left
          · intro W hW
            go_simp
            all_goals with_reducible rfl
          try simp only [Act.put, List.setIfInBounds_toArray, List.set_cons_zero, List.set_cons_succ]
          refine wpAnyH_take (i := 18) (v := ?_) (by rw [List.getElem?_toArray]; rfl) (by kernel_rfl) (by kernel_rfl) (by kernel_rfl) (by exact fun _ _ _ h => h) (Or.inl ⟨by rfl, ?_⟩) h2 ?_
          rotate_left
          · intro W hW
            go_simp
            all_goals with_reducible rfl
          try simp only [Act.put, List.setIfInBounds_toArray, List.set_cons_zero, List.set_cons_succ]
          refine wpAnyH_ready (rs := [20]) (by kernel_rfl) (by simp) ?_
          refine AllReadyH.cons (by rw [List.getElem?_toArray]; rfl) (fun K hK => ?_) AllReadyH.nil
          rw [if_pos (by rfl)]
          go_wp2_with fail
          refine (turn_i _ _ (by omega) (by omega) _).mono ?_
          rintro e w' ⟨rfl, rfl⟩
          go_wp2_with fail
          refine hK.out _ _ (h2) (fun h3 => ?_)
          clear hK K
          try simp only [Act.put, List.setIfInBounds_toArray, List.set_cons_zero, List.set_cons_succ]
          refine wpAnyH_ready (rs := [22]) (by kernel_rfl) (by simp) ?_
          refine AllReadyH.cons (by rw [List.getElem?_toArray]; rfl) (fun K hK => ?_) AllReadyH.nil
          rw [if_pos (by rfl)]
          go_wp2_with fail
          refine (turn_i _ _ (by omega) (by omega) _).mono ?_
          rintro e w' ⟨rfl, rfl⟩
          go_wp2_with fail
          refine hK.out _ _ (h3) (fun h4 => ?_)
          clear hK K
          try simp only [Act.put, List.setIfInBounds_toArray, List.set_cons_zero, List.set_cons_succ]
          refine wpAnyH_take (i := 23) (v := ?_) (by rw [List.getElem?_toArray]; rfl) (by kernel_rfl) (by kernel_rfl) (by kernel_rfl) (by exact fun _ _ _ h => h) (Or.inl ⟨by rfl, ?_⟩) h4 ?_
          rotate_left
          · intro W hW
            go_simp
            all_goals with_reducible rfl
          try simp only [Act.put, List.setIfInBounds_toArray, List.set_cons_zero, List.set_cons_succ]
          refine wpAnyH_take (i := 26) (v := ?_) (by rw [List.getElem?_toArray]; rfl) (by kernel_rfl) (by kernel_rfl) (by kernel_rfl) (by exact fun _ _ _ h => h) (Or.inl ⟨by rfl, ?_⟩) h4 ?_
          rotate_left
          · intro W hW
            go_simp
            all_goals with_reducible rfl
          try simp only [Act.put, List.setIfInBounds_toArray, List.set_cons_zero, List.set_cons_succ]
          refine wpAnyH_take (i := 27) (v := ?_) (by rw [List.getElem?_toArray]; rfl) (by kernel_rfl) (by kernel_rfl) (by kernel_rfl) (by exact fun _ _ _ h => h) (Or.inl ⟨by rfl, ?_⟩) h4 ?_
          rotate_left
          · intro W hW
            go_simp
            all_goals with_reducible rfl
          try simp only [Act.put, List.setIfInBounds_toArray, List.set_cons_zero, List.set_cons_succ]
          refine wpAnyH_take (i := 28) (v := ?_) (by rw [List.getElem?_toArray]; rfl) (by kernel_rfl) (by kernel_rfl) (by kernel_rfl) (by exact fun _ _ _ h => h) (Or.inl ⟨by rfl, ?_⟩) h4 ?_
          rotate_left
          · intro W hW
            go_simp
            all_goals with_reducible rfl
          try simp only [Act.put, List.setIfInBounds_toArray, List.set_cons_zero, List.set_cons_succ]
          refine wpAnyH_ready (rs := [29]) (by kernel_rfl) (by simp) ?_
          refine AllReadyH.cons (by rw [List.getElem?_toArray]; rfl) (fun K hK => ?_) AllReadyH.nil
          rw [if_pos (by rfl)]
          have hcw := hm.out.rw.cell i (by omega)
          have hfw := hm.out.rw.free i
          have HN := Lib.hid (fun v => (hm.out.step (j := i) hlt v).drew)
          go_wp2_with fail
          refine hK.out _ _ (⟨_, HN.out _, fun j hj => updK_ne _ _ (by omega)⟩) (fun h9 => ?_)
          clear hK K h9
          refine wpAnyH_done (by kernel_rfl) ?_ _
          go_wp2_with fail
          go_roundw
          case rel => exact ⟨i + 1, updK f i (W B i), by go_num, by omega, by omega, by rw [HV.out]; exact HN.out _, HF⟩
          case measure => simp [intOf]; omega
        · obtain rfl : i = 64 := by omega
          clear hlt hi hi0
          have hm0 := hm
          have hf0 := hf
          clear hm hf
          have s0 := hm0.out.rs.cell 0 (by omega)
          have s1 := hm0.out.rs.cell 1 (by omega)
          have s2 := hm0.out.rs.cell 2 (by omega)
          have s3 := hm0.out.rs.cell 3 (by omega)
          have s4 := hm0.out.rs.cell 4 (by omega)
          have s5 := hm0.out.rs.cell 5 (by omega)
          have s6 := hm0.out.rs.cell 6 (by omega)
          have s7 := hm0.out.rs.cell 7 (by omega)
          simp only [St8.lst, List.getD_cons_zero, List.getD_cons_succ] at s0 s1 s2 s3 s4 s5 s6 s7
          go_wp2_with fail
          rw [show ((64 : Nat) : Int) = 64 from rfl]
          have hm1 := hm0
          clear hm0 s0 s1 s2 s3 s4 s5 s6 s7
          obtain ⟨w0, hw0⟩ : ∃ w0 : World, w0 = wr := ⟨_, rfl⟩
          rw [← hw0] at hm1 ⊢
          clear hw0
          go_loopw [20, 12, 13, 14, 15, 16, 17, 18, 19] (fun iv a b' c' d e f' g h wr => ∃ (i : Nat) (s : St8), iv = .int .i64 i ∧ i ≤ 64 ∧ Hid (s = S.rounds B i) ∧ a = .int .u32 s.a ∧ b' = .int .u32 s.b ∧ c' = .int .u32 s.c ∧ d = .int .u32 s.d ∧ e = .int .u32 s.e ∧ f' = .int .u32 s.f ∧ g = .int .u32 s.g ∧ h = .int .u32 s.h ∧ Hid (MxSt w wr S f)) (fun iv _ _ _ _ _ _ _ _ _ => 64 - (intOf iv).toNat)
          case atStart => exact ⟨0, S, rfl, by omega, rfl, rfl, rfl, rfl, rfl, rfl, rfl, rfl, rfl, hm1⟩
          case round =>
            clear hm1
            obtain ⟨i, s, rfl, hi, hs, rfl, rfl, rfl, rfl, rfl, rfl, rfl, rfl, hm⟩ := hrel
            by_cases hlt : i < 64
            · have cw := hm.out.rw.cell i hlt
              rw [hf0.out i hlt] at cw
              have ct := hm.out.tab (HT.out i hlt)
              have hsok : s.ok := by rw [hs.out]; exact HSok.out.rounds B i
              have HOK := Lib.hid hsok
              have HS : Hid (s.rnd (rt i) (W B i) = S.rounds B (i + 1)) := by
                show _ = (S.rounds B i).rnd (rt i) (W B i)
                rw [← hs.out]
              clear hsok
              generalize W B i = wi at cw HS
              generalize rt i = ki at ct HS
              obtain ⟨xa, xb, xc, xd, xe, xf, xg, xh⟩ := s
              simp only []
              go_wp2_with fail
              go_quiet (exact Calls.quiet_of_same (turn_i _ _ (by omega) (by omega) _))
              have hN := Lib.hid (hm.out.drewN nq)
              generalize wr.drewN nq = wz at hN ⊢
              clear cw ct hm
              go_wp2_with (go_at_call 96; refine (turn_i _ _ (by omega) (by omega) _).mono ?_; rintro e w' ⟨rfl, rfl⟩)
              have ua : U32 xa := HOK.out.a
              have ue : U32 xe := HOK.out.e
              go_roundw
              case rel =>
                refine ⟨i + 1, _, by go_num, by omega, HS, ?_, rfl, rfl, rfl, ?_, rfl, rfl, rfl, hN⟩
                · show _ = Value.int .u32 (((xh + fe xe + fch xe xf xg + ki + wi) % 4294967296 + (fa xa + fmj xa xb xc) % 4294967296) % 4294967296)
                  rw [tnI6 ue, tnI11 ue, tnI25 ue, tnI2 ua, tnI13 ua, tnI22 ua, ← notI_sub ue]
                  unfold fe fch fa fmj
                  congr 1
                · show _ = Value.int .u32 ((xd + (xh + fe xe + fch xe xf xg + ki + wi) % 4294967296) % 4294967296)
                  rw [tnI6 ue, tnI11 ue, tnI25 ue, ← notI_sub ue]
                  unfold fe fch
                  congr 1
              case measure => simp [intOf]; omega
            · obtain rfl : i = 64 := by omega
              have HM : Hid (S.add s = S.mix B) := by
                show _ = S.add (S.rounds B 64)
                rw [← hs.out]
              have s0 := hm.out.rs.cell 0 (by omega)
              have s1 := hm.out.rs.cell 1 (by omega)
              have s2 := hm.out.rs.cell 2 (by omega)
              have s3 := hm.out.rs.cell 3 (by omega)
              have s4 := hm.out.rs.cell 4 (by omega)
              have s5 := hm.out.rs.cell 5 (by omega)
              have s6 := hm.out.rs.cell 6 (by omega)
              have s7 := hm.out.rs.cell 7 (by omega)
              simp only [St8.lst, List.getD_cons_zero, List.getD_cons_succ] at s0 s1 s2 s3 s4 s5 s6 s7
              have r0 := hm.out.rr.cell 0 (by omega)
              have r1 := hm.out.rr.cell 1 (by omega)
              have r2 := hm.out.rr.cell 2 (by omega)
              have r3 := hm.out.rr.cell 3 (by omega)
              have r4 := hm.out.rr.cell 4 (by omega)
              have r5 := hm.out.rr.cell 5 (by omega)
              have r6 := hm.out.rr.cell 6 (by omega)
              have r7 := hm.out.rr.cell 7 (by omega)
              have f0 := hm.out.rr.free 0
              have f1 := hm.out.rr.free 1
              have f2 := hm.out.rr.free 2
              have f3 := hm.out.rr.free 3
              have f4 := hm.out.rr.free 4
              have f5 := hm.out.rr.free 5
              have f6 := hm.out.rr.free 6
              have f7 := hm.out.rr.free 7
              clear hs
              obtain ⟨xa, xb, xc, xd, xe, xf, xg, xh⟩ := s
              simp only []
              go_wp2_with fail
              refine bodyPost_ret (v := .agg #[.int .u32 ((S.a + xa) % 4294967296), .int .u32 ((S.b + xb) % 4294967296), .int .u32 ((S.c + xc) % 4294967296), .int .u32 ((S.d + xd) % 4294967296), .int .u32 ((S.e + xe) % 4294967296), .int .u32 ((S.f + xf) % 4294967296), .int .u32 ((S.g + xg) % 4294967296), .int .u32 ((S.h + xh) % 4294967296)]) (by simp [results, Tryd.results86, go_sem, r0, r1, r2, r3, r4, r5, r6, r7]) rfl ⟨?_, ?_⟩
              · rw [← HM.out]; rfl
              · have hb := hm.out.below
                repeat (first | with_reducible exact hb | with_reducible refine Below.setCell ?_ (by simp; try omega) _)
end Go.Proofs.YtjlodnecdngdfaaDoor
