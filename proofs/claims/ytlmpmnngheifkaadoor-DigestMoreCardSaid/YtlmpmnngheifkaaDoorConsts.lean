/-
  basculeref02.Constants.
-/
import Derived.Test.YtlmpmnngheifkaaDoorConstNum
import Derived.Test.YtlmpmnngheifkaaDoorRefFrame
namespace Go.Proofs.YtlmpmnngheifkaaDoor
open Go.RowKit
set_option maxRecDepth 100000

def fR (n i j : Nat) : Int := if j < i then ((rootM (plist.getD j 0) n : Nat) : Int) else 0
theorem fR_step (n i j : Nat) : updK (fR n i) i ((rootM (plist.getD i 0) n : Nat) : Int) j = fR n (i + 1) j := by
  by_cases h : j = i
  · subst h; rw [updK_same]; unfold fR; rw [if_pos (by omega)]
  · rw [updK_ne _ _ h]
    unfold fR
    by_cases h2 : j < i
    · rw [if_pos h2, if_pos (by omega)]
    · rw [if_neg h2, if_neg (by omega)]
theorem plist_small : ∀ i : Fin 64, plist.getD i.val 0 < 1000 := by decide
theorem RwK.tab {w : World} {b : Nat} {F : List Int} (hF : F.length = 64) (h : RwK .u32 w b 64 56 (fun i => F.getD i 0)) : TabAt w b F := by
  have := h.block
  rw [show ((List.range 64).map fun i => Value.int .u32 (F.getD i 0)) = uc F from (list_ext_K (k := .u32) (by simp [uc, hF]) (fun i hi => by simp [uc, List.getD, hF, hi])).symm] at this
  exact this
@[go_sem] theorem h0L_len : h0L.length = 8 := by simp [h0L]
@[go_sem ↓] theorem load8 (a : Addr) : loadCellsFrom a 0 8 #[] = rowLoad a 8 := rfl
/-- Block b of w holds eight words. -/
def U8At (w : World) (b : Nat) (F : List Int) : Prop := w.heap[b]? = some (.cells (uc F).toArray 50 (0, 0))
theorem U8At.there {w : World} {b : Nat} {G : List Int} (h : U8At w b G) (hG : G.length = 8) : w.there b 0 8 := fun j hj => by
  refine ⟨?_, Joins.unfrozen_of_block h _⟩
  rw [cell_of_row _ _ _ _ _ _ h]
  simp [uc_len, hG, hj]
theorem U8At.put {w : World} {b : Nat} {G : List Int} (h : U8At w b G) (hG : G.length = 8) {F : List Int} (hF : F.length = 8) : U8At (w.setCells b 0 (uc F)) b F := by
  have := setCells_block (b := b) (t := 50) (fr := (0, 0)) (uc F) (o := 0) (w := w) (pre := []) (mid := uc G) (post := []) (by simp only [List.nil_append, List.append_nil]; exact h) rfl (by rw [uc_len, uc_len, hF, hG])
  simpa only [U8At, List.nil_append, List.append_nil] using this
theorem U8At.row {w : World} {b : Nat} {F : List Int} (h : U8At w b F) (hF : F.length = 8) : rowOf w b 0 8 = uc F := by
  rw [rowOf_block h]
  have : (uc F).length = 8 := by rw [uc_len, hF]
  simp [List.take_of_length_le (Nat.le_of_eq this)]
theorem U8At.on {w w1 : World} {b : Nat} {F : List Int} (h : U8At w b F) (hb : Below w.heap.size w w1) : U8At w1 b F := by
  have : b < w.heap.size := (Array.getElem?_eq_some_iff.1 h).1
  unfold U8At
  rw [hb.block _ this]; exact h
theorem U8At.setCells {w : World} {b c : Nat} {F : List Int} (h : U8At w b F) (hc : b ≠ c) (vs : List Value) (o : Nat) : U8At (w.setCells c o vs) b F := by
  unfold U8At; rw [setCells_other hc]; exact h
theorem TabAt.setCells {w : World} {b c : Nat} {F : List Int} (h : TabAt w b F) (hc : b ≠ c) (vs : List Value) (o : Nat) : TabAt (w.setCells c o vs) b F := by
  unfold TabAt; rw [setCells_other hc]; exact h
structure CsS (w w1 wr : World) (g a b : Nat) : Prop where
  below : Below w.heap.size w wr
  r0 : wr.heap[w.heap.size]? = some (.cells #[.int .u32 0, .int .u32 0, .int .u32 0, .int .u32 0, .int .u32 0, .int .u32 0, .int .u32 0, .int .u32 0] 50 (0, 0))
  r1 : TabAt wr (w.heap.size + 1) zero64
  p : ∀ i, i < 64 → wr.cell? ⟨g, i, none⟩ = some (.int .u64 ((plist.getD i 0 : Nat) : Int))
  s : RwK .u32 wr w1.heap.size 8 50 (fR 2 a)
  k : RwK .u32 wr (w1.heap.size + 1) 64 56 (fR 3 b)
  lt : w.heap.size + 1 < w1.heap.size
  hg : g < w1.heap.size
theorem CsS.on {w w1 wr w2 : World} {g a b : Nat} (h : CsS w w1 wr g a b) (hb : Below wr.heap.size wr w2) : CsS w w1 w2 g a b :=
  ⟨h.below.trans (hb.mono h.below.size), by have := lt_of_block h.r0; rw [hb.block _ this]; exact h.r0, h.r1.on hb, fun i hi => oldW hb (h.p i hi), h.s.on hb, h.k.on hb, h.lt, h.hg⟩
theorem CsS.putS {w w1 wr : World} {g a b : Nat} (h : CsS w w1 wr g a b) (ha : a < 8) : CsS w w1 (wr.setCell ⟨w1.heap.size, a, none⟩ (.int .u32 ((rootM (plist.getD a 0) 2 : Nat) : Int))) g (a + 1) b := by
  have l := h.lt
  have hg := h.hg
  refine ⟨h.below.setCell (p := ⟨w1.heap.size, a, none⟩) (by show w.heap.size ≤ w1.heap.size; omega) _, ?_, ?_, fun i hi => ?_, (h.s.store ha _).same fun j _ => fR_step 2 a j, h.k.other (a := ⟨w1.heap.size, a, none⟩) (by show w1.heap.size + 1 ≠ w1.heap.size; omega) _, l, hg⟩
  · rw [Below.heap_setCell _ _ _ _ (by show w.heap.size ≠ w1.heap.size; omega)]; exact h.r0
  · unfold TabAt; rw [Below.heap_setCell _ _ _ _ (by show w.heap.size + 1 ≠ w1.heap.size; omega)]; exact h.r1
  · rw [World.cell?_of_block (w := wr) (Below.heap_setCell _ _ _ _ (by show g ≠ w1.heap.size; omega))]; exact h.p i hi
theorem CsS.putK {w w1 wr : World} {g a b : Nat} (h : CsS w w1 wr g a b) (hb : b < 64) : CsS w w1 (wr.setCell ⟨w1.heap.size + 1, b, none⟩ (.int .u32 ((rootM (plist.getD b 0) 3 : Nat) : Int))) g a (b + 1) := by
  have l := h.lt
  have hg := h.hg
  refine ⟨h.below.setCell (p := ⟨w1.heap.size + 1, b, none⟩) (by show w.heap.size ≤ w1.heap.size + 1; omega) _, ?_, ?_, fun i hi => ?_, h.s.other (a := ⟨w1.heap.size + 1, b, none⟩) (by show w1.heap.size ≠ w1.heap.size + 1; omega) _, (h.k.store hb _).same fun j _ => fR_step 3 b j, l, hg⟩
  · rw [Below.heap_setCell _ _ _ _ (by show w.heap.size ≠ w1.heap.size + 1; omega)]; exact h.r0
  · unfold TabAt; rw [Below.heap_setCell _ _ _ _ (by show w.heap.size + 1 ≠ w1.heap.size + 1; omega)]; exact h.r1
  · rw [World.cell?_of_block (w := wr) (Below.heap_setCell _ _ _ _ (by show g ≠ w1.heap.size + 1; omega))]; exact h.p i hi

set_option maxHeartbeats 4000000 in
theorem Consts_any (w : World) : Calls Tryd.prog 33 #[] w fun e w' => e = .returned (.tuple #[.agg (uc h0L).toArray, .agg (uc rootsZ).toArray]) ∧ Below w.heap.size w w' := by
  have B0 := Lib.hid (((Below.refl w.heap.size w).alloc (Nat.le_refl _) (.cells #[.int .u32 0, .int .u32 0, .int .u32 0, .int .u32 0, .int .u32 0, .int .u32 0, .int .u32 0, .int .u32 0] 50)).alloc (by simp) (.cells (uc zero64).toArray 56))
  have R0 := Lib.hid (by rw [Below.heap_alloc _ _ _ (by simp)]; exact heap_alloc_new w _ : ((w.alloc (.cells #[.int .u32 0, .int .u32 0, .int .u32 0, .int .u32 0, .int .u32 0, .int .u32 0, .int .u32 0, .int .u32 0] 50)).alloc (.cells (uc zero64).toArray 56)).heap[w.heap.size]? = some (.cells #[.int .u32 0, .int .u32 0, .int .u32 0, .int .u32 0, .int .u32 0, .int .u32 0, .int .u32 0, .int .u32 0] 50 (0, 0)))
  have R1 := TabAt.new (w.alloc (.cells #[.int .u32 0, .int .u32 0, .int .u32 0, .int .u32 0, .int .u32 0, .int .u32 0, .int .u32 0, .int .u32 0] 50)) zero64
  rw [World.size_alloc] at R1
  replace R1 := Lib.hid R1
  go_enter Tryd.func33, Tryd.ntmps33
  go_wp2_with fail
  generalize hW0 : (w.alloc (.cells #[.int .u32 0, .int .u32 0, .int .u32 0, .int .u32 0, .int .u32 0, .int .u32 0, .int .u32 0, .int .u32 0] 50)).alloc (.cells (uc zero64).toArray 56) = W0 at *
  have hs0 : W0.heap.size = w.heap.size + 1 + 1 := by rw [← hW0]; simp
  clear hW0
  refine (primes_any _).mono ?_
  rintro e w1 ⟨v, rfl, hp⟩
  have hbp := hp.below
  obtain ⟨g, c, rfl, hc0⟩ := hp.cell (i := 0) (by decide)
  have hg := lt_of_cell hc0
  have pl64 : plist.length = 64 := rfl
  rw [pl64]
  have hpc : ∀ i, i < 64 → w1.cell? ⟨g, i, none⟩ = some (.int .u64 ((plist.getD i 0 : Nat) : Int)) := fun i hi => by
    obtain ⟨g', c', e, h⟩ := hp.cell (i := i) hi
    simp only [Value.slice.injEq, Option.some.injEq, Addr.mk.injEq] at e
    rw [e.1.1]; exact h
  clear pl64
  have hw1 : w.heap.size + 1 < w1.heap.size := by have := hbp.size; omega
  have H0 : Hid (CsS w w1 ((w1.alloc (.cells #[.int .u32 0, .int .u32 0, .int .u32 0, .int .u32 0, .int .u32 0, .int .u32 0, .int .u32 0, .int .u32 0] 50)).alloc (.cells (uc zero64).toArray 56)) g 0 0) := by
    have hb2 : Below w1.heap.size w1 ((w1.alloc (.cells #[.int .u32 0, .int .u32 0, .int .u32 0, .int .u32 0, .int .u32 0, .int .u32 0, .int .u32 0, .int .u32 0] 50)).alloc (.cells (uc zero64).toArray 56)) := ((Below.refl _ _).alloc (Nat.le_refl _) _).alloc (by simp) _
    have hk := RwK.newL .u32 (w1.alloc (.cells #[.int .u32 0, .int .u32 0, .int .u32 0, .int .u32 0, .int .u32 0, .int .u32 0, .int .u32 0, .int .u32 0] 50)) zero64 56
    rw [World.size_alloc] at hk
    have hs := (RwK.newL .u32 w1 [0, 0, 0, 0, 0, 0, 0, 0] 50).alloc (.cells (uc zero64).toArray 56)
    have z8 : ∀ j : Fin 8, ([0, 0, 0, 0, 0, 0, 0, 0] : List Int).getD j.val 0 = 0 := by decide
    have z64 : ∀ j : Fin 64, zero64.getD j.val 0 = 0 := by decide
    refine ⟨(B0.out.trans (hbp.mono B0.out.size)).trans (hb2.mono (by omega)), ?_, (R1.out.on hbp).on hb2, fun i hi => oldW hb2 (hpc i hi), RwK.same (n := 8) hs (fun j hj => ?_), RwK.same (n := 64) hk (fun j hj => ?_), hw1, hg⟩
    · have h1 := lt_of_block R0.out
      rw [hb2.block _ (by omega), hbp.block _ h1]; exact R0.out
    · rw [z8 ⟨j, hj⟩]; simp [fR]
    · rw [z64 ⟨j, hj⟩]; simp [fR]
  clear hp hbp hpc hc0 B0 R0 R1 hs0
  go_wp2_with fail
  generalize (w1.alloc (.cells #[.int .u32 0, .int .u32 0, .int .u32 0, .int .u32 0, .int .u32 0, .int .u32 0, .int .u32 0, .int .u32 0] 50)).alloc (.cells (uc zero64).toArray 56) = W1 at *
  go_loopw [5] (fun iv wr => ∃ i : Nat, iv = .int .i64 i ∧ i ≤ 64 ∧ Hid (CsS w w1 wr g (min i 8) i)) (fun iv _ => 64 - (intOf iv).toNat)
  case atStart => exact ⟨0, rfl, by omega, H0⟩
  case round =>
    clear H0
    obtain ⟨i, rfl, hi, hC⟩ := hrel
    by_cases hlt : i < 64
    · have i0 : (0 : Int) ≤ (i : Int) := by omega
      have i1 : (i : Int) < 64 := by omega
      have hq := hC.out.p i hlt
      have hqs := plist_small ⟨i, hlt⟩
      simp only at hqs
      by_cases h8 : i < 8
      · have i2 : (i : Int) < 8 := by omega
        have hC2 := hC.out
        rw [show min i 8 = i by omega] at hC2
        have HC := Lib.hid hC2
        have HN8 : min (i + 1) 8 = i + 1 := by omega
        obtain ⟨z, hz⟩ : ∃ z, plist.getD i 0 = z := ⟨_, rfl⟩
        rw [hz] at hq hqs
        have HZ := Lib.hid hz
        clear hz hC hC2
        go_wp2_with fail
        refine (root_any _ (n := 2) (by omega) (by omega)).mono ?_
        rintro e w3 ⟨rfl, hb3⟩
        have H3 := Lib.hid (HC.out.on hb3)
        have H3p := H3.out.putS h8
        rw [HZ.out] at H3p
        have H4 := Lib.hid H3p
        have cs := H3.out.s.cell i h8
        have fs := H3.out.s.free i
        obtain ⟨sv, hsv⟩ : ∃ v, fR 2 i i = v := ⟨_, rfl⟩
        rw [hsv] at cs
        have hq4 := H3p.p i hlt
        rw [HZ.out] at hq4
        clear hsv hb3 H3p hq
        go_wp2_with fail
        refine (root_any _ (n := 3) (by omega) (by omega)).mono ?_
        rintro e w5 ⟨rfl, hb5⟩
        have H5 := Lib.hid (H4.out.on hb5)
        have H5p := H5.out.putK hlt
        rw [HZ.out] at H5p
        have HN := Lib.hid H5p
        have ck := H5.out.k.cell i hlt
        have fk := H5.out.k.free i
        obtain ⟨tv, htv⟩ : ∃ v, fR 3 i i = v := ⟨_, rfl⟩
        rw [htv] at ck
        clear htv hb5 H5p
        go_wp2_with fail
        go_roundw
        case rel => exact ⟨i + 1, by go_num, by omega, by rw [HN8]; exact HN⟩
        case measure => simp [intOf]; omega
      · have i2 : ¬ (i : Int) < 8 := by omega
        have hC2 := hC.out
        rw [show min i 8 = 8 by omega] at hC2
        have H4 := Lib.hid hC2
        have HN8 : min (i + 1) 8 = 8 := by omega
        obtain ⟨z, hz⟩ : ∃ z, plist.getD i 0 = z := ⟨_, rfl⟩
        rw [hz] at hq hqs
        have HZ := Lib.hid hz
        clear hz hC hC2
        go_wp2_with fail
        refine (root_any _ (n := 3) (by omega) (by omega)).mono ?_
        rintro e w5 ⟨rfl, hb5⟩
        have H5 := Lib.hid (H4.out.on hb5)
        have H5p := H5.out.putK hlt
        rw [HZ.out] at H5p
        have HN := Lib.hid H5p
        have ck := H5.out.k.cell i hlt
        have fk := H5.out.k.free i
        obtain ⟨tv, htv⟩ : ∃ v, fR 3 i i = v := ⟨_, rfl⟩
        rw [htv] at ck
        clear htv hb5 H5p
        go_wp2_with fail
        go_roundw
        case rel => exact ⟨i + 1, by go_num, by omega, by rw [HN8]; exact HN⟩
        case measure => simp [intOf]; omega
    · obtain rfl : i = 64 := by omega
      have hC2 := hC.out
      rw [show min 64 8 = 8 from rfl] at hC2
      have HC := Lib.hid hC2
      clear hC hC2
      have hs8 : U8At wr w1.heap.size h0L := by
        have h := (HC.out.s.same (g := fun j => h0L.getD j 0) (fun j hj => by unfold fR; rw [if_pos hj]; exact roots2 ⟨j, hj⟩)).block
        exact h
      have hk64 : TabAt wr (w1.heap.size + 1) rootsZ := RwK.tab rootsZ_len (HC.out.k.same (fun j hj => by unfold fR; rw [if_pos hj]; exact roots3 ⟨j, hj⟩))
      have l := HC.out.lt
      have Q := Lib.hid (And.intro hs8 hk64)
      have T0 : U8At wr w.heap.size [0, 0, 0, 0, 0, 0, 0, 0] := HC.out.r0
      have B1 := Lib.hid HC.out.below
      have T1 := Lib.hid HC.out.r1
      have T0H := Lib.hid T0
      clear hs8 hk64 T0 HC
      go_wp2_with fail
      refine wp_region_held_drew (S := fun W => U8At W w1.heap.size h0L ∧ TabAt W (w1.heap.size + 1) rootsZ) (by kernel_rfl) (Q.out) (fun h0 => ?_)
      refine wpAnyH_take (i := 0) (v := ?_) (by rw [List.getElem?_toArray]; rfl) (by kernel_rfl) (by kernel_rfl) (by kernel_rfl) (by exact fun _ _ _ h => h) (Or.inl ⟨by rfl, ?_⟩) h0 ?_
      rotate_left
      · intro W hW
        have hr := hW.1.row h0L_len
        go_simp
        all_goals with_reducible rfl
      try simp only [Act.put, List.setIfInBounds_toArray, List.set_cons_zero, List.set_cons_succ]
      refine wpAnyH_take (i := 1) (v := ?_) (by rw [List.getElem?_toArray]; rfl) (by kernel_rfl) (by kernel_rfl) (by kernel_rfl) (by exact fun _ _ _ h => h) (Or.inl ⟨by rfl, ?_⟩) h0 ?_
      rotate_left
      · intro W hW
        have hr := hW.2.row rootsZ_len
        go_simp
        all_goals with_reducible rfl
      try simp only [Act.put, List.setIfInBounds_toArray, List.set_cons_zero, List.set_cons_succ]
      refine wpAnyH_ready (rs := [2]) (by kernel_rfl) (by simp) ?_
      refine AllReadyH.cons (by rw [List.getElem?_toArray]; rfl) (fun K hK => ?_) AllReadyH.nil
      rw [if_pos (by rfl)]
      have hth : wr.drew.there w.heap.size 0 8 := T0H.out.there rfl
      go_wp2_with fail
      refine hK.out _ _ (⟨h0.1.setCells (c := w.heap.size) (by omega) _ _, h0.2.setCells (c := w.heap.size) (by omega) _ _⟩) (fun h2 => ?_)
      clear hK K
      try simp only [Act.put, List.setIfInBounds_toArray, List.set_cons_zero, List.set_cons_succ]
      refine wpAnyH_ready (rs := [3]) (by kernel_rfl) (by simp) ?_
      refine AllReadyH.cons (by rw [List.getElem?_toArray]; rfl) (fun K hK => ?_) AllReadyH.nil
      rw [if_pos (by rfl)]
      have hth : (wr.drew.setCells w.heap.size 0 (uc h0L)).there (w.heap.size + 1) 0 64 := TabAt.there (w := wr.drew.setCells w.heap.size 0 (uc h0L)) (TabAt.setCells (w := wr.drew) T1.out (c := w.heap.size) (by omega) (uc h0L) 0) zero64_len
      have G3 : Hid (U8At ((wr.drew.setCells w.heap.size 0 (uc h0L)).setCells (w.heap.size + 1) 0 (uc rootsZ)) w.heap.size h0L ∧ TabAt ((wr.drew.setCells w.heap.size 0 (uc h0L)).setCells (w.heap.size + 1) 0 (uc rootsZ)) (w.heap.size + 1) rootsZ ∧ Below w.heap.size w ((wr.drew.setCells w.heap.size 0 (uc h0L)).setCells (w.heap.size + 1) 0 (uc rootsZ))) :=
        ⟨U8At.setCells (w := wr.drew.setCells w.heap.size 0 (uc h0L)) (U8At.put (w := wr.drew) T0H.out rfl h0L_len) (c := w.heap.size + 1) (by omega) (uc rootsZ) 0, TabAt.put (w := wr.drew.setCells w.heap.size 0 (uc h0L)) (TabAt.setCells (w := wr.drew) T1.out (c := w.heap.size) (by omega) (uc h0L) 0) zero64_len rootsZ_len, below_setCells' _ (by omega) _ _ (below_setCells' _ (by omega) _ _ B1.out.drew)⟩
      go_wp2_with fail
      refine hK.out _ _ (⟨h2.1.setCells (c := w.heap.size + 1) (by omega) _ _, h2.2.setCells (c := w.heap.size + 1) (by omega) _ _⟩) (fun h3 => ?_)
      clear hK K
      try simp only [Act.put, List.setIfInBounds_toArray, List.set_cons_zero, List.set_cons_succ]
      refine wpAnyH_done (by kernel_rfl) ?_ _
      go_wp2_with fail
      have r8 := G3.out.1.row h0L_len
      have r64 := G3.out.2.1.row rootsZ_len
      go_wp2_with fail
      refine bodyPost_ret (v := .tuple #[.agg (uc h0L).toArray, .agg (uc rootsZ).toArray]) (by simp [results, Tryd.results33, go_sem, r8, r64, h0L_len, rootsZ_len]) rfl ⟨rfl, G3.out.2.2⟩
end Go.Proofs.YtlmpmnngheifkaaDoor
