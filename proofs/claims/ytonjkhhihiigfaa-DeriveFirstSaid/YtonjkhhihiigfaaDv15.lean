/-
  Blocks, copied from the document's kind to the program's.; Lists of blocks, copied from the document's kind to the program's.; A writer and blobs.
-/
import Derived.Test.YtonjkhhihiigfaaDv1
import Derived.Test.YtonjkhhihiigfaaDv5
import Derived.Test.YtonjkhhihiigfaaDv14
namespace Go.Proofs.Ytonjkhhihiigfaa
set_option maxRecDepth 100000
open Go.RowKit

theorem RwF.rdL {w : World} {F : Fp} {q : Option Addr} {c : Nat} {L : List (List Int)} (h : RwF 1 [] PBs w F q L) : RdL w (.slice q L.length c) L [] := by
  refine ⟨q, c, rfl, ?_⟩
  rcases h with h | ⟨b, off, e, _, hx⟩
  · exact .inl h
  · refine .inr ⟨b, off, e, by simp, fun i hi => ?_⟩
    obtain ⟨r, h1, h2, q', c', h3, h4⟩ := hx i hi
    subst h3
    refine ⟨.slice q' (L.getD i []).length c', ?_, h4.rd, by simp⟩
    have := row_cell h2 h1 (j := 0) (v := .slice q' (L.getD i []).length c') rfl
    simpa using this
theorem PtS.fp {w wr : World} {L : List (List Int)} {v : Value} {vs : List Value} (h : PtS w wr L L.length v vs) : ∃ q c, v = .slice q L.length c ∧ RwF 1 [] PBs wr (fun x => w.heap.size ≤ x) q L := by
  obtain ⟨q, c, rfl⟩ := own_slice h.own
  refine ⟨q, c, rfl, ?_⟩
  rcases h.own.2 with ⟨e, h0⟩ | ⟨g, cap, cur, e, _, hg, hnc, hcm, hcs', htake⟩
  · exact .inl (List.eq_nil_of_length_eq_zero h0)
  · simp only [Value.slice.injEq] at e
    obtain ⟨rfl, -, rfl⟩ := e
    refine .inr ⟨g, 0, rfl, h.fresh g rfl, fun i hi => ?_⟩
    have hl := h.len
    obtain ⟨u, hu⟩ : ∃ u, vs[i]? = some u := ⟨_, List.getElem?_eq_getElem (by omega)⟩
    obtain ⟨e1, e2⟩ := h.each i u hu
    obtain ⟨q', c', rfl⟩ := own_slice e1
    refine ⟨_, ?_, rfl, q', c', ?_, rd_of_row e1, fun _ x hx => e2 x hx⟩
    all_goals
      have e3 : rowOf wr g (0 + i * 1) 1 = [.slice q' (L.getD i []).length c'] := by
        rw [rowOf_block hg]
        have h9 : cur[i]? = some (.slice q' (L.getD i []).length c') := by
          rw [← Array.getElem?_toList]
          rw [← htake, List.getElem?_take] at hu
          split at hu
          · exact hu
          · cases hu
        apply List.ext_getElem?
        intro j
        rw [Array.getElem?_toList, Array.getElem?_extract]
        rcases j with _ | j
        · rw [if_pos (by omega), Nat.zero_add, Nat.mul_one, Nat.add_zero, h9]; rfl
        · rw [if_neg (by omega)]; simp
    · rw [e3]; rfl
    · exact e3
theorem Try.infoMg : (Try.prog.info? 52).map (fun i => (i.zero, i.size, i.bytes)) = some (some (.agg (mgRow mg0 none 0 0).toArray), 9, 88) := by kernel_rfl
theorem mg0_cells : (Value.agg (mgRow mg0 none 0 0).toArray).cells.size = 9 := by rfl
@[go_sem ↓] theorem Try.slice_mgd (ps : Array (Nat × Value)) : Instr.buildSlice 70 1 ps = rowNew 70 ps := rfl
theorem Try.run_slice_mgd (w : World) (R : List Value) (hR : R.length = 9) :
    (rowNew 70 #[(0, .agg R.toArray)]).run Try.prog w = .ok (.slice (some ⟨w.heap.size, 0, none⟩) 1 1) (w.alloc (.cells R.toArray 52)) :=
  run_bs_one w Try.underlying70 (by kernel_rfl) (zs := mgRow mg0 none 0 0) (by kernel_rfl) (n := 9) (by decide) (by decide) hR
/-- What the law's Own answers. -/
def OwnP (x : Bk) (w : World) (e : Ending) (w' : World) : Prop := ∃ qd kd qb kb, e = .returned (.agg #[.slice qd x.ds.length kd, .slice qb x.bs.length kb]) ∧ RwF 9 mg0 PMg w' (fun x => w.heap.size ≤ x) qd x.ds ∧ RwF 1 [] PBs w' (fun x => w.heap.size ≤ x) qb x.bs ∧ Below w.heap.size w w'

set_option maxHeartbeats 2000000 in
theorem OwnBk_any {w : World} {F : Fp} {x : Bk} {qd qb : Option Addr} {kd kb : Nat} (hd : RwF 9 mg0 PMg w F qd x.ds) (hb : RwF 1 [] PBs w F qb x.bs) (sm : x.sm) :
    Calls Try.prog 26 #[.agg #[.slice qd x.ds.length kd, .slice qb x.bs.length kb]] w (OwnP x w) := by
  obtain ⟨i0, hi, hz0, hz1, hz2⟩ := info_parts Try.infoMg
  replace hi := Lib.hid hi
  replace hz0 := Lib.hid hz0
  replace hz1 := Lib.hid hz1
  replace hz2 := Lib.hid hz2
  have SM := Lib.hid sm
  have HDS := Lib.hid hd
  have b1 : Below w.heap.size w (w.alloc (.cells #[.slice qd x.ds.length kd, .slice qb x.bs.length kb] 60)) := (Below.refl _ _).alloc (Nat.le_refl _) _
  have b2 : Below (w.alloc (.cells #[.slice qd x.ds.length kd, .slice qb x.bs.length kb] 60)).heap.size (w.alloc (.cells #[.slice qd x.ds.length kd, .slice qb x.bs.length kb] 60)) ((w.alloc (.cells #[.slice qd x.ds.length kd, .slice qb x.bs.length kb] 60)).alloc (.cells #[.slice none 0 0, .slice none 0 0] 72)) := (Below.refl _ _).alloc (Nat.le_refl _) _
  have hz : (w.alloc (.cells #[.slice qd x.ds.length kd, .slice qb x.bs.length kb] 60)).heap.size = w.heap.size + 1 := by simp
  have B0 := Lib.hid (b1.trans (b2.mono b1.size))
  have K00 := heap_alloc_new w (.cells #[.slice qd x.ds.length kd, .slice qb x.bs.length kb] 60)
  have K0 : Hid (((w.alloc (.cells #[.slice qd x.ds.length kd, .slice qb x.bs.length kb] 60)).alloc (.cells #[.slice none 0 0, .slice none 0 0] 72)).heap[w.heap.size]? = some (.cells #[.slice qd x.ds.length kd, .slice qb x.bs.length kb] 60 (0, 0))) := by
    show _ = _
    rw [b2.block _ (Array.getElem?_eq_some_iff.1 K00).1]; exact K00
  have R0 := heap_alloc_new (w.alloc (.cells #[.slice qd x.ds.length kd, .slice qb x.bs.length kb] 60)) (.cells #[.slice none 0 0, .slice none 0 0] 72)
  rw [hz] at R0
  have R0 := Lib.hid R0
  have SZ : Hid (((w.alloc (.cells #[.slice qd x.ds.length kd, .slice qb x.bs.length kb] 60)).alloc (.cells #[.slice none 0 0, .slice none 0 0] 72)).heap.size = w.heap.size + 2) := by show _ = _; simp
  have KP := Lib.hid (fun (W : World) (hW : Below w.heap.size w W) => Parts_any (L := x.bs) ((hb.on PBs_ok (by decide) hW).rdL (c := kb)) (by have := sm.bs; omega) (fun i => by
    by_cases h : i < x.bs.length
    · have := sm.bd _ (getD_mem (d := []) h); omega
    · have e : x.bs.getD i [] = [] := by simp [List.getD, Nat.not_lt.1 h]
      rw [e]; simp))
  have e1 := (Joins.cell_of_block K0.out 1).trans (rfl : _ = some _)
  clear hd hb sm b1 b2 hz K00
  go_enter Try.func26, Try.ntmps26
  go_wp2_with fail
  clear e1
  generalize ((w.alloc (.cells #[.slice qd x.ds.length kd, .slice qb x.bs.length kb] 60)).alloc (.cells #[.slice none 0 0, .slice none 0 0] 72)) = w0 at *
  refine (KP.out _ B0.out).mono ?_
  rintro e w1 ⟨v, vs, rfl, hS⟩
  obtain ⟨qp, kp, rfl, hP⟩ := hS.fp
  have hb1 := hS.below
  have ba : Below w1.heap.size w1 (w1.alloc (.cells #[.slice none 0 0, .slice qp x.bs.length kp] 72)) := (Below.refl _ _).alloc (Nat.le_refl _) _
  have hb2 := hb1.trans (ba.mono hb1.size)
  have KO := heap_alloc_new w1 (.cells #[.slice none 0 0, .slice qp x.bs.length kp] 72)
  have K1 : Hid ((w1.alloc (.cells #[.slice none 0 0, .slice qp x.bs.length kp] 72)).heap[w.heap.size]? = some (.cells #[.slice qd x.ds.length kd, .slice qb x.bs.length kb] 60 (0, 0))) := by
    show _ = _
    rw [hb2.block _ (Array.getElem?_eq_some_iff.1 K0.out).1]; exact K0.out
  have R1 : Hid ((w1.alloc (.cells #[.slice none 0 0, .slice qp x.bs.length kp] 72)).heap[w.heap.size + 1]? = some (.cells #[.slice none 0 0, .slice none 0 0] 72 (0, 0))) := by
    show _ = _
    rw [hb2.block _ (Array.getElem?_eq_some_iff.1 R0.out).1]; exact R0.out
  have B1 := Lib.hid (B0.out.trans (hb2.mono B0.out.size))
  have hbo : Hid (w.heap.size + 2 ≤ w1.heap.size) := by show _ ≤ _; have := SZ.out; have := hb1.size; omega
  have PB1 := hP.on PBs_ok (by decide) ba
  have PP1 : Hid (RwF 1 [] PBs (w1.alloc (.cells #[.slice none 0 0, .slice qp x.bs.length kp] 72)) (fun g => w.heap.size + 2 ≤ g ∧ g < w1.heap.size) qp x.bs) := ((hP.lt PBs_ok (by decide)).on PBs_ok (by decide) ba).mono PBs_ok (fun g hg => ⟨by have := SZ.out; omega, hg.2⟩)
  clear hS hP hb1 ba hb2 K0 R0 B0 PB1 KP SZ
  go_wp2_with fail
  obtain ⟨bo, hboe⟩ : ∃ b, w1.heap.size = b := ⟨_, rfl⟩
  rw [hboe] at KO hbo PP1 ⊢
  have KO := Lib.hid KO
  generalize w1.alloc (.cells #[.slice none 0 0, .slice qp x.bs.length kp] 72) = w2 at *
  clear hboe
  have PP2 : Hid (RwF 1 [] PBs w2 (fun g => (w.heap.size + 2 ≤ g ∧ g ≠ bo) ∧ (Value.slice none ([] : List Mg).length 0).ownBlock ≠ some g) qp x.bs) := PP1.out.mono PBs_ok (fun g hg => ⟨⟨hg.1, by omega⟩, by simp [Value.ownBlock]⟩)
  have O0 : Hid (OwF 9 mg0 PMg (fun g => w.heap.size + 2 ≤ g ∧ g ≠ bo) w w2 52 (.slice none ([] : List Mg).length 0) ([] : List Mg) []) := OwF.start B1.out
  clear PP1 B1
  go_loopw [4] (fun iv wr => ∃ (q1 : Option Addr) (c1 : Nat) (L : List Mg) (done : List Value), iv = .int .i64 (L.length : Int) ∧ L.length ≤ x.ds.length ∧ Hid (L = x.ds.take L.length) ∧ Hid (OwF 9 mg0 PMg (fun g => w.heap.size + 2 ≤ g ∧ g ≠ bo) w wr 52 (.slice q1 L.length c1) L done) ∧ Hid (wr.heap[bo]? = some (.cells #[.slice q1 L.length c1, .slice qp x.bs.length kp] 72 (0, 0))) ∧ Hid (RwF 1 [] PBs wr (fun g => (w.heap.size + 2 ≤ g ∧ g ≠ bo) ∧ (Value.slice q1 L.length c1).ownBlock ≠ some g) qp x.bs) ∧ Hid (wr.heap[w.heap.size]? = some (.cells #[.slice qd x.ds.length kd, .slice qb x.bs.length kb] 60 (0, 0))) ∧ Hid (wr.heap[w.heap.size + 1]? = some (.cells #[.slice none 0 0, .slice none 0 0] 72 (0, 0)))) (fun iv _ => x.ds.length - (intOf iv).toNat)
  case atStart => exact ⟨none, 0, [], [], rfl, by simp, rfl, O0, KO, PP2, K1, R1⟩
  case round =>
    clear O0 KO PP2 K1 R1
    obtain ⟨q1, c1, L, done, rfl, hil, hLe, hO, hK, hP, hB, hR⟩ := hrel
    have hd20 : x.ds.length ≤ 20 := SM.out.ds
    have e0 := (Joins.cell_of_block hB.out 0).trans (rfl : _ = some _)
    by_cases hlt : L.length < x.ds.length
    · obtain ⟨b1, off1, r1, hq1, _, hr3, hrow3, qm, km, hre3, hrd⟩ := HDS.out.get hlt
      subst hq1 hre3
      have hb1 := rowOf_lt (by decide) hr3 hrow3
      have HROW : Hid (∀ W, Below w.heap.size w W → rowOf W b1 (off1 + L.length * 9) 9 = mgRow (x.ds.getD L.length mg0) qm (x.ds.getD L.length mg0).data.length km) := fun W hW => by rw [rowOf_agr (hW.block b1 hb1)]; exact hrow3
      have HRD : Hid (∀ W, Below w.heap.size w W → Rd W (.slice qm (x.ds.getD L.length mg0).data.length km) (x.ds.getD L.length mg0).data) := fun W hW => hrd.rd.on hW
      have HLM : Hid (L ++ [x.ds.getD L.length mg0] = x.ds.take (L.length + 1)) := take_snoc hLe.out hlt
      have lm := SM.out.md _ (getD_mem (d := mg0) hlt)
      obtain ⟨m, hm⟩ : ∃ m, x.ds.getD L.length mg0 = m := ⟨_, rfl⟩
      rw [hm] at HROW HRD HLM lm
      have LM := Lib.hid lm
      have h9 := mgRow_len m qm m.data.length km
      have HLT := Lib.hid hlt
      clear hrow3 hr3 hb1 hrd hm lm hLe
      go_wp2_with fail
      clear e0
      have S0 : Below w.heap.size w wr.drew ∧ wr.drew.heap[w.heap.size]? = some (.cells #[.slice (some ⟨b1, off1, none⟩) x.ds.length kd, .slice qb x.bs.length kb] 60 (0, 0)) := ⟨hO.out.below.drew, hB.out⟩
      have O2 := Lib.hid (hO.out.on PMg_ok (Below.refl _ _).drew)
      have K2 : Hid (wr.drew.heap[bo]? = some (.cells #[.slice q1 L.length c1, .slice qp x.bs.length kp] 72 (0, 0))) := hK.out
      have P2 := Lib.hid (hP.out.on PBs_ok (by decide) (Below.refl _ _).drew)
      have R2 : Hid (wr.drew.heap[w.heap.size + 1]? = some (.cells #[.slice none 0 0, .slice none 0 0] 72 (0, 0))) := hR.out
      clear hO hK hP hB hR
      refine wp_region_held_drew (S := fun W => Below w.heap.size w W ∧ W.heap[w.heap.size]? = some (.cells #[.slice (some ⟨b1, off1, none⟩) x.ds.length kd, .slice qb x.bs.length kb] 60 (0, 0))) (by kernel_rfl) (S0) (fun h0 => ?_)
      generalize wr.drew = w5 at *
      refine wpAnyH_take (i := 0) (v := ?_) (by rw [List.getElem?_toArray]; rfl) (by kernel_rfl) (by kernel_rfl) (by kernel_rfl) (by exact fun _ _ _ h => h) (Or.inl ⟨by rfl, ?_⟩) h0 ?_
      rotate_left
      · intro W hW
        go_simp
        all_goals with_reducible rfl
      try simp only [Act.put, List.setIfInBounds_toArray, List.set_cons_zero, List.set_cons_succ]
      refine wpAnyH_take (i := 2) (v := ?_) (by rw [List.getElem?_toArray]; rfl) (by kernel_rfl) (by kernel_rfl) (by kernel_rfl) (by exact fun _ _ _ h => h) (Or.inl ⟨by rfl, ?_⟩) h0 ?_
      rotate_left
      · intro W hW
        go_simp
        all_goals with_reducible rfl
      try simp only [Act.put, List.setIfInBounds_toArray, List.set_cons_zero, List.set_cons_succ]
      refine wpAnyH_take (i := 3) (v := ?_) (by rw [List.getElem?_toArray]; rfl) (by kernel_rfl) (by kernel_rfl) (by kernel_rfl) (by exact fun _ _ _ h => h) (Or.inl ⟨by rfl, ?_⟩) h0 ?_
      rotate_left
      · intro W hW
        have e0 := (Joins.cell_of_block hW.2 0).trans (rfl : _ = some _)
        go_simp
        all_goals with_reducible rfl
      try simp only [Act.put, List.setIfInBounds_toArray, List.set_cons_zero, List.set_cons_succ]
      refine wpAnyH_take (i := 4) (v := ?_) (by rw [List.getElem?_toArray]; rfl) (by kernel_rfl) (by kernel_rfl) (by kernel_rfl) (by exact fun _ _ _ h => h) (Or.inl ⟨by rfl, ?_⟩) h0 ?_
      rotate_left
      · intro W hW
        go_simp
        all_goals with_reducible rfl
      try simp only [Act.put, List.setIfInBounds_toArray, List.set_cons_zero, List.set_cons_succ]
      refine wpAnyH_take (i := 5) (v := ?_) (by rw [List.getElem?_toArray]; rfl) (by kernel_rfl) (by kernel_rfl) (by kernel_rfl) (by exact fun _ _ _ h => h) (Or.inl ⟨by rfl, ?_⟩) h0 ?_
      rotate_left
      · intro W hW
        go_simp
        all_goals with_reducible rfl
      try simp only [Act.put, List.setIfInBounds_toArray, List.set_cons_zero, List.set_cons_succ]
      refine wpAnyH_take (i := 6) (v := ?_) (by rw [List.getElem?_toArray]; rfl) (by kernel_rfl) (by kernel_rfl) (by kernel_rfl) (by exact fun _ _ _ h => h) (Or.inl ⟨by rfl, ?_⟩) h0 ?_
      rotate_left
      · intro W hW
        have hrw := HROW.out W hW.1
        go_simp
        all_goals with_reducible rfl
      try simp only [Act.put, List.setIfInBounds_toArray, List.set_cons_zero, List.set_cons_succ]
      refine wpAnyH_ready (rs := [1, 7]) (by kernel_rfl) (by simp) ?_
      refine AllReadyH.cons (by rw [List.getElem?_toArray]; rfl) (fun K hK => ?_) (AllReadyH.cons (by rw [List.getElem?_toArray]; rfl) (fun K hK => ?_) AllReadyH.nil)
      · rw [if_pos (by rfl)]
        have c1' := (Joins.cell_of_block K2.out 0).trans (rfl : _ = some _)
        go_wp2_with fail
        clear c1'
        refine hK.out _ _ (h0) (fun h1 => ?_)
        clear hK K
        try simp only [Act.put, List.setIfInBounds_toArray, List.set_cons_zero, List.set_cons_succ]
        refine wpAnyH_ready (rs := [7]) (by kernel_rfl) (by simp) ?_
        refine AllReadyH.cons (by rw [List.getElem?_toArray]; rfl) (fun K hK => ?_) AllReadyH.nil
        rw [if_pos (by rfl)]
        go_wp2_with fail
        refine (Message_any (HRD.out _ h1.1) (by have := LM.out; omega)).mono ?_
        rintro e w6 ⟨q6, k6, rfl, hs⟩
        have hb6 := hs.below
        have S6 := And.intro (h1.1.trans (hb6.mono h1.1.size)) (show w6.heap[w.heap.size]? = some (.cells #[.slice (some ⟨b1, off1, none⟩) x.ds.length kd, .slice qb x.bs.length kb] 60 (0, 0)) by rw [hb6.block _ (Array.getElem?_eq_some_iff.1 h1.2).1]; exact h1.2)
        have D6 : Hid (RdF w6 (fun g => (w.heap.size + 2 ≤ g ∧ g ≠ bo) ∧ (Value.slice q1 L.length c1).ownBlock ≠ some g) (.slice q6 m.data.length k6) m.data) := hs.fp.mono (fun g hg => ⟨⟨by have := (Array.getElem?_eq_some_iff.1 R2.out).1; omega, fun e => by have := (Array.getElem?_eq_some_iff.1 K2.out).1; omega⟩, fun e => by have := own_lt O2.out.own e; omega⟩)
        have O6 := Lib.hid (O2.out.on PMg_ok hb6)
        have K6 : Hid (w6.heap[bo]? = some (.cells #[.slice q1 L.length c1, .slice qp x.bs.length kp] 72 (0, 0))) := by show _ = _; rw [hb6.block _ (Array.getElem?_eq_some_iff.1 K2.out).1]; exact K2.out
        have P6 := Lib.hid (P2.out.on PBs_ok (by decide) hb6)
        have R6 : Hid (w6.heap[w.heap.size + 1]? = some (.cells #[.slice none 0 0, .slice none 0 0] 72 (0, 0))) := by show _ = _; rw [hb6.block _ (Array.getElem?_eq_some_iff.1 R2.out).1]; exact R2.out
        have h9' := mgRow_len m q6 m.data.length k6
        have HR1 := Lib.hid (mgRow_one m q6 m.data.length k6)
        obtain ⟨R, hR⟩ : ∃ R, mgRow m q6 m.data.length k6 = R := ⟨_, rfl⟩
        have HRR := Lib.hid hR
        rw [hR] at h9' HR1 ⊢
        clear hs hb6 hR O2 K2 P2 R2
        go_wp2_with fail
        refine hK.out _ _ (S6) (fun h6 => ?_)
        clear hK K S6
        try simp only [Act.put, List.setIfInBounds_toArray, List.set_cons_zero, List.set_cons_succ]
        refine wpAnyH_ready (rs := [8]) (by kernel_rfl) (by simp) ?_
        refine AllReadyH.cons (by rw [List.getElem?_toArray]; rfl) (fun K hK => ?_) AllReadyH.nil
        rw [if_pos (by rfl)]
        have hsl := Try.run_slice_mgd w6 R h9'
        have b7 : Below w6.heap.size w6 (w6.alloc (.cells R.toArray 52)) := (Below.refl _ _).alloc (Nat.le_refl _) _
        have O7 := Lib.hid (O6.out.on PMg_ok b7)
        have D7 : Hid (PMg (w6.alloc (.cells R.toArray 52)) (fun g => (w.heap.size + 2 ≤ g ∧ g ≠ bo) ∧ (Value.slice q1 L.length c1).ownBlock ≠ some g) m R) := ⟨q6, k6, HRR.out.symm, D6.out.on b7⟩
        have K7 : Hid ((w6.alloc (.cells R.toArray 52)).heap[bo]? = some (.cells #[.slice q1 L.length c1, .slice qp x.bs.length kp] 72 (0, 0))) := by show _ = _; rw [b7.block _ (Array.getElem?_eq_some_iff.1 K6.out).1]; exact K6.out
        have P7 := Lib.hid (P6.out.on PBs_ok (by decide) b7)
        have R7 : Hid ((w6.alloc (.cells R.toArray 52)).heap[w.heap.size + 1]? = some (.cells #[.slice none 0 0, .slice none 0 0] 72 (0, 0))) := by show _ = _; rw [b7.block _ (Array.getElem?_eq_some_iff.1 R6.out).1]; exact R6.out
        have S7 := And.intro (h6.1.trans (b7.mono h6.1.size)) (show (w6.alloc (.cells R.toArray 52)).heap[w.heap.size]? = some (.cells #[.slice (some ⟨b1, off1, none⟩) x.ds.length kd, .slice qb x.bs.length kb] 60 (0, 0)) by rw [b7.block _ (Array.getElem?_eq_some_iff.1 h6.2).1]; exact h6.2)
        have SR := Lib.hid (src_any (P := Try.prog) (T := 52) (w := w6) Try.underlying70 h9' HR1.out)
        have OW7 := Lib.hid O7.out.own
        clear b7 O6 K6 P6 R6 D6
        go_wp2_with fail
        clear hsl
        refine hK.out _ _ (S7) (fun h7 => ?_)
        clear hK K S7
        try simp only [Act.put, List.setIfInBounds_toArray, List.set_cons_zero, List.set_cons_succ]
        generalize w6.alloc (.cells R.toArray 52) = w7 at *
        refine wpAnyH_ready (rs := [9]) (by kernel_rfl) (by simp) ?_
        refine AllReadyH.cons (by rw [List.getElem?_toArray]; rfl) (fun K hK => ?_) AllReadyH.nil
        rw [if_pos (by rfl)]
        refine wp_append_row _ _ rfl Try.underlying70 hi.out hz0.out hz1.out hz2.out mg0_cells OW7.out SR.out (by unfold maxLen; omega) (by omega) ?_
        intro q8 k8 w8 own8 grow8 fr8
        have gr : w7.grownBy w8 (Value.slice q1 L.length c1).ownBlock := grow8
        have fr : (Value.slice q8 (L.length + 1) k8).ownBlock = (Value.slice q1 L.length c1).ownBlock ∨ (Value.slice q8 (L.length + 1) k8).ownBlock = some w7.heap.size := fr8
        have O8 := Lib.hid (O7.out.grow PMg_ok h9' D7.out own8 gr fr)
        have P8 := Lib.hid (P7.out.grown PBs_ok (by decide) gr fr)
        have NB : (Value.slice q1 L.length c1).ownBlock ≠ some bo := own_ne O7.out.own K7.out (by decide)
        have NR : (Value.slice q1 L.length c1).ownBlock ≠ some (w.heap.size + 1) := own_ne O7.out.own R7.out (by decide)
        have NX : (Value.slice q1 L.length c1).ownBlock ≠ some w.heap.size := own_ne O7.out.own h7.2 (by decide)
        have K8 : Hid (w8.heap[bo]? = some (.cells #[.slice q1 L.length c1, .slice qp x.bs.length kp] 72 (0, 0))) := by show _ = _; rw [gr.block _ (Array.getElem?_eq_some_iff.1 K7.out).1 (fun e => NB e.symm)]; exact K7.out
        have R8 : Hid (w8.heap[w.heap.size + 1]? = some (.cells #[.slice none 0 0, .slice none 0 0] 72 (0, 0))) := by show _ = _; rw [gr.block _ (Array.getElem?_eq_some_iff.1 R7.out).1 (fun e => NR e.symm)]; exact R7.out
        have S8 := And.intro (O8.out.below) (show w8.heap[w.heap.size]? = some (.cells #[.slice (some ⟨b1, off1, none⟩) x.ds.length kd, .slice qb x.bs.length kb] 60 (0, 0)) by rw [gr.block _ (Array.getElem?_eq_some_iff.1 h7.2).1 (fun e => NX e.symm)]; exact h7.2)
        clear own8 grow8 fr8 gr fr O7 P7 K7 R7 D7 SR OW7 NB NR NX
        refine hK.out _ _ (S8) (fun h8 => ?_)
        clear hK K S8
        try simp only [Act.put, List.setIfInBounds_toArray, List.set_cons_zero, List.set_cons_succ]
        refine wpAnyH_take (i := 10) (v := ?_) (by rw [List.getElem?_toArray]; rfl) (by kernel_rfl) (by kernel_rfl) (by kernel_rfl) (by exact fun _ _ _ h => h) (Or.inl ⟨by rfl, ?_⟩) h8 ?_
        rotate_left
        · intro W hW
          go_simp
          all_goals with_reducible rfl
        try simp only [Act.put, List.setIfInBounds_toArray, List.set_cons_zero, List.set_cons_succ]
        refine wpAnyH_ready (rs := [11]) (by kernel_rfl) (by simp) ?_
        refine AllReadyH.cons (by rw [List.getElem?_toArray]; rfl) (fun K hK => ?_) AllReadyH.nil
        rw [if_pos (by rfl)]
        have y0 := Joins.unfrozen_of_block K8.out 0
        have c1' := (Joins.cell_of_block K8.out 0).trans (rfl : _ = some _)
        have cS : Chg w8 (w8.setCell ⟨bo, 0, none⟩ (.slice q8 (L.length + 1) k8)) [bo] := (Chg.refl _ _).setCell (p := ⟨bo, 0, none⟩) (.inl (by simp)) _
        have K9 : Hid ((w8.setCell ⟨bo, 0, none⟩ (.slice q8 (L.length + 1) k8)).heap[bo]? = some (.cells #[.slice q8 (L.length + 1) k8, .slice qp x.bs.length kp] 72 (0, 0))) := Joins.block_setCell K8.out _
        have NB8 : ∀ g, (Value.slice q8 (L.length + 1) k8).ownBlock = some g → g ∉ [bo] := fun g hg hm => by
          obtain rfl : g = bo := by simpa using hm
          have h := O8.out.own
          rw [List.length_append, List.length_singleton] at h
          exact own_ne h K8.out (by decide) hg
        have O9 := Lib.hid (O8.out.chg PMg_ok cS (fun g hg hm => hg.2 (by simpa using hm)) NB8 (fun y hy => by
          obtain rfl : y = bo := by simpa using hy
          have := hbo.out
          omega))
        have P9 := Lib.hid (P8.out.agr PBs_ok (by decide) (Agr.chg cS (fun g hg hm => hg.1.2 (by simpa using hm))))
        have hbx := hbo.out
        have R9 : Hid ((w8.setCell ⟨bo, 0, none⟩ (.slice q8 (L.length + 1) k8)).heap[w.heap.size + 1]? = some (.cells #[.slice none 0 0, .slice none 0 0] 72 (0, 0))) := by show _ = _; rw [cS.block _ (Array.getElem?_eq_some_iff.1 R8.out).1 (by simp; omega)]; exact R8.out
        have S9 := And.intro (O9.out.below) (show (w8.setCell ⟨bo, 0, none⟩ (.slice q8 (L.length + 1) k8)).heap[w.heap.size]? = some (.cells #[.slice (some ⟨b1, off1, none⟩) x.ds.length kd, .slice qb x.bs.length kb] 60 (0, 0)) by rw [cS.block _ (Array.getElem?_eq_some_iff.1 h8.2).1 (by simp; omega)]; exact h8.2)
        have B9 : Hid ((w8.setCell ⟨bo, 0, none⟩ (.slice q8 (L.length + 1) k8)).heap[w.heap.size]? = some (.cells #[.slice (some ⟨b1, off1, none⟩) x.ds.length kd, .slice qb x.bs.length kb] 60 (0, 0))) := S9.2
        clear cS NB8 O8 P8 K8 R8 hbx
        go_wp2_with fail
        clear y0 c1'
        refine hK.out _ _ (S9) (fun h9x => ?_)
        clear hK K S9
        try simp only [Act.put, List.setIfInBounds_toArray, List.set_cons_zero, List.set_cons_succ]
        refine wpAnyH_done (by kernel_rfl) ?_ _
        go_wp2_with fail
        go_roundw
        case rel =>
          refine ⟨q8, k8, L ++ [m], done ++ R, ?_, ?_, ?_, ?_, ?_, ?_, B9, R9⟩
          · rw [List.length_append, List.length_singleton]; go_num
          · have := HLT.out
            rw [List.length_append, List.length_singleton]
            omega
          · show _ = _
            rw [List.length_append, List.length_singleton]
            exact HLM.out
          · rw [List.length_append, List.length_singleton]; exact O9
          · rw [List.length_append, List.length_singleton]; exact K9
          · rw [List.length_append, List.length_singleton]; exact P9
        case measure => have := HLT.out; simp [intOf]; omega
      · rw [if_pos (by rfl)]
        go_wp2_with fail
        refine (Message_any (HRD.out _ h0.1) (by have := LM.out; omega)).mono ?_
        rintro e w6 ⟨q6, k6, rfl, hs⟩
        have hb6 := hs.below
        have S6 := And.intro (h0.1.trans (hb6.mono h0.1.size)) (show w6.heap[w.heap.size]? = some (.cells #[.slice (some ⟨b1, off1, none⟩) x.ds.length kd, .slice qb x.bs.length kb] 60 (0, 0)) by rw [hb6.block _ (Array.getElem?_eq_some_iff.1 h0.2).1]; exact h0.2)
        have D6 : Hid (RdF w6 (fun g => (w.heap.size + 2 ≤ g ∧ g ≠ bo) ∧ (Value.slice q1 L.length c1).ownBlock ≠ some g) (.slice q6 m.data.length k6) m.data) := hs.fp.mono (fun g hg => ⟨⟨by have := (Array.getElem?_eq_some_iff.1 R2.out).1; omega, fun e => by have := (Array.getElem?_eq_some_iff.1 K2.out).1; omega⟩, fun e => by have := own_lt O2.out.own e; omega⟩)
        have O6 := Lib.hid (O2.out.on PMg_ok hb6)
        have K6 : Hid (w6.heap[bo]? = some (.cells #[.slice q1 L.length c1, .slice qp x.bs.length kp] 72 (0, 0))) := by show _ = _; rw [hb6.block _ (Array.getElem?_eq_some_iff.1 K2.out).1]; exact K2.out
        have P6 := Lib.hid (P2.out.on PBs_ok (by decide) hb6)
        have R6 : Hid (w6.heap[w.heap.size + 1]? = some (.cells #[.slice none 0 0, .slice none 0 0] 72 (0, 0))) := by show _ = _; rw [hb6.block _ (Array.getElem?_eq_some_iff.1 R2.out).1]; exact R2.out
        have h9' := mgRow_len m q6 m.data.length k6
        have HR1 := Lib.hid (mgRow_one m q6 m.data.length k6)
        obtain ⟨R, hR⟩ : ∃ R, mgRow m q6 m.data.length k6 = R := ⟨_, rfl⟩
        have HRR := Lib.hid hR
        rw [hR] at h9' HR1 ⊢
        clear hs hb6 hR O2 K2 P2 R2
        go_wp2_with fail
        refine hK.out _ _ (S6) (fun h6 => ?_)
        clear hK K S6
        try simp only [Act.put, List.setIfInBounds_toArray, List.set_cons_zero, List.set_cons_succ]
        refine wpAnyH_ready (rs := [1, 8]) (by kernel_rfl) (by simp) ?_
        refine AllReadyH.cons (by rw [List.getElem?_toArray]; rfl) (fun K hK => ?_) (AllReadyH.cons (by rw [List.getElem?_toArray]; rfl) (fun K hK => ?_) AllReadyH.nil)
        · rw [if_pos (by rfl)]
          have c1' := (Joins.cell_of_block K6.out 0).trans (rfl : _ = some _)
          go_wp2_with fail
          clear c1'
          refine hK.out _ _ (h6) (fun h61 => ?_)
          clear hK K
          try simp only [Act.put, List.setIfInBounds_toArray, List.set_cons_zero, List.set_cons_succ]
          refine wpAnyH_ready (rs := [8]) (by kernel_rfl) (by simp) ?_
          refine AllReadyH.cons (by rw [List.getElem?_toArray]; rfl) (fun K hK => ?_) AllReadyH.nil
          rw [if_pos (by rfl)]
          have hsl := Try.run_slice_mgd w6 R h9'
          have b7 : Below w6.heap.size w6 (w6.alloc (.cells R.toArray 52)) := (Below.refl _ _).alloc (Nat.le_refl _) _
          have O7 := Lib.hid (O6.out.on PMg_ok b7)
          have D7 : Hid (PMg (w6.alloc (.cells R.toArray 52)) (fun g => (w.heap.size + 2 ≤ g ∧ g ≠ bo) ∧ (Value.slice q1 L.length c1).ownBlock ≠ some g) m R) := ⟨q6, k6, HRR.out.symm, D6.out.on b7⟩
          have K7 : Hid ((w6.alloc (.cells R.toArray 52)).heap[bo]? = some (.cells #[.slice q1 L.length c1, .slice qp x.bs.length kp] 72 (0, 0))) := by show _ = _; rw [b7.block _ (Array.getElem?_eq_some_iff.1 K6.out).1]; exact K6.out
          have P7 := Lib.hid (P6.out.on PBs_ok (by decide) b7)
          have R7 : Hid ((w6.alloc (.cells R.toArray 52)).heap[w.heap.size + 1]? = some (.cells #[.slice none 0 0, .slice none 0 0] 72 (0, 0))) := by show _ = _; rw [b7.block _ (Array.getElem?_eq_some_iff.1 R6.out).1]; exact R6.out
          have S7 := And.intro (h61.1.trans (b7.mono h61.1.size)) (show (w6.alloc (.cells R.toArray 52)).heap[w.heap.size]? = some (.cells #[.slice (some ⟨b1, off1, none⟩) x.ds.length kd, .slice qb x.bs.length kb] 60 (0, 0)) by rw [b7.block _ (Array.getElem?_eq_some_iff.1 h61.2).1]; exact h61.2)
          have SR := Lib.hid (src_any (P := Try.prog) (T := 52) (w := w6) Try.underlying70 h9' HR1.out)
          have OW7 := Lib.hid O7.out.own
          clear b7 O6 K6 P6 R6 D6
          go_wp2_with fail
          clear hsl
          refine hK.out _ _ (S7) (fun h7 => ?_)
          clear hK K S7
          try simp only [Act.put, List.setIfInBounds_toArray, List.set_cons_zero, List.set_cons_succ]
          generalize w6.alloc (.cells R.toArray 52) = w7 at *
          refine wpAnyH_ready (rs := [9]) (by kernel_rfl) (by simp) ?_
          refine AllReadyH.cons (by rw [List.getElem?_toArray]; rfl) (fun K hK => ?_) AllReadyH.nil
          rw [if_pos (by rfl)]
          refine wp_append_row _ _ rfl Try.underlying70 hi.out hz0.out hz1.out hz2.out mg0_cells OW7.out SR.out (by unfold maxLen; omega) (by omega) ?_
          intro q8 k8 w8 own8 grow8 fr8
          have gr : w7.grownBy w8 (Value.slice q1 L.length c1).ownBlock := grow8
          have fr : (Value.slice q8 (L.length + 1) k8).ownBlock = (Value.slice q1 L.length c1).ownBlock ∨ (Value.slice q8 (L.length + 1) k8).ownBlock = some w7.heap.size := fr8
          have O8 := Lib.hid (O7.out.grow PMg_ok h9' D7.out own8 gr fr)
          have P8 := Lib.hid (P7.out.grown PBs_ok (by decide) gr fr)
          have NB : (Value.slice q1 L.length c1).ownBlock ≠ some bo := own_ne O7.out.own K7.out (by decide)
          have NR : (Value.slice q1 L.length c1).ownBlock ≠ some (w.heap.size + 1) := own_ne O7.out.own R7.out (by decide)
          have NX : (Value.slice q1 L.length c1).ownBlock ≠ some w.heap.size := own_ne O7.out.own h7.2 (by decide)
          have K8 : Hid (w8.heap[bo]? = some (.cells #[.slice q1 L.length c1, .slice qp x.bs.length kp] 72 (0, 0))) := by show _ = _; rw [gr.block _ (Array.getElem?_eq_some_iff.1 K7.out).1 (fun e => NB e.symm)]; exact K7.out
          have R8 : Hid (w8.heap[w.heap.size + 1]? = some (.cells #[.slice none 0 0, .slice none 0 0] 72 (0, 0))) := by show _ = _; rw [gr.block _ (Array.getElem?_eq_some_iff.1 R7.out).1 (fun e => NR e.symm)]; exact R7.out
          have S8 := And.intro (O8.out.below) (show w8.heap[w.heap.size]? = some (.cells #[.slice (some ⟨b1, off1, none⟩) x.ds.length kd, .slice qb x.bs.length kb] 60 (0, 0)) by rw [gr.block _ (Array.getElem?_eq_some_iff.1 h7.2).1 (fun e => NX e.symm)]; exact h7.2)
          clear own8 grow8 fr8 gr fr O7 P7 K7 R7 D7 SR OW7 NB NR NX
          refine hK.out _ _ (S8) (fun h8 => ?_)
          clear hK K S8
          try simp only [Act.put, List.setIfInBounds_toArray, List.set_cons_zero, List.set_cons_succ]
          refine wpAnyH_take (i := 10) (v := ?_) (by rw [List.getElem?_toArray]; rfl) (by kernel_rfl) (by kernel_rfl) (by kernel_rfl) (by exact fun _ _ _ h => h) (Or.inl ⟨by rfl, ?_⟩) h8 ?_
          rotate_left
          · intro W hW
            go_simp
            all_goals with_reducible rfl
          try simp only [Act.put, List.setIfInBounds_toArray, List.set_cons_zero, List.set_cons_succ]
          refine wpAnyH_ready (rs := [11]) (by kernel_rfl) (by simp) ?_
          refine AllReadyH.cons (by rw [List.getElem?_toArray]; rfl) (fun K hK => ?_) AllReadyH.nil
          rw [if_pos (by rfl)]
          have y0 := Joins.unfrozen_of_block K8.out 0
          have c1' := (Joins.cell_of_block K8.out 0).trans (rfl : _ = some _)
          have cS : Chg w8 (w8.setCell ⟨bo, 0, none⟩ (.slice q8 (L.length + 1) k8)) [bo] := (Chg.refl _ _).setCell (p := ⟨bo, 0, none⟩) (.inl (by simp)) _
          have K9 : Hid ((w8.setCell ⟨bo, 0, none⟩ (.slice q8 (L.length + 1) k8)).heap[bo]? = some (.cells #[.slice q8 (L.length + 1) k8, .slice qp x.bs.length kp] 72 (0, 0))) := Joins.block_setCell K8.out _
          have NB8 : ∀ g, (Value.slice q8 (L.length + 1) k8).ownBlock = some g → g ∉ [bo] := fun g hg hm => by
            obtain rfl : g = bo := by simpa using hm
            have h := O8.out.own
            rw [List.length_append, List.length_singleton] at h
            exact own_ne h K8.out (by decide) hg
          have O9 := Lib.hid (O8.out.chg PMg_ok cS (fun g hg hm => hg.2 (by simpa using hm)) NB8 (fun y hy => by
            obtain rfl : y = bo := by simpa using hy
            have := hbo.out
            omega))
          have P9 := Lib.hid (P8.out.agr PBs_ok (by decide) (Agr.chg cS (fun g hg hm => hg.1.2 (by simpa using hm))))
          have hbx := hbo.out
          have R9 : Hid ((w8.setCell ⟨bo, 0, none⟩ (.slice q8 (L.length + 1) k8)).heap[w.heap.size + 1]? = some (.cells #[.slice none 0 0, .slice none 0 0] 72 (0, 0))) := by show _ = _; rw [cS.block _ (Array.getElem?_eq_some_iff.1 R8.out).1 (by simp; omega)]; exact R8.out
          have S9 := And.intro (O9.out.below) (show (w8.setCell ⟨bo, 0, none⟩ (.slice q8 (L.length + 1) k8)).heap[w.heap.size]? = some (.cells #[.slice (some ⟨b1, off1, none⟩) x.ds.length kd, .slice qb x.bs.length kb] 60 (0, 0)) by rw [cS.block _ (Array.getElem?_eq_some_iff.1 h8.2).1 (by simp; omega)]; exact h8.2)
          have B9 : Hid ((w8.setCell ⟨bo, 0, none⟩ (.slice q8 (L.length + 1) k8)).heap[w.heap.size]? = some (.cells #[.slice (some ⟨b1, off1, none⟩) x.ds.length kd, .slice qb x.bs.length kb] 60 (0, 0))) := S9.2
          clear cS NB8 O8 P8 K8 R8 hbx
          go_wp2_with fail
          clear y0 c1'
          refine hK.out _ _ (S9) (fun h9x => ?_)
          clear hK K S9
          try simp only [Act.put, List.setIfInBounds_toArray, List.set_cons_zero, List.set_cons_succ]
          refine wpAnyH_done (by kernel_rfl) ?_ _
          go_wp2_with fail
          go_roundw
          case rel =>
            refine ⟨q8, k8, L ++ [m], done ++ R, ?_, ?_, ?_, ?_, ?_, ?_, B9, R9⟩
            · rw [List.length_append, List.length_singleton]; go_num
            · have := HLT.out
              rw [List.length_append, List.length_singleton]
              omega
            · show _ = _
              rw [List.length_append, List.length_singleton]
              exact HLM.out
            · rw [List.length_append, List.length_singleton]; exact O9
            · rw [List.length_append, List.length_singleton]; exact K9
            · rw [List.length_append, List.length_singleton]; exact P9
          case measure => have := HLT.out; simp [intOf]; omega
        · rw [if_pos (by rfl)]
          have hsl := Try.run_slice_mgd w6 R h9'
          have b7 : Below w6.heap.size w6 (w6.alloc (.cells R.toArray 52)) := (Below.refl _ _).alloc (Nat.le_refl _) _
          have O7 := Lib.hid (O6.out.on PMg_ok b7)
          have D7 : Hid (PMg (w6.alloc (.cells R.toArray 52)) (fun g => (w.heap.size + 2 ≤ g ∧ g ≠ bo) ∧ (Value.slice q1 L.length c1).ownBlock ≠ some g) m R) := ⟨q6, k6, HRR.out.symm, D6.out.on b7⟩
          have K7 : Hid ((w6.alloc (.cells R.toArray 52)).heap[bo]? = some (.cells #[.slice q1 L.length c1, .slice qp x.bs.length kp] 72 (0, 0))) := by show _ = _; rw [b7.block _ (Array.getElem?_eq_some_iff.1 K6.out).1]; exact K6.out
          have P7 := Lib.hid (P6.out.on PBs_ok (by decide) b7)
          have R7 : Hid ((w6.alloc (.cells R.toArray 52)).heap[w.heap.size + 1]? = some (.cells #[.slice none 0 0, .slice none 0 0] 72 (0, 0))) := by show _ = _; rw [b7.block _ (Array.getElem?_eq_some_iff.1 R6.out).1]; exact R6.out
          have S7 := And.intro (h6.1.trans (b7.mono h6.1.size)) (show (w6.alloc (.cells R.toArray 52)).heap[w.heap.size]? = some (.cells #[.slice (some ⟨b1, off1, none⟩) x.ds.length kd, .slice qb x.bs.length kb] 60 (0, 0)) by rw [b7.block _ (Array.getElem?_eq_some_iff.1 h6.2).1]; exact h6.2)
          have SR := Lib.hid (src_any (P := Try.prog) (T := 52) (w := w6) Try.underlying70 h9' HR1.out)
          have OW7 := Lib.hid O7.out.own
          clear b7 O6 K6 P6 R6 D6
          go_wp2_with fail
          clear hsl
          refine hK.out _ _ (S7) (fun h7 => ?_)
          clear hK K S7
          try simp only [Act.put, List.setIfInBounds_toArray, List.set_cons_zero, List.set_cons_succ]
          generalize w6.alloc (.cells R.toArray 52) = w7 at *
          refine wpAnyH_ready (rs := [1]) (by kernel_rfl) (by simp) ?_
          refine AllReadyH.cons (by rw [List.getElem?_toArray]; rfl) (fun K hK => ?_) AllReadyH.nil
          rw [if_pos (by rfl)]
          have c1' := (Joins.cell_of_block K7.out 0).trans (rfl : _ = some _)
          go_wp2_with fail
          clear c1'
          refine hK.out _ _ (h7) (fun h71 => ?_)
          clear hK K
          try simp only [Act.put, List.setIfInBounds_toArray, List.set_cons_zero, List.set_cons_succ]
          refine wpAnyH_ready (rs := [9]) (by kernel_rfl) (by simp) ?_
          refine AllReadyH.cons (by rw [List.getElem?_toArray]; rfl) (fun K hK => ?_) AllReadyH.nil
          rw [if_pos (by rfl)]
          refine wp_append_row _ _ rfl Try.underlying70 hi.out hz0.out hz1.out hz2.out mg0_cells OW7.out SR.out (by unfold maxLen; omega) (by omega) ?_
          intro q8 k8 w8 own8 grow8 fr8
          have gr : w7.grownBy w8 (Value.slice q1 L.length c1).ownBlock := grow8
          have fr : (Value.slice q8 (L.length + 1) k8).ownBlock = (Value.slice q1 L.length c1).ownBlock ∨ (Value.slice q8 (L.length + 1) k8).ownBlock = some w7.heap.size := fr8
          have O8 := Lib.hid (O7.out.grow PMg_ok h9' D7.out own8 gr fr)
          have P8 := Lib.hid (P7.out.grown PBs_ok (by decide) gr fr)
          have NB : (Value.slice q1 L.length c1).ownBlock ≠ some bo := own_ne O7.out.own K7.out (by decide)
          have NR : (Value.slice q1 L.length c1).ownBlock ≠ some (w.heap.size + 1) := own_ne O7.out.own R7.out (by decide)
          have NX : (Value.slice q1 L.length c1).ownBlock ≠ some w.heap.size := own_ne O7.out.own h71.2 (by decide)
          have K8 : Hid (w8.heap[bo]? = some (.cells #[.slice q1 L.length c1, .slice qp x.bs.length kp] 72 (0, 0))) := by show _ = _; rw [gr.block _ (Array.getElem?_eq_some_iff.1 K7.out).1 (fun e => NB e.symm)]; exact K7.out
          have R8 : Hid (w8.heap[w.heap.size + 1]? = some (.cells #[.slice none 0 0, .slice none 0 0] 72 (0, 0))) := by show _ = _; rw [gr.block _ (Array.getElem?_eq_some_iff.1 R7.out).1 (fun e => NR e.symm)]; exact R7.out
          have S8 := And.intro (O8.out.below) (show w8.heap[w.heap.size]? = some (.cells #[.slice (some ⟨b1, off1, none⟩) x.ds.length kd, .slice qb x.bs.length kb] 60 (0, 0)) by rw [gr.block _ (Array.getElem?_eq_some_iff.1 h71.2).1 (fun e => NX e.symm)]; exact h71.2)
          clear own8 grow8 fr8 gr fr O7 P7 K7 R7 D7 SR OW7 NB NR NX
          refine hK.out _ _ (S8) (fun h8 => ?_)
          clear hK K S8
          try simp only [Act.put, List.setIfInBounds_toArray, List.set_cons_zero, List.set_cons_succ]
          refine wpAnyH_take (i := 10) (v := ?_) (by rw [List.getElem?_toArray]; rfl) (by kernel_rfl) (by kernel_rfl) (by kernel_rfl) (by exact fun _ _ _ h => h) (Or.inl ⟨by rfl, ?_⟩) h8 ?_
          rotate_left
          · intro W hW
            go_simp
            all_goals with_reducible rfl
          try simp only [Act.put, List.setIfInBounds_toArray, List.set_cons_zero, List.set_cons_succ]
          refine wpAnyH_ready (rs := [11]) (by kernel_rfl) (by simp) ?_
          refine AllReadyH.cons (by rw [List.getElem?_toArray]; rfl) (fun K hK => ?_) AllReadyH.nil
          rw [if_pos (by rfl)]
          have y0 := Joins.unfrozen_of_block K8.out 0
          have c1' := (Joins.cell_of_block K8.out 0).trans (rfl : _ = some _)
          have cS : Chg w8 (w8.setCell ⟨bo, 0, none⟩ (.slice q8 (L.length + 1) k8)) [bo] := (Chg.refl _ _).setCell (p := ⟨bo, 0, none⟩) (.inl (by simp)) _
          have K9 : Hid ((w8.setCell ⟨bo, 0, none⟩ (.slice q8 (L.length + 1) k8)).heap[bo]? = some (.cells #[.slice q8 (L.length + 1) k8, .slice qp x.bs.length kp] 72 (0, 0))) := Joins.block_setCell K8.out _
          have NB8 : ∀ g, (Value.slice q8 (L.length + 1) k8).ownBlock = some g → g ∉ [bo] := fun g hg hm => by
            obtain rfl : g = bo := by simpa using hm
            have h := O8.out.own
            rw [List.length_append, List.length_singleton] at h
            exact own_ne h K8.out (by decide) hg
          have O9 := Lib.hid (O8.out.chg PMg_ok cS (fun g hg hm => hg.2 (by simpa using hm)) NB8 (fun y hy => by
            obtain rfl : y = bo := by simpa using hy
            have := hbo.out
            omega))
          have P9 := Lib.hid (P8.out.agr PBs_ok (by decide) (Agr.chg cS (fun g hg hm => hg.1.2 (by simpa using hm))))
          have hbx := hbo.out
          have R9 : Hid ((w8.setCell ⟨bo, 0, none⟩ (.slice q8 (L.length + 1) k8)).heap[w.heap.size + 1]? = some (.cells #[.slice none 0 0, .slice none 0 0] 72 (0, 0))) := by show _ = _; rw [cS.block _ (Array.getElem?_eq_some_iff.1 R8.out).1 (by simp; omega)]; exact R8.out
          have S9 := And.intro (O9.out.below) (show (w8.setCell ⟨bo, 0, none⟩ (.slice q8 (L.length + 1) k8)).heap[w.heap.size]? = some (.cells #[.slice (some ⟨b1, off1, none⟩) x.ds.length kd, .slice qb x.bs.length kb] 60 (0, 0)) by rw [cS.block _ (Array.getElem?_eq_some_iff.1 h8.2).1 (by simp; omega)]; exact h8.2)
          have B9 : Hid ((w8.setCell ⟨bo, 0, none⟩ (.slice q8 (L.length + 1) k8)).heap[w.heap.size]? = some (.cells #[.slice (some ⟨b1, off1, none⟩) x.ds.length kd, .slice qb x.bs.length kb] 60 (0, 0))) := S9.2
          clear cS NB8 O8 P8 K8 R8 hbx
          go_wp2_with fail
          clear y0 c1'
          refine hK.out _ _ (S9) (fun h9x => ?_)
          clear hK K S9
          try simp only [Act.put, List.setIfInBounds_toArray, List.set_cons_zero, List.set_cons_succ]
          refine wpAnyH_done (by kernel_rfl) ?_ _
          go_wp2_with fail
          go_roundw
          case rel =>
            refine ⟨q8, k8, L ++ [m], done ++ R, ?_, ?_, ?_, ?_, ?_, ?_, B9, R9⟩
            · rw [List.length_append, List.length_singleton]; go_num
            · have := HLT.out
              rw [List.length_append, List.length_singleton]
              omega
            · show _ = _
              rw [List.length_append, List.length_singleton]
              exact HLM.out
            · rw [List.length_append, List.length_singleton]; exact O9
            · rw [List.length_append, List.length_singleton]; exact K9
            · rw [List.length_append, List.length_singleton]; exact P9
          case measure => have := HLT.out; simp [intOf]; omega
    · have HLD : Hid (L = x.ds) := by
        have e : L.length = x.ds.length := by omega
        have := hLe.out
        rw [e, List.take_length] at this
        exact this
      have c0 := (Joins.cell_of_block hK.out 0).trans (rfl : _ = some _)
      have c1' := (Joins.cell_of_block hK.out 1).trans (rfl : _ = some _)
      have r0 := (Joins.cell_of_block hR.out 0).trans (rfl : _ = some _)
      have r1 := (Joins.cell_of_block hR.out 1).trans (rfl : _ = some _)
      have y0 := Joins.unfrozen_of_block hR.out 0
      have y1 := Joins.unfrozen_of_block hR.out 1
      have R10 : ((wr.setCell ⟨w.heap.size + 1, 0, none⟩ (.slice q1 L.length c1)).setCell ⟨w.heap.size + 1, 1, none⟩ (.slice qp x.bs.length kp)).heap[w.heap.size + 1]? = some (.cells #[.slice q1 L.length c1, .slice qp x.bs.length kp] 72 (0, 0)) := Joins.block_setCell (Joins.block_setCell hR.out _) _
      have x0 := (Joins.cell_of_block R10 0).trans (rfl : _ = some _)
      have x1 := (Joins.cell_of_block R10 1).trans (rfl : _ = some _)
      have cS : Chg wr ((wr.setCell ⟨w.heap.size + 1, 0, none⟩ (.slice q1 L.length c1)).setCell ⟨w.heap.size + 1, 1, none⟩ (.slice qp x.bs.length kp)) [w.heap.size + 1] := ((Chg.refl _ _).setCell (p := ⟨w.heap.size + 1, 0, none⟩) (.inl (by simp)) _).setCell (p := ⟨w.heap.size + 1, 1, none⟩) (.inl (by simp)) _
      have hbx := hbo.out
      have hNb : ∀ g, (Value.slice q1 L.length c1).ownBlock = some g → g ≠ bo := fun g hg e => own_ne hO.out.own hK.out (by decide) (by rw [← e]; exact hg)
      have hNr : ∀ g, (Value.slice q1 L.length c1).ownBlock = some g → g ≠ w.heap.size + 1 := fun g hg e => own_ne hO.out.own hR.out (by decide) (by rw [← e]; exact hg)
      have hNx : ∀ g, (Value.slice q1 L.length c1).ownBlock = some g → g ≠ w.heap.size := fun g hg e => own_ne hO.out.own hB.out (by decide) (by rw [← e]; exact hg)
      have XD0 := (hO.out.rd2 PMg_ok (fun g hg => ⟨by have := hO.out.fresh g hg; have := hNr g hg; have := hNx g hg; omega, hNb g hg⟩)).agr PMg_ok (by decide) (Agr.chg cS (fun g hg hm => by
        obtain rfl : g = w.heap.size + 1 := by simpa using hm
        have := hg.1
        omega))
      have XB0 := hP.out.agr PBs_ok (by decide) (Agr.chg cS (fun g hg hm => by
        obtain rfl : g = w.heap.size + 1 := by simpa using hm
        have := hg.1.1
        omega))
      have BB := Lib.hid (hO.out.below.trans (cS.toBelow hO.out.below.size (fun g hg => by simp at hg; omega)))
      have XX : Hid (OwnP x w (.returned (.agg #[.slice q1 L.length c1, .slice qp x.bs.length kp])) ((wr.setCell ⟨w.heap.size + 1, 0, none⟩ (.slice q1 L.length c1)).setCell ⟨w.heap.size + 1, 1, none⟩ (.slice qp x.bs.length kp))) := by
        show OwnP _ _ _ _
        refine ⟨q1, c1, qp, kp, by rw [HLD.out], ?_, XB0.mono PBs_ok (fun g hg => by have := hg.1.1; omega), BB.out⟩
        have := XD0.mono PMg_ok (G := (fun x => w.heap.size ≤ x)) (fun g hg => by have := hg.1; omega)
        rw [HLD.out] at this ⊢
        exact this
      clear cS XD0 XB0 hNb hNr hNx hbx BB R10 hO hP hK hB hR
      go_wp2_with fail
      refine bodyPost_ret (v := .agg #[.slice q1 L.length c1, .slice qp x.bs.length kp]) (by simp [results, Try.results26, go_sem, x0, x1]) rfl XX.out
end Go.Proofs.Ytonjkhhihiigfaa
namespace Go.Proofs.Ytonjkhhihiigfaa
set_option maxRecDepth 100000
open Go.RowKit

theorem Try.infoBk : (Try.prog.info? 72).map (fun i => (i.zero, i.size, i.bytes)) = some (some (.agg #[.slice none 0 0, .slice none 0 0]), 2, 48) := by kernel_rfl
@[go_sem ↓] theorem Try.slice_bk (ps : Array (Nat × Value)) : Instr.buildSlice 25 1 ps = rowNew 25 ps := rfl
theorem Try.run_slice_bk (w : World) (a b : Value) :
    (rowNew 25 #[(0, .agg #[a, b])]).run Try.prog w = .ok (.slice (some ⟨w.heap.size, 0, none⟩) 1 1) (w.alloc (.cells #[a, b] 72)) :=
  run_bs_one w Try.underlying25 (by kernel_rfl) (zs := [.slice none 0 0, .slice none 0 0]) (by kernel_rfl) (n := 2) (xs := [a, b]) (by decide) (by decide) rfl
/-- What Blocks answers: rows of its own. -/
def BksP (Ls : List Bk) (w : World) (e : Ending) (w' : World) : Prop := ∃ q c done, e = .returned (.slice q Ls.length c) ∧ OwF 2 bk0 PBk (fun x => w.heap.size ≤ x) w w' 72 (.slice q Ls.length c) Ls done ∧ ∀ u ∈ done, u.oneCell' = true
set_option maxHeartbeats 8000000 in
theorem Blocks_any {w : World} {F : Fp} {Ls : List Bk} {q : Option Addr} {c : Nat} (hr : RwF 2 bk0 PBk w F q Ls) (sm : BksSm Ls) (hl : Ls.length ≤ 1000) :
    Calls Try.prog 10 #[.slice q Ls.length c] w (BksP Ls w) := by
  obtain ⟨i0, hi, hz0, hz1, hz2⟩ := info_parts Try.infoBk
  replace hi := Lib.hid hi
  replace hz0 := Lib.hid hz0
  replace hz1 := Lib.hid hz1
  replace hz2 := Lib.hid hz2
  have H0 := Lib.hid hr
  have SM := Lib.hid sm
  have O0 : Hid (OwF 2 bk0 PBk (fun x => w.heap.size ≤ x) w w 72 (.slice none ([] : List Bk).length 0) [] []) := OwF.start (Below.refl _ _)
  have N0 : Hid (∀ u ∈ ([] : List Value), u.oneCell' = true) := fun u hu => by cases hu
  clear hr sm
  go_enter Try.func10, Try.ntmps10
  go_wp2_with fail
  go_loopw [3, 4] (fun ov iv wr => ∃ (q1 : Option Addr) (c1 : Nat) (B : List Bk) (done : List Value), iv = .int .i64 (B.length : Int) ∧ ov = .slice q1 B.length c1 ∧ B.length ≤ Ls.length ∧ Hid (B = Ls.take B.length) ∧ Hid (OwF 2 bk0 PBk (fun x => w.heap.size ≤ x) w wr 72 (.slice q1 B.length c1) B done) ∧ Hid (∀ u ∈ done, u.oneCell' = true)) (fun _ iv _ => Ls.length - (intOf iv).toNat)
  case atStart => exact ⟨none, 0, [], [], rfl, rfl, by simp, rfl, O0, N0⟩
  case round =>
    clear O0 N0
    obtain ⟨q1, c1, B, done, rfl, rfl, hil, hBe, hO, hN⟩ := hrel
    by_cases hlt : B.length < Ls.length
    · obtain ⟨b1, off1, r1, hq1, _, hr3, hrow3, qd, kd, qb, kb, hre3, hds, hbs⟩ := H0.out.get hlt
      subst hq1 hre3
      have c0w := row_cell hrow3 hr3 (j := 0) (v := .slice qd (Ls.getD B.length bk0).ds.length kd) rfl
      have c1w := row_cell hrow3 hr3 (j := 1) (v := .slice qb (Ls.getD B.length bk0).bs.length kb) rfl
      rw [Nat.add_zero] at c0w
      have e0 := (hO.out.below.cell (lt_of_cell c0w)).trans c0w
      have e1 := (hO.out.below.cell (lt_of_cell c1w)).trans c1w
      have KO := Lib.hid (OwnBk_any (kd := kd) (kb := kb) (hds.on PMg_ok (by decide) hO.out.below) (hbs.on PBs_ok (by decide) hO.out.below) (SM.out.get B.length))
      unfold OwnP at KO
      have HBM : Hid (B ++ [Ls.getD B.length bk0] = Ls.take (B.length + 1)) := take_snoc hBe.out hlt
      obtain ⟨x, hx⟩ : ∃ x, Ls.getD B.length bk0 = x := ⟨_, rfl⟩
      rw [hx] at e0 e1 KO HBM
      have HLT := Lib.hid hlt
      clear hx c0w c1w hrow3 hr3 hds hbs hBe
      go_wp2_with fail
      clear e0 e1
      refine KO.out.mono ?_
      rintro e w2 ⟨q5, k5, q6, k6, rfl, hd2, hb2, hb⟩
      have O2 := hO.out.on PBk_ok hb
      have F2 : ∀ g, wr.heap.size ≤ g → (w.heap.size ≤ g ∧ (Value.slice q1 B.length c1).ownBlock ≠ some g) := fun g hg => ⟨by have := hO.out.below.size; omega, fun e => by have := own_lt hO.out.own e; omega⟩
      have b7 : Below w2.heap.size w2 (w2.alloc (.cells #[.slice q5 x.ds.length k5, .slice q6 x.bs.length k6] 72)) := (Below.refl _ _).alloc (Nat.le_refl _) _
      have O7 := Lib.hid (O2.on PBk_ok b7)
      have P7 : Hid (PBk (w2.alloc (.cells #[.slice q5 x.ds.length k5, .slice q6 x.bs.length k6] 72)) (fun g => w.heap.size ≤ g ∧ (Value.slice q1 B.length c1).ownBlock ≠ some g) x [.slice q5 x.ds.length k5, .slice q6 x.bs.length k6]) := ⟨q5, k5, q6, k6, rfl, (hd2.on PMg_ok (by decide) b7).mono PMg_ok F2, (hb2.on PBs_ok (by decide) b7).mono PBs_ok F2⟩
      have R1 : ∀ u ∈ [Value.slice q5 x.ds.length k5, .slice q6 x.bs.length k6], u.oneCell' = true := by simp [Value.oneCell']
      have SR := Lib.hid (src_any (P := Try.prog) (T := 72) (n := 2) (w := w2) (R := [.slice q5 x.ds.length k5, .slice q6 x.bs.length k6]) Try.underlying25 rfl R1)
      have OWN := Lib.hid O7.out.own
      have N8 : Hid (∀ u ∈ done ++ [Value.slice q5 x.ds.length k5, .slice q6 x.bs.length k6], u.oneCell' = true) := fun u hu => by
        rcases List.mem_append.1 hu with h | h
        · exact hN.out u h
        · exact R1 u h
      have hsl := Try.run_slice_bk w2 (.slice q5 x.ds.length k5) (.slice q6 x.bs.length k6)
      clear hd2 hb2 hb O2 F2 b7 hO hN R1 KO
      go_wp2_with (at_builtin; refine wpList_append_row rfl _ _ rfl Try.underlying25 hi.out hz0.out hz1.out hz2.out rfl OWN.out SR.out ?b1 ?b2 ?_)
      case b1 => unfold maxLen; omega
      case b2 => omega
      intro q8 k8 w8 own8 grow8 fr8
      have fr9 : (Value.slice q8 (B.length + 1) k8).ownBlock = (Value.slice q1 B.length c1).ownBlock ∨ (Value.slice q8 (B.length + 1) k8).ownBlock = some (w2.alloc (.cells #[.slice q5 x.ds.length k5, .slice q6 x.bs.length k6] 72)).heap.size := by rw [show (w2.alloc (.cells #[.slice q5 x.ds.length k5, .slice q6 x.bs.length k6] 72)).heap.size = w2.heap.size + 1 by simp]; exact fr8
      have O8 := Lib.hid (O7.out.grow PBk_ok (n := 2) rfl P7.out own8 grow8 fr9)
      clear own8 grow8 fr8 fr9 O7 P7 SR OWN hsl
      go_wp2_with fail
      go_roundw
      case rel =>
        refine ⟨q8, k8, B ++ [x], done ++ [.slice q5 x.ds.length k5, .slice q6 x.bs.length k6], ?_, ?_, ?_, ?_, ?_, N8⟩
        · rw [List.length_append, List.length_singleton]; go_num
        · rw [List.length_append, List.length_singleton]
        · have := HLT.out
          rw [List.length_append, List.length_singleton]
          omega
        · show _ = _
          rw [List.length_append, List.length_singleton]
          exact HBM.out
        · rw [List.length_append, List.length_singleton]
          exact O8.out
      case measure => have := HLT.out; simp [intOf]; omega
    · have HLD : Hid (B = Ls) := by
        have e : B.length = Ls.length := by omega
        have := hBe.out
        rw [e, List.take_length] at this
        exact this
      have X : Hid (BksP Ls w (.returned (.slice q1 B.length c1)) wr) := by
        show BksP _ _ _ _
        have h1 := hO.out
        rw [HLD.out] at h1 ⊢
        exact ⟨q1, c1, done, rfl, h1, hN.out⟩
      clear hO hN hBe
      go_wp2_with fail
      go_ret
      exact X.out
/-- One's own rows, as what is appended. -/
theorem OwF.src {α : Type} {P : World → Fp → α → List Value → Prop} {d : α} {n : Nat} {F : Fp} {w W : World} {T tx e' : TypeId} {q : Option Addr} {c : Nat} {L : List α} {done : List Value} {Pr : Program} (h : OwF n d P F w W T (.slice q L.length c) L done) (hk : Pr.underlying tx = some (.slice e')) (h1 : ∀ u ∈ done, u.oneCell' = true) : Src Pr n tx (.slice q L.length c) L.length done W := by
  rcases h.own.2 with ⟨e, h0⟩ | ⟨g, cap, cur, e, _, hg, hnc, hcm, hcs', htake⟩
  · have hd : done = [] := List.eq_nil_of_length_eq_zero (by rw [h.len, h0, Nat.zero_mul])
    simp only [Value.slice.injEq] at e
    obtain ⟨rfl, h2, rfl⟩ := e
    rw [h2, hd]
    exact Src.ofNil W hk 0
  · simp only [Value.slice.injEq] at e
    obtain ⟨rfl, -, rfl⟩ := e
    refine Src.ofSlice _ hk _ _ _ _ h.len (fun j u hu => ?_) h1
    rw [addr_add, Joins.cell_of_block hg, Nat.zero_add]
    rw [← htake, List.getElem?_take] at hu
    split at hu
    · rw [← Array.getElem?_toList]; exact hu
    · cases hu
end Go.Proofs.Ytonjkhhihiigfaa
namespace Go.Proofs.Ytonjkhhihiigfaa
set_option maxRecDepth 100000
open Go.RowKit

set_option maxHeartbeats 4000000 in
theorem WBlob_fits {w : World} {p : Nat} {v : Value} {xs : List Int} (h : WrV w p v xs) {a : Value} {L : List (List Int)} (hL : RdL w a L (p :: v.ownBlock.toList)) (hl : xs.length + (blobs L).length ≤ 65536) :
    Calls Try.prog 57 #[.pointer (some ⟨p, 0, none⟩), a] w fun e w' => e = .returned (.int .i64 0) ∧ WSt w p v w' (xs ++ blobs L) := by
  obtain ⟨i0, hi, hz0, hz1, hz2⟩ := info_parts Try.infoU8
  have H0 : Hid (WSt w p v w (xs ++ blobs (L.take 0))) := by
    show WSt w p v w _
    exact (WSt.start h).of_eq (by simp [blobs])
  obtain ⟨c0, c1, -⟩ := h.cells
  obtain ⟨qv, kv, rfl⟩ := h.rd.len
  obtain ⟨q, c, rfl⟩ : ∃ q c, a = .slice q L.length c := by obtain ⟨q, c, e, _⟩ := hL; exact ⟨q, c, e⟩
  have HL := Lib.hid hL
  clear h hL
  replace hi := Lib.hid hi
  replace hz0 := Lib.hid hz0
  replace hz1 := Lib.hid hz1
  replace hz2 := Lib.hid hz2
  have hb0 := blobs_le L 0
  have hlx : xs.length ≤ 65536 := by omega
  have hLn : L.length ≤ 65536 := by have := blobs_many L; omega
  go_enter Try.func57, Try.ntmps57
  go_wp2_with fail
  go_loopw [5, 7, 29] (fun lv _ iv wr => ∃ i : Nat, iv = .int .i64 i ∧ i ≤ L.length ∧ lv = .int .i64 (65536 - (xs.length : Int) - ((blobs (L.take i)).length : Int)) ∧ wr = w) (fun _ _ iv _ => L.length - (intOf iv).toNat)
  case atStart => exact ⟨0, rfl, by omega, by simp [blobs], rfl⟩
  case round =>
    obtain ⟨i, rfl, hil, rfl, rfl⟩ := hrel
    have hbi := blobs_le L i
    by_cases hlt : i < L.length
    · obtain ⟨b, off, r, m, k, -, rfl, -, hc, rfl, -, -⟩ := HL.out.at hlt
      have hbs := blobs_len hlt
      have hbl := blobs_le L (i + 1)
      have HE := Lib.hid hbs
      have g1 : ((blobs (L.take i)).length : Int) + 8 + ((L.getD i []).length : Int) + (xs.length : Int) ≤ 65536 := by omega
      clear hbs hbl
      generalize hbb : (L.getD i []).length = lb at hc g1 HE ⊢
      go_wp2_with fail
      go_roundw
      case rel => exact ⟨i + 1, by go_num, by omega, by rw [HE.out]; congr 1; omega, trivial⟩
      case measure => simp [intOf]; omega
    · obtain rfl : i = L.length := by omega
      clear hlt c0 c1
      generalize (65536 - (xs.length : Int) - ((blobs (L.take L.length)).length : Int)) = lv
      obtain ⟨w0, rfl⟩ : ∃ w0 : World, w0 = wr := ⟨_, rfl⟩
      go_wp2_with fail
      go_loopw [9, 46] (fun _ iv wr => ∃ i : Nat, iv = .int .i64 i ∧ i ≤ L.length ∧ Hid (WSt w0 p (.slice qv xs.length kv) wr (xs ++ blobs (L.take i)))) (fun _ iv _ => L.length - (intOf iv).toNat)
      case atStart => exact ⟨0, rfl, by omega, H0⟩
      case round =>
        clear H0
        obtain ⟨i, rfl, hil, hS⟩ := hrel
        by_cases hlt : i < L.length
        · obtain ⟨q1, k1, h1, h2, h3⟩ := hS.out.own
          have hbl := blobs_le L i
          obtain ⟨b, off, r, m, k, -, rfl, hbS, hcw, rfl, hrd, hk⟩ := HL.out.at hlt
          have hc : wr.cell? ⟨b, off + i, none⟩ = some (.slice r (L.getD i []).length k) := by
            rw [World.cell?_of_block (w := w0) (h2.block b (lt_of_cell hcw) hbS)]; exact hcw
          have HR := Lib.hid hrd
          have HK := Lib.hid hk
          clear hcw hbS
          have hbi : xs.length + (blobs (L.take i)).length ≤ 65536 := by omega
          have hlen : (xs ++ blobs (L.take i)).length ≤ 65536 := by simp; omega
          have H1 := Lib.hid h1
          have H23 := Lib.hid (And.intro h2 h3)
          have HS := Lib.hid hS.out
          clear h1 h2 h3 hS hrd hk
          have HB := Lib.hid (blobs_take hlt)
          have hbm := blobs_len hlt
          have hbm2 := blobs_le L (i + 1)
          have hlb : (L.getD i []).length ≤ 65536 := by omega
          have hfit : xs.length + (blobs (L.take i)).length + 8 + (L.getD i []).length ≤ 65536 := by omega
          clear hbm hbm2 hbl
          generalize hbb : L.getD i [] = bb at *
          clear hbb
          go_wp2_with fail
          refine (putUint_any H1.out hlen _).mono ?_
          rintro e w3 ⟨rfl, hw3⟩
          have HS3 : Hid (WSt w0 p (.slice qv xs.length kv) w3 (xs ++ blobs (L.take i) ++ be8 bb.length)) := by
            obtain ⟨u1, u2, u3⟩ := H23.out.1, H23.out.2, hw3
            exact WSt.trans ⟨_, H1.out, H23.out.1, H23.out.2⟩ (fun u hu => by
              obtain ⟨qq, cc, he⟩ := hu.rd.len
              have e1 : u = .slice q1 (xs ++ blobs (L.take i)).length k1 := by
                have := hu.cells.2.1
                rw [H1.out.cells.2.1] at this
                exact (Option.some.inj this).symm
              rw [e1]
              exact hw3)
          have hys0 : (xs ++ blobs (L.take i) ++ be8 bb.length).length + bb.length ≤ 65536 := by simp; omega
          generalize hys : xs ++ blobs (L.take i) ++ be8 bb.length = ys at HS3 hys0
          replace hys := Lib.hid hys
          obtain ⟨q3, k3, h31, h32, h33⟩ := HS3.out.own
          obtain ⟨-, c1, -⟩ := h31.cells
          have hRb := Lib.hid (HR.out.chg h32 (fun hn x hx _ => HK.out hn x hx))
          have H3 := Lib.hid h31
          have H3c := Lib.hid (And.intro h32 h33)
          have hp3 := h31.lt
          clear h31 h32 h33 hw3 HS3 H1 H23 hc
          go_wp2_with (at_builtin; refine wpList_append_row rfl _ _ rfl Try.underlying50 hi.out hz0.out hz1.out hz2.out rfl H3.out.own (Rd.src (P := Try.prog) Try.underlying50 hRb.out) ?b1 ?b2 ?_)
          case b1 => unfold maxLen; omega
          case b2 => omega
          intro q4 k4 w4 own4 grow4 fr4
          have HN := Lib.hid (WSt.step H3.out H3c.out.1 H3c.out.2 rfl own4 grow4 fr4)
          have c4 : w4.cell? ⟨p, 1, none⟩ = some (.slice q3 ys.length k3) := by
            rw [World.cell?_of_block (grow4.block p hp3 (fun e => H3.out.ne e.symm))]; exact c1
          have f4 : w4.frozen? ⟨p, 1, none⟩ = false := by
            rw [World.frozen?_of_block (grow4.block p hp3 (fun e => H3.out.ne e.symm))]; exact H3.out.cells.2.2
          clear own4 grow4 fr4 c1
          go_wp2_with fail
          go_roundw
          case rel =>
            refine ⟨i + 1, by go_num, by omega, ?_⟩
            show WSt w0 p _ _ _
            rw [HB.out, ← List.append_assoc, ← List.append_assoc, hys.out]
            exact HN.out
          case measure => simp [intOf]; omega
        · obtain rfl : i = L.length := by omega
          have hb := hS.out
          rw [List.take_length] at hb
          replace hS := Lib.hid hb
          clear hb
          go_wp2_with fail
          go_ret
          exact ⟨rfl, hS.out⟩
end Go.Proofs.Ytonjkhhihiigfaa
