/-
  A block, copied from the document's kind: its batches are a row of its own.; Lists of blocks, copied: each block's batches are a row of its own, and the blocks lie apart.
-/
import Derived.Test.YtonjkhhihiigfaaDv15
namespace Go.Proofs.Ytonjkhhihiigfaa
set_option maxRecDepth 100000
open Go.RowKit

theorem own_kinds {w : World} {e1 e2 : TypeId} {s1 s2 n1 n2 : Nat} {v1 v2 : Value} {xs1 xs2 : List Value} (h1 : w.ownsRow 0 e1 s1 v1 n1 xs1) (h2 : w.ownsRow 0 e2 s2 v2 n2 xs2) (hne : e2 ≠ e1) {g : Nat} (hg : v2.ownBlock = some g) : v1.ownBlock ≠ some g := by
  rcases h2.2 with ⟨rfl, _⟩ | ⟨g', cap, cur, rfl, _, hh, _⟩
  · simp [Value.ownBlock] at hg
  · obtain rfl : g' = g := by simpa [Value.ownBlock] using hg
    exact own_ne h1 hh hne
/-- A slice of byte slices that is a row of its own, within F; its elements lie elsewhere in F. -/
structure RwO (k : Nat) (w : World) (F : Fp) (q : Option Addr) (L : List (List Int)) : Prop where
  own : ∃ vs, w.ownsRow 0 50 1 (.slice q L.length k) L.length vs ∧ ∀ i, i < L.length → ∃ r, r.length = 1 ∧ (vs.drop i).take 1 = r ∧ PBs w (fun g => F g ∧ (Value.slice q L.length k).ownBlock ≠ some g) (L.getD i []) r
  on' : ∀ g, (Value.slice q L.length k).ownBlock = some g → F g
section
variable {k : Nat} {w w' : World} {F G : Fp} {q : Option Addr} {L : List (List Int)}
theorem RwO.owns (h : RwO k w F q L) : w.ownsRow 0 50 1 (.slice q L.length k) L.length h.own.choose := h.own.choose_spec.1
theorem RwO.lt' (h : RwO k w F q L) {g : Nat} (e : (Value.slice q L.length k).ownBlock = some g) : g < w.heap.size := own_lt h.owns e
theorem RwO.mono (_k : FpOk PBs) (h : RwO k w F q L) (hG : ∀ g, F g → G g) : RwO k w G q L := by
  obtain ⟨⟨vs, h1, h2⟩, h3⟩ := h
  refine ⟨⟨vs, h1, fun i hi => ?_⟩, fun g hg => hG g (h3 g hg)⟩
  obtain ⟨r, e1, e2, e3⟩ := h2 i hi
  exact ⟨r, e1, e2, _k.mono e3 (fun g hg => ⟨hG g hg.1, hg.2⟩)⟩
theorem RwO.agr (_k : FpOk PBs) (hn : 0 < 1) (h : RwO k w F q L) (ha : Agr F w w') : RwO k w' F q L := by
  have _ := hn
  obtain ⟨⟨vs, h1, h2⟩, h3⟩ := h
  refine ⟨⟨vs, own_keep h1 (fun g hg => ha g (h3 g hg) (own_lt h1 hg)), fun i hi => ?_⟩, h3⟩
  obtain ⟨r, e1, e2, e3⟩ := h2 i hi
  exact ⟨r, e1, e2, _k.agr e3 (fun g hg hl => ha g hg.1 hl)⟩
theorem RwO.on (_k : FpOk PBs) (hn : 0 < 1) (h : RwO k w F q L) (hb : Below w.heap.size w w') : RwO k w' F q L := h.agr _k hn (Agr.below hb)
theorem RwO.lt (_k : FpOk PBs) (hn : 0 < 1) (h : RwO k w F q L) : RwO k w (fun g => F g ∧ g < w.heap.size) q L := by
  have _ := hn
  obtain ⟨⟨vs, h1, h2⟩, h3⟩ := h
  refine ⟨⟨vs, h1, fun i hi => ?_⟩, fun g hg => ⟨h3 g hg, own_lt h1 hg⟩⟩
  obtain ⟨r, e1, e2, e3⟩ := h2 i hi
  exact ⟨r, e1, e2, _k.mono (_k.lt e3) (fun g hg => ⟨⟨hg.1.1, hg.2⟩, hg.1.2⟩)⟩
theorem RwO.grown {v v' : Value} (_k : FpOk PBs) (hn : 0 < 1) (hy : RwO k w (fun g => G g ∧ v.ownBlock ≠ some g) q L) (grow : w.grownBy w' v.ownBlock) (fr : v'.ownBlock = v.ownBlock ∨ v'.ownBlock = some w.heap.size) : RwO k w' (fun g => G g ∧ v'.ownBlock ≠ some g) q L := by
  have h1 := (hy.lt _k hn).agr _k hn (w' := w') (fun g hg hlt => grow.block g hlt (fun e => hg.1.2 e.symm))
  refine h1.mono _k (fun g hg => ⟨hg.1.1, fun e => ?_⟩)
  rcases fr with e2 | e2
  · rw [e2] at e; exact hg.1.2 e
  · rw [e2] at e
    have : w.heap.size = g := Option.some.inj e
    omega
/-- Its rows, read. -/
theorem RwO.rd (h : RwO k w F q L) : RwF 1 [] PBs w F q L := by
  obtain ⟨⟨vs, h1, h2⟩, h3⟩ := h
  rcases h1.2 with ⟨e, h0⟩ | ⟨g, cap, cur, e, _, hg, hnc, hcm, hcs', htake⟩
  · exact .inl (List.eq_nil_of_length_eq_zero h0)
  · simp only [Value.slice.injEq] at e
    obtain ⟨rfl, -, rfl⟩ := e
    refine .inr ⟨g, 0, rfl, h3 g rfl, fun j hj => ?_⟩
    obtain ⟨r, e1, e2, e3⟩ := h2 j hj
    refine ⟨r, e1, ?_, PBs_ok.mono e3 (fun _ h => h.1)⟩
    have hl : vs.length = L.length := by have := h1.1; omega
    have hc2 : cur = (vs ++ cur.toList.drop (L.length * 1)).toArray := by
      apply Array.ext'
      show cur.toList = vs ++ cur.toList.drop (L.length * 1)
      rw [← htake, List.take_append_drop]
    rw [hc2] at hg
    rw [rowOf_block hg, Nat.zero_add, ← e2]
    have e : ((vs ++ cur.toList.drop (L.length * 1)).drop j).take 1 = (vs.drop j).take 1 := by
      rw [List.drop_append_of_le_length (by omega), List.take_append_of_le_length (by rw [List.length_drop]; omega)]
    rw [← e]
    simp [List.take_drop]
end
theorem PtS.fo {w wr : World} {L : List (List Int)} {v : Value} {vs : List Value} (h : PtS w wr L L.length v vs) : ∃ q c, v = .slice q L.length c ∧ RwO c wr (fun x => w.heap.size ≤ x) q L := by
  obtain ⟨q, c, rfl⟩ := own_slice h.own
  refine ⟨q, c, rfl, ⟨vs, h.own, fun i hi => ?_⟩, h.fresh⟩
  have hl := h.len
  obtain ⟨u, hu⟩ : ∃ u, vs[i]? = some u := ⟨_, List.getElem?_eq_getElem (by omega)⟩
  obtain ⟨e1, e2⟩ := h.each i u hu
  obtain ⟨q', c', rfl⟩ := own_slice e1
  refine ⟨[.slice q' (L.getD i []).length c'], rfl, ?_, q', c', rfl, rd_of_row e1, fun _ x hx => ⟨e2 x hx, own_kinds h.own e1 (by decide) hx⟩⟩
  have hi2 : i < vs.length := by omega
  have e3 : vs[i] = .slice q' (L.getD i []).length c' := by
    rw [List.getElem?_eq_getElem hi2] at hu
    exact Option.some.inj hu
  rw [List.drop_eq_getElem_cons hi2, e3]
  rfl
/-- What the law's Own answers: the batches are a row of its own. -/
def OwnQ (x : Bk) (w : World) (e : Ending) (w' : World) : Prop := ∃ qd kd qb kb, e = .returned (.agg #[.slice qd x.ds.length kd, .slice qb x.bs.length kb]) ∧ RwF 9 mg0 PMg w' (fun g => w.heap.size ≤ g ∧ (Value.slice qb x.bs.length kb).ownBlock ≠ some g) qd x.ds ∧ RwO kb w' (fun x => w.heap.size ≤ x) qb x.bs ∧ Below w.heap.size w w'
set_option maxHeartbeats 2000000 in
theorem OwnBk_own {w : World} {F : Fp} {x : Bk} {qd qb : Option Addr} {kd kb : Nat} (hd : RwF 9 mg0 PMg w F qd x.ds) (hb : RwF 1 [] PBs w F qb x.bs) (sm : x.sm) :
    Calls Try.prog 26 #[.agg #[.slice qd x.ds.length kd, .slice qb x.bs.length kb]] w (OwnQ x w) := by
  obtain ⟨i0, hi, hz0, hz1, hz2⟩ := info_parts Try.infoMg
  replace hi := Lib.hid hi
  replace hz0 := Lib.hid hz0
  replace hz1 := Lib.hid hz1
  replace hz2 := Lib.hid hz2
  have SM := Lib.hid sm
  have HDS := Lib.hid hd
  have b1 : Below w.heap.size w (w.alloc (.cells #[.slice qd x.ds.length kd, .slice qb x.bs.length kb] 60)) := (Below.refl _ _).alloc (Nat.le_refl _) _
  have b2 : Below (w.alloc (.cells #[.slice qd x.ds.length kd, .slice qb x.bs.length kb] 60)).heap.size (w.alloc (.cells #[.slice qd x.ds.length kd, .slice qb x.bs.length kb] 60)) ((w.alloc (.cells #[.slice qd x.ds.length kd, .slice qb x.bs.length kb] 60)).alloc (.cells #[.slice none 0 0, .slice none 0 0] 72)) := (Below.refl _ _).alloc (Nat.le_refl _) _
  have hz : (w.alloc (.cells #[.slice qd x.ds.length kd, .slice qb x.bs.length kb] 60)).heap.size = w.heap.size + 1 := by simp
  have B0 := Lib.hid (b1.trans (b2.mono b1.size))
  have K00 := heap_alloc_new w (.cells #[.slice qd x.ds.length kd, .slice qb x.bs.length kb] 60)
  have K0 : Hid (((w.alloc (.cells #[.slice qd x.ds.length kd, .slice qb x.bs.length kb] 60)).alloc (.cells #[.slice none 0 0, .slice none 0 0] 72)).heap[w.heap.size]? = some (.cells #[.slice qd x.ds.length kd, .slice qb x.bs.length kb] 60 (0, 0))) := by
    show _ = _
    rw [b2.block _ (Array.getElem?_eq_some_iff.1 K00).1]; exact K00
  have R0 := heap_alloc_new (w.alloc (.cells #[.slice qd x.ds.length kd, .slice qb x.bs.length kb] 60)) (.cells #[.slice none 0 0, .slice none 0 0] 72)
  rw [hz] at R0
  have R0 := Lib.hid R0
  have SZ : Hid (((w.alloc (.cells #[.slice qd x.ds.length kd, .slice qb x.bs.length kb] 60)).alloc (.cells #[.slice none 0 0, .slice none 0 0] 72)).heap.size = w.heap.size + 2) := by show _ = _; simp
  have KP := Lib.hid (fun (W : World) (hW : Below w.heap.size w W) => Parts_any (L := x.bs) ((hb.on PBs_ok (by decide) hW).rdL (c := kb)) (by have := sm.bs; omega) (fun i => by
    by_cases h : i < x.bs.length
    · have := sm.bd _ (getD_mem (d := []) h); omega
    · have e : x.bs.getD i [] = [] := by simp [List.getD, Nat.not_lt.1 h]
      rw [e]; simp))
  have e1 := (Joins.cell_of_block K0.out 1).trans (rfl : _ = some _)
  clear hd hb sm b1 b2 hz K00
  go_enter Try.func26, Try.ntmps26
  go_wp2_with fail
  clear e1
  generalize ((w.alloc (.cells #[.slice qd x.ds.length kd, .slice qb x.bs.length kb] 60)).alloc (.cells #[.slice none 0 0, .slice none 0 0] 72)) = w0 at *
  refine (KP.out _ B0.out).mono ?_
  rintro e w1 ⟨v, vs, rfl, hS⟩
  obtain ⟨qp, kp, rfl, hP⟩ := hS.fo
  have hb1 := hS.below
  have ba : Below w1.heap.size w1 (w1.alloc (.cells #[.slice none 0 0, .slice qp x.bs.length kp] 72)) := (Below.refl _ _).alloc (Nat.le_refl _) _
  have hb2 := hb1.trans (ba.mono hb1.size)
  have KO := heap_alloc_new w1 (.cells #[.slice none 0 0, .slice qp x.bs.length kp] 72)
  have K1 : Hid ((w1.alloc (.cells #[.slice none 0 0, .slice qp x.bs.length kp] 72)).heap[w.heap.size]? = some (.cells #[.slice qd x.ds.length kd, .slice qb x.bs.length kb] 60 (0, 0))) := by
    show _ = _
    rw [hb2.block _ (Array.getElem?_eq_some_iff.1 K0.out).1]; exact K0.out
  have R1 : Hid ((w1.alloc (.cells #[.slice none 0 0, .slice qp x.bs.length kp] 72)).heap[w.heap.size + 1]? = some (.cells #[.slice none 0 0, .slice none 0 0] 72 (0, 0))) := by
    show _ = _
    rw [hb2.block _ (Array.getElem?_eq_some_iff.1 R0.out).1]; exact R0.out
  have B1 := Lib.hid (B0.out.trans (hb2.mono B0.out.size))
  have hbo : Hid (w.heap.size + 2 ≤ w1.heap.size) := by show _ ≤ _; have := SZ.out; have := hb1.size; omega
  have PB1 := hP.on PBs_ok (by decide) ba
  have PP1 : Hid (RwO kp (w1.alloc (.cells #[.slice none 0 0, .slice qp x.bs.length kp] 72)) (fun g => w.heap.size + 2 ≤ g ∧ g < w1.heap.size) qp x.bs) := ((hP.lt PBs_ok (by decide)).on PBs_ok (by decide) ba).mono PBs_ok (fun g hg => ⟨by have := SZ.out; omega, hg.2⟩)
  clear hS hP hb1 ba hb2 K0 R0 B0 PB1 KP SZ
  go_wp2_with fail
  obtain ⟨bo, hboe⟩ : ∃ b, w1.heap.size = b := ⟨_, rfl⟩
  rw [hboe] at KO hbo PP1 ⊢
  have KO := Lib.hid KO
  generalize w1.alloc (.cells #[.slice none 0 0, .slice qp x.bs.length kp] 72) = w2 at *
  clear hboe
  have PP2 : Hid (RwO kp w2 (fun g => (w.heap.size + 2 ≤ g ∧ g ≠ bo) ∧ (Value.slice none ([] : List Mg).length 0).ownBlock ≠ some g) qp x.bs) := PP1.out.mono PBs_ok (fun g hg => ⟨⟨hg.1, by omega⟩, by simp [Value.ownBlock]⟩)
  have O0 : Hid (OwF 9 mg0 PMg (fun g => (w.heap.size + 2 ≤ g ∧ g ≠ bo) ∧ (Value.slice qp x.bs.length kp).ownBlock ≠ some g) w w2 52 (.slice none ([] : List Mg).length 0) ([] : List Mg) []) := OwF.start B1.out
  clear PP1 B1
  go_loopw [4] (fun iv wr => ∃ (q1 : Option Addr) (c1 : Nat) (L : List Mg) (done : List Value), iv = .int .i64 (L.length : Int) ∧ L.length ≤ x.ds.length ∧ Hid (L = x.ds.take L.length) ∧ Hid (OwF 9 mg0 PMg (fun g => (w.heap.size + 2 ≤ g ∧ g ≠ bo) ∧ (Value.slice qp x.bs.length kp).ownBlock ≠ some g) w wr 52 (.slice q1 L.length c1) L done) ∧ Hid (wr.heap[bo]? = some (.cells #[.slice q1 L.length c1, .slice qp x.bs.length kp] 72 (0, 0))) ∧ Hid (RwO kp wr (fun g => (w.heap.size + 2 ≤ g ∧ g ≠ bo) ∧ (Value.slice q1 L.length c1).ownBlock ≠ some g) qp x.bs) ∧ Hid (wr.heap[w.heap.size]? = some (.cells #[.slice qd x.ds.length kd, .slice qb x.bs.length kb] 60 (0, 0))) ∧ Hid (wr.heap[w.heap.size + 1]? = some (.cells #[.slice none 0 0, .slice none 0 0] 72 (0, 0)))) (fun iv _ => x.ds.length - (intOf iv).toNat)
  case atStart => exact ⟨none, 0, [], [], rfl, by simp, rfl, O0, KO, PP2, K1, R1⟩
  case round =>
    clear O0 KO PP2 K1 R1
    obtain ⟨q1, c1, L, done, rfl, hil, hLe, hO, hK, hP, hB, hR⟩ := hrel
    have hd20 : x.ds.length ≤ 20 := SM.out.ds
    have e0 := (Joins.cell_of_block hB.out 0).trans (rfl : _ = some _)
    by_cases hlt : L.length < x.ds.length
    · obtain ⟨b1, off1, r1, hq1, _, hr3, hrow3, qm, km, hre3, hrd⟩ := HDS.out.get hlt
      subst hq1 hre3
      have hb1 := rowOf_lt (by decide) hr3 hrow3
      have HROW : Hid (∀ W, Below w.heap.size w W → rowOf W b1 (off1 + L.length * 9) 9 = mgRow (x.ds.getD L.length mg0) qm (x.ds.getD L.length mg0).data.length km) := fun W hW => by rw [rowOf_agr (hW.block b1 hb1)]; exact hrow3
      have HRD : Hid (∀ W, Below w.heap.size w W → Rd W (.slice qm (x.ds.getD L.length mg0).data.length km) (x.ds.getD L.length mg0).data) := fun W hW => hrd.rd.on hW
      have HLM : Hid (L ++ [x.ds.getD L.length mg0] = x.ds.take (L.length + 1)) := take_snoc hLe.out hlt
      have lm := SM.out.md _ (getD_mem (d := mg0) hlt)
      obtain ⟨m, hm⟩ : ∃ m, x.ds.getD L.length mg0 = m := ⟨_, rfl⟩
      rw [hm] at HROW HRD HLM lm
      have LM := Lib.hid lm
      have h9 := mgRow_len m qm m.data.length km
      have HLT := Lib.hid hlt
      clear hrow3 hr3 hb1 hrd hm lm hLe
      go_wp2_with fail
      clear e0
      have S0 : Below w.heap.size w wr.drew ∧ wr.drew.heap[w.heap.size]? = some (.cells #[.slice (some ⟨b1, off1, none⟩) x.ds.length kd, .slice qb x.bs.length kb] 60 (0, 0)) := ⟨hO.out.below.drew, hB.out⟩
      have O2 := Lib.hid (hO.out.on PMg_ok (Below.refl _ _).drew)
      have K2 : Hid (wr.drew.heap[bo]? = some (.cells #[.slice q1 L.length c1, .slice qp x.bs.length kp] 72 (0, 0))) := hK.out
      have P2 := Lib.hid (hP.out.on PBs_ok (by decide) (Below.refl _ _).drew)
      have R2 : Hid (wr.drew.heap[w.heap.size + 1]? = some (.cells #[.slice none 0 0, .slice none 0 0] 72 (0, 0))) := hR.out
      clear hO hK hP hB hR
      refine wp_region_held_drew (S := fun W => Below w.heap.size w W ∧ W.heap[w.heap.size]? = some (.cells #[.slice (some ⟨b1, off1, none⟩) x.ds.length kd, .slice qb x.bs.length kb] 60 (0, 0))) (by kernel_rfl) (S0) (fun h0 => ?_)
      generalize wr.drew = w5 at *
      refine wpAnyH_take (i := 0) (v := ?_) (by rw [List.getElem?_toArray]; rfl) (by kernel_rfl) (by kernel_rfl) (by kernel_rfl) (by exact fun _ _ _ h => h) (Or.inl ⟨by rfl, ?_⟩) h0 ?_
      rotate_left
      · intro W hW
        go_simp
        all_goals with_reducible rfl
      try simp only [Act.put, List.setIfInBounds_toArray, List.set_cons_zero, List.set_cons_succ]
      refine wpAnyH_take (i := 2) (v := ?_) (by rw [List.getElem?_toArray]; rfl) (by kernel_rfl) (by kernel_rfl) (by kernel_rfl) (by exact fun _ _ _ h => h) (Or.inl ⟨by rfl, ?_⟩) h0 ?_
      rotate_left
      · intro W hW
        go_simp
        all_goals with_reducible rfl
      try simp only [Act.put, List.setIfInBounds_toArray, List.set_cons_zero, List.set_cons_succ]
      refine wpAnyH_take (i := 3) (v := ?_) (by rw [List.getElem?_toArray]; rfl) (by kernel_rfl) (by kernel_rfl) (by kernel_rfl) (by exact fun _ _ _ h => h) (Or.inl ⟨by rfl, ?_⟩) h0 ?_
      rotate_left
      · intro W hW
        have e0 := (Joins.cell_of_block hW.2 0).trans (rfl : _ = some _)
        go_simp
        all_goals with_reducible rfl
      try simp only [Act.put, List.setIfInBounds_toArray, List.set_cons_zero, List.set_cons_succ]
      refine wpAnyH_take (i := 4) (v := ?_) (by rw [List.getElem?_toArray]; rfl) (by kernel_rfl) (by kernel_rfl) (by kernel_rfl) (by exact fun _ _ _ h => h) (Or.inl ⟨by rfl, ?_⟩) h0 ?_
      rotate_left
      · intro W hW
        go_simp
        all_goals with_reducible rfl
      try simp only [Act.put, List.setIfInBounds_toArray, List.set_cons_zero, List.set_cons_succ]
      refine wpAnyH_take (i := 5) (v := ?_) (by rw [List.getElem?_toArray]; rfl) (by kernel_rfl) (by kernel_rfl) (by kernel_rfl) (by exact fun _ _ _ h => h) (Or.inl ⟨by rfl, ?_⟩) h0 ?_
      rotate_left
      · intro W hW
        go_simp
        all_goals with_reducible rfl
      try simp only [Act.put, List.setIfInBounds_toArray, List.set_cons_zero, List.set_cons_succ]
      refine wpAnyH_take (i := 6) (v := ?_) (by rw [List.getElem?_toArray]; rfl) (by kernel_rfl) (by kernel_rfl) (by kernel_rfl) (by exact fun _ _ _ h => h) (Or.inl ⟨by rfl, ?_⟩) h0 ?_
      rotate_left
      · intro W hW
        have hrw := HROW.out W hW.1
        go_simp
        all_goals with_reducible rfl
      try simp only [Act.put, List.setIfInBounds_toArray, List.set_cons_zero, List.set_cons_succ]
      refine wpAnyH_ready (rs := [1, 7]) (by kernel_rfl) (by simp) ?_
      refine AllReadyH.cons (by rw [List.getElem?_toArray]; rfl) (fun K hK => ?_) (AllReadyH.cons (by rw [List.getElem?_toArray]; rfl) (fun K hK => ?_) AllReadyH.nil)
      · rw [if_pos (by rfl)]
        have c1' := (Joins.cell_of_block K2.out 0).trans (rfl : _ = some _)
        go_wp2_with fail
        clear c1'
        refine hK.out _ _ (h0) (fun h1 => ?_)
        clear hK K
        try simp only [Act.put, List.setIfInBounds_toArray, List.set_cons_zero, List.set_cons_succ]
        refine wpAnyH_ready (rs := [7]) (by kernel_rfl) (by simp) ?_
        refine AllReadyH.cons (by rw [List.getElem?_toArray]; rfl) (fun K hK => ?_) AllReadyH.nil
        rw [if_pos (by rfl)]
        go_wp2_with fail
        refine (Message_any (HRD.out _ h1.1) (by have := LM.out; omega)).mono ?_
        rintro e w6 ⟨q6, k6, rfl, hs⟩
        have hb6 := hs.below
        have S6 := And.intro (h1.1.trans (hb6.mono h1.1.size)) (show w6.heap[w.heap.size]? = some (.cells #[.slice (some ⟨b1, off1, none⟩) x.ds.length kd, .slice qb x.bs.length kb] 60 (0, 0)) by rw [hb6.block _ (Array.getElem?_eq_some_iff.1 h1.2).1]; exact h1.2)
        have D6 : Hid (RdF w6 (fun g => ((w.heap.size + 2 ≤ g ∧ g ≠ bo) ∧ (Value.slice qp x.bs.length kp).ownBlock ≠ some g) ∧ (Value.slice q1 L.length c1).ownBlock ≠ some g) (.slice q6 m.data.length k6) m.data) := hs.fp.mono (fun g hg => ⟨⟨⟨by have := (Array.getElem?_eq_some_iff.1 R2.out).1; omega, fun e => by have := (Array.getElem?_eq_some_iff.1 K2.out).1; omega⟩, fun e => by have := P2.out.lt' e; omega⟩, fun e => by have := own_lt O2.out.own e; omega⟩)
        have O6 := Lib.hid (O2.out.on PMg_ok hb6)
        have K6 : Hid (w6.heap[bo]? = some (.cells #[.slice q1 L.length c1, .slice qp x.bs.length kp] 72 (0, 0))) := by show _ = _; rw [hb6.block _ (Array.getElem?_eq_some_iff.1 K2.out).1]; exact K2.out
        have P6 := Lib.hid (P2.out.on PBs_ok (by decide) hb6)
        have R6 : Hid (w6.heap[w.heap.size + 1]? = some (.cells #[.slice none 0 0, .slice none 0 0] 72 (0, 0))) := by show _ = _; rw [hb6.block _ (Array.getElem?_eq_some_iff.1 R2.out).1]; exact R2.out
        have h9' := mgRow_len m q6 m.data.length k6
        have HR1 := Lib.hid (mgRow_one m q6 m.data.length k6)
        obtain ⟨R, hR⟩ : ∃ R, mgRow m q6 m.data.length k6 = R := ⟨_, rfl⟩
        have HRR := Lib.hid hR
        rw [hR] at h9' HR1 ⊢
        clear hs hb6 hR O2 K2 P2 R2
        go_wp2_with fail
        refine hK.out _ _ (S6) (fun h6 => ?_)
        clear hK K S6
        try simp only [Act.put, List.setIfInBounds_toArray, List.set_cons_zero, List.set_cons_succ]
        refine wpAnyH_ready (rs := [8]) (by kernel_rfl) (by simp) ?_
        refine AllReadyH.cons (by rw [List.getElem?_toArray]; rfl) (fun K hK => ?_) AllReadyH.nil
        rw [if_pos (by rfl)]
        have hsl := Try.run_slice_mgd w6 R h9'
        have b7 : Below w6.heap.size w6 (w6.alloc (.cells R.toArray 52)) := (Below.refl _ _).alloc (Nat.le_refl _) _
        have O7 := Lib.hid (O6.out.on PMg_ok b7)
        have D7 : Hid (PMg (w6.alloc (.cells R.toArray 52)) (fun g => ((w.heap.size + 2 ≤ g ∧ g ≠ bo) ∧ (Value.slice qp x.bs.length kp).ownBlock ≠ some g) ∧ (Value.slice q1 L.length c1).ownBlock ≠ some g) m R) := ⟨q6, k6, HRR.out.symm, D6.out.on b7⟩
        have K7 : Hid ((w6.alloc (.cells R.toArray 52)).heap[bo]? = some (.cells #[.slice q1 L.length c1, .slice qp x.bs.length kp] 72 (0, 0))) := by show _ = _; rw [b7.block _ (Array.getElem?_eq_some_iff.1 K6.out).1]; exact K6.out
        have P7 := Lib.hid (P6.out.on PBs_ok (by decide) b7)
        have R7 : Hid ((w6.alloc (.cells R.toArray 52)).heap[w.heap.size + 1]? = some (.cells #[.slice none 0 0, .slice none 0 0] 72 (0, 0))) := by show _ = _; rw [b7.block _ (Array.getElem?_eq_some_iff.1 R6.out).1]; exact R6.out
        have S7 := And.intro (h6.1.trans (b7.mono h6.1.size)) (show (w6.alloc (.cells R.toArray 52)).heap[w.heap.size]? = some (.cells #[.slice (some ⟨b1, off1, none⟩) x.ds.length kd, .slice qb x.bs.length kb] 60 (0, 0)) by rw [b7.block _ (Array.getElem?_eq_some_iff.1 h6.2).1]; exact h6.2)
        have SR := Lib.hid (src_any (P := Try.prog) (T := 52) (w := w6) Try.underlying70 h9' HR1.out)
        have OW7 := Lib.hid O7.out.own
        clear b7 O6 K6 P6 R6 D6
        go_wp2_with fail
        clear hsl
        refine hK.out _ _ (S7) (fun h7 => ?_)
        clear hK K S7
        try simp only [Act.put, List.setIfInBounds_toArray, List.set_cons_zero, List.set_cons_succ]
        generalize w6.alloc (.cells R.toArray 52) = w7 at *
        refine wpAnyH_ready (rs := [9]) (by kernel_rfl) (by simp) ?_
        refine AllReadyH.cons (by rw [List.getElem?_toArray]; rfl) (fun K hK => ?_) AllReadyH.nil
        rw [if_pos (by rfl)]
        refine wp_append_row _ _ rfl Try.underlying70 hi.out hz0.out hz1.out hz2.out mg0_cells OW7.out SR.out (by unfold maxLen; omega) (by omega) ?_
        intro q8 k8 w8 own8 grow8 fr8
        have gr : w7.grownBy w8 (Value.slice q1 L.length c1).ownBlock := grow8
        have fr : (Value.slice q8 (L.length + 1) k8).ownBlock = (Value.slice q1 L.length c1).ownBlock ∨ (Value.slice q8 (L.length + 1) k8).ownBlock = some w7.heap.size := fr8
        have O8 := Lib.hid (O7.out.grow PMg_ok h9' D7.out own8 gr fr)
        have P8 := Lib.hid (P7.out.grown PBs_ok (by decide) gr fr)
        have NB : (Value.slice q1 L.length c1).ownBlock ≠ some bo := own_ne O7.out.own K7.out (by decide)
        have NR : (Value.slice q1 L.length c1).ownBlock ≠ some (w.heap.size + 1) := own_ne O7.out.own R7.out (by decide)
        have NX : (Value.slice q1 L.length c1).ownBlock ≠ some w.heap.size := own_ne O7.out.own h7.2 (by decide)
        have K8 : Hid (w8.heap[bo]? = some (.cells #[.slice q1 L.length c1, .slice qp x.bs.length kp] 72 (0, 0))) := by show _ = _; rw [gr.block _ (Array.getElem?_eq_some_iff.1 K7.out).1 (fun e => NB e.symm)]; exact K7.out
        have R8 : Hid (w8.heap[w.heap.size + 1]? = some (.cells #[.slice none 0 0, .slice none 0 0] 72 (0, 0))) := by show _ = _; rw [gr.block _ (Array.getElem?_eq_some_iff.1 R7.out).1 (fun e => NR e.symm)]; exact R7.out
        have S8 := And.intro (O8.out.below) (show w8.heap[w.heap.size]? = some (.cells #[.slice (some ⟨b1, off1, none⟩) x.ds.length kd, .slice qb x.bs.length kb] 60 (0, 0)) by rw [gr.block _ (Array.getElem?_eq_some_iff.1 h7.2).1 (fun e => NX e.symm)]; exact h7.2)
        clear own8 grow8 fr8 gr fr O7 P7 K7 R7 D7 SR OW7 NB NR NX
        refine hK.out _ _ (S8) (fun h8 => ?_)
        clear hK K S8
        try simp only [Act.put, List.setIfInBounds_toArray, List.set_cons_zero, List.set_cons_succ]
        refine wpAnyH_take (i := 10) (v := ?_) (by rw [List.getElem?_toArray]; rfl) (by kernel_rfl) (by kernel_rfl) (by kernel_rfl) (by exact fun _ _ _ h => h) (Or.inl ⟨by rfl, ?_⟩) h8 ?_
        rotate_left
        · intro W hW
          go_simp
          all_goals with_reducible rfl
        try simp only [Act.put, List.setIfInBounds_toArray, List.set_cons_zero, List.set_cons_succ]
        refine wpAnyH_ready (rs := [11]) (by kernel_rfl) (by simp) ?_
        refine AllReadyH.cons (by rw [List.getElem?_toArray]; rfl) (fun K hK => ?_) AllReadyH.nil
        rw [if_pos (by rfl)]
        have y0 := Joins.unfrozen_of_block K8.out 0
        have c1' := (Joins.cell_of_block K8.out 0).trans (rfl : _ = some _)
        have cS : Chg w8 (w8.setCell ⟨bo, 0, none⟩ (.slice q8 (L.length + 1) k8)) [bo] := (Chg.refl _ _).setCell (p := ⟨bo, 0, none⟩) (.inl (by simp)) _
        have K9 : Hid ((w8.setCell ⟨bo, 0, none⟩ (.slice q8 (L.length + 1) k8)).heap[bo]? = some (.cells #[.slice q8 (L.length + 1) k8, .slice qp x.bs.length kp] 72 (0, 0))) := Joins.block_setCell K8.out _
        have NB8 : ∀ g, (Value.slice q8 (L.length + 1) k8).ownBlock = some g → g ∉ [bo] := fun g hg hm => by
          obtain rfl : g = bo := by simpa using hm
          have h := O8.out.own
          rw [List.length_append, List.length_singleton] at h
          exact own_ne h K8.out (by decide) hg
        have O9 := Lib.hid (O8.out.chg PMg_ok cS (fun g hg hm => hg.1.2 (by simpa using hm)) NB8 (fun y hy => by
          obtain rfl : y = bo := by simpa using hy
          have := hbo.out
          omega))
        have P9 := Lib.hid (P8.out.agr PBs_ok (by decide) (Agr.chg cS (fun g hg hm => hg.1.2 (by simpa using hm))))
        have hbx := hbo.out
        have R9 : Hid ((w8.setCell ⟨bo, 0, none⟩ (.slice q8 (L.length + 1) k8)).heap[w.heap.size + 1]? = some (.cells #[.slice none 0 0, .slice none 0 0] 72 (0, 0))) := by show _ = _; rw [cS.block _ (Array.getElem?_eq_some_iff.1 R8.out).1 (by simp; omega)]; exact R8.out
        have S9 := And.intro (O9.out.below) (show (w8.setCell ⟨bo, 0, none⟩ (.slice q8 (L.length + 1) k8)).heap[w.heap.size]? = some (.cells #[.slice (some ⟨b1, off1, none⟩) x.ds.length kd, .slice qb x.bs.length kb] 60 (0, 0)) by rw [cS.block _ (Array.getElem?_eq_some_iff.1 h8.2).1 (by simp; omega)]; exact h8.2)
        have B9 : Hid ((w8.setCell ⟨bo, 0, none⟩ (.slice q8 (L.length + 1) k8)).heap[w.heap.size]? = some (.cells #[.slice (some ⟨b1, off1, none⟩) x.ds.length kd, .slice qb x.bs.length kb] 60 (0, 0))) := S9.2
        clear cS NB8 O8 P8 K8 R8 hbx
        go_wp2_with fail
        clear y0 c1'
        refine hK.out _ _ (S9) (fun h9x => ?_)
        clear hK K S9
        try simp only [Act.put, List.setIfInBounds_toArray, List.set_cons_zero, List.set_cons_succ]
        refine wpAnyH_done (by kernel_rfl) ?_ _
        go_wp2_with fail
        go_roundw
        case rel =>
          refine ⟨q8, k8, L ++ [m], done ++ R, ?_, ?_, ?_, ?_, ?_, ?_, B9, R9⟩
          · rw [List.length_append, List.length_singleton]; go_num
          · have := HLT.out
            rw [List.length_append, List.length_singleton]
            omega
          · show _ = _
            rw [List.length_append, List.length_singleton]
            exact HLM.out
          · rw [List.length_append, List.length_singleton]; exact O9
          · rw [List.length_append, List.length_singleton]; exact K9
          · rw [List.length_append, List.length_singleton]; exact P9
        case measure => have := HLT.out; simp [intOf]; omega
      · rw [if_pos (by rfl)]
        go_wp2_with fail
        refine (Message_any (HRD.out _ h0.1) (by have := LM.out; omega)).mono ?_
        rintro e w6 ⟨q6, k6, rfl, hs⟩
        have hb6 := hs.below
        have S6 := And.intro (h0.1.trans (hb6.mono h0.1.size)) (show w6.heap[w.heap.size]? = some (.cells #[.slice (some ⟨b1, off1, none⟩) x.ds.length kd, .slice qb x.bs.length kb] 60 (0, 0)) by rw [hb6.block _ (Array.getElem?_eq_some_iff.1 h0.2).1]; exact h0.2)
        have D6 : Hid (RdF w6 (fun g => ((w.heap.size + 2 ≤ g ∧ g ≠ bo) ∧ (Value.slice qp x.bs.length kp).ownBlock ≠ some g) ∧ (Value.slice q1 L.length c1).ownBlock ≠ some g) (.slice q6 m.data.length k6) m.data) := hs.fp.mono (fun g hg => ⟨⟨⟨by have := (Array.getElem?_eq_some_iff.1 R2.out).1; omega, fun e => by have := (Array.getElem?_eq_some_iff.1 K2.out).1; omega⟩, fun e => by have := P2.out.lt' e; omega⟩, fun e => by have := own_lt O2.out.own e; omega⟩)
        have O6 := Lib.hid (O2.out.on PMg_ok hb6)
        have K6 : Hid (w6.heap[bo]? = some (.cells #[.slice q1 L.length c1, .slice qp x.bs.length kp] 72 (0, 0))) := by show _ = _; rw [hb6.block _ (Array.getElem?_eq_some_iff.1 K2.out).1]; exact K2.out
        have P6 := Lib.hid (P2.out.on PBs_ok (by decide) hb6)
        have R6 : Hid (w6.heap[w.heap.size + 1]? = some (.cells #[.slice none 0 0, .slice none 0 0] 72 (0, 0))) := by show _ = _; rw [hb6.block _ (Array.getElem?_eq_some_iff.1 R2.out).1]; exact R2.out
        have h9' := mgRow_len m q6 m.data.length k6
        have HR1 := Lib.hid (mgRow_one m q6 m.data.length k6)
        obtain ⟨R, hR⟩ : ∃ R, mgRow m q6 m.data.length k6 = R := ⟨_, rfl⟩
        have HRR := Lib.hid hR
        rw [hR] at h9' HR1 ⊢
        clear hs hb6 hR O2 K2 P2 R2
        go_wp2_with fail
        refine hK.out _ _ (S6) (fun h6 => ?_)
        clear hK K S6
        try simp only [Act.put, List.setIfInBounds_toArray, List.set_cons_zero, List.set_cons_succ]
        refine wpAnyH_ready (rs := [1, 8]) (by kernel_rfl) (by simp) ?_
        refine AllReadyH.cons (by rw [List.getElem?_toArray]; rfl) (fun K hK => ?_) (AllReadyH.cons (by rw [List.getElem?_toArray]; rfl) (fun K hK => ?_) AllReadyH.nil)
        · rw [if_pos (by rfl)]
          have c1' := (Joins.cell_of_block K6.out 0).trans (rfl : _ = some _)
          go_wp2_with fail
          clear c1'
          refine hK.out _ _ (h6) (fun h61 => ?_)
          clear hK K
          try simp only [Act.put, List.setIfInBounds_toArray, List.set_cons_zero, List.set_cons_succ]
          refine wpAnyH_ready (rs := [8]) (by kernel_rfl) (by simp) ?_
          refine AllReadyH.cons (by rw [List.getElem?_toArray]; rfl) (fun K hK => ?_) AllReadyH.nil
          rw [if_pos (by rfl)]
          have hsl := Try.run_slice_mgd w6 R h9'
          have b7 : Below w6.heap.size w6 (w6.alloc (.cells R.toArray 52)) := (Below.refl _ _).alloc (Nat.le_refl _) _
          have O7 := Lib.hid (O6.out.on PMg_ok b7)
          have D7 : Hid (PMg (w6.alloc (.cells R.toArray 52)) (fun g => ((w.heap.size + 2 ≤ g ∧ g ≠ bo) ∧ (Value.slice qp x.bs.length kp).ownBlock ≠ some g) ∧ (Value.slice q1 L.length c1).ownBlock ≠ some g) m R) := ⟨q6, k6, HRR.out.symm, D6.out.on b7⟩
          have K7 : Hid ((w6.alloc (.cells R.toArray 52)).heap[bo]? = some (.cells #[.slice q1 L.length c1, .slice qp x.bs.length kp] 72 (0, 0))) := by show _ = _; rw [b7.block _ (Array.getElem?_eq_some_iff.1 K6.out).1]; exact K6.out
          have P7 := Lib.hid (P6.out.on PBs_ok (by decide) b7)
          have R7 : Hid ((w6.alloc (.cells R.toArray 52)).heap[w.heap.size + 1]? = some (.cells #[.slice none 0 0, .slice none 0 0] 72 (0, 0))) := by show _ = _; rw [b7.block _ (Array.getElem?_eq_some_iff.1 R6.out).1]; exact R6.out
          have S7 := And.intro (h61.1.trans (b7.mono h61.1.size)) (show (w6.alloc (.cells R.toArray 52)).heap[w.heap.size]? = some (.cells #[.slice (some ⟨b1, off1, none⟩) x.ds.length kd, .slice qb x.bs.length kb] 60 (0, 0)) by rw [b7.block _ (Array.getElem?_eq_some_iff.1 h61.2).1]; exact h61.2)
          have SR := Lib.hid (src_any (P := Try.prog) (T := 52) (w := w6) Try.underlying70 h9' HR1.out)
          have OW7 := Lib.hid O7.out.own
          clear b7 O6 K6 P6 R6 D6
          go_wp2_with fail
          clear hsl
          refine hK.out _ _ (S7) (fun h7 => ?_)
          clear hK K S7
          try simp only [Act.put, List.setIfInBounds_toArray, List.set_cons_zero, List.set_cons_succ]
          generalize w6.alloc (.cells R.toArray 52) = w7 at *
          refine wpAnyH_ready (rs := [9]) (by kernel_rfl) (by simp) ?_
          refine AllReadyH.cons (by rw [List.getElem?_toArray]; rfl) (fun K hK => ?_) AllReadyH.nil
          rw [if_pos (by rfl)]
          refine wp_append_row _ _ rfl Try.underlying70 hi.out hz0.out hz1.out hz2.out mg0_cells OW7.out SR.out (by unfold maxLen; omega) (by omega) ?_
          intro q8 k8 w8 own8 grow8 fr8
          have gr : w7.grownBy w8 (Value.slice q1 L.length c1).ownBlock := grow8
          have fr : (Value.slice q8 (L.length + 1) k8).ownBlock = (Value.slice q1 L.length c1).ownBlock ∨ (Value.slice q8 (L.length + 1) k8).ownBlock = some w7.heap.size := fr8
          have O8 := Lib.hid (O7.out.grow PMg_ok h9' D7.out own8 gr fr)
          have P8 := Lib.hid (P7.out.grown PBs_ok (by decide) gr fr)
          have NB : (Value.slice q1 L.length c1).ownBlock ≠ some bo := own_ne O7.out.own K7.out (by decide)
          have NR : (Value.slice q1 L.length c1).ownBlock ≠ some (w.heap.size + 1) := own_ne O7.out.own R7.out (by decide)
          have NX : (Value.slice q1 L.length c1).ownBlock ≠ some w.heap.size := own_ne O7.out.own h7.2 (by decide)
          have K8 : Hid (w8.heap[bo]? = some (.cells #[.slice q1 L.length c1, .slice qp x.bs.length kp] 72 (0, 0))) := by show _ = _; rw [gr.block _ (Array.getElem?_eq_some_iff.1 K7.out).1 (fun e => NB e.symm)]; exact K7.out
          have R8 : Hid (w8.heap[w.heap.size + 1]? = some (.cells #[.slice none 0 0, .slice none 0 0] 72 (0, 0))) := by show _ = _; rw [gr.block _ (Array.getElem?_eq_some_iff.1 R7.out).1 (fun e => NR e.symm)]; exact R7.out
          have S8 := And.intro (O8.out.below) (show w8.heap[w.heap.size]? = some (.cells #[.slice (some ⟨b1, off1, none⟩) x.ds.length kd, .slice qb x.bs.length kb] 60 (0, 0)) by rw [gr.block _ (Array.getElem?_eq_some_iff.1 h7.2).1 (fun e => NX e.symm)]; exact h7.2)
          clear own8 grow8 fr8 gr fr O7 P7 K7 R7 D7 SR OW7 NB NR NX
          refine hK.out _ _ (S8) (fun h8 => ?_)
          clear hK K S8
          try simp only [Act.put, List.setIfInBounds_toArray, List.set_cons_zero, List.set_cons_succ]
          refine wpAnyH_take (i := 10) (v := ?_) (by rw [List.getElem?_toArray]; rfl) (by kernel_rfl) (by kernel_rfl) (by kernel_rfl) (by exact fun _ _ _ h => h) (Or.inl ⟨by rfl, ?_⟩) h8 ?_
          rotate_left
          · intro W hW
            go_simp
            all_goals with_reducible rfl
          try simp only [Act.put, List.setIfInBounds_toArray, List.set_cons_zero, List.set_cons_succ]
          refine wpAnyH_ready (rs := [11]) (by kernel_rfl) (by simp) ?_
          refine AllReadyH.cons (by rw [List.getElem?_toArray]; rfl) (fun K hK => ?_) AllReadyH.nil
          rw [if_pos (by rfl)]
          have y0 := Joins.unfrozen_of_block K8.out 0
          have c1' := (Joins.cell_of_block K8.out 0).trans (rfl : _ = some _)
          have cS : Chg w8 (w8.setCell ⟨bo, 0, none⟩ (.slice q8 (L.length + 1) k8)) [bo] := (Chg.refl _ _).setCell (p := ⟨bo, 0, none⟩) (.inl (by simp)) _
          have K9 : Hid ((w8.setCell ⟨bo, 0, none⟩ (.slice q8 (L.length + 1) k8)).heap[bo]? = some (.cells #[.slice q8 (L.length + 1) k8, .slice qp x.bs.length kp] 72 (0, 0))) := Joins.block_setCell K8.out _
          have NB8 : ∀ g, (Value.slice q8 (L.length + 1) k8).ownBlock = some g → g ∉ [bo] := fun g hg hm => by
            obtain rfl : g = bo := by simpa using hm
            have h := O8.out.own
            rw [List.length_append, List.length_singleton] at h
            exact own_ne h K8.out (by decide) hg
          have O9 := Lib.hid (O8.out.chg PMg_ok cS (fun g hg hm => hg.1.2 (by simpa using hm)) NB8 (fun y hy => by
            obtain rfl : y = bo := by simpa using hy
            have := hbo.out
            omega))
          have P9 := Lib.hid (P8.out.agr PBs_ok (by decide) (Agr.chg cS (fun g hg hm => hg.1.2 (by simpa using hm))))
          have hbx := hbo.out
          have R9 : Hid ((w8.setCell ⟨bo, 0, none⟩ (.slice q8 (L.length + 1) k8)).heap[w.heap.size + 1]? = some (.cells #[.slice none 0 0, .slice none 0 0] 72 (0, 0))) := by show _ = _; rw [cS.block _ (Array.getElem?_eq_some_iff.1 R8.out).1 (by simp; omega)]; exact R8.out
          have S9 := And.intro (O9.out.below) (show (w8.setCell ⟨bo, 0, none⟩ (.slice q8 (L.length + 1) k8)).heap[w.heap.size]? = some (.cells #[.slice (some ⟨b1, off1, none⟩) x.ds.length kd, .slice qb x.bs.length kb] 60 (0, 0)) by rw [cS.block _ (Array.getElem?_eq_some_iff.1 h8.2).1 (by simp; omega)]; exact h8.2)
          have B9 : Hid ((w8.setCell ⟨bo, 0, none⟩ (.slice q8 (L.length + 1) k8)).heap[w.heap.size]? = some (.cells #[.slice (some ⟨b1, off1, none⟩) x.ds.length kd, .slice qb x.bs.length kb] 60 (0, 0))) := S9.2
          clear cS NB8 O8 P8 K8 R8 hbx
          go_wp2_with fail
          clear y0 c1'
          refine hK.out _ _ (S9) (fun h9x => ?_)
          clear hK K S9
          try simp only [Act.put, List.setIfInBounds_toArray, List.set_cons_zero, List.set_cons_succ]
          refine wpAnyH_done (by kernel_rfl) ?_ _
          go_wp2_with fail
          go_roundw
          case rel =>
            refine ⟨q8, k8, L ++ [m], done ++ R, ?_, ?_, ?_, ?_, ?_, ?_, B9, R9⟩
            · rw [List.length_append, List.length_singleton]; go_num
            · have := HLT.out
              rw [List.length_append, List.length_singleton]
              omega
            · show _ = _
              rw [List.length_append, List.length_singleton]
              exact HLM.out
            · rw [List.length_append, List.length_singleton]; exact O9
            · rw [List.length_append, List.length_singleton]; exact K9
            · rw [List.length_append, List.length_singleton]; exact P9
          case measure => have := HLT.out; simp [intOf]; omega
        · rw [if_pos (by rfl)]
          have hsl := Try.run_slice_mgd w6 R h9'
          have b7 : Below w6.heap.size w6 (w6.alloc (.cells R.toArray 52)) := (Below.refl _ _).alloc (Nat.le_refl _) _
          have O7 := Lib.hid (O6.out.on PMg_ok b7)
          have D7 : Hid (PMg (w6.alloc (.cells R.toArray 52)) (fun g => ((w.heap.size + 2 ≤ g ∧ g ≠ bo) ∧ (Value.slice qp x.bs.length kp).ownBlock ≠ some g) ∧ (Value.slice q1 L.length c1).ownBlock ≠ some g) m R) := ⟨q6, k6, HRR.out.symm, D6.out.on b7⟩
          have K7 : Hid ((w6.alloc (.cells R.toArray 52)).heap[bo]? = some (.cells #[.slice q1 L.length c1, .slice qp x.bs.length kp] 72 (0, 0))) := by show _ = _; rw [b7.block _ (Array.getElem?_eq_some_iff.1 K6.out).1]; exact K6.out
          have P7 := Lib.hid (P6.out.on PBs_ok (by decide) b7)
          have R7 : Hid ((w6.alloc (.cells R.toArray 52)).heap[w.heap.size + 1]? = some (.cells #[.slice none 0 0, .slice none 0 0] 72 (0, 0))) := by show _ = _; rw [b7.block _ (Array.getElem?_eq_some_iff.1 R6.out).1]; exact R6.out
          have S7 := And.intro (h6.1.trans (b7.mono h6.1.size)) (show (w6.alloc (.cells R.toArray 52)).heap[w.heap.size]? = some (.cells #[.slice (some ⟨b1, off1, none⟩) x.ds.length kd, .slice qb x.bs.length kb] 60 (0, 0)) by rw [b7.block _ (Array.getElem?_eq_some_iff.1 h6.2).1]; exact h6.2)
          have SR := Lib.hid (src_any (P := Try.prog) (T := 52) (w := w6) Try.underlying70 h9' HR1.out)
          have OW7 := Lib.hid O7.out.own
          clear b7 O6 K6 P6 R6 D6
          go_wp2_with fail
          clear hsl
          refine hK.out _ _ (S7) (fun h7 => ?_)
          clear hK K S7
          try simp only [Act.put, List.setIfInBounds_toArray, List.set_cons_zero, List.set_cons_succ]
          generalize w6.alloc (.cells R.toArray 52) = w7 at *
          refine wpAnyH_ready (rs := [1]) (by kernel_rfl) (by simp) ?_
          refine AllReadyH.cons (by rw [List.getElem?_toArray]; rfl) (fun K hK => ?_) AllReadyH.nil
          rw [if_pos (by rfl)]
          have c1' := (Joins.cell_of_block K7.out 0).trans (rfl : _ = some _)
          go_wp2_with fail
          clear c1'
          refine hK.out _ _ (h7) (fun h71 => ?_)
          clear hK K
          try simp only [Act.put, List.setIfInBounds_toArray, List.set_cons_zero, List.set_cons_succ]
          refine wpAnyH_ready (rs := [9]) (by kernel_rfl) (by simp) ?_
          refine AllReadyH.cons (by rw [List.getElem?_toArray]; rfl) (fun K hK => ?_) AllReadyH.nil
          rw [if_pos (by rfl)]
          refine wp_append_row _ _ rfl Try.underlying70 hi.out hz0.out hz1.out hz2.out mg0_cells OW7.out SR.out (by unfold maxLen; omega) (by omega) ?_
          intro q8 k8 w8 own8 grow8 fr8
          have gr : w7.grownBy w8 (Value.slice q1 L.length c1).ownBlock := grow8
          have fr : (Value.slice q8 (L.length + 1) k8).ownBlock = (Value.slice q1 L.length c1).ownBlock ∨ (Value.slice q8 (L.length + 1) k8).ownBlock = some w7.heap.size := fr8
          have O8 := Lib.hid (O7.out.grow PMg_ok h9' D7.out own8 gr fr)
          have P8 := Lib.hid (P7.out.grown PBs_ok (by decide) gr fr)
          have NB : (Value.slice q1 L.length c1).ownBlock ≠ some bo := own_ne O7.out.own K7.out (by decide)
          have NR : (Value.slice q1 L.length c1).ownBlock ≠ some (w.heap.size + 1) := own_ne O7.out.own R7.out (by decide)
          have NX : (Value.slice q1 L.length c1).ownBlock ≠ some w.heap.size := own_ne O7.out.own h71.2 (by decide)
          have K8 : Hid (w8.heap[bo]? = some (.cells #[.slice q1 L.length c1, .slice qp x.bs.length kp] 72 (0, 0))) := by show _ = _; rw [gr.block _ (Array.getElem?_eq_some_iff.1 K7.out).1 (fun e => NB e.symm)]; exact K7.out
          have R8 : Hid (w8.heap[w.heap.size + 1]? = some (.cells #[.slice none 0 0, .slice none 0 0] 72 (0, 0))) := by show _ = _; rw [gr.block _ (Array.getElem?_eq_some_iff.1 R7.out).1 (fun e => NR e.symm)]; exact R7.out
          have S8 := And.intro (O8.out.below) (show w8.heap[w.heap.size]? = some (.cells #[.slice (some ⟨b1, off1, none⟩) x.ds.length kd, .slice qb x.bs.length kb] 60 (0, 0)) by rw [gr.block _ (Array.getElem?_eq_some_iff.1 h71.2).1 (fun e => NX e.symm)]; exact h71.2)
          clear own8 grow8 fr8 gr fr O7 P7 K7 R7 D7 SR OW7 NB NR NX
          refine hK.out _ _ (S8) (fun h8 => ?_)
          clear hK K S8
          try simp only [Act.put, List.setIfInBounds_toArray, List.set_cons_zero, List.set_cons_succ]
          refine wpAnyH_take (i := 10) (v := ?_) (by rw [List.getElem?_toArray]; rfl) (by kernel_rfl) (by kernel_rfl) (by kernel_rfl) (by exact fun _ _ _ h => h) (Or.inl ⟨by rfl, ?_⟩) h8 ?_
          rotate_left
          · intro W hW
            go_simp
            all_goals with_reducible rfl
          try simp only [Act.put, List.setIfInBounds_toArray, List.set_cons_zero, List.set_cons_succ]
          refine wpAnyH_ready (rs := [11]) (by kernel_rfl) (by simp) ?_
          refine AllReadyH.cons (by rw [List.getElem?_toArray]; rfl) (fun K hK => ?_) AllReadyH.nil
          rw [if_pos (by rfl)]
          have y0 := Joins.unfrozen_of_block K8.out 0
          have c1' := (Joins.cell_of_block K8.out 0).trans (rfl : _ = some _)
          have cS : Chg w8 (w8.setCell ⟨bo, 0, none⟩ (.slice q8 (L.length + 1) k8)) [bo] := (Chg.refl _ _).setCell (p := ⟨bo, 0, none⟩) (.inl (by simp)) _
          have K9 : Hid ((w8.setCell ⟨bo, 0, none⟩ (.slice q8 (L.length + 1) k8)).heap[bo]? = some (.cells #[.slice q8 (L.length + 1) k8, .slice qp x.bs.length kp] 72 (0, 0))) := Joins.block_setCell K8.out _
          have NB8 : ∀ g, (Value.slice q8 (L.length + 1) k8).ownBlock = some g → g ∉ [bo] := fun g hg hm => by
            obtain rfl : g = bo := by simpa using hm
            have h := O8.out.own
            rw [List.length_append, List.length_singleton] at h
            exact own_ne h K8.out (by decide) hg
          have O9 := Lib.hid (O8.out.chg PMg_ok cS (fun g hg hm => hg.1.2 (by simpa using hm)) NB8 (fun y hy => by
            obtain rfl : y = bo := by simpa using hy
            have := hbo.out
            omega))
          have P9 := Lib.hid (P8.out.agr PBs_ok (by decide) (Agr.chg cS (fun g hg hm => hg.1.2 (by simpa using hm))))
          have hbx := hbo.out
          have R9 : Hid ((w8.setCell ⟨bo, 0, none⟩ (.slice q8 (L.length + 1) k8)).heap[w.heap.size + 1]? = some (.cells #[.slice none 0 0, .slice none 0 0] 72 (0, 0))) := by show _ = _; rw [cS.block _ (Array.getElem?_eq_some_iff.1 R8.out).1 (by simp; omega)]; exact R8.out
          have S9 := And.intro (O9.out.below) (show (w8.setCell ⟨bo, 0, none⟩ (.slice q8 (L.length + 1) k8)).heap[w.heap.size]? = some (.cells #[.slice (some ⟨b1, off1, none⟩) x.ds.length kd, .slice qb x.bs.length kb] 60 (0, 0)) by rw [cS.block _ (Array.getElem?_eq_some_iff.1 h8.2).1 (by simp; omega)]; exact h8.2)
          have B9 : Hid ((w8.setCell ⟨bo, 0, none⟩ (.slice q8 (L.length + 1) k8)).heap[w.heap.size]? = some (.cells #[.slice (some ⟨b1, off1, none⟩) x.ds.length kd, .slice qb x.bs.length kb] 60 (0, 0))) := S9.2
          clear cS NB8 O8 P8 K8 R8 hbx
          go_wp2_with fail
          clear y0 c1'
          refine hK.out _ _ (S9) (fun h9x => ?_)
          clear hK K S9
          try simp only [Act.put, List.setIfInBounds_toArray, List.set_cons_zero, List.set_cons_succ]
          refine wpAnyH_done (by kernel_rfl) ?_ _
          go_wp2_with fail
          go_roundw
          case rel =>
            refine ⟨q8, k8, L ++ [m], done ++ R, ?_, ?_, ?_, ?_, ?_, ?_, B9, R9⟩
            · rw [List.length_append, List.length_singleton]; go_num
            · have := HLT.out
              rw [List.length_append, List.length_singleton]
              omega
            · show _ = _
              rw [List.length_append, List.length_singleton]
              exact HLM.out
            · rw [List.length_append, List.length_singleton]; exact O9
            · rw [List.length_append, List.length_singleton]; exact K9
            · rw [List.length_append, List.length_singleton]; exact P9
          case measure => have := HLT.out; simp [intOf]; omega
    · have HLD : Hid (L = x.ds) := by
        have e : L.length = x.ds.length := by omega
        have := hLe.out
        rw [e, List.take_length] at this
        exact this
      have c0 := (Joins.cell_of_block hK.out 0).trans (rfl : _ = some _)
      have c1' := (Joins.cell_of_block hK.out 1).trans (rfl : _ = some _)
      have r0 := (Joins.cell_of_block hR.out 0).trans (rfl : _ = some _)
      have r1 := (Joins.cell_of_block hR.out 1).trans (rfl : _ = some _)
      have y0 := Joins.unfrozen_of_block hR.out 0
      have y1 := Joins.unfrozen_of_block hR.out 1
      have R10 : ((wr.setCell ⟨w.heap.size + 1, 0, none⟩ (.slice q1 L.length c1)).setCell ⟨w.heap.size + 1, 1, none⟩ (.slice qp x.bs.length kp)).heap[w.heap.size + 1]? = some (.cells #[.slice q1 L.length c1, .slice qp x.bs.length kp] 72 (0, 0)) := Joins.block_setCell (Joins.block_setCell hR.out _) _
      have x0 := (Joins.cell_of_block R10 0).trans (rfl : _ = some _)
      have x1 := (Joins.cell_of_block R10 1).trans (rfl : _ = some _)
      have cS : Chg wr ((wr.setCell ⟨w.heap.size + 1, 0, none⟩ (.slice q1 L.length c1)).setCell ⟨w.heap.size + 1, 1, none⟩ (.slice qp x.bs.length kp)) [w.heap.size + 1] := ((Chg.refl _ _).setCell (p := ⟨w.heap.size + 1, 0, none⟩) (.inl (by simp)) _).setCell (p := ⟨w.heap.size + 1, 1, none⟩) (.inl (by simp)) _
      have hbx := hbo.out
      have hNb : ∀ g, (Value.slice q1 L.length c1).ownBlock = some g → g ≠ bo := fun g hg e => own_ne hO.out.own hK.out (by decide) (by rw [← e]; exact hg)
      have hNr : ∀ g, (Value.slice q1 L.length c1).ownBlock = some g → g ≠ w.heap.size + 1 := fun g hg e => own_ne hO.out.own hR.out (by decide) (by rw [← e]; exact hg)
      have hNx : ∀ g, (Value.slice q1 L.length c1).ownBlock = some g → g ≠ w.heap.size := fun g hg e => own_ne hO.out.own hB.out (by decide) (by rw [← e]; exact hg)
      have XD0 := (hO.out.rd2 PMg_ok (fun g hg => ⟨⟨by have := hO.out.fresh g hg; have := hNr g hg; have := hNx g hg; omega, hNb g hg⟩, own_kinds hP.out.owns hO.out.own (by decide) hg⟩)).agr PMg_ok (by decide) (Agr.chg cS (fun g hg hm => by
        obtain rfl : g = w.heap.size + 1 := by simpa using hm
        have := hg.1
        omega))
      have XB0 := hP.out.agr PBs_ok (by decide) (Agr.chg cS (fun g hg hm => by
        obtain rfl : g = w.heap.size + 1 := by simpa using hm
        have := hg.1.1
        omega))
      have BB := Lib.hid (hO.out.below.trans (cS.toBelow hO.out.below.size (fun g hg => by simp at hg; omega)))
      have XX : Hid (OwnQ x w (.returned (.agg #[.slice q1 L.length c1, .slice qp x.bs.length kp])) ((wr.setCell ⟨w.heap.size + 1, 0, none⟩ (.slice q1 L.length c1)).setCell ⟨w.heap.size + 1, 1, none⟩ (.slice qp x.bs.length kp))) := by
        show OwnQ _ _ _ _
        refine ⟨q1, c1, qp, kp, by rw [HLD.out], ?_, XB0.mono PBs_ok (fun g hg => by have := hg.1.1; omega), BB.out⟩
        have := XD0.mono PMg_ok (G := (fun g => w.heap.size ≤ g ∧ (Value.slice qp x.bs.length kp).ownBlock ≠ some g)) (fun g hg => ⟨by have := hg.1.1; omega, hg.2⟩)
        rw [HLD.out] at this ⊢
        exact this
      clear cS XD0 XB0 hNb hNr hNx hbx BB R10 hO hP hK hB hR
      go_wp2_with fail
      refine bodyPost_ret (v := .agg #[.slice q1 L.length c1, .slice qp x.bs.length kp]) (by simp [results, Try.results26, go_sem, x0, x1]) rfl XX.out
end Go.Proofs.Ytonjkhhihiigfaa
namespace Go.Proofs.Ytonjkhhihiigfaa
set_option maxRecDepth 100000
open Go.RowKit

/-- A block and where it lies. -/
structure Bi where
  x : Bk
  lo : Nat
  hi : Nat
def bi0 : Bi := ⟨bk0, 0, 0⟩
def PBi (w : World) (F : Fp) (b : Bi) (r : List Value) : Prop := (∃ qd kd qb kb, r = [.slice qd b.x.ds.length kd, .slice qb b.x.bs.length kb] ∧ RwF 9 mg0 PMg w (fun g => (b.lo ≤ g ∧ g < b.hi) ∧ (Value.slice qb b.x.bs.length kb).ownBlock ≠ some g) qd b.x.ds ∧ RwO kb w (fun g => b.lo ≤ g ∧ g < b.hi) qb b.x.bs) ∧ ∀ g, b.lo ≤ g → g < b.hi → F g ∧ g < w.heap.size
theorem PBi_ok : FpOk PBi where
  mono := fun ⟨h1, h2⟩ hG => ⟨h1, fun g a b => ⟨hG g (h2 g a b).1, (h2 g a b).2⟩⟩
  agr := fun {w w' F x r} ⟨⟨qd, kd, qb, kb, e, h1, h2⟩, h3⟩ ha => by
    have hA : Agr (fun g => x.lo ≤ g ∧ g < x.hi) w w' := fun g hg hl => ha g (h3 g hg.1 hg.2).1 hl
    refine ⟨⟨qd, kd, qb, kb, e, h1.agr PMg_ok (by decide) (fun g hg hl => hA g hg.1 hl), h2.agr PBs_ok (by decide) hA⟩, fun g a b => ⟨(h3 g a b).1, ?_⟩⟩
    have hl := (h3 g a b).2
    have e2 := hA g ⟨a, b⟩ hl
    rw [Array.getElem?_eq_getElem hl] at e2
    exact (Array.getElem?_eq_some_iff.1 e2).1
  lt := fun ⟨h1, h2⟩ => ⟨h1, fun g a b => ⟨⟨(h2 g a b).1, (h2 g a b).2⟩, (h2 g a b).2⟩⟩
theorem PBi.bk {w : World} {F : Fp} {b : Bi} {r : List Value} (h : PBi w F b r) : PBk w F b.x r := by
  obtain ⟨⟨qd, kd, qb, kb, e, h1, h2⟩, h3⟩ := h
  exact ⟨qd, kd, qb, kb, e, h1.mono PMg_ok (fun g hg => (h3 g hg.1.1 hg.1.2).1), h2.rd.mono PBs_ok (fun g hg => (h3 g hg.1 hg.2).1)⟩
/-- The blocks lie apart. -/
def Apt (B : List Bi) : Prop := ∀ i j g, i < j → j < B.length → (B.getD i bi0).lo ≤ g → g < (B.getD i bi0).hi → g < (B.getD j bi0).lo
theorem Apt.nil : Apt [] := fun i j g _ h => by simp at h
theorem Apt.snoc {B : List Bi} {b : Bi} (h : Apt B) (hb : ∀ i, i < B.length → ∀ g, (B.getD i bi0).lo ≤ g → g < (B.getD i bi0).hi → g < b.lo) : Apt (B ++ [b]) := fun i j g hij hj h1 h2 => by
  rw [List.length_append, List.length_singleton] at hj
  have ei : (B ++ [b]).getD i bi0 = B.getD i bi0 := by simp [List.getD, List.getElem?_append_left (show i < B.length by omega)]
  rw [ei] at h1 h2
  by_cases hjl : j < B.length
  · have ej : (B ++ [b]).getD j bi0 = B.getD j bi0 := by simp [List.getD, List.getElem?_append_left hjl]
    rw [ej]
    exact h i j g hij hjl h1 h2
  · obtain rfl : j = B.length := by omega
    have ej : (B ++ [b]).getD B.length bi0 = b := by simp [List.getD]
    rw [ej]
    exact hb i hij g h1 h2
/-- What Blocks answers: rows of its own, apart. -/
def BksQ (Ls : List Bk) (w : World) (e : Ending) (w' : World) : Prop := ∃ q c B done, e = .returned (.slice q B.length c) ∧ B.map Bi.x = Ls ∧ Apt B ∧ OwF 2 bi0 PBi (fun x => w.heap.size ≤ x) w w' 72 (.slice q B.length c) B done
set_option maxHeartbeats 8000000 in
theorem Blocks_own {w : World} {F : Fp} {Ls : List Bk} {q : Option Addr} {c : Nat} (hr : RwF 2 bk0 PBk w F q Ls) (sm : BksSm Ls) (hl : Ls.length ≤ 1000) :
    Calls Try.prog 10 #[.slice q Ls.length c] w (BksQ Ls w) := by
  obtain ⟨i0, hi, hz0, hz1, hz2⟩ := info_parts Try.infoBk
  replace hi := Lib.hid hi
  replace hz0 := Lib.hid hz0
  replace hz1 := Lib.hid hz1
  replace hz2 := Lib.hid hz2
  have H0 := Lib.hid hr
  have SM := Lib.hid sm
  have O0 : Hid (OwF 2 bi0 PBi (fun x => w.heap.size ≤ x) w w 72 (.slice none ([] : List Bi).length 0) [] []) := OwF.start (Below.refl _ _)
  have N0 : Hid (∀ u ∈ ([] : List Value), u.oneCell' = true) := fun u hu => by cases hu
  clear hr sm
  go_enter Try.func10, Try.ntmps10
  go_wp2_with fail
  go_loopw [3, 4] (fun ov iv wr => ∃ (q1 : Option Addr) (c1 : Nat) (B : List Bi) (done : List Value), iv = .int .i64 (B.length : Int) ∧ ov = .slice q1 B.length c1 ∧ B.length ≤ Ls.length ∧ Hid (B.map Bi.x = Ls.take B.length) ∧ Hid (Apt B) ∧ Hid (OwF 2 bi0 PBi (fun x => w.heap.size ≤ x) w wr 72 (.slice q1 B.length c1) B done) ∧ Hid (∀ u ∈ done, u.oneCell' = true)) (fun _ iv _ => Ls.length - (intOf iv).toNat)
  case atStart => exact ⟨none, 0, [], [], rfl, rfl, by simp, rfl, Apt.nil, O0, N0⟩
  case round =>
    clear O0 N0
    obtain ⟨q1, c1, B, done, rfl, rfl, hil, hBe, hA, hO, hN⟩ := hrel
    by_cases hlt : B.length < Ls.length
    · obtain ⟨b1, off1, r1, hq1, _, hr3, hrow3, qd, kd, qb, kb, hre3, hds, hbs⟩ := H0.out.get hlt
      subst hq1 hre3
      have c0w := row_cell hrow3 hr3 (j := 0) (v := .slice qd (Ls.getD B.length bk0).ds.length kd) rfl
      have c1w := row_cell hrow3 hr3 (j := 1) (v := .slice qb (Ls.getD B.length bk0).bs.length kb) rfl
      rw [Nat.add_zero] at c0w
      have e0 := (hO.out.below.cell (lt_of_cell c0w)).trans c0w
      have e1 := (hO.out.below.cell (lt_of_cell c1w)).trans c1w
      have KO := Lib.hid (OwnBk_own (kd := kd) (kb := kb) (hds.on PMg_ok (by decide) hO.out.below) (hbs.on PBs_ok (by decide) hO.out.below) (SM.out.get B.length))
      unfold OwnQ at KO
      have HBM : Hid (B.map Bi.x ++ [Ls.getD B.length bk0] = Ls.take (B.length + 1)) := by
        have h1 := take_snoc (d := bk0) (L := B.map Bi.x) (M := Ls) (by rw [List.length_map]; exact hBe.out) (by rw [List.length_map]; exact hlt)
        rw [List.length_map] at h1
        exact h1
      obtain ⟨x, hx⟩ : ∃ x, Ls.getD B.length bk0 = x := ⟨_, rfl⟩
      rw [hx] at e0 e1 KO HBM
      have HLT := Lib.hid hlt
      clear hx c0w c1w hrow3 hr3 hds hbs hBe
      go_wp2_with fail
      clear e0 e1
      refine KO.out.mono ?_
      rintro e w2 ⟨q5, k5, q6, k6, rfl, hd2, hb2, hb⟩
      have O2 := hO.out.on PBi_ok hb
      have F2 : ∀ g, wr.heap.size ≤ g → (w.heap.size ≤ g ∧ (Value.slice q1 B.length c1).ownBlock ≠ some g) := fun g hg => ⟨by have := hO.out.below.size; omega, fun e => by have := own_lt hO.out.own e; omega⟩
      have b7 : Below w2.heap.size w2 (w2.alloc (.cells #[.slice q5 x.ds.length k5, .slice q6 x.bs.length k6] 72)) := (Below.refl _ _).alloc (Nat.le_refl _) _
      have O7 := Lib.hid (O2.on PBi_ok b7)
      have HAN := Lib.hid (hA.out.snoc (b := ⟨x, wr.heap.size, w2.heap.size⟩) (fun i hi g h1 h2 => by
        obtain ⟨r, _, _, hp⟩ := hO.out.each i hi
        exact (hp.2 g h1 h2).2))
      have hsz := hb.size
      have hsz7 : (w2.alloc (.cells #[.slice q5 x.ds.length k5, .slice q6 x.bs.length k6] 72)).heap.size = w2.heap.size + 1 := by simp
      have P7 : Hid (PBi (w2.alloc (.cells #[.slice q5 x.ds.length k5, .slice q6 x.bs.length k6] 72)) (fun g => w.heap.size ≤ g ∧ (Value.slice q1 B.length c1).ownBlock ≠ some g) ⟨x, wr.heap.size, w2.heap.size⟩ [.slice q5 x.ds.length k5, .slice q6 x.bs.length k6]) :=
        ⟨⟨q5, k5, q6, k6, rfl, ((hd2.lt PMg_ok (by decide)).on PMg_ok (by decide) b7).mono PMg_ok (fun g hg => ⟨⟨hg.1.1, hg.2⟩, hg.1.2⟩), ((hb2.lt PBs_ok (by decide)).on PBs_ok (by decide) b7).mono PBs_ok (fun g hg => hg)⟩, fun g h1 h2 => ⟨F2 g h1, by have h2' : g < w2.heap.size := h2; omega⟩⟩
      have R1 : ∀ u ∈ [Value.slice q5 x.ds.length k5, .slice q6 x.bs.length k6], u.oneCell' = true := by simp [Value.oneCell']
      have SR := Lib.hid (src_any (P := Try.prog) (T := 72) (n := 2) (w := w2) (R := [.slice q5 x.ds.length k5, .slice q6 x.bs.length k6]) Try.underlying25 rfl R1)
      have OWN := Lib.hid O7.out.own
      have N8 : Hid (∀ u ∈ done ++ [Value.slice q5 x.ds.length k5, .slice q6 x.bs.length k6], u.oneCell' = true) := fun u hu => by
        rcases List.mem_append.1 hu with h | h
        · exact hN.out u h
        · exact R1 u h
      have hsl := Try.run_slice_bk w2 (.slice q5 x.ds.length k5) (.slice q6 x.bs.length k6)
      clear hd2 hb2 hb O2 F2 b7 hO hN R1 KO hA hsz hsz7
      go_wp2_with (at_builtin; refine wpList_append_row rfl _ _ rfl Try.underlying25 hi.out hz0.out hz1.out hz2.out rfl OWN.out SR.out ?b1 ?b2 ?_)
      case b1 => unfold maxLen; omega
      case b2 => omega
      intro q8 k8 w8 own8 grow8 fr8
      have fr9 : (Value.slice q8 (B.length + 1) k8).ownBlock = (Value.slice q1 B.length c1).ownBlock ∨ (Value.slice q8 (B.length + 1) k8).ownBlock = some (w2.alloc (.cells #[.slice q5 x.ds.length k5, .slice q6 x.bs.length k6] 72)).heap.size := by rw [show (w2.alloc (.cells #[.slice q5 x.ds.length k5, .slice q6 x.bs.length k6] 72)).heap.size = w2.heap.size + 1 by simp]; exact fr8
      have O8 := Lib.hid (O7.out.grow PBi_ok (n := 2) rfl P7.out own8 grow8 fr9)
      clear own8 grow8 fr8 fr9 O7 P7 SR OWN hsl
      go_wp2_with fail
      go_roundw
      case rel =>
        refine ⟨q8, k8, B ++ [⟨x, wr.heap.size, w2.heap.size⟩], done ++ [.slice q5 x.ds.length k5, .slice q6 x.bs.length k6], ?_, ?_, ?_, ?_, HAN, ?_, N8⟩
        · rw [List.length_append, List.length_singleton]; go_num
        · rw [List.length_append, List.length_singleton]
        · have := HLT.out
          rw [List.length_append, List.length_singleton]
          omega
        · show _ = _
          rw [List.length_append, List.length_singleton, List.map_append]
          exact HBM.out
        · rw [List.length_append, List.length_singleton]
          exact O8.out
      case measure => have := HLT.out; simp [intOf]; omega
    · have hBL : B.length = Ls.length := by omega
      have HLD : Hid (B.map Bi.x = Ls) := by
        have := hBe.out
        rw [hBL, List.take_length] at this
        exact this
      have X : Hid (BksQ Ls w (.returned (.slice q1 B.length c1)) wr) := by
        show BksQ _ _ _ _
        exact ⟨q1, c1, B, done, rfl, HLD.out, hA.out, hO.out⟩
      clear hO hN hBe hA
      go_wp2_with fail
      go_ret
      exact X.out
end Go.Proofs.Ytonjkhhihiigfaa
