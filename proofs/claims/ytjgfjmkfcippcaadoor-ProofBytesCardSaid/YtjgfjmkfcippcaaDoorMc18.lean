/-
  What the document reads of steps.; Bytes that a function builds; a number as bytes, as the document writes it.
-/
import Derived.Test.YtjgfjmkfcippcaaDoorMc3
import Derived.Test.YtjgfjmkfcippcaaDoorMc5
import Derived.Test.YtjgfjmkfcippcaaDoorMc12
import Derived.Test.YtjgfjmkfcippcaaDoorMc13
import Derived.Test.YtjgfjmkfcippcaaDoorMc17
namespace Go.Proofs.YtjgfjmkfcippcaaDoor
set_option maxRecDepth 100000
open Go.RowKit

/-- The document's rows of steps. -/
structure OwR (w wr : World) (v : Value) (L : List Sp) (k : Nat) (Q : Nat → Option Addr × Nat) : Prop where
  own : wr.ownsRow 0 99 97 v k (rowsN (spF L Q) k)
  each : ∀ j, j < k → HsS w wr (.slice (Q j).1 (L.getD j sp0).sides.length (Q j).2) (L.getD j sp0).sides
  fresh : ∀ g, v.ownBlock = some g → w.heap.size ≤ g
  below : Below w.heap.size w wr
theorem OwR.start {w wr : World} (hb : Below w.heap.size w wr) (L : List Sp) (Q : Nat → Option Addr × Nat) : OwR w wr (.slice none 0 0) L 0 Q := ⟨World.ownsRow_nil wr 0 _ 97, fun j hj => by omega, by simp [Value.ownBlock], hb⟩
theorem OwR.on {w wr w1 : World} {v : Value} {L : List Sp} {k : Nat} {Q : Nat → Option Addr × Nat} (h : OwR w wr v L k Q) (hb : Below wr.heap.size wr w1) : OwR w w1 v L k Q :=
  ⟨own_on h.own hb, fun j hj => (h.each j hj).on hb, h.fresh, h.below.trans (hb.mono h.below.size)⟩
theorem OwR.chg {w wr w1 : World} {v : Value} {L : List Sp} {k : Nat} {Q : Nat → Option Addr × Nat} {K : List Nat} (h : OwR w wr v L k Q) (hc : Chg wr w1 K) (hK : ∀ x, x ∈ K → w.heap.size ≤ x) (hv : ∀ g, v.ownBlock = some g → g ∉ K) (hq : ∀ j, j < k → ∀ g, (Value.slice (Q j).1 (L.getD j sp0).sides.length (Q j).2).ownBlock = some g → g ∉ K) : OwR w w1 v L k Q := by
  have hB : Below w.heap.size w w1 := h.below.trans (hc.toBelow h.below.size hK)
  refine ⟨own_keep h.own (fun g hg => hc.block g (own_lt h.own hg) (hv g hg)), fun j hj => ?_, h.fresh, hB⟩
  have hs := h.each j hj
  exact ⟨own_keep hs.own (fun g hg => hc.block g (own_lt hs.own hg) (hq j hj g hg)), hs.ok, hs.fresh, hB⟩
theorem OwR.rd {w wr : World} {q : Option Addr} {n c : Nat} {L : List Sp} {Q : Nat → Option Addr × Nat} (ok : SpOk L) (h : OwR w wr (.slice q n c) L L.length Q) : n = L.length ∧ RdSp wr q L := by
  rcases h.own.2 with ⟨e, h0⟩ | ⟨g, cap, cur, e, _, hg, hnc, hcm, hcs', htake⟩
  · simp only [Value.slice.injEq] at e
    obtain ⟨rfl, rfl, rfl⟩ := e
    exact ⟨h0.symm, .inl (List.eq_nil_of_length_eq_zero h0)⟩
  · simp only [Value.slice.injEq] at e
    obtain ⟨rfl, rfl, rfl⟩ := e
    refine ⟨rfl, .inr ⟨g, 0, rfl, fun i hi => ⟨(Q i).1, (Q i).2, ?_, (h.each i hi).rd.2.1⟩⟩⟩
    have hl : ∀ j, j < L.length → (spF L Q j).length = 97 := fun j hj => spRow_len (ok.get hj) _
    have hc2 : cur = (rowsN (spF L Q) L.length ++ cur.toList.drop (L.length * 97)).toArray := by
      apply Array.ext'
      show cur.toList = rowsN (spF L Q) L.length ++ cur.toList.drop (L.length * 97)
      rw [← htake, List.take_append_drop]
    rw [hc2] at hg
    rw [rowOf_block hg, Nat.zero_add]
    have := rowsN_mid L.length (cur.toList.drop (L.length * 97)) hl i hi
    show _ = spF L Q i
    rw [← this]
    simp [List.take_drop]
theorem OwR.ext {w wr : World} {v : Value} {L : List Sp} {Q : Nat → Option Addr × Nat} (h : OwR w wr v L L.length Q) (s : Sp) (q : Option Addr) (k : Nat) : rowsN (spF (L ++ [s]) (fun j => if j = L.length then (q, k) else Q j)) (L.length + 1) = rowsN (spF L Q) L.length ++ spRow s (.slice q s.sides.length k) ∧
    ∀ j, j < L.length → HsS w wr (.slice ((fun j => if j = L.length then (q, k) else Q j) j).1 ((L ++ [s]).getD j sp0).sides.length ((fun j => if j = L.length then (q, k) else Q j) j).2) ((L ++ [s]).getD j sp0).sides := by
  have e : ∀ j, j < L.length → (L ++ [s]).getD j sp0 = L.getD j sp0 := fun j hj => by simp [List.getD, List.getElem?_append_left hj]
  refine ⟨?_, fun j hj => ?_⟩
  · rw [rowsN, rowsN_cong L.length (g := spF L Q) (fun j hj => by unfold spF; rw [e j hj]; simp [show j ≠ L.length by omega])]
    congr 1
    unfold spF
    simp [List.getD]
  · rw [e j hj]
    simp only [if_neg (show j ≠ L.length by omega)]
    exact h.each j hj
section
variable {w w' : World} {p : Nat} {v : Value} {xs : List Int} {pos : Nat} {f : Bool}
theorem DSt.blk (h : DSt w p v xs pos f) : ∃ cs, w.heap[p]? = some (.cells cs 146 (0, 0)) := by
  cases f with
  | false => exact ⟨_, (h.ok rfl).blk⟩
  | true => obtain ⟨_, _, _, _, e⟩ := h.bad rfl; exact ⟨_, e⟩
theorem DSt.chg2 (h : DSt w p v xs pos f) {K : List Nat} (hc : Chg w w' K) (hp : p ∉ K) (hv : f = false → w.ownsRow 0 5 1 v xs.length (bc xs) → ∀ g, v.ownBlock = some g → g ∉ K) : DSt w' p v xs pos f := by
  refine ⟨fun e => (h.ok e).chg hc hp (hv e (h.ok e).own), fun e => ?_, by have := hc.size; have := h.lt; omega⟩
  have := h.bad e
  unfold DrF at this ⊢
  rw [hc.block p h.lt hp]; exact this
theorem DSt.err (h : DSt w p v xs pos f) : ∃ z : Int, w.cell? ⟨p, 2, none⟩ = some (.int .i64 z) ∧ (z == 0) = !f := by
  cases f with
  | false => exact ⟨0, (Joins.cell_of_block (h.ok rfl).blk 2).trans (rfl : _ = some _), rfl⟩
  | true =>
    obtain ⟨_, _, z, hz, e⟩ := h.bad rfl
    exact ⟨z, (Joins.cell_of_block e 2).trans (rfl : _ = some _), by simpa using hz⟩
end
/-- A step under way in a block of its own. -/
structure FrR (w W : World) (b : Nat) (s : Sp) (p : Nat) (v1 : Value) (xs : List Int) (pos : Nat) (f : Bool) (lv : Value) (L : List Sp) (Q : Nat → Option Addr × Nat) (qa : Option Addr) (ca : Nat) (acc : List (List Int)) : Prop where
  blk : W.heap[b]? = some (.cells (spRow s (.slice qa acc.length ca)).toArray 99 (0, 0))
  hs : HsS w W (.slice qa acc.length ca) acc
  rd : DSt W p v1 xs pos f
  ow : OwR w W lv L L.length Q
  hb : w.heap.size ≤ b
  nb : lv.ownBlock ≠ some b
  dis : ∀ j, j < L.length → ∀ k, (Value.slice (Q j).1 (L.getD j sp0).sides.length (Q j).2).ownBlock = some k → (Value.slice qa acc.length ca).ownBlock ≠ some k
section
variable {w W W' : World} {b p pos ca : Nat} {L : List Sp} {Q : Nat → Option Addr × Nat} {s : Sp} {v1 lv : Value} {xs : List Int} {qa : Option Addr} {acc : List (List Int)} {f : Bool}
theorem FrR.on (h : FrR w W b s p v1 xs pos f lv L Q qa ca acc) (hb : Below W.heap.size W W') : FrR w W' b s p v1 xs pos f lv L Q qa ca acc := ⟨blk_onB2 h.blk hb, h.hs.on hb, h.rd.on hb, h.ow.on hb, h.hb, h.nb, h.dis⟩
theorem OwR.call (h : OwR w W lv L L.length Q) (hV : DSt W p v1 xs pos f) (hc : Chg W W' [p]) (hp : w.heap.size ≤ p) : OwR w W' lv L L.length Q := by
  obtain ⟨_, e⟩ := hV.blk
  exact h.chg hc (fun k hk => by simp at hk; omega) (fun k hk hm => by
    obtain rfl : k = p := by simpa using hm
    exact own_ne h.own e (by decide) hk) (fun j hj k hk hm => by
    obtain rfl : k = p := by simpa using hm
    exact own_ne (h.each j hj).own e (by decide) hk)
theorem FrR.hash {pos' : Nat} {f' : Bool} (h : FrR w W b s p v1 xs pos f lv L Q qa ca acc) (hc : Chg W W' [p]) (hp : w.heap.size ≤ p) (hV : DSt W' p v1 xs pos' f') : FrR w W' b s p v1 xs pos' f' lv L Q qa ca acc := by
  obtain ⟨_, e⟩ := h.rd.blk
  have G := h.ow.call h.rd hc hp
  have hbp : b ≠ p := fun eb => by
    have h1 := h.blk
    rw [eb, e] at h1
    have h2 := (Obj.cells.inj (Option.some.inj h1)).2.1
    exact absurd h2 (by decide)
  refine ⟨by rw [hc.block b (Array.getElem?_eq_some_iff.1 h.blk).1 (by simpa using hbp)]; exact h.blk, ⟨own_keep h.hs.own (fun k hk => hc.block k (own_lt h.hs.own hk) (fun hm => ?_)), h.hs.ok, h.hs.fresh, G.below⟩, hV, G, h.hb, h.nb, h.dis⟩
  obtain rfl : k = p := by simpa using hm
  exact own_ne h.hs.own e (by decide) hk
theorem FrR.side (h : FrR w W b s p v1 xs pos f lv L Q qa ca acc) (ok : s.ok) : W.cell? ⟨b, 96, none⟩ = some (.slice qa acc.length ca) := by
  rw [Joins.cell_of_block h.blk]
  simp [spRow, pfRow, hc_len, ok.key, ok.old, ok.mask]
theorem FrR.push {w8 : World} {F : List Int} {q8 : Option Addr} {k8 : Nat} (h : FrR w W b s p v1 xs pos f lv L Q qa ca acc) (ok : s.ok) (hF : F.length = 32) (bF : Bytes F)
    (own : w8.ownsRow 0 23 32 (.slice q8 (acc.length + 1) k8) (acc.length + 1) (hcs acc ++ hcs [F])) (grow : W.grownBy w8 (Value.slice qa acc.length ca).ownBlock) (fr : (Value.slice q8 (acc.length + 1) k8).ownBlock = (Value.slice qa acc.length ca).ownBlock ∨ (Value.slice q8 (acc.length + 1) k8).ownBlock = some W.heap.size) :
    w8.cell? ⟨b, 96, none⟩ = some (.slice qa acc.length ca) ∧ w8.frozen? ⟨b, 96, none⟩ = false ∧ FrR w (w8.setCell ⟨b, 96, none⟩ (.slice q8 (acc.length + 1) k8)) b s p v1 xs pos f lv L Q q8 k8 (acc ++ [F]) := by
  have c8 : Chg W w8 (Value.slice qa acc.length ca).ownBlock.toList := Chg.grown grow (fun g hg => by simp [hg])
  have hS := h.hs.grow (HsOk.one hF bF) (m := 1) rfl own grow fr
  obtain ⟨_, er⟩ := h.rd.blk
  have hbn : (Value.slice qa acc.length ca).ownBlock ≠ some b := own_ne h.hs.own h.blk (by decide)
  have B8 : w8.heap[b]? = some (.cells (spRow s (.slice qa acc.length ca)).toArray 99 (0, 0)) := by
    rw [c8.block b (Array.getElem?_eq_some_iff.1 h.blk).1 (fun hm => hbn (by simpa using hm))]; exact h.blk
  have hbp : b ≠ p := fun eb => by
    have h1 := h.blk
    rw [eb, er] at h1
    exact absurd (Obj.cells.inj (Option.some.inj h1)).2.1 (by decide)
  have G8 := h.ow.chg c8 (fun k hk => h.hs.fresh k (by simpa using hk)) (fun k hk hm => own_two h.ow.own h.hs.own (by decide) hk (by simpa using hm)) (fun j hj k hk hm => h.dis j hj k hk (by simpa using hm))
  have V8 := h.rd.chg2 c8 (fun hm => own_ne h.hs.own er (by decide) (by simpa using hm)) (fun _ ho k hk hm => own_two ho h.hs.own (by decide) hk (by simpa using hm))
  have cs : Chg w8 (w8.setCell ⟨b, 96, none⟩ (.slice q8 (acc.length + 1) k8)) [b] := (Chg.refl w8 [b]).setCell (p := ⟨b, _, none⟩) (.inl (by simp)) _
  have e9 : (w8.setCell ⟨b, 96, none⟩ (.slice q8 (acc.length + 1) k8)).heap[b]? = some (.cells (spRow s (.slice q8 (acc ++ [F]).length k8)).toArray 99 (0, 0)) := by
    rw [Joins.block_setCell B8]
    congr 2
    apply Array.ext'
    rw [show spRow s (.slice qa acc.length ca) = (hc s.key ++ (hc s.old ++ hc s.mask)) ++ [.slice qa acc.length ca] by simp [spRow, pfRow]]
    rw [show spRow s (.slice q8 (acc ++ [F]).length k8) = (hc s.key ++ (hc s.old ++ hc s.mask)) ++ [.slice q8 (acc.length + 1) k8] by simp [spRow, pfRow]]
    have hl : (hc s.key ++ (hc s.old ++ hc s.mask)).length = 96 := by simp [hc_len, ok.key, ok.old, ok.mask]
    simp only [Array.toList_setIfInBounds]
    rw [List.set_append_right _ _ (by omega), hl]
    rfl
  have G9 := G8.chg cs (fun k hk => by have := h.hb; simp at hk; omega) (fun k hk hm => by
    obtain rfl : k = b := by simpa using hm
    exact h.nb hk) (fun j hj k hk hm => by
    obtain rfl : k = b := by simpa using hm
    exact own_ne (G8.each j hj).own B8 (by decide) hk)
  have hS2 : HsS w (w8.setCell ⟨b, 96, none⟩ (.slice q8 (acc.length + 1) k8)) (.slice q8 (acc.length + 1) k8) (acc ++ [F]) := by
    refine ⟨own_keep hS.own (fun k hk => cs.block k (own_lt hS.own hk) (fun hm => ?_)), hS.ok, hS.fresh, G9.below⟩
    obtain rfl : k = b := by simpa using hm
    exact own_ne hS.own B8 (by decide) hk
  refine ⟨?_, Joins.unfrozen_of_block B8 _, e9, by simpa using hS2, V8.chg2 cs (by simp; omega) (fun _ ho k hk hm => ?_), G9, h.hb, h.nb, fun j hj k hk => ?_⟩
  · rw [Joins.cell_of_block B8]
    simp [spRow, pfRow, hc_len, ok.key, ok.old, ok.mask]
  · obtain rfl : k = b := by simpa using hm
    exact own_ne ho B8 (by decide) hk
  · have hd := h.dis j hj k hk
    have hk2 := own_lt (h.ow.each j hj).own hk
    simp only [List.length_append, List.length_singleton]
    rcases fr with e | e
    · rw [e]; exact hd
    · rw [e]; simp; omega
end
theorem Tryd.built_rs (ps : List (Nat × Value)) : Tryd.prog.built 99 ps = Instr.fill (fun i => stPlaces.toArray[i]?) st0.toArray ps := by kernel_rfl
@[go_sem ↓] theorem Tryd.build_rs (ps : Array (Nat × Value)) : Instr.build 99 ps = rowBuild 99 ps := rfl
theorem Tryd.run_rs1 (w : World) (F : List Int) (hF : F.length = 32) :
    (rowBuild 99 #[(0, .agg (hc F).toArray)]).run Tryd.prog w = .ok (.agg (hc F ++ (hc zero32 ++ pfRow zero32 (.slice none 0 0))).toArray) w := by
  refine run_build w _ _ _ ?_
  rw [Tryd.built_rs]
  show Instr.fill _ _ ((0, Value.agg (hc F).toArray) :: []) = _
  have z1 : st0 = [] ++ (hc zero32 ++ (hc zero32 ++ pfRow zero32 (.slice none 0 0))) := rfl
  rw [z1, fill_at (i := 0) (off := 0) (size := 32) (vs := hc F) rfl rfl rfl rfl (by rw [hc_len, hF])]
  rw [List.nil_append]
  rfl
@[go_sem ↓] theorem Tryd.zero_rs (w : World) : (zeroValue 99).run Tryd.prog w = .ok (.agg st0.toArray) w := by kernel_rfl
@[go_sem ↓] theorem Tryd.slice_rs (ps : Array (Nat × Value)) : Instr.buildSlice 57 1 ps = rowNew 57 ps := rfl
theorem Tryd.run_slice_rs (w : World) (R : List Value) (hR : R.length = 97) :
    (rowNew 57 #[(0, .agg R.toArray)]).run Tryd.prog w = .ok (.slice (some ⟨w.heap.size, 0, none⟩) 1 1) (w.alloc (.cells R.toArray 99)) :=
  run_bs_one w Tryd.underlying57 (by kernel_rfl) (Tryd.zero_rs w) (n := 97) (by decide) (by decide) hR
theorem Tryd.infoRs : (Tryd.prog.info? 99).map (fun i => (i.zero, i.size, i.bytes)) = some (some (.agg st0.toArray), 97, 120) := by kernel_rfl
theorem src_rs {P : Program} {tx e' : TypeId} {w : World} {R : List Value} (hk : P.underlying tx = some (.slice e')) (hR : R.length = 97) (h1 : ∀ u ∈ R, u.oneCell' = true) : Src P 97 tx (.slice (some ⟨w.heap.size, 0, none⟩) 1 1) 1 R (w.alloc (.cells R.toArray 99)) := by
  refine Src.ofSlice _ hk _ _ _ _ (by rw [hR]) (fun j u hu => ?_) h1
  rw [addr_add, Joins.cell_of_block (heap_alloc_new w (.cells R.toArray 99)), Nat.zero_add]
  simpa using hu

theorem there_newR {w : World} {R : List Value} {T : TypeId} {n : Nat} (hn : R.length = n) : (w.alloc (.cells R.toArray T)).there w.heap.size 0 n := fun j hj => by
  have R' := heap_alloc_new w (.cells R.toArray T)
  refine ⟨?_, Joins.unfrozen_of_block R' _⟩
  rw [cell_of_row _ _ _ _ _ _ R']
  simp [hn, hj]
theorem store_row {P : Program} {w : World} {b n : Nat} {R : List Value} (hR : R.length = n) (h1 : ∀ u ∈ R, u.oneCell' = true) (hw : w.there b 0 n) : (storeCells ⟨b, 0, none⟩ R 0).run P w = .ok () (w.setCells b 0 R) := by
  have := run_storeCells_cells (P := P) b 0 R 0 w (fun j hj => by rw [hR] at hj; simpa using (hw j hj).1) (fun j hj => by rw [hR] at hj; simpa using (hw j hj).2) h1
  simpa using this
/-- A step that is laid field by field. -/
structure PrR (w W : World) (b : Nat) (cur : List Value) (p : Nat) (v1 : Value) (xs : List Int) (pos : Nat) (f : Bool) (lv : Value) (L : List Sp) (Q : Nat → Option Addr × Nat) : Prop where
  blk : W.heap[b]? = some (.cells cur.toArray 99 (0, 0))
  rd : DSt W p v1 xs pos f
  ow : OwR w W lv L L.length Q
  hb : w.heap.size ≤ b
  nb : lv.ownBlock ≠ some b
  pb : p < b
section
variable {w W W' : World} {b p pos pos' : Nat} {L : List Sp} {Q : Nat → Option Addr × Nat} {v1 lv : Value} {xs : List Int} {f f' : Bool} {cur : List Value}
theorem PrR.new (hV : DSt W p v1 xs pos f) (hO : OwR w W lv L L.length Q) : PrR w (W.alloc (.cells st0.toArray 99)) W.heap.size st0 p v1 xs pos f lv L Q := by
  have b1 : Below W.heap.size W (W.alloc (.cells st0.toArray 99)) := (Below.refl _ _).alloc (Nat.le_refl _) _
  exact ⟨heap_alloc_new _ _, hV.on b1, hO.on b1, hO.below.size, fun e => by have := own_lt hO.own e; omega, hV.lt⟩
theorem PrR.hash (h : PrR w W b cur p v1 xs pos f lv L Q) (hc : Chg W W' [p]) (hp : w.heap.size ≤ p) (hV : DSt W' p v1 xs pos' f') : PrR w W' b cur p v1 xs pos' f' lv L Q :=
  ⟨by rw [hc.block b (Array.getElem?_eq_some_iff.1 h.blk).1 (by have := h.pb; simp; omega)]; exact h.blk, hV, h.ow.call h.rd hc hp, h.hb, h.nb, h.pb⟩
theorem PrR.put {a mid b' vs : List Value} {o : Nat} (h : PrR w W b (a ++ (mid ++ b')) p v1 xs pos f lv L Q) (hl : mid.length = vs.length) (ho : o = a.length) : PrR w (W.setCells b o vs) b (a ++ (vs ++ b')) p v1 xs pos f lv L Q := by
  have cs : Chg W (W.setCells b o vs) [b] := chg_setCells _ _ _ (Chg.refl _ _)
  have hpb := h.pb
  have hbb := h.hb
  refine ⟨setCells_block (b := b) (t := 99) (fr := (0, 0)) vs (o := o) h.blk ho.symm hl, h.rd.chg2 cs (by simp; omega) (fun _ ho k hk hm => ?_), h.ow.chg cs (fun k hk => by simp at hk; omega) (fun k hk hm => ?_) (fun j hj k hk hm => ?_), h.hb, h.nb, h.pb⟩
  · obtain rfl : k = b := by simpa using hm
    exact own_ne ho h.blk (by decide) hk
  · obtain rfl : k = b := by simpa using hm
    exact h.nb hk
  · obtain rfl : k = b := by simpa using hm
    exact own_ne (h.ow.each j hj).own h.blk (by decide) hk
theorem PrR.there (h : PrR w W b cur p v1 xs pos f lv L Q) {o n : Nat} (hn : o + n ≤ cur.length) : W.there b o n := fun j hj => by
  refine ⟨?_, Joins.unfrozen_of_block h.blk _⟩
  rw [cell_of_row _ _ _ _ _ _ h.blk]
  simp only [List.getElem?_toArray]
  rw [List.getElem?_eq_getElem (by omega)]
  rfl
theorem PrR.start {s : Sp} (h : PrR w W b (spRow s (.slice none 0 0)) p v1 xs pos f lv L Q) : FrR w W b s p v1 xs pos f lv L Q none 0 [] :=
  ⟨h.blk, ⟨World.ownsRow_nil W 0 _ 32, HsOk.nil, by simp [Value.ownBlock], h.ow.below⟩, h.rd, h.ow, h.hb, h.nb, fun j hj k hk => by simp [Value.ownBlock]⟩
end
theorem GT.mono {xs : List Int} {n : Nat} {L : List Sp} {pos : Nat} {f : Bool} {c c' : Sp → Prop} {X : List Sp → Sp → List Int} (h : GT xs n L pos f c X) (hc : ∀ t, c t → c' t) : GT xs n L pos f c' X := fun M hM => by
  obtain ⟨h1, h2, h3, h4, h5⟩ := h M hM
  exact ⟨h1, h2, h3, hc _ h4, h5⟩
theorem GT.row2 {xs : List Int} {n pos : Nat} {L : List Sp} {f : Bool} {c : Sp → Prop} {X : List Sp → Sp → List Int} {s : Sp} (h : GT xs n L pos f c X) (hlt : L.length < n) (hc : f = false → ∀ t, c t → t = s ∧ ∀ M, X M t = stT M (L.length + 1)) : GT xs n (L ++ [s]) pos f (fun _ => True) (fun M _ => stT M (L ++ [s]).length) := fun M hM => by
  obtain ⟨h1, h2, h3, h4, h5⟩ := h M hM
  obtain ⟨e, hX⟩ := hc h1 _ h4
  refine ⟨h1, h2, ?_, trivial, by rw [h5, hX]; simp⟩
  rw [List.length_append, List.length_singleton, take_snocSp (by omega), ← h3, e]
theorem flat_dropS {Ss : List (List Int)} {j : Nat} (hj : j < Ss.length) : (Ss.drop j).flatten = Ss.getD j [] ++ (Ss.drop (j + 1)).flatten := by
  rw [List.drop_eq_getElem_cons hj, List.flatten_cons]
  simp [List.getD, hj]
/-- What is known of the step under way. -/
def RowC (s : Sp) (z : Nat) (acc : List (List Int)) (t : Sp) : Prop := t.key = s.key ∧ t.old = s.old ∧ t.mask = s.mask ∧ t.sides.length = z ∧ t.sides.take acc.length = acc
def From6P (w : World) (p : Nat) (v1 : Value) (xs : List Int) (e : Ending) (w' : World) : Prop := ∃ (n : Nat) (q : Option Addr) (c : Nat) (L : List Sp) (Q : Nat → Option Addr × Nat) (pos : Nat) (f : Bool), e = .returned (.slice q L.length c) ∧ OwR w w' (.slice q L.length c) L L.length Q ∧ SpOk L ∧ n ≤ 64 ∧ L.length ≤ n ∧ DSt w' p v1 xs pos f ∧ (f = false → L.length = n) ∧ GD xs n L [] pos f ∧ GT xs n L pos f (fun _ => True) (fun M _ => stT M L.length)

set_option maxHeartbeats 16000000 in
theorem From6_any {w w0 : World} {p : Nat} {v1 : Value} {xs : List Int} (hV : DrV w0 p v1 xs 0) (hbx : Bytes xs) (hb0 : Below w.heap.size w w0) (hp : w.heap.size ≤ p) :
    Calls Tryd.prog 73 #[.pointer (some ⟨p, 0, none⟩)] w0 (From6P w p v1 xs) := by
  obtain ⟨i0, hi, hz0, hz1, hz2⟩ := info_parts Tryd.infoRs
  replace hi := Lib.hid hi
  replace hz0 := Lib.hid hz0
  replace hz1 := Lib.hid hz1
  replace hz2 := Lib.hid hz2
  obtain ⟨iH, hiH, hy0, hy1, hy2⟩ := info_parts Tryd.infoHs
  replace hiH := Lib.hid hiH
  replace hy0 := Lib.hid hy0
  replace hy1 := Lib.hid hy1
  replace hy2 := Lib.hid hy2
  have BX := Lib.hid hbx
  have V1 := Lib.hid (DSt.mk0 hV)
  have B1 := Lib.hid hb0
  clear hV hb0 hbx
  go_enter Tryd.func73, Tryd.ntmps73
  go_wp2_with fail
  refine (rdCount_st (most := 64) V1.out BX.out (by omega)).mono ?_
  rintro e w2 ⟨n, f, rfl, hn, hV2, hc2, hd2, he2⟩
  have D2 := Lib.hid (GD.first BX.out hd2)
  have T2 := Lib.hid (GT.first hd2 he2)
  have S2 : Hid (OwR w w2 (.slice none 0 0) [] 0 (fun _ => (none, 0))) := OwR.start (B1.out.trans (hc2.toBelow B1.out.size (fun k hk => by simp at hk; omega))) _ _
  have V2 := Lib.hid hV2
  clear hV2 hc2 V1 B1 hd2 he2
  go_wp2_with fail
  go_loopw [4, 5] (fun lv iv wr => ∃ (i pos : Nat) (ql : Option Addr) (cl : Nat) (Q : Nat → Option Addr × Nat) (L : List Sp) (f : Bool), iv = .int .i64 (i : Int) ∧ i ≤ n ∧ lv = .slice ql i cl ∧ Hid (i = L.length) ∧ Hid (OwR w wr (.slice ql L.length cl) L L.length Q) ∧ Hid (SpOk L) ∧ Hid (DSt wr p v1 xs pos f) ∧ Hid (GD xs n L [] pos f) ∧ Hid (GT xs n L pos f (fun _ => True) (fun M _ => stT M L.length))) (fun _ iv _ => n - (intOf iv).toNat)
  case atStart => exact ⟨0, _, none, 0, _, [], _, rfl, by omega, rfl, Lib.hid rfl, S2, Lib.hid (fun _ h => by simp at h), V2, D2, T2⟩
  case round =>
    clear S2 V2 D2 T2
    obtain ⟨i, pos, ql, cl, Q, L, f, rfl, hil, rfl, hLi, hO, hK, hV, hD, hT⟩ := hrel
    obtain ⟨ze, ce, de⟩ := hV.out.err
    by_cases hgo : i < n ∧ f = false
    · obtain ⟨hlt, rfl⟩ := hgo
      have de' : (ze == 0) = true := de
      have hltI : (i : Int) < (n : Int) := by omega
      have HLT := Lib.hid hlt
      clear de
      go_wp2_with fail
      refine (rdHash_st hV.out BX.out).mono ?_
      rintro e w4 ⟨F1, f4, rfl, l1, b1, hV4, hc4, hd4, he4⟩
      have hlF1 := hc_len F1
      have O4 := hO.out.call hV.out hc4 hp
      have D4 := Lib.hid (hD.out.step hd4)
      have T4 := Lib.hid (hT.out.step (fun s => s.key) (X' := fun M s => s.old ++ (s.mask ++ (be8 s.sides.length ++ (s.sides.flatten ++ stT M (L.length + 1))))) (by omega) hd4 he4 (fun M hM e1 _ => ⟨stT_succ (by have := hLi.out; have := HLT.out; omega), (hM.ok.get (by have := hLi.out; have := HLT.out; omega)).key⟩))
      have BK := Lib.hid b1
      have P4 := Lib.hid (PrR.new hV4 O4)
      have hr1 := fun W => Tryd.run_rs1 W F1 l1
      have lR : (hc F1 ++ (hc zero32 ++ pfRow zero32 (.slice none 0 0))).length = 97 := by simp [hc_len, l1, pfRow]; rfl
      have P5 : Hid (PrR w ((w4.alloc (.cells st0.toArray 99)).setCells w4.heap.size 0 (hc F1 ++ (hc zero32 ++ pfRow zero32 (.slice none 0 0)))) w4.heap.size (hc F1 ++ (hc zero32 ++ pfRow zero32 (.slice none 0 0))) p v1 xs (pos + 32) f4 (.slice ql L.length cl) L Q) := by
        have h1 := P4.out
        rw [show st0 = [] ++ (st0 ++ []) by simp] at h1
        have := h1.put (vs := hc F1 ++ (hc zero32 ++ pfRow zero32 (.slice none 0 0))) (by rw [lR]; rfl) rfl
        rw [List.append_nil, List.nil_append, List.nil_append, List.append_nil] at this
        exact this
      have th1 : (w4.alloc (.cells st0.toArray 99)).there w4.heap.size 0 97 := there_newR st0_len
      have hone := Lib.hid (sp_one ⟨F1, zero32, zero32, []⟩ none 0 0)
      have st1 := store_row (P := Tryd.prog) lR (by have := hone.out; simpa [spRow] using this) th1
      obtain ⟨R1, hR1⟩ : ∃ R1, hc F1 ++ (hc zero32 ++ pfRow zero32 (.slice none 0 0)) = R1 := ⟨_, rfl⟩
      have HR1 := Lib.hid hR1
      rw [hR1] at hr1 lR st1 P5
      have sz5 : ((w4.alloc (.cells st0.toArray 99)).setCells w4.heap.size 0 R1).heap.size = w4.heap.size + 1 := by rw [size_setCells]; simp
      clear hV4 hc4 hd4 he4 b1 O4 P4 hV hO hD hT ce de' hR1 hone
      go_wp2_with fail
      clear hr1 th1 lR st1 sz5
      obtain ⟨b, hbe⟩ : ∃ b, w4.heap.size = b := ⟨_, rfl⟩
      rw [hbe] at P5 ⊢
      generalize (w4.alloc (.cells st0.toArray 99)).setCells b 0 R1 = w5 at *
      replace P5 : Hid (PrR w w5 b (hc F1 ++ (hc zero32 ++ pfRow zero32 (.slice none 0 0))) p v1 xs (pos + 32) f4 (.slice ql L.length cl) L Q) := by
        have := P5.out
        rw [← HR1.out] at this
        exact this
      clear hbe HR1
      refine (rdHash_st P5.out.rd BX.out).mono ?_
      rintro e w6 ⟨F2, f6, rfl, l2, b2, hV6, hc6, hd6, he6⟩
      have hlF2 := hc_len F2
      have D6 := Lib.hid (D4.out.step hd6)
      have T6 := Lib.hid (T4.out.step (fun s => s.old) (X' := fun M s => s.mask ++ (be8 s.sides.length ++ (s.sides.flatten ++ stT M (L.length + 1)))) (by omega) hd6 he6 (fun M hM e1 _ => ⟨rfl, (hM.ok.get (by have := hLi.out; have := HLT.out; omega)).old⟩))
      have BO := Lib.hid b2
      have P6 := Lib.hid (P5.out.hash hc6 hp hV6)
      have th2 := P6.out.there (o := 32) (n := 32) (by simp [hc_len, l1, pfRow]; rw [show zero32.length = 32 from rfl]; omega)
      have P7 : Hid (PrR w (w6.setCells b 32 (hc F2)) b (hc F1 ++ (hc F2 ++ pfRow zero32 (.slice none 0 0))) p v1 xs (pos + 32 + 32) f6 (.slice ql L.length cl) L Q) := Lib.hid (P6.out.put (by rw [hlF2, l2]; rfl) (by rw [hlF1, l1]))
      clear hV6 hc6 hd6 he6 b2 P5 P6 D4 T4
      go_wp2_with fail
      clear th2
      generalize w6.setCells b 32 (hc F2) = w7 at *
      refine (rdHash_st P7.out.rd BX.out).mono ?_
      rintro e w8 ⟨F3, f8, rfl, l3, b3, hV8, hc8, hd8, he8⟩
      have hlF3 := hc_len F3
      have D8 := Lib.hid (D6.out.step hd8)
      have T8 := Lib.hid (T6.out.step (fun s => s.mask) (X' := fun M s => be8 s.sides.length ++ (s.sides.flatten ++ stT M (L.length + 1))) (by omega) hd8 he8 (fun M hM e1 _ => ⟨rfl, (hM.ok.get (by have := hLi.out; have := HLT.out; omega)).mask⟩))
      have P8 : Hid (PrR w w8 b ((hc F1 ++ hc F2) ++ (hc zero32 ++ [.slice none 0 0])) p v1 xs (pos + 32 + 32 + 32) f8 (.slice ql L.length cl) L Q) := by
        have := P7.out.hash hc8 hp hV8
        rw [show hc F1 ++ (hc F2 ++ pfRow zero32 (.slice none 0 0)) = (hc F1 ++ hc F2) ++ (hc zero32 ++ [.slice none 0 0]) by simp [pfRow]] at this
        exact this
      have th3 := P8.out.there (o := 64) (n := 32) (by simp [hc_len, l1, l2]; rw [show zero32.length = 32 from rfl]; omega)
      have P9 : Hid (PrR w (w8.setCells b 64 (hc F3)) b ((hc F1 ++ hc F2) ++ (hc F3 ++ [.slice none 0 0])) p v1 xs (pos + 32 + 32 + 32) f8 (.slice ql L.length cl) L Q) := Lib.hid (P8.out.put (by rw [hlF3, l3]; rfl) (by simp [hc_len, l1, l2]))
      clear hV8 hc8 hd8 he8 P7 P8 D6 T6
      go_wp2_with fail
      clear th3
      generalize w8.setCells b 64 (hc F3) = w9 at *
      obtain ⟨s, rfl, rfl, rfl, oks⟩ : ∃ s : Sp, s.key = F1 ∧ s.old = F2 ∧ s.mask = F3 ∧ s.ok := ⟨⟨F1, F2, F3, []⟩, rfl, rfl, rfl, ⟨l1, l2, l3, BK.out, BO.out, b3, HsOk.nil, by simp⟩⟩
      have OKS := Lib.hid oks
      replace P9 : Hid (PrR w w9 b (spRow s (.slice none 0 0)) p v1 xs (pos + 32 + 32 + 32) f8 (.slice ql L.length cl) L Q) := by
        have := P9.out
        rw [show (hc s.key ++ hc s.old) ++ (hc s.mask ++ [.slice none 0 0]) = spRow s (.slice none 0 0) by simp [spRow, pfRow]] at this
        exact this
      clear oks BK BO b3 l1 l2 l3 hlF1 hlF2 hlF3
      refine (rdCount_st (most := 256) P9.out.rd BX.out (by omega)).mono ?_
      rintro e w10 ⟨z, f10, rfl, hz, hV10, hc10, hd10, he10⟩
      have D10 : Hid (GD xs n L (s.key ++ s.old ++ s.mask ++ be8 (z : Int) ++ ([] : List (List Int)).flatten) (pos + 32 + 32 + 32 + 8) f10) := by
        have := GD.count BX.out D8.out hd10
        show GD _ _ _ _ _ _
        simpa using this
      have T10 : Hid (GT xs n L (pos + 32 + 32 + 32 + 8) f10 (RowC s z []) (fun M t => (t.sides.drop 0).flatten ++ stT M (L.length + 1))) := by
        have := GT.count (fun t => t.sides.length) (X' := fun M t => (t.sides.drop 0).flatten ++ stT M (L.length + 1)) T8.out hd10 he10 (fun M hM e1 _ => ⟨by simp, by
          have h1 := of_decide_eq_true (hM.right L.length (by have := hLi.out; have := HLT.out; omega))
          have h2 := cntI_le (M.getD L.length sp0).mask 256
          omega⟩) (by omega)
        exact this.mono fun t ⟨⟨⟨⟨_, e1⟩, e2⟩, e3⟩, e4⟩ => ⟨e1, e2, e3, e4, by simp⟩
      have I0 := Lib.hid ((P9.out.hash hc10 hp hV10).start)
      clear hV10 hc10 P9 hd10 he10 D8 T8
      go_wp2_with fail
      go_loopw [8] (fun iv wr => ∃ (j : Nat) (pos : Nat) (f : Bool) (qa : Option Addr) (ca : Nat) (acc : List (List Int)), iv = .int .i64 (j : Int) ∧ j ≤ z ∧ Hid (acc.length = j) ∧ Hid (FrR w wr b s p v1 xs pos f (.slice ql L.length cl) L Q qa ca acc) ∧ Hid (GD xs n L (s.key ++ s.old ++ s.mask ++ be8 (z : Int) ++ acc.flatten) pos f) ∧ Hid (GT xs n L pos f (RowC s z acc) (fun M t => (t.sides.drop j).flatten ++ stT M (L.length + 1)))) (fun iv _ => z - (intOf iv).toNat)
      case atStart => exact ⟨0, _, _, none, 0, [], rfl, by omega, Lib.hid rfl, I0, D10, T10⟩
      case round =>
        clear I0 D10 T10
        obtain ⟨j, posj, fj, qa, ca, acc, rfl, hjl, LT, hI, DJ, TJ⟩ := hrel
        obtain ⟨zj, ce, de⟩ := hI.out.rd.err
        by_cases hgo : j < z ∧ fj = false
        · obtain ⟨hjt, rfl⟩ := hgo
          have de' : (zj == 0) = true := de
          have hjtI : (j : Int) < (z : Int) := by omega
          clear de
          go_wp2_with fail
          clear ce de'
          refine wp_region_held_drew (S := fun _ => True) (by kernel_rfl) (trivial) (fun h0 => ?_)
          replace hI := Lib.hid (hI.out.on ((Below.refl _ _).drew))
          generalize wr.drew = wr at *
          refine wpAnyH_take (i := 0) (v := ?_) (by rw [List.getElem?_toArray]; rfl) (by kernel_rfl) (by kernel_rfl) (by kernel_rfl) (by exact fun _ _ _ h => h) (Or.inl ⟨by rfl, ?_⟩) h0 ?_
          rotate_left
          · intro W hW
            go_simp
            all_goals with_reducible rfl
          try simp only [Act.put, List.setIfInBounds_toArray, List.set_cons_zero, List.set_cons_succ]
          refine wpAnyH_take (i := 1) (v := ?_) (by rw [List.getElem?_toArray]; rfl) (by kernel_rfl) (by kernel_rfl) (by kernel_rfl) (by exact fun _ _ _ h => h) (Or.inl ⟨by rfl, ?_⟩) h0 ?_
          rotate_left
          · intro W hW
            go_simp
            all_goals with_reducible rfl
          try simp only [Act.put, List.setIfInBounds_toArray, List.set_cons_zero, List.set_cons_succ]
          refine wpAnyH_take (i := 3) (v := ?_) (by rw [List.getElem?_toArray]; rfl) (by kernel_rfl) (by kernel_rfl) (by kernel_rfl) (by exact fun _ _ _ h => h) (Or.inl ⟨by rfl, ?_⟩) h0 ?_
          rotate_left
          · intro W hW
            go_simp
            all_goals with_reducible rfl
          try simp only [Act.put, List.setIfInBounds_toArray, List.set_cons_zero, List.set_cons_succ]
          refine wpAnyH_ready (rs := [2, 4]) (by kernel_rfl) (by simp) ?_
          refine AllReadyH.cons (by rw [List.getElem?_toArray]; rfl) (fun K hK => ?_) (AllReadyH.cons (by rw [List.getElem?_toArray]; rfl) (fun K hK => ?_) AllReadyH.nil)
          · rw [if_pos (by rfl)]
            have ld1 := hI.out.side OKS.out
            rw [LT.out] at ld1
            go_wp2_with fail
            clear ld1
            refine hK.out _ _ trivial (fun h1x => ?_)
            clear hK K
            try simp only [Act.put, List.setIfInBounds_toArray, List.set_cons_zero, List.set_cons_succ]
            refine wpAnyH_ready (rs := [4]) (by kernel_rfl) (by simp) ?_
            refine AllReadyH.cons (by rw [List.getElem?_toArray]; rfl) (fun K hK => ?_) AllReadyH.nil
            rw [if_pos (by rfl)]
            go_wp2_with fail
            refine (rdHash_st hI.out.rd BX.out).mono ?_
            rintro e w2x ⟨F, f7, rfl, lF, bF0, hv2, hc2, hd2, he2⟩
            have bF := Lib.hid bF0
            have hlF := hc_len F
            have D7 : Hid (GD xs n L (s.key ++ s.old ++ s.mask ++ be8 (z : Int) ++ (acc ++ [F]).flatten) (posj + 32) f7) := by
              have := DJ.out.step hd2
              show GD _ _ _ _ _ _
              simpa using this
            have LT2 : Hid ((acc ++ [F]).length = j + 1) := by
              have := LT.out
              show _ = _
              simp [this]
            have T7 : Hid (GT xs n L (posj + 32) f7 (RowC s z (acc ++ [F])) (fun M t => (t.sides.drop (j + 1)).flatten ++ stT M (L.length + 1))) := by
              have hj2 := LT.out
              have := TJ.out.step (fun t => t.sides.getD j []) (X' := fun M t => (t.sides.drop (j + 1)).flatten ++ stT M (L.length + 1)) (by omega) hd2 he2 (fun M hM e1 ⟨_, _, _, e4, _⟩ => ⟨by show (_ ++ _ : List Int) = _; rw [flat_dropS (by omega), List.append_assoc], ((hM.ok.get (by have := hLi.out; have := HLT.out; omega)).hs.get j (by omega)).1⟩)
              refine this.mono fun t ⟨⟨e1, e2, e3, e4, e5⟩, e6⟩ => ⟨e1, e2, e3, e4, ?_⟩
              rw [List.length_append, List.length_singleton, take_snoc (by omega), e5, hj2, e6]
            have I2 := Lib.hid (hI.out.hash hc2 hp hv2)
            clear hv2 hc2 hd2 he2 bF0 DJ TJ
            go_wp2_with fail
            refine hK.out _ _ trivial (fun h2x => ?_)
            clear hK K
            try simp only [Act.put, List.setIfInBounds_toArray, List.set_cons_zero, List.set_cons_succ]
            refine wpAnyH_ready (rs := [5]) (by kernel_rfl) (by simp) ?_
            refine AllReadyH.cons (by rw [List.getElem?_toArray]; rfl) (fun K hK => ?_) AllReadyH.nil
            rw [if_pos (by rfl)]
            have hsl3 := Tryd.run_h1 w2x F lF
            have I3 := Lib.hid (I2.out.on ((Below.refl _ _).alloc (Nat.le_refl _) (.cells (hc F).toArray 23)))
            have R3 := Lib.hid (one_hs (w := w2x) lF bF.out)
            go_wp2_with fail
            clear hsl3
            refine hK.out _ _ trivial (fun h3x => ?_)
            clear hK K
            try simp only [Act.put, List.setIfInBounds_toArray, List.set_cons_zero, List.set_cons_succ]
            generalize w2x.alloc (.cells (hc F).toArray 23) = w3x at *
            refine wpAnyH_ready (rs := [6]) (by kernel_rfl) (by simp) ?_
            refine AllReadyH.cons (by rw [List.getElem?_toArray]; rfl) (fun K hK => ?_) AllReadyH.nil
            rw [if_pos (by rfl)]
            have OW4 : w3x.ownsRow 0 23 32 (.slice qa j ca) j (hcs acc) := by have := I3.out.hs.own; rw [LT.out] at this; exact this
            refine wp_append_row _ _ rfl Tryd.underlying28 hiH.out hy0.out hy1.out hy2.out zero_cells OW4 (R3.out.src (P := Tryd.prog) (HsOk.one lF bF.out) Tryd.underlying28) (by unfold maxLen; (try simp only [List.length_singleton]); omega) (by (try simp only [List.length_singleton]); omega) ?_
            intro q8 k8 w8 own8' grow8' fr8'
            have P8 := I3.out.push (F := F) (q8 := q8) (k8 := k8) OKS.out lF bF.out (by rw [LT.out]; exact own8') (by rw [LT.out]; exact grow8') (by rw [LT.out]; exact fr8')
            rw [LT.out] at P8
            have z8 := P8.1
            have f8 := P8.2.1
            have I4 : Hid (FrR w (w8.setCell ⟨b, 96, none⟩ (.slice q8 (j + 1) k8)) b s p v1 xs (posj + 32) f7 (.slice ql L.length cl) L Q q8 k8 (acc ++ [F])) := P8.2.2
            clear own8' grow8' fr8' OW4 P8
            refine hK.out _ _ trivial (fun h4x => ?_)
            clear hK K
            try simp only [Act.put, List.setIfInBounds_toArray, List.set_cons_zero, List.set_cons_succ]
            refine wpAnyH_take (i := 7) (v := ?_) (by rw [List.getElem?_toArray]; rfl) (by kernel_rfl) (by kernel_rfl) (by kernel_rfl) (by exact fun _ _ _ h => h) (Or.inl ⟨by rfl, ?_⟩) h4x ?_
            rotate_left
            · intro W hW
              go_simp
              all_goals with_reducible rfl
            try simp only [Act.put, List.setIfInBounds_toArray, List.set_cons_zero, List.set_cons_succ]
            refine wpAnyH_take (i := 8) (v := ?_) (by rw [List.getElem?_toArray]; rfl) (by kernel_rfl) (by kernel_rfl) (by kernel_rfl) (by exact fun _ _ _ h => h) (Or.inl ⟨by rfl, ?_⟩) h4x ?_
            rotate_left
            · intro W hW
              go_simp
              all_goals with_reducible rfl
            try simp only [Act.put, List.setIfInBounds_toArray, List.set_cons_zero, List.set_cons_succ]
            refine wpAnyH_ready (rs := [9]) (by kernel_rfl) (by simp) ?_
            refine AllReadyH.cons (by rw [List.getElem?_toArray]; rfl) (fun K hK => ?_) AllReadyH.nil
            rw [if_pos (by rfl)]
            go_wp2_with fail
            refine hK.out _ _ trivial (fun h5x => ?_)
            clear hK K
            try simp only [Act.put, List.setIfInBounds_toArray, List.set_cons_zero, List.set_cons_succ]
            refine wpAnyH_done (by kernel_rfl) ?_ _
            have I9 := I4
            clear h5x
            go_wp2_with fail
            go_roundw
            case rel => exact ⟨j + 1, _, _, q8, k8, _, by go_num, by omega, LT2, I9, D7, T7⟩
            case measure => simp [intOf]; omega
          · rw [if_pos (by rfl)]
            go_wp2_with fail
            refine (rdHash_st hI.out.rd BX.out).mono ?_
            rintro e w6x ⟨F, f7, rfl, lF, bF0, hv6, hc6, hd6, he6⟩
            have bF := Lib.hid bF0
            have hlF := hc_len F
            have D7 : Hid (GD xs n L (s.key ++ s.old ++ s.mask ++ be8 (z : Int) ++ (acc ++ [F]).flatten) (posj + 32) f7) := by
              have := DJ.out.step hd6
              show GD _ _ _ _ _ _
              simpa using this
            have LT2 : Hid ((acc ++ [F]).length = j + 1) := by
              have := LT.out
              show _ = _
              simp [this]
            have T7 : Hid (GT xs n L (posj + 32) f7 (RowC s z (acc ++ [F])) (fun M t => (t.sides.drop (j + 1)).flatten ++ stT M (L.length + 1))) := by
              have hj2 := LT.out
              have := TJ.out.step (fun t => t.sides.getD j []) (X' := fun M t => (t.sides.drop (j + 1)).flatten ++ stT M (L.length + 1)) (by omega) hd6 he6 (fun M hM e1 ⟨_, _, _, e4, _⟩ => ⟨by show (_ ++ _ : List Int) = _; rw [flat_dropS (by omega), List.append_assoc], ((hM.ok.get (by have := hLi.out; have := HLT.out; omega)).hs.get j (by omega)).1⟩)
              refine this.mono fun t ⟨⟨e1, e2, e3, e4, e5⟩, e6⟩ => ⟨e1, e2, e3, e4, ?_⟩
              rw [List.length_append, List.length_singleton, take_snoc (by omega), e5, hj2, e6]
            have I6 := Lib.hid (hI.out.hash hc6 hp hv6)
            clear hv6 hc6 hd6 he6 bF0 DJ TJ
            go_wp2_with fail
            refine hK.out _ _ trivial (fun h6x => ?_)
            clear hK K
            try simp only [Act.put, List.setIfInBounds_toArray, List.set_cons_zero, List.set_cons_succ]
            refine wpAnyH_ready (rs := [2, 5]) (by kernel_rfl) (by simp) ?_
            refine AllReadyH.cons (by rw [List.getElem?_toArray]; rfl) (fun K hK => ?_) (AllReadyH.cons (by rw [List.getElem?_toArray]; rfl) (fun K hK => ?_) AllReadyH.nil)
            · rw [if_pos (by rfl)]
              have ld7 := I6.out.side OKS.out
              rw [LT.out] at ld7
              go_wp2_with fail
              clear ld7
              refine hK.out _ _ trivial (fun h7x => ?_)
              clear hK K
              try simp only [Act.put, List.setIfInBounds_toArray, List.set_cons_zero, List.set_cons_succ]
              refine wpAnyH_ready (rs := [5]) (by kernel_rfl) (by simp) ?_
              refine AllReadyH.cons (by rw [List.getElem?_toArray]; rfl) (fun K hK => ?_) AllReadyH.nil
              rw [if_pos (by rfl)]
              have hsl8 := Tryd.run_h1 w6x F lF
              have I8 := Lib.hid (I6.out.on ((Below.refl _ _).alloc (Nat.le_refl _) (.cells (hc F).toArray 23)))
              have R8 := Lib.hid (one_hs (w := w6x) lF bF.out)
              go_wp2_with fail
              clear hsl8
              refine hK.out _ _ trivial (fun h8x => ?_)
              clear hK K
              try simp only [Act.put, List.setIfInBounds_toArray, List.set_cons_zero, List.set_cons_succ]
              generalize w6x.alloc (.cells (hc F).toArray 23) = w8x at *
              refine wpAnyH_ready (rs := [6]) (by kernel_rfl) (by simp) ?_
              refine AllReadyH.cons (by rw [List.getElem?_toArray]; rfl) (fun K hK => ?_) AllReadyH.nil
              rw [if_pos (by rfl)]
              have OW9 : w8x.ownsRow 0 23 32 (.slice qa j ca) j (hcs acc) := by have := I8.out.hs.own; rw [LT.out] at this; exact this
              refine wp_append_row _ _ rfl Tryd.underlying28 hiH.out hy0.out hy1.out hy2.out zero_cells OW9 (R8.out.src (P := Tryd.prog) (HsOk.one lF bF.out) Tryd.underlying28) (by unfold maxLen; (try simp only [List.length_singleton]); omega) (by (try simp only [List.length_singleton]); omega) ?_
              intro q8 k8 w8 own8' grow8' fr8'
              have P8 := I8.out.push (F := F) (q8 := q8) (k8 := k8) OKS.out lF bF.out (by rw [LT.out]; exact own8') (by rw [LT.out]; exact grow8') (by rw [LT.out]; exact fr8')
              rw [LT.out] at P8
              have z8 := P8.1
              have f8 := P8.2.1
              have I9 : Hid (FrR w (w8.setCell ⟨b, 96, none⟩ (.slice q8 (j + 1) k8)) b s p v1 xs (posj + 32) f7 (.slice ql L.length cl) L Q q8 k8 (acc ++ [F])) := P8.2.2
              clear own8' grow8' fr8' OW9 P8
              refine hK.out _ _ trivial (fun h9x => ?_)
              clear hK K
              try simp only [Act.put, List.setIfInBounds_toArray, List.set_cons_zero, List.set_cons_succ]
              refine wpAnyH_take (i := 7) (v := ?_) (by rw [List.getElem?_toArray]; rfl) (by kernel_rfl) (by kernel_rfl) (by kernel_rfl) (by exact fun _ _ _ h => h) (Or.inl ⟨by rfl, ?_⟩) h9x ?_
              rotate_left
              · intro W hW
                go_simp
                all_goals with_reducible rfl
              try simp only [Act.put, List.setIfInBounds_toArray, List.set_cons_zero, List.set_cons_succ]
              refine wpAnyH_take (i := 8) (v := ?_) (by rw [List.getElem?_toArray]; rfl) (by kernel_rfl) (by kernel_rfl) (by kernel_rfl) (by exact fun _ _ _ h => h) (Or.inl ⟨by rfl, ?_⟩) h9x ?_
              rotate_left
              · intro W hW
                go_simp
                all_goals with_reducible rfl
              try simp only [Act.put, List.setIfInBounds_toArray, List.set_cons_zero, List.set_cons_succ]
              refine wpAnyH_ready (rs := [9]) (by kernel_rfl) (by simp) ?_
              refine AllReadyH.cons (by rw [List.getElem?_toArray]; rfl) (fun K hK => ?_) AllReadyH.nil
              rw [if_pos (by rfl)]
              go_wp2_with fail
              refine hK.out _ _ trivial (fun h10x => ?_)
              clear hK K
              try simp only [Act.put, List.setIfInBounds_toArray, List.set_cons_zero, List.set_cons_succ]
              refine wpAnyH_done (by kernel_rfl) ?_ _
              have I9 := I9
              clear h10x
              go_wp2_with fail
              go_roundw
              case rel => exact ⟨j + 1, _, _, q8, k8, _, by go_num, by omega, LT2, I9, D7, T7⟩
              case measure => simp [intOf]; omega
            · rw [if_pos (by rfl)]
              have hsl11 := Tryd.run_h1 w6x F lF
              have I11 := Lib.hid (I6.out.on ((Below.refl _ _).alloc (Nat.le_refl _) (.cells (hc F).toArray 23)))
              have R11 := Lib.hid (one_hs (w := w6x) lF bF.out)
              go_wp2_with fail
              clear hsl11
              refine hK.out _ _ trivial (fun h11x => ?_)
              clear hK K
              try simp only [Act.put, List.setIfInBounds_toArray, List.set_cons_zero, List.set_cons_succ]
              generalize w6x.alloc (.cells (hc F).toArray 23) = w11x at *
              refine wpAnyH_ready (rs := [2]) (by kernel_rfl) (by simp) ?_
              refine AllReadyH.cons (by rw [List.getElem?_toArray]; rfl) (fun K hK => ?_) AllReadyH.nil
              rw [if_pos (by rfl)]
              have ld12 := I11.out.side OKS.out
              rw [LT.out] at ld12
              go_wp2_with fail
              clear ld12
              refine hK.out _ _ trivial (fun h12x => ?_)
              clear hK K
              try simp only [Act.put, List.setIfInBounds_toArray, List.set_cons_zero, List.set_cons_succ]
              refine wpAnyH_ready (rs := [6]) (by kernel_rfl) (by simp) ?_
              refine AllReadyH.cons (by rw [List.getElem?_toArray]; rfl) (fun K hK => ?_) AllReadyH.nil
              rw [if_pos (by rfl)]
              have OW13 : w11x.ownsRow 0 23 32 (.slice qa j ca) j (hcs acc) := by have := I11.out.hs.own; rw [LT.out] at this; exact this
              refine wp_append_row _ _ rfl Tryd.underlying28 hiH.out hy0.out hy1.out hy2.out zero_cells OW13 (R11.out.src (P := Tryd.prog) (HsOk.one lF bF.out) Tryd.underlying28) (by unfold maxLen; (try simp only [List.length_singleton]); omega) (by (try simp only [List.length_singleton]); omega) ?_
              intro q8 k8 w8 own8' grow8' fr8'
              have P8 := I11.out.push (F := F) (q8 := q8) (k8 := k8) OKS.out lF bF.out (by rw [LT.out]; exact own8') (by rw [LT.out]; exact grow8') (by rw [LT.out]; exact fr8')
              rw [LT.out] at P8
              have z8 := P8.1
              have f8 := P8.2.1
              have I13 : Hid (FrR w (w8.setCell ⟨b, 96, none⟩ (.slice q8 (j + 1) k8)) b s p v1 xs (posj + 32) f7 (.slice ql L.length cl) L Q q8 k8 (acc ++ [F])) := P8.2.2
              clear own8' grow8' fr8' OW13 P8
              refine hK.out _ _ trivial (fun h13x => ?_)
              clear hK K
              try simp only [Act.put, List.setIfInBounds_toArray, List.set_cons_zero, List.set_cons_succ]
              refine wpAnyH_take (i := 7) (v := ?_) (by rw [List.getElem?_toArray]; rfl) (by kernel_rfl) (by kernel_rfl) (by kernel_rfl) (by exact fun _ _ _ h => h) (Or.inl ⟨by rfl, ?_⟩) h13x ?_
              rotate_left
              · intro W hW
                go_simp
                all_goals with_reducible rfl
              try simp only [Act.put, List.setIfInBounds_toArray, List.set_cons_zero, List.set_cons_succ]
              refine wpAnyH_take (i := 8) (v := ?_) (by rw [List.getElem?_toArray]; rfl) (by kernel_rfl) (by kernel_rfl) (by kernel_rfl) (by exact fun _ _ _ h => h) (Or.inl ⟨by rfl, ?_⟩) h13x ?_
              rotate_left
              · intro W hW
                go_simp
                all_goals with_reducible rfl
              try simp only [Act.put, List.setIfInBounds_toArray, List.set_cons_zero, List.set_cons_succ]
              refine wpAnyH_ready (rs := [9]) (by kernel_rfl) (by simp) ?_
              refine AllReadyH.cons (by rw [List.getElem?_toArray]; rfl) (fun K hK => ?_) AllReadyH.nil
              rw [if_pos (by rfl)]
              go_wp2_with fail
              refine hK.out _ _ trivial (fun h14x => ?_)
              clear hK K
              try simp only [Act.put, List.setIfInBounds_toArray, List.set_cons_zero, List.set_cons_succ]
              refine wpAnyH_done (by kernel_rfl) ?_ _
              have I9 := I13
              clear h14x
              go_wp2_with fail
              go_roundw
              case rel => exact ⟨j + 1, _, _, q8, k8, _, by go_num, by omega, LT2, I9, D7, T7⟩
              case measure => simp [intOf]; omega
        · have HFI : Hid (fj = false → j = z) := fun e => by
            by_cases h : j < z
            · exact absurd ⟨h, e⟩ hgo
            · omega
          have hl9 : acc.length ≤ 256 := by have := LT.out; omega
          have okt : Sp.ok ⟨s.key, s.old, s.mask, acc⟩ := ⟨OKS.out.key, OKS.out.old, OKS.out.mask, OKS.out.bk, OKS.out.bo, OKS.out.bm, hI.out.hs.ok, by show acc.length * 32 ≤ _; omega⟩
          have D12 : Hid (GD xs n (L ++ [(⟨s.key, s.old, s.mask, acc⟩ : Sp)]) [] posj fj) := fun e => by
            have h1 := HFI.out e
            have h2 := LT.out
            have := DJ.out
            rw [show z = acc.length by omega] at this
            exact (GD.row (s := ⟨s.key, s.old, s.mask, acc⟩) this) e
          have T12 : Hid (GT xs n (L ++ [(⟨s.key, s.old, s.mask, acc⟩ : Sp)]) posj fj (fun _ => True) (fun M _ => stT M (L ++ [(⟨s.key, s.old, s.mask, acc⟩ : Sp)]).length)) := TJ.out.row2 (by have := hLi.out; have := HLT.out; omega) (fun e t ⟨e1, e2, e3, e4, e5⟩ => by
            have h1 := HFI.out e
            have h2 := LT.out
            rw [show acc.length = t.sides.length by omega, List.take_length] at e5
            obtain ⟨t1, t2, t3, t4⟩ := t
            simp only at e1 e2 e3 e4 e5
            subst e1 e2 e3
            have e5' := e5.symm
            subst e5'
            refine ⟨rfl, fun M => ?_⟩
            show (acc.drop j).flatten ++ _ = _
            rw [List.drop_eq_nil_of_le (by omega)]
            simp)
          have h97 : rowOf wr b 0 97 = spRow s (.slice qa acc.length ca) := by
            have := rowOf_block hI.out.blk (o := 0) (n := 97)
            have h2 := List.take_of_length_le (l := spRow s (.slice qa acc.length ca)) (i := 97) (by rw [spRow_len OKS.out]; omega)
            rw [this]
            simpa using h2
          have hRl := spRow_len OKS.out (.slice qa acc.length ca)
          have hRo := Lib.hid (sp_one s qa acc.length ca)
          have EX := Lib.hid (hI.out.ow.ext ⟨s.key, s.old, s.mask, acc⟩ qa ca)
          obtain ⟨R, hR⟩ : ∃ R, spRow s (.slice qa acc.length ca) = R := ⟨_, rfl⟩
          have HR := Lib.hid hR
          rw [hR] at h97 hRl hRo
          have hsl := Tryd.run_slice_rs wr R hRl
          have b3 : Below wr.heap.size wr (wr.alloc (.cells R.toArray 99)) := (Below.refl _ _).alloc (Nat.le_refl _) _
          have I3 := Lib.hid (hI.out.on b3)
          have X3 := Lib.hid (src_rs (P := Tryd.prog) (w := wr) Tryd.underlying57 hRl hRo.out)
          have HLL := Lib.hid hLi.out
          have LTb := LT
          have TAIL : Hid (∀ (q6 : Option Addr) (k6 : Nat) (w6 : World), w6.ownsRow 0 99 97 (.slice q6 (L.length + 1) k6) (L.length + 1) (rowsN (spF L Q) L.length ++ R) → (wr.alloc (.cells R.toArray 99)).grownBy w6 (Value.slice ql L.length cl).ownBlock → ((Value.slice q6 (L.length + 1) k6).ownBlock = (Value.slice ql L.length cl).ownBlock ∨ (Value.slice q6 (L.length + 1) k6).ownBlock = some (wr.heap.size + 1)) →
              OwR w w6 (.slice q6 (L ++ [(⟨s.key, s.old, s.mask, acc⟩ : Sp)]).length k6) (L ++ [(⟨s.key, s.old, s.mask, acc⟩ : Sp)]) (L ++ [(⟨s.key, s.old, s.mask, acc⟩ : Sp)]).length (fun j => if j = L.length then (qa, ca) else Q j) ∧ DSt w6 p v1 xs posj fj) := fun q6 k6 w6 own6 grow6 fr6 => by
            have c6 : Chg (wr.alloc (.cells R.toArray 99)) w6 (Value.slice ql L.length cl).ownBlock.toList := Chg.grown grow6 (fun g hg => by simp [hg])
            have B6 : Below w.heap.size w w6 := I3.out.ow.below.grown grow6 I3.out.ow.below.size (fun g hg => I3.out.ow.fresh g hg)
            obtain ⟨_, er⟩ := I3.out.rd.blk
            rw [List.length_append, List.length_singleton]
            refine ⟨⟨?_, fun j' hj' => ?_, fun g hg => ?_, B6⟩, I3.out.rd.chg2 c6 (fun hm => own_ne I3.out.ow.own er (by decide) (by simpa using hm)) (fun _ ho k hk hm => own_two ho I3.out.ow.own (by decide) hk (by simpa using hm))⟩
            · rw [EX.out.1]
              have e : spRow (⟨s.key, s.old, s.mask, acc⟩ : Sp) (.slice qa acc.length ca) = R := HR.out
              show w6.ownsRow 0 99 97 _ _ (_ ++ spRow (⟨s.key, s.old, s.mask, acc⟩ : Sp) (.slice qa acc.length ca))
              rw [e]
              exact own6
            · by_cases e : j' = L.length
              · subst e
                have h1 : (L ++ [(⟨s.key, s.old, s.mask, acc⟩ : Sp)]).getD L.length sp0 = ⟨s.key, s.old, s.mask, acc⟩ := by simp [List.getD]
                rw [h1]
                simp only [if_true]
                have hs := I3.out.hs
                exact ⟨own_keep hs.own (fun g e' => grow6.block g (own_lt hs.own e') (fun e2 => own_two hs.own I3.out.ow.own (by decide) e' e2.symm)), hs.ok, hs.fresh, B6⟩
              · have h2 := EX.out.2 j' (by omega)
                have hs : HsS w (wr.alloc (.cells R.toArray 99)) _ _ := h2.on b3
                exact ⟨own_keep hs.own (fun g e' => grow6.block g (own_lt hs.own e') (fun e2 => own_two hs.own I3.out.ow.own (by decide) e' e2.symm)), hs.ok, hs.fresh, B6⟩
            · rcases fr6 with e | e
              · rw [e] at hg; exact I3.out.ow.fresh g hg
              · rw [e] at hg; have h1 := hI.out.ow.below.size; have := Option.some.inj hg; omega
          have OW3 := Lib.hid I3.out.ow.own
          have hln : L.length < n := by have := hLi.out; have := HLT.out; omega
          have hLi2 := hLi.out
          subst hLi2
          have HKK : Hid (SpOk (L ++ [(⟨s.key, s.old, s.mask, acc⟩ : Sp)])) := fun x hx => by
            rcases List.mem_append.1 hx with hx | hx
            · exact hK.out x hx
            · obtain rfl : x = _ := by simpa using hx
              exact okt
          have LL : Hid (L.length + 1 = (L ++ [(⟨s.key, s.old, s.mask, acc⟩ : Sp)]).length) := by show _ = _; simp
          have hL64 : L.length ≤ 64 := by omega
          clear hR DJ TJ EX I3 b3 okt hLi HLL hI HR hRo hK
          have go2 : ((zj == 0) = true ∧ ¬ (j : Int) < (z : Int)) ∨ (zj == 0) = false := by
            cases fj with
            | false => exact .inl ⟨by simpa using de, by have := HFI.out rfl; omega⟩
            | true => exact .inr (by simpa using de)
          clear de hgo HFI
          by_cases hlt2 : j < z
          · have d0 : (zj == 0) = false := by rcases go2 with ⟨_, h⟩ | h; exact absurd (by omega) h; exact h
            have hjtI : (j : Int) < (z : Int) := by omega
            clear go2
            go_wp2_with (at_builtin; refine wpList_append_row rfl _ _ rfl Tryd.underlying57 hi.out hz0.out hz1.out hz2.out st0_cells OW3.out X3.out ?b1 ?b2 ?_)
            case b1 => unfold maxLen; omega
            case b2 => omega
            intro q6 k6 w6 own6 grow6 fr6
            have TL := Lib.hid (TAIL.out q6 k6 w6 own6 grow6 fr6)
            have O6 := Lib.hid TL.out.1
            have V6 := Lib.hid TL.out.2
            clear own6 grow6 fr6 TL TAIL OW3 X3 h97 hsl
            go_wp2_with fail
            go_roundw
            case rel => exact ⟨L.length + 1, posj, q6, k6, _, _, fj, by go_num, by omega, rfl, LL, O6, HKK, V6, D12, T12⟩
            case measure => simp [intOf]; omega
          · have hjtI : ¬ (j : Int) < (z : Int) := by omega
            have dJ : decide ((j : Int) < (z : Int)) = false := by rw [decide_eq_false_iff_not]; exact hjtI
            clear go2
            go_wp2_with (at_builtin; refine wpList_append_row rfl _ _ rfl Tryd.underlying57 hi.out hz0.out hz1.out hz2.out st0_cells OW3.out X3.out ?b1 ?b2 ?_)
            case b1 => unfold maxLen; omega
            case b2 => omega
            intro q6 k6 w6 own6 grow6 fr6
            have TL := Lib.hid (TAIL.out q6 k6 w6 own6 grow6 fr6)
            have O6 := Lib.hid TL.out.1
            have V6 := Lib.hid TL.out.2
            clear own6 grow6 fr6 TL TAIL OW3 X3 h97 hsl
            go_wp2_with fail
            go_roundw
            case rel => exact ⟨L.length + 1, posj, q6, k6, _, _, fj, by go_num, by omega, rfl, LL, O6, HKK, V6, D12, T12⟩
            case measure => simp [intOf]; omega
    · have HFI : Hid (f = false → i = n) := fun e => by
        by_cases h : i < n
        · exact absurd ⟨h, e⟩ hgo
        · omega
      have hL := hLi.out
      subst hL
      have HQ : Hid (From6P w p v1 xs (.returned (.slice ql L.length cl)) wr) := ⟨n, ql, cl, L, Q, pos, f, rfl, hO.out, hK.out, hn, hil, hV.out, HFI.out, hD.out, hT.out⟩
      clear hO hV hD hT hK hLi
      by_cases hlt2 : L.length < n
      · have d0 : (ze == 0) = false := by
          cases f with
          | false => exact absurd ⟨hlt2, rfl⟩ hgo
          | true => simpa using de
        have hltI : (L.length : Int) < (n : Int) := by omega
        clear de hgo HFI
        go_wp2_with fail
        refine bodyPost_ret (v := .slice ql L.length cl) (by simp [results, Tryd.results73, go_sem]) rfl HQ.out
      · have hltI : ¬ (L.length : Int) < (n : Int) := by omega
        have dJ : decide ((L.length : Int) < (n : Int)) = false := by rw [decide_eq_false_iff_not]; exact hltI
        clear de hgo HFI ce
        go_wp2_with fail
        refine bodyPost_ret (v := .slice ql L.length cl) (by simp [results, Tryd.results73, go_sem]) rfl HQ.out
end Go.Proofs.YtjgfjmkfcippcaaDoor
namespace Go.Proofs.YtjgfjmkfcippcaaDoor
set_option maxRecDepth 100000
open Go.RowKit

/-- A row of bytes that the call lays. -/
structure BuS (w wr : World) (v : Value) (xs : List Int) : Prop where
  own : wr.ownsRow 0 5 1 v xs.length (bc xs)
  fresh : ∀ g, v.ownBlock = some g → w.heap.size ≤ g
  below : Below w.heap.size w wr
theorem BuS.start (w : World) : BuS w w (.slice none 0 0) [] := ⟨World.ownsRow_nil w 0 _ 1, by simp [Value.ownBlock], Below.refl _ _⟩
theorem BuS.on {w wr w1 : World} {v : Value} {xs : List Int} (h : BuS w wr v xs) (hb : Below wr.heap.size wr w1) : BuS w w1 v xs :=
  ⟨own_on h.own hb, h.fresh, h.below.trans (hb.mono h.below.size)⟩
theorem BuS.grow {w wr w2 : World} {v v' : Value} {xs ys : List Int} {m : Nat} (h : BuS w wr v xs) (hm : ys.length = m) (own : w2.ownsRow 0 5 1 v' (xs.length + m) (bc xs ++ bc ys)) (grow : wr.grownBy w2 v.ownBlock) (fr : v'.ownBlock = v.ownBlock ∨ v'.ownBlock = some wr.heap.size) : BuS w w2 v' (xs ++ ys) := by
  subst hm
  refine ⟨by rw [List.length_append, bc_append]; exact own, fun g hg => ?_, h.below.grown grow h.below.size (fun k hk => h.fresh k hk)⟩
  rcases fr with e | e
  · rw [e] at hg; exact h.fresh g hg
  · rw [e] at hg; have := h.below.size; simp at hg; omega
theorem BuS.rd {w wr : World} {v : Value} {xs : List Int} (h : BuS w wr v xs) : Rd wr v xs := rd_of_row h.own
theorem BuS.of_eq {w wr : World} {v : Value} {xs ys : List Int} (h : BuS w wr v xs) (e : xs = ys) : BuS w wr v ys := e ▸ h
theorem one_rd {w : World} {x : Int} : Rd (w.alloc (.cells #[.int .u8 x] 5)) (.slice (some ⟨w.heap.size, 0, none⟩) 1 1) [x] :=
  ⟨_, 1, rfl, .inr ⟨w.heap.size, 0, rfl, fun j hj => by obtain rfl : j = 0 := (by simpa using hj); exact (Joins.cell_of_block (heap_alloc_new w _) 0).trans rfl⟩⟩

set_option maxHeartbeats 2000000 in
theorem refUint_any (n : Int) (w : World) :
    Calls Tryd.prog 67 #[.int .u64 n] w fun e w' => ∃ v, e = .returned v ∧ BuS w w' v (be8 n) := by
  obtain ⟨i0, hi, hz0, hz1, hz2⟩ := info_parts Tryd.infoU8
  replace hi := Lib.hid hi
  replace hz0 := Lib.hid hz0
  replace hz1 := Lib.hid hz1
  replace hz2 := Lib.hid hz2
  have H0 : Hid (BuS w w (.slice none 0 0) ((be8 n).take 0)) := BuS.start w
  go_enter Tryd.func67, Tryd.ntmps67
  go_wp2_with fail
  go_loopw [3, 4] (fun ov sv wr => ∃ k : Nat, sv = .int .i64 (56 - 8 * (k : Int)) ∧ k ≤ 8 ∧ (∃ q c, ov = .slice q k c) ∧ Hid (BuS w wr ov ((be8 n).take k))) (fun _ sv _ => (intOf sv + 8).toNat)
  case atStart => exact ⟨0, by simp, by omega, ⟨_, _, rfl⟩, H0⟩
  case round =>
    clear H0
    obtain ⟨k, rfl, hk, ⟨q, c, rfl⟩, hS⟩ := hrel
    by_cases hlt : k < 8
    · have hd : (0 : Int) ≤ 56 - 8 * (k : Int) := by omega
      have hl8 : ((be8 n).take k).length = k := by simp; omega
      have OW : (wr.alloc (.cells #[.int .u8 (n / 2 ^ (56 - 8 * k) % 256)] 5)).ownsRow 0 5 1 (.slice q k c) k (bc ((be8 n).take k)) := by
        have := own_on hS.out.own ((Below.refl _ wr).alloc (Nat.le_refl _) (.cells #[.int .u8 (n / 2 ^ (56 - 8 * k) % 256)] 5))
        rw [hl8] at this; exact this
      go_wp2_with (at_builtin; refine wpList_append_row rfl _ _ rfl Tryd.underlying64 hi.out hz0.out hz1.out hz2.out rfl OW (Rd.src (P := Tryd.prog) (xs := [n / 2 ^ (56 - 8 * k) % 256]) Tryd.underlying64 ?rd) ?b1 ?b2 ?_)
      case rd => exact one_rd
      case b1 => simp; unfold maxLen; omega
      case b2 => simp; omega
      intro q2 k2 w2 own2 grow2 fr2
      have HN : Hid (BuS w w2 (.slice q2 (k + 1) k2) ((be8 n).take (k + 1))) := by
        have h := (hS.out.on ((Below.refl _ wr).alloc (Nat.le_refl _) (.cells #[.int .u8 (n / 2 ^ (56 - 8 * k) % 256)] 5))).grow (ys := [n / 2 ^ (56 - 8 * k) % 256]) rfl (by rw [hl8]; exact own2) grow2 (fr2.imp id fun e => by rw [e]; simp)
        exact h.of_eq (be8_get n hlt).symm
      clear own2 grow2 fr2 hS
      go_wp2_with fail
      go_roundw
      case rel => exact ⟨k + 1, by go_num, by omega, ⟨_, _, rfl⟩, HN⟩
      case measure => simp [intOf]; omega
    · obtain rfl : k = 8 := by omega
      have HN := Lib.hid (hS.out.of_eq (List.take_of_length_le (by simp)))
      clear hS
      go_wp2_with fail
      go_ret
      exact ⟨_, rfl, HN.out⟩

end Go.Proofs.YtjgfjmkfcippcaaDoor
