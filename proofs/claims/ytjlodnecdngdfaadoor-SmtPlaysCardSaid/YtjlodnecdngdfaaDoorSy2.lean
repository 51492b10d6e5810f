/-
  Rows of cells in the midst of a block, as a walk reads and writes them; a hash's cells; '==' on hashes.; What stands in memory within digest.Sum, plain.; Frames, plain.; The walk of digest.Frame.; The walk of digest.Sum.; Rows of bytes, read with their room; a hash's cells.; Rows of one's own, of whatever element.; What a region's held predicate may become on the way: a stronger one.; The walks of basculeref02: eight, pad.
-/
import Derived.Deep.MidRow
import Derived.Deep.WholeRow
import Derived.Lib.Hide
import Derived.Lib.SmallJoins
import Derived.StillTailTactics
import Derived.BigQuiet
import Derived.Deep.QuietTactic
import Derived.Test.YtjlodnecdngdfaaDoorRows
import Derived.OrdersHeld
import Derived.Deep.RegionHeld3
import Derived.Test.YtjlodnecdngdfaaDoorSy1
namespace Go.Proofs.YtjlodnecdngdfaaDoor
open Go.RowKit

/-- n cells of block b from offset o on. -/
def rowOf (w : World) (b o n : Nat) : List Value := match w.heap[b]? with
  | some (.cells cs _ _) => (cs.extract o (o + n)).toList
  | _ => []

theorem rowOf_block {w : World} {b : Nat} {cs : Array Value} {t : TypeId} {fr : Nat × Nat} (h : w.heap[b]? = some (.cells cs t fr)) (o n : Nat) : rowOf w b o n = (cs.extract o (o + n)).toList := by
  simp [rowOf, h]

@[simp, go_sem] theorem rowOf_drew (w : World) (b o n : Nat) : rowOf w.drew b o n = rowOf w b o n := rfl
theorem range_rowOf (w : World) (b o n : Nat) : w.rangeAt b o (rowOf w b o n) := by
  intro j v hv
  unfold rowOf at hv
  split at hv
  · rename_i cs t fr h
    exact World.rangeAt_of_block h o n j v hv
  · simp at hv

/-- The same load, kept shut: a walk would open it cell by cell. -/
def rowLoad (a : Addr) (n : Nat) : Sem (Array Value) := loadCellsFrom a 0 n #[]
@[go_sem ↓] theorem load32 (a : Addr) : loadCellsFrom a 0 32 #[] = rowLoad a 32 := rfl
@[go_sem] theorem run_rowLoad {P : Program} (w : World) (b o n : Nat) (hn : (rowOf w b o n).length = n) :
    (rowLoad ⟨b, o, none⟩ n).run P w = .ok (rowOf w b o n).toArray w := by
  have := run_loadCells_list (P := P) w ⟨b, o, none⟩ (rowOf w b o n) (fun j v hv => by rw [Addr.add_mid]; exact range_rowOf w b o n j v hv)
  rw [hn] at this
  exact this
def rowBuild (t : TypeId) (ps : Array (Nat × Value)) : Sem Value := Instr.build t ps

/-- A hash's cells. -/
def hc (F : List Int) : List Value := F.map (Value.int .u8)
@[go_sem] theorem hc_len (F : List Int) : (hc F).length = F.length := by simp [hc]
def zero32 : List Int := [0, 0, 0, 0, 0, 0, 0, 0, 0, 0, 0, 0, 0, 0, 0, 0, 0, 0, 0, 0, 0, 0, 0, 0, 0, 0, 0, 0, 0, 0, 0, 0]
@[go_sem] theorem zero32_len : zero32.length = 32 := by simp [zero32]
theorem hc_one (F : List Int) : (hc F).toArray.all (·.oneCell') = true := by
  rw [Array.all_eq_true_iff_forall_mem]
  intro v hv
  simp [hc] at hv
  obtain ⟨x, _, rfl⟩ := hv
  rfl

@[go_sem] theorem run_storeCells_hash {P : Program} (w : World) (b o : Nat) (F : List Int) (ht : w.there b o F.length) : (storeCells ⟨b, o, none⟩ (hc F) 0).run P w = .ok () (w.setCells b o (hc F)) := by
  have := run_storeCells_cells (P := P) b o (hc F) 0 w (fun j hj => by rw [hc_len] at hj; simpa using (ht j hj).1) (fun j hj => by rw [hc_len] at hj; simpa using (ht j hj).2) (fun v hv => (Array.all_eq_true_iff_forall_mem.1 (hc_one F)) v (by simpa using hv))
  simpa using this
@[go_sem ↓] theorem Tryd.build_hash (ps : Array (Nat × Value)) : Instr.build 24 ps = rowBuild 24 ps := rfl
@[go_sem] theorem Tryd.run_hash0 (w : World) : (rowBuild 24 #[]).run Tryd.prog w = .ok (.agg (hc zero32).toArray) w := by
  unfold rowBuild; kernel_rfl
@[go_sem ↓] theorem Tryd.zero_hash (w : World) : (zeroValue 24).run Tryd.prog w = .ok (.agg (hc zero32).toArray) w := by kernel_rfl
@[go_sem] theorem Tryd.eq_hash (w : World) (F G : List Int) (hF : F.length = 32) (hG : G.length = 32) : (Op.equalIn 10000 24 (.agg (hc F).toArray) (.agg (hc G).toArray)).run Tryd.prog w = .ok (F == G) w :=
  run_equalIn_ints (P := Tryd.prog) w 9998 Tryd.underlying24 Tryd.underlying5 (by kernel_rfl) F G hF hG

/-! ### What a store of many cells leaves -/
theorem setCells_block {b : Nat} {t : TypeId} {fr : Nat × Nat} : ∀ (vs : List Value) {o : Nat} {w : World} {pre mid post : List Value}, w.heap[b]? = some (.cells (pre ++ (mid ++ post)).toArray t fr) → pre.length = o → mid.length = vs.length →
    (w.setCells b o vs).heap[b]? = some (.cells (pre ++ (vs ++ post)).toArray t fr)
  | [], o, w, pre, mid, post, h, _, hm => by
    obtain rfl : mid = [] := by simpa using hm
    exact h
  | v :: vs, o, w, pre, [], post, h, _, hm => by simp at hm
  | v :: vs, o, w, pre, m :: mid, post, h, hp, hm => by
    have h1 : (w.setCell ⟨b, o, none⟩ v).heap[b]? = some (.cells ((pre ++ [v]) ++ (mid ++ post)).toArray t fr) := by
      rw [Joins.block_setCell h v]
      congr 2
      apply Array.ext'
      simp [hp.symm]
    have := setCells_block vs (o := o + 1) h1 (by simp [hp]) (by simpa using hm)
    rw [World.setCells, this]
    simp
theorem setCells_other {b c : Nat} (hne : c ≠ b) : ∀ (vs : List Value) (o : Nat) (w : World), (w.setCells b o vs).heap[c]? = w.heap[c]?
  | [], _, _ => rfl
  | v :: vs, o, w => by
    rw [World.setCells, setCells_other hne vs (o + 1) _, Below.heap_setCell _ _ _ _ hne]
theorem size_setCells (b : Nat) : ∀ (vs : List Value) (o : Nat) (w : World), (w.setCells b o vs).heap.size = w.heap.size
  | [], _, _ => rfl
  | v :: vs, o, w => by rw [World.setCells, size_setCells b vs (o + 1) _]; simp [World.setCell]
theorem below_setCells' {B : Nat} {a : World} (b : Nat) (hb : B ≤ b) : ∀ (vs : List Value) (o : Nat) {w : World}, Below B a w → Below B a (w.setCells b o vs)
  | [], _, _, h => h
  | v :: r, o, _, h => below_setCells' b hb r (o + 1) (h.setCell (p := ⟨b, o, none⟩) hb v)

/-- Block b of w holds the hash F. -/
def HashAt (w : World) (b : Nat) (F : List Int) : Prop := w.heap[b]? = some (.cells (hc F).toArray 24 (0, 0))
theorem HashAt.new (w : World) (F : List Int) : HashAt (w.alloc (.cells (hc F).toArray 24)) w.heap.size F := heap_alloc_last w _
theorem HashAt.row {w : World} {b : Nat} {F : List Int} (h : HashAt w b F) (hF : F.length = 32) : rowOf w b 0 32 = hc F := by
  rw [rowOf_block h]
  have : (hc F).length = 32 := by rw [hc_len, hF]
  simp [List.take_of_length_le (Nat.le_of_eq this)]
theorem HashAt.lt {w : World} {b : Nat} {F : List Int} (h : HashAt w b F) : b < w.heap.size := (Array.getElem?_eq_some_iff.1 h).1
theorem HashAt.on {w w1 : World} {b : Nat} {F : List Int} (h : HashAt w b F) (hb : Below w.heap.size w w1) : HashAt w1 b F := by
  have := h.lt
  unfold HashAt
  rw [hb.block _ this]; exact h
theorem HashAt.alloc {w : World} {b : Nat} {F : List Int} (h : HashAt w b F) (o : Obj) : HashAt (w.alloc o) b F := by
  unfold HashAt
  rw [Below.heap_alloc _ _ _ h.lt]; exact h

/-! ### A composite's cells -/
theorem list_fold_put (o : Nat) : ∀ (xs : List Value) (k : Nat) (pre mid post : List Value), pre.length = o + k → mid.length = xs.length →
    (xs.zipIdx k).foldl (fun (cs : Array Value) (p : Value × Nat) => cs.setIfInBounds (o + p.2) p.1) (pre ++ (mid ++ post)).toArray = (pre ++ (xs ++ post)).toArray
  | [], k, pre, mid, post, _, hm => by
    obtain rfl : mid = [] := by simpa using hm
    simp
  | x :: xs, k, pre, m :: mid, post, hp, hm => by
    have ih := list_fold_put o xs (k + 1) (pre ++ [x]) mid post (by simp; omega) (by simpa using hm)
    simp only [List.zipIdx_cons, List.foldl_cons]
    have e : (pre ++ (m :: mid ++ post)).toArray.setIfInBounds (o + k) x = (pre ++ [x] ++ (mid ++ post)).toArray := by
      apply Array.ext'
      simp [hp.symm]
    rw [e, ih]
    simp
  | x :: xs, k, pre, [], post, _, hm => by simp at hm

theorem fold_put (o n : Nat) (xs pre mid post : List Value) (hp : pre.length = o) (hm : mid.length = n) (hx : xs.length = n) :
    xs.toArray.zipIdx.foldl (fun (cs : Array Value) (p : Value × Nat) => cs.setIfInBounds (o + p.2) p.1) (pre ++ (mid ++ post)).toArray = (pre ++ (xs ++ post)).toArray := by
  have := list_fold_put o xs 0 pre mid post (by omega) (by omega)
  simpa using this
end Go.Proofs.YtjlodnecdngdfaaDoor
namespace Go.Proofs.YtjlodnecdngdfaaDoor
open Go.RowKit
set_option maxRecDepth 100000

/-- The slice v reads as the bytes xs, and has room for them. -/
def RdC (w : World) (v : Value) (xs : List Int) : Prop := ∃ q c, v = .slice q xs.length c ∧ xs.length ≤ c ∧ (xs = [] ∨ ∃ b off, q = some ⟨b, off, none⟩ ∧ ∀ i, i < xs.length → w.cell? ⟨b, off + i, none⟩ = some (.int .u8 (xs.getD i 0)))
theorem RdC.rd {w : World} {v : Value} {xs : List Int} (h : RdC w v xs) : Rd w v xs := by
  obtain ⟨q, c, e, _, h⟩ := h
  exact ⟨q, c, e, h⟩

/-- What digest.Sum reads: the table of the rounds. -/
def Tbl (w : World) : Prop := ∀ i, i < 64 → w.cell? ⟨1, i, none⟩ = some (.int .u32 (rt i))
theorem Tbl.pos {w : World} (h : Tbl w) : 1 < w.heap.size := World.block_lt_of_cell? w ⟨1, 0, none⟩ (h 0 (by omega))
theorem Tbl.on {w w' : World} {B : Nat} (h : Tbl w) (hb : Below B w w') (hB : 1 < B) : Tbl w' := fun i hi => by
  rw [World.cell?_of_block (w := w) (hb.block 1 hB)]; exact h i hi
theorem Tbl.chg {w w' : World} {S : List Nat} (h : Tbl w) (hc : Chg w w' S) (hS : 1 ∉ S) : Tbl w' := fun i hi => by
  rw [World.cell?_of_block (w := w) (hc.block 1 h.pos hS)]; exact h i hi

structure SmSt (w wr : World) (S : St8) (F : Nat → Int) : Prop where
  below : Below w.heap.size w wr
  rr : HashAt wr w.heap.size zero32
  rs : RwK .u32 wr (w.heap.size + 1) 8 106 (fun i => S.lst.getD i 0)
  rt : RwK .u8 wr (w.heap.size + 1 + 1) 128 143 F
theorem SmSt.on {w wr w1 : World} {S : St8} {F : Nat → Int} (h : SmSt w wr S F) (hb : Below wr.heap.size wr w1) : SmSt w w1 S F :=
  ⟨h.below.trans (hb.mono h.below.size), h.rr.on hb, h.rs.on hb, h.rt.on hb⟩
theorem HashAt.other {w : World} {b : Nat} {F : List Int} (h : HashAt w b F) {a : Addr} (ha : b ≠ a.block) (v : Value) : HashAt (w.setCell a v) b F := by
  unfold HashAt
  rw [Below.heap_setCell _ _ _ _ ha]; exact h
theorem HashAt.chg {w w' : World} {b : Nat} {F : List Int} {S : List Nat} (h : HashAt w b F) (hc : Chg w w' S) (hS : b ∉ S) : HashAt w' b F := by
  unfold HashAt
  rw [hc.block b h.lt hS]; exact h
theorem SmSt.put {w wr : World} {S : St8} {F : Nat → Int} (h : SmSt w wr S F) (T : St8) :
    SmSt w ((((((((wr.setCell ⟨w.heap.size + 1, 0, none⟩ (.int .u32 T.a)).setCell ⟨w.heap.size + 1, 1, none⟩ (.int .u32 T.b)).setCell ⟨w.heap.size + 1, 2, none⟩ (.int .u32 T.c)).setCell ⟨w.heap.size + 1, 3, none⟩ (.int .u32 T.d)).setCell ⟨w.heap.size + 1, 4, none⟩ (.int .u32 T.e)).setCell ⟨w.heap.size + 1, 5, none⟩ (.int .u32 T.f)).setCell ⟨w.heap.size + 1, 6, none⟩ (.int .u32 T.g)).setCell ⟨w.heap.size + 1, 7, none⟩ (.int .u32 T.h)) T F := by
  have hb := h.below
  have hr := h.rr
  have ht := h.rt
  refine ⟨?_, ?_, ?_, ?_⟩
  · repeat (first | with_reducible exact hb | with_reducible refine Below.setCell ?_ (by simp) _)
  · repeat (first | with_reducible exact hr | with_reducible refine HashAt.other ?_ (by simp) _)
  · refine ((((((((h.rs.store (j := 0) (by omega) T.a).store (j := 1) (by omega) T.b).store (j := 2) (by omega) T.c).store (j := 3) (by omega) T.d).store (j := 4) (by omega) T.e).store (j := 5) (by omega) T.f).store (j := 6) (by omega) T.g).store (j := 7) (by omega) T.h).same ?_
    intro i hi
    have e : i = 0 ∨ i = 1 ∨ i = 2 ∨ i = 3 ∨ i = 4 ∨ i = 5 ∨ i = 6 ∨ i = 7 := by omega
    rcases e with rfl | rfl | rfl | rfl | rfl | rfl | rfl | rfl <;> simp [updK, St8.lst]
  · repeat (first | with_reducible exact ht | with_reducible refine RwK.other ?_ (by simp) _)
theorem SmSt.tab {w wr : World} {S : St8} {F : Nat → Int} (h : SmSt w wr S F) (hT : Tbl w) : Tbl wr := hT.on h.below hT.pos
theorem SmSt.old {w wr : World} {S : St8} {F : Nat → Int} (h : SmSt w wr S F) {p : Addr} {v : Value} (hc : w.cell? p = some v) : wr.cell? p = some v := by
  rw [h.below.cell (World.block_lt_of_cell? w p hc)]; exact hc

theorem HashAt.there {w : World} {b : Nat} {G : List Int} (h : HashAt w b G) (hG : G.length = 32) : w.there b 0 32 := fun j hj => by
  refine ⟨?_, Joins.unfrozen_of_block h _⟩
  rw [cell_of_row _ _ _ _ _ _ h]
  simp [hc_len, hG, hj]
theorem HashAt.put {w : World} {b : Nat} {G : List Int} (h : HashAt w b G) (hG : G.length = 32) {F : List Int} (hF : F.length = 32) : HashAt (w.setCells b 0 (hc F)) b F := by
  have := setCells_block (b := b) (t := 24) (fr := (0, 0)) (hc F) (o := 0) (w := w) (pre := []) (mid := hc G) (post := []) (by simp only [List.nil_append, List.append_nil]; exact h) rfl (by rw [hc_len, hc_len, hF, hG])
  simpa only [HashAt, List.nil_append, List.append_nil] using this
/-- The digest's bytes, laid word by word. -/
def outF (S : St8) : Nat → Int := put4 (put4 (put4 (put4 (put4 (put4 (put4 (put4 (fun i => zero32.getD i 0) 0 S.a) 4 S.b) 8 S.c) 12 S.d) 16 S.e) 20 S.f) 24 S.g) 28 S.h
theorem outF_row (S : St8) : ((List.range 32).map fun i => Value.int .u8 (outF S i)) = hc S.out := by rfl
theorem RwK.hash {w : World} {b : Nat} {S : St8} (h : RwK .u8 w b 32 24 (outF S)) : HashAt w b S.out := by
  have := h.block
  rw [outF_row] at this
  exact this
/-- Where the loop over the blocks stands. -/
def Inv (xs : List Int) (b off : Nat) (w : World) (e : Bool) (i n : Nat) (q : Option Addr) (wr : World) : Prop :=
  ∃ S F, SmSt w wr S F ∧
    (e = false → xs.length = 64 * i + n ∧ (n = 0 ∨ q = some ⟨b, off + 64 * i, none⟩) ∧ S = shaSt xs i ∧ F = fun _ => 0) ∧
    (e = true → 64 * (if 64 < xs.length % 64 + 9 then 2 else 1) = 64 * i + n ∧ (n = 0 ∨ q = some ⟨w.heap.size + 1 + 1, 64 * i, none⟩) ∧ S = shaSt xs (xs.length / 64 + i) ∧ F = endF (xs.drop (64 * (xs.length / 64))) xs.length (64 * (if 64 < xs.length % 64 + 9 then 2 else 1)))

theorem Inv.block {xs : List Int} {b off : Nat} {w wr : World} {e : Bool} {i n : Nat} {q : Option Addr} (h : Inv xs b off w e i n q wr) (hn : 64 ≤ n) (hx : Bytes xs) (hc : ∀ i, i < xs.length → w.cell? ⟨b, off + i, none⟩ = some (.int .u8 (xs.getD i 0))) :
    ∃ bb oo Bf S F, q = some ⟨bb, oo, none⟩ ∧ (∀ j, j < 64 → wr.cell? ⟨bb, oo + j, none⟩ = some (.int .u8 (Bf j))) ∧ (∀ j, j < 64 → 0 ≤ Bf j ∧ Bf j < 256) ∧ SmSt w wr S F ∧
      (∀ w' q', SmSt w w' (S.mix Bf) F → (n = 64 ∨ q' = some ⟨bb, oo + 64, none⟩) → Inv xs b off w e (i + 1) (n - 64) q' w') := by
  obtain ⟨S, F, hm, hf, ht⟩ := h
  cases e with
  | false =>
    obtain ⟨h1, h2, rfl, rfl⟩ := hf rfl
    have h2 : q = some ⟨b, off + 64 * i, none⟩ := h2.resolve_left (by omega)
    refine ⟨b, off + 64 * i, blkF xs i, _, _, h2, fun j hj => ?_, fun j _ => padF_bytes hx _, hm, fun w' q' hm' hq' => ⟨_, _, hm', fun _ => ⟨by omega, ?_, rfl, rfl⟩, fun e => Bool.noConfusion e⟩⟩
    · have := hc (64 * i + j) (by omega)
      rw [Nat.add_assoc, blkF, padF_low (by omega)]
      exact hm.old this
    · rcases hq' with e | e
      · left; omega
      · right; rw [e, show off + 64 * i + 64 = off + 64 * (i + 1) by omega]
  | true =>
    obtain ⟨h1, h2, rfl, rfl⟩ := ht rfl
    have h2 : q = some ⟨w.heap.size + 1 + 1, 64 * i, none⟩ := h2.resolve_left (by omega)
    have h128 : 64 * (if 64 < xs.length % 64 + 9 then 2 else 1) ≤ 128 := by split <;> omega
    refine ⟨w.heap.size + 1 + 1, 64 * i, blkF xs (xs.length / 64 + i), _, _, h2, fun j hj => ?_, fun j _ => padF_bytes hx _, hm, fun w' q' hm' hq' => ⟨_, _, hm', fun e => Bool.noConfusion e, fun _ => ⟨by omega, ?_, rfl, rfl⟩⟩⟩
    · rw [hm.rt.cell (64 * i + j) (by omega), endF_pad rfl rfl rfl (by omega), blkF, show 64 * (xs.length / 64) + (64 * i + j) = 64 * (xs.length / 64 + i) + j by omega]
    · rcases hq' with e | e
      · left; omega
      · right; rw [e, show 64 * i + 64 = 64 * (i + 1) by omega]

/-- Where the whole blocks are through. -/
theorem Inv.rest {xs : List Int} {b off : Nat} {w wr : World} {i n k : Nat} {q : Option Addr} (h : Inv xs b off w false i n q wr) (hn : n < 64) (hc : ∀ i, i < xs.length → w.cell? ⟨b, off + i, none⟩ = some (.int .u8 (xs.getD i 0))) :
    i = xs.length / 64 ∧ n = (xs.drop (64 * (xs.length / 64))).length ∧ n = xs.length % 64 ∧ SmSt w wr (shaSt xs i) (fun _ => 0) ∧ Rd wr (.slice q n k) (xs.drop (64 * (xs.length / 64))) := by
  obtain ⟨S, F, hm, hf, ht⟩ := h
  obtain ⟨h1, h2, rfl, rfl⟩ := hf rfl
  have hi : i = xs.length / 64 := by omega
  have hl : n = (xs.drop (64 * (xs.length / 64))).length := by simp; omega
  refine ⟨hi, hl, by omega, hm, q, k, by rw [← hl], ?_⟩
  rcases h2 with h2 | h2
  · left; exact List.eq_nil_of_length_eq_zero (by omega)
  · right
    refine ⟨b, off + 64 * i, h2, fun j hj => ?_⟩
    have := hc (64 * i + j) (by omega)
    rw [Nat.add_assoc, hm.old this]
    simp [List.getD, hi]
/-- Where the last blocks are laid. -/
theorem Inv.tail {xs : List Int} {b off : Nat} {w w' : World} (h : SmSt w w' (shaSt xs (xs.length / 64)) (endF (xs.drop (64 * (xs.length / 64))) xs.length (64 * (if 64 < xs.length % 64 + 9 then 2 else 1)))) {n : Nat} (hn : n = 64 * (if 64 < xs.length % 64 + 9 then 2 else 1)) :
    Inv xs b off w true 0 n (some ⟨w.heap.size + 1 + 1, 0, none⟩) w' :=
  by
  refine ⟨_, _, h, fun e => Bool.noConfusion e, fun _ => ⟨by omega, .inr (by simp), by simp, rfl⟩⟩
theorem Inv.done {xs : List Int} {b off : Nat} {w wr : World} {i n : Nat} {q : Option Addr} (h : Inv xs b off w true i n q wr) (hn : n < 64) : ∃ F, SmSt w wr (shaSt xs (nbk xs.length)) F := by
  obtain ⟨S, F, hm, hf, ht⟩ := h
  obtain ⟨h1, -, rfl, rfl⟩ := ht rfl
  refine ⟨_, (?_ : SmSt w wr (shaSt xs (nbk xs.length)) (endF (xs.drop (64 * (xs.length / 64))) xs.length (64 * (if 64 < xs.length % 64 + 9 then 2 else 1))))⟩
  have : xs.length / 64 + i = nbk xs.length := by
    unfold nbk
    split at h1 <;> split <;> omega
  rw [← this]
  exact hm
theorem SmSt.chgT {w wr w' : World} {S : St8} {F G : Nat → Int} (h : SmSt w wr S F) (hG : RwK .u8 w' (w.heap.size + 1 + 1) 128 143 G) (hc : Chg wr w' [w.heap.size + 1 + 1]) : SmSt w w' S G :=
  ⟨h.below.trans (hc.toBelow (B := w.heap.size) h.below.size (by intro k hk; simp at hk; omega)), h.rr.chg hc (by simp; omega), h.rs.chg hc (by simp), hG⟩
end Go.Proofs.YtjlodnecdngdfaaDoor
namespace Go.Proofs.YtjlodnecdngdfaaDoor
open Go.RowKit
set_option maxRecDepth 100000

/-- A frame: of a tag that is not too long, and parts. -/
def frm (t : List Int) (L : List (List Int)) : List Int := ((t.length : Int) :: t) ++ blobs L
theorem frm_len (t : List Int) (L : List (List Int)) : (frm t L).length = 1 + t.length + (blobs L).length := by simp [frm]; omega
theorem blobs_split {L : List (List Int)} {i : Nat} (hi : i < L.length) : blobs L = blobs (L.take i) ++ (be8 (L.getD i []).length ++ (L.getD i [] ++ blobs (L.drop (i + 1)))) := by
  have e : L = L.take i ++ (L.getD i [] :: L.drop (i + 1)) := by
    conv => lhs; rw [← List.take_append_drop i L]
    rw [List.drop_eq_getElem_cons hi]
    simp [List.getD, hi]
  conv => lhs; rw [e, blobs, List.flatMap_append, List.flatMap_cons]
  simp only [blobs, List.append_assoc]
theorem getD_app_right {xs ys : List Int} {k : Nat} : (xs ++ ys).getD (xs.length + k) 0 = ys.getD k 0 := by
  simp only [List.getD_eq_getElem?_getD]
  rw [List.getElem?_append_right (by omega), Nat.add_sub_cancel_left]
theorem getD_app_left {xs ys : List Int} {k : Nat} (h : k < xs.length) : (xs ++ ys).getD k 0 = xs.getD k 0 := by
  simp [List.getD, List.getElem?_append_left h]
/-- How far a frame is written behind i parts. -/
def frmAt (t : List Int) (L : List (List Int)) (i : Nat) : Nat := 1 + t.length + (blobs (L.take i)).length
theorem frmAt_succ (t : List Int) {L : List (List Int)} {i : Nat} (hi : i < L.length) : frmAt t L (i + 1) = frmAt t L i + 8 + (L.getD i []).length := by
  unfold frmAt; rw [blobs_len hi]; omega
theorem frmAt_le (t : List Int) (L : List (List Int)) (i : Nat) : frmAt t L i ≤ (frm t L).length := by
  unfold frmAt; rw [frm_len]; have := blobs_le L i; omega
theorem frmAt_end (t : List Int) (L : List (List Int)) : frmAt t L L.length = (frm t L).length := by
  unfold frmAt; rw [frm_len, List.take_length]
theorem frm_get (t : List Int) {L : List (List Int)} {i : Nat} (hi : i < L.length) (k : Nat) : (frm t L).getD (frmAt t L i + k) 0 = (be8 (L.getD i []).length ++ (L.getD i [] ++ blobs (L.drop (i + 1)))).getD k 0 := by
  have e : frm t L = (((t.length : Int) :: t) ++ blobs (L.take i)) ++ (be8 (L.getD i []).length ++ (L.getD i [] ++ blobs (L.drop (i + 1)))) := by
    rw [frm, blobs_split hi, List.append_assoc]
  have hl : frmAt t L i = (((t.length : Int) :: t) ++ blobs (L.take i)).length := by unfold frmAt; simp; omega
  rw [e, hl, getD_app_right]
theorem frm_step (t : List Int) {L : List (List Int)} {i : Nat} (hi : i < L.length) {f : Nat → Int} (hf : ∀ j, j < frmAt t L i → f j = (frm t L).getD j 0) {j : Nat} (hj : j < frmAt t L (i + 1)) :
    cpf (put8 f (frmAt t L i) ((L.getD i []).length : Int)) (frmAt t L i + 8) (L.getD i []) j = (frm t L).getD j 0 := by
  rw [frmAt_succ t hi] at hj
  by_cases h1 : j < frmAt t L i
  · rw [cpf_out (by omega), put8_out _ (by omega)]; exact hf j h1
  · obtain ⟨k, rfl⟩ : ∃ k, j = frmAt t L i + k := ⟨j - frmAt t L i, by omega⟩
    rw [frm_get t hi]
    by_cases h8 : k < 8
    · rw [cpf_out (by omega), put8_in _ _ _ h8, getD_app_left (by simpa using h8)]
    · rw [cpf_in (by omega) (by omega)]
      obtain ⟨m, rfl⟩ : ∃ m, k = 8 + m := ⟨k - 8, by omega⟩
      have := getD_app_right (xs := be8 ((L.getD i []).length : Int)) (ys := L.getD i [] ++ blobs (L.drop (i + 1))) (k := m)
      rw [be8_len] at this
      rw [this, getD_app_left (by omega)]
      congr 1
      omega
theorem frm_start (t : List Int) (L : List (List Int)) (f : Nat → Int) {j : Nat} (hj : j < frmAt t L 0) : cpf (updK f 0 (t.length : Int)) 1 t j = (frm t L).getD j 0 := by
  have hl : frmAt t L 0 = 1 + t.length := by simp [frmAt, blobs]
  have e : (frm t L).getD j 0 = ((t.length : Int) :: t).getD j 0 := getD_app_left (by simp; omega)
  rw [e]
  by_cases h0 : j = 0
  · subst h0; rw [cpf_out (by omega), updK_same]; rfl
  · rw [cpf_in (by omega) (by omega)]
    obtain ⟨m, rfl⟩ : ∃ m, j = m + 1 := ⟨j - 1, by omega⟩
    rfl
theorem frm_bytes {t : List Int} {L : List (List Int)} (ht : Bytes t) (h255 : t.length ≤ 255) (hL : ∀ b ∈ L, Bytes b) : Bytes (frm t L) := by
  refine Bytes.append ?_ ?_
  · intro x hx
    rcases List.mem_cons.1 hx with rfl | hx
    · omega
    · exact ht x hx
  · intro x hx
    obtain ⟨b, hb, hx⟩ := List.mem_flatMap.1 hx
    rcases List.mem_append.1 hx with hx | hx
    · exact be8_bytes _ x hx
    · exact hL b hb x hx
end Go.Proofs.YtjlodnecdngdfaaDoor
namespace Go.Proofs.YtjlodnecdngdfaaDoor
open Go.RowKit
set_option maxRecDepth 100000

theorem Tryd.infoU8 : (Tryd.prog.info? 5).map (fun i => (i.zero, i.size, i.bytes)) = some (some (.int .u8 0), 1, 1) := by kernel_rfl

/-- A tag, as far as it counts. -/
def cut255 (s : ByteArray) : ByteArray := if s.size ≤ 255 then s else s.extract 0 255
theorem cut_small {s : ByteArray} (h : s.size ≤ 255) : cut255 s = s := if_pos h
theorem cut_size (s : ByteArray) : (cut255 s).size ≤ 255 := by
  unfold cut255
  split
  · assumption
  · simp [ByteArray.size_extract]; omega

set_option maxHeartbeats 4000000 in
theorem Frame_cut {w : World} {s t : ByteArray} {v : Value} {L : List (List Int)} (hL : RdL w v L []) (hs : s.size ≤ maxLen) (hst : cut255 s = t) (hn : (frm (sn t) L).length ≤ 140737488355328) :
    Calls Tryd.prog 94 #[.string s, v] w fun e w' => e = .returned (.slice (some ⟨w.heap.size, 0, none⟩) (frm (sn t) L).length (frm (sn t) L).length) ∧
      RwK .u8 w' w.heap.size (frm (sn t) L).length 5 (fun i => (frm (sn t) L).getD i 0) ∧ Below w.heap.size w w' := by
  have h255 : t.size ≤ 255 := by rw [← hst]; exact cut_size s
  unfold maxLen at hs
  have hcut : (s.size ≤ 255 ∧ s = t) ∨ (255 < s.size ∧ s.extract 0 255 = t) := by
    by_cases h : s.size ≤ 255
    · exact .inl ⟨h, by rw [← hst]; exact (if_pos h).symm⟩
    · exact .inr ⟨by omega, by rw [← hst]; exact (if_neg h).symm⟩
  clear hst
  obtain ⟨q, c, rfl⟩ : ∃ q c, v = .slice q L.length c := by obtain ⟨q, c, e, _⟩ := hL; exact ⟨q, c, e⟩
  obtain ⟨i0, hi, hz0, hz1, hz2⟩ := info_parts Tryd.infoU8
  have HL := Lib.hid hL
  replace hi := Lib.hid hi
  replace hz0 := Lib.hid hz0
  replace hz1 := Lib.hid hz1
  replace hz2 := Lib.hid hz2
  have hsl := sn_len t
  have hmany := blobs_many L
  have hfl := frm_len (sn t) L
  have hLn : L.length ≤ 140737488355328 := by omega
  have hbl : (blobs L).length ≤ 140737488355328 := by omega
  obtain ⟨N, hN⟩ : ∃ N, (frm (sn t) L).length = N := ⟨_, rfl⟩
  have HN : Hid (1 + t.size + (blobs L).length = N) := by rw [← hN]; show _ = _; omega
  have HNf := Lib.hid hN
  have HSL := Lib.hid hsl
  have hNle : N ≤ 140737488355328 := by omega
  have hN0 : 1 + t.size ≤ N := by omega
  rw [hN] at hn ⊢
  clear hL hsl hmany hfl hn hN
  go_enter Tryd.func94, Tryd.ntmps94
  rcases hcut with ⟨hc1, hc2⟩ | ⟨hc1, hc2⟩
  · have hmin : min (s.size : Int) 255 = s.size := by omega
    obtain hc3 := hc2.symm
    subst hc3
    go_wp2_with fail
    clear hmin hc1
    go_loopw [5, 22] (fun nv iv wr => ∃ i : Nat, iv = .int .i64 i ∧ i ≤ L.length ∧ nv = .int .i64 (1 + (t.size : Int) + ((blobs (L.take i)).length : Int)) ∧ wr = w) (fun _ iv _ => L.length - (intOf iv).toNat)
    case atStart => exact ⟨0, rfl, by omega, by simp [blobs], rfl⟩
    case round =>
      obtain ⟨i, rfl, hil, rfl, rfl⟩ := hrel
      have hbi := blobs_le L i
      by_cases hlt : i < L.length
      · obtain ⟨b, off, r, m, k, -, rfl, -, hc, rfl, -, -⟩ := HL.out.at hlt
        have hbs := blobs_len hlt
        have hbl2 := blobs_le L (i + 1)
        have HE := Lib.hid hbs
        have g1 : ((blobs (L.take i)).length : Int) + 8 + ((L.getD i []).length : Int) ≤ 140737488355328 := by omega
        clear hbs hbl2
        generalize hbb : (L.getD i []).length = lb at hc g1 HE ⊢
        go_wp2_with fail
        go_roundw
        case rel => exact ⟨i + 1, by go_num, by omega, by rw [HE.out]; congr 1; omega, trivial⟩
        case measure => simp [intOf]; omega
      · obtain rfl : i = L.length := by omega
        rw [List.take_length]
        have hNN : (1 + (t.size : Int) + ((blobs L).length : Int)) = (N : Int) := by have := HN.out; omega
        rw [hNN]
        clear hlt hNN hbi hil
        go_wp2_with (refine wpList_make_full _ rfl _ _ _ rfl 0 _ _ _ _ Tryd.underlying82 hi.out hz0.out hz1.out _ _ _ _ N rfl rfl rfl rfl ?b1 ?b2 ?b3 ?_)
        case b1 => rw [hz2.out]; omega
        case b2 => unfold maxLen; omega
        case b3 => omega
        intro w1 own1 grow1
        have hr1 : RwK .u8 w1 wr.heap.size N 5 (fun _ => 0) := rw_of_made own1
        have hk1 : Chg wr w1 [] := Chg.grown grow1 (by simp)
        have hzz : wr.heap.size < w1.heap.size := hr1.lt
        have c0 := hr1.cell 0 (by omega)
        have f0 := hr1.free 0
        have R1 := Lib.hid (hr1.store (j := 0) (by omega) (t.size : Int))
        have K1 := Lib.hid (((hk1.mono (T := [wr.heap.size]) (by simp)).setCell (p := ⟨wr.heap.size, 0, none⟩) (.inl (by simp)) (.int .u8 (t.size : Int))))
        clear own1 grow1 hr1 hk1
        by_cases hN1 : N = 1
        · subst hN1
          have hL0 : L = [] := by have := blobs_many L; have := HN.out; exact List.eq_nil_of_length_eq_zero (by omega)
          subst hL0
          go_wp2_with (with_reducible refine wpList_copy_str rfl _ _ _ _ rfl 5 Tryd.underlying82 Tryd.size_u8 _ _ _ t rfl rfl R1.out 1 (by omega) (by intro h; first | rfl | omega) (by omega) ?_)
          intro w2 h2 k2
          have HR2 := Lib.hid h2
          have K2 := Lib.hid (K1.out.trans k2 (fun _ h _ => h))
          clear h2 k2 c0 f0 K1 R1
          go_wp2_with fail
          refine wp_loop_rounds 1 ?_
          rw [rounds_succ]
          go_wp2_with fail
          go_ret
          refine ⟨rfl, HR2.out.same (fun j hj => ?_), K2.out.toBelow (Nat.le_refl _) (by intro k hk; simp at hk; omega)⟩
          have := frm_start (sn t) [] (fun _ => 0) (j := j) (by unfold frmAt; omega)
          rw [HSL.out] at this
          exact this
        · go_wp2_with (with_reducible refine wpList_copy_str rfl _ _ _ _ rfl 5 Tryd.underlying82 Tryd.size_u8 _ _ _ t rfl rfl R1.out 1 (by omega) (by intro h; first | rfl | omega) (by omega) ?_)
          intro w2 h2 k2
          have HI : Hid (RwK .u8 w2 wr.heap.size N 5 (cpf (updK (fun _ => 0) 0 (t.size : Int)) 1 (sn t)) ∧ Below wr.heap.size wr w2 ∧ ∀ j, j < frmAt (sn t) L 0 → cpf (updK (fun _ => 0) 0 (t.size : Int)) 1 (sn t) j = (frm (sn t) L).getD j 0) :=
            ⟨h2, (K1.out.trans k2 (fun _ h _ => h)).toBelow (Nat.le_refl _) (by intro k hk; simp at hk; omega), fun j hj => by have := frm_start (sn t) L (fun _ => 0) hj; rw [HSL.out] at this; exact this⟩
          clear h2 k2 c0 f0 K1 R1
          obtain ⟨w0, rfl⟩ : ∃ w0 : World, w0 = wr := ⟨_, rfl⟩
          go_wp2_with fail
          go_loopw [9, 46] (fun av iv wr => ∃ (i : Nat) (f : Nat → Int), iv = .int .i64 i ∧ i ≤ L.length ∧ av = .int .i64 (1 + (t.size : Int) + ((blobs (L.take i)).length : Int)) ∧ Hid (RwK .u8 wr w0.heap.size N 5 f ∧ Below w0.heap.size w0 wr ∧ ∀ j, j < frmAt (sn t) L i → f j = (frm (sn t) L).getD j 0)) (fun _ iv _ => L.length - (intOf iv).toNat)
          case atStart => exact ⟨0, _, rfl, by omega, by simp [blobs], HI⟩
          case round =>
            clear HI
            obtain ⟨i, f, rfl, hil, rfl, hS⟩ := hrel
            by_cases hlt : i < L.length
            · obtain ⟨b, off, r, m, k, -, rfl, -, hcw, rfl, hrd, -⟩ := HL.out.at hlt
              have hc : wr.cell? ⟨b, off + i, none⟩ = some (.slice r (L.getD i []).length k) := by
                rw [World.cell?_of_block (w := w0) (hS.out.2.1.block b (lt_of_cell hcw))]; exact hcw
              have HRD := Lib.hid hrd
              have HSt := Lib.hid (fun j hj => frm_step (sn t) hlt hS.out.2.2 (j := j) hj)
              have R := Lib.hid hS.out.1
              have B := Lib.hid hS.out.2.1
              have HA : Hid (frmAt (sn t) L i = 1 + t.size + (blobs (L.take i)).length) := by show _ = _; unfold frmAt; rw [HSL.out]
              have hfit : 1 + t.size + (blobs (L.take i)).length + 8 + (L.getD i []).length ≤ N := by
                have e1 := frmAt_succ (sn t) hlt
                have e2 := frmAt_le (sn t) L (i + 1)
                rw [HNf.out] at e2
                have := HA.out
                omega
              rw [HA.out] at HSt
              have HE := Lib.hid (blobs_len hlt)
              clear hS hcw hrd
              obtain ⟨a, ha⟩ : ∃ a : Nat, 1 + t.size + (blobs (L.take i)).length = a := ⟨_, rfl⟩
              have ha' : (1 + (t.size : Int) + ((blobs (L.take i)).length : Int)) = (a : Int) := by omega
              rw [ha]at HSt hfit
              rw [ha']
              have HAA := Lib.hid ha
              clear ha ha'
              generalize hbb : L.getD i [] = bb at *
              clear hbb
              go_wp2_with fail
              refine (put64_any R.out (off := a) (len := N - a) (cap := N - a) (by omega) (Nat.le_refl _) (by omega) _).mono ?_
              rintro e w3 ⟨rfl, h3, k3⟩
              have R3 := Lib.hid h3
              have hB3 := B.out.trans ((k3.toBelow (B := w0.heap.size) B.out.size (by intro k hk; simp at hk; omega)))
              have B3 := Lib.hid hB3
              have hP : Hid (0 < bb.length → ∃ ad, r = some ad ∧ ∀ j, j < bb.length → w3.cell? (ad.add j) = some (.int .u8 (bb.getD j 0))) := by
                intro h0
                obtain ⟨q', c', e, rfl | ⟨b', o', rfl, hcc⟩⟩ := HRD.out.on hB3
                · simp at h0
                · simp only [Value.slice.injEq] at e
                  exact ⟨_, e.1, fun j hj => by rw [addr_add]; exact hcc j hj⟩
              have HN3 := Lib.hid (R3.out.lt)
              clear h3 k3 hB3 hc HRD R B
              by_cases haN : a + 8 = N
              all_goals
                go_wp2_with (with_reducible refine wpList_copy_rw rfl _ _ _ _ rfl 5 Tryd.underlying82 Tryd.size_u8 _ _ _ _ _ _ rfl rfl R3.out (a + 8) bb (Nat.min_eq_left (by omega)).symm (fun h0 => ⟨by first | rfl | omega, hP.out h0⟩) (by omega) ?_)
                intro w4 h4 k4
                have HN4 : Hid (RwK .u8 w4 w0.heap.size N 5 (cpf (put8 f a (bb.length : Int)) (a + 8) bb) ∧ Below w0.heap.size w0 w4 ∧ ∀ j, j < frmAt (sn t) L (i + 1) → cpf (put8 f a (bb.length : Int)) (a + 8) bb j = (frm (sn t) L).getD j 0) :=
                  ⟨by first | exact h4 | (rw [haN]; exact h4), B3.out.trans (k4.toBelow (B := w0.heap.size) B3.out.size (by intro k hk; simp at hk; omega)), HSt.out⟩
                clear h4 k4 hP
                go_wp2_with fail
                go_roundw
                case rel => exact ⟨i + 1, _, by go_num, by omega, by rw [HE.out]; have := HAA.out; congr 1; omega, HN4⟩
                case measure => simp [intOf]; omega
            · obtain rfl : i = L.length := by omega
              have HR := Lib.hid hS
              clear hS
              go_wp2_with fail
              go_ret
              refine ⟨rfl, HR.out.out.1.same (fun j hj => HR.out.out.2.2 j (by rw [frmAt_end, HNf.out]; exact hj)), HR.out.out.2.1⟩
  · have hmin : min (s.size : Int) 255 = 255 := by omega
    have hsz255 : (255 : Int) ≤ (s.size : Int) := by omega
    go_wp2_with fail
    clear hmin hc1 hc2 hsz255
    go_loopw [5, 22] (fun nv iv wr => ∃ i : Nat, iv = .int .i64 i ∧ i ≤ L.length ∧ nv = .int .i64 (1 + (t.size : Int) + ((blobs (L.take i)).length : Int)) ∧ wr = w) (fun _ iv _ => L.length - (intOf iv).toNat)
    case atStart => exact ⟨0, rfl, by omega, by simp [blobs], rfl⟩
    case round =>
      obtain ⟨i, rfl, hil, rfl, rfl⟩ := hrel
      have hbi := blobs_le L i
      by_cases hlt : i < L.length
      · obtain ⟨b, off, r, m, k, -, rfl, -, hc, rfl, -, -⟩ := HL.out.at hlt
        have hbs := blobs_len hlt
        have hbl2 := blobs_le L (i + 1)
        have HE := Lib.hid hbs
        have g1 : ((blobs (L.take i)).length : Int) + 8 + ((L.getD i []).length : Int) ≤ 140737488355328 := by omega
        clear hbs hbl2
        generalize hbb : (L.getD i []).length = lb at hc g1 HE ⊢
        go_wp2_with fail
        go_roundw
        case rel => exact ⟨i + 1, by go_num, by omega, by rw [HE.out]; congr 1; omega, trivial⟩
        case measure => simp [intOf]; omega
      · obtain rfl : i = L.length := by omega
        rw [List.take_length]
        have hNN : (1 + (t.size : Int) + ((blobs L).length : Int)) = (N : Int) := by have := HN.out; omega
        rw [hNN]
        clear hlt hNN hbi hil
        go_wp2_with (refine wpList_make_full _ rfl _ _ _ rfl 0 _ _ _ _ Tryd.underlying82 hi.out hz0.out hz1.out _ _ _ _ N rfl rfl rfl rfl ?b1 ?b2 ?b3 ?_)
        case b1 => rw [hz2.out]; omega
        case b2 => unfold maxLen; omega
        case b3 => omega
        intro w1 own1 grow1
        have hr1 : RwK .u8 w1 wr.heap.size N 5 (fun _ => 0) := rw_of_made own1
        have hk1 : Chg wr w1 [] := Chg.grown grow1 (by simp)
        have hzz : wr.heap.size < w1.heap.size := hr1.lt
        have c0 := hr1.cell 0 (by omega)
        have f0 := hr1.free 0
        have R1 := Lib.hid (hr1.store (j := 0) (by omega) (t.size : Int))
        have K1 := Lib.hid (((hk1.mono (T := [wr.heap.size]) (by simp)).setCell (p := ⟨wr.heap.size, 0, none⟩) (.inl (by simp)) (.int .u8 (t.size : Int))))
        clear own1 grow1 hr1 hk1
        by_cases hN1 : N = 1
        · subst hN1
          have hL0 : L = [] := by have := blobs_many L; have := HN.out; exact List.eq_nil_of_length_eq_zero (by omega)
          subst hL0
          go_wp2_with (with_reducible refine wpList_copy_str rfl _ _ _ _ rfl 5 Tryd.underlying82 Tryd.size_u8 _ _ _ t rfl rfl R1.out 1 (by omega) (by intro h; first | rfl | omega) (by omega) ?_)
          intro w2 h2 k2
          have HR2 := Lib.hid h2
          have K2 := Lib.hid (K1.out.trans k2 (fun _ h _ => h))
          clear h2 k2 c0 f0 K1 R1
          go_wp2_with fail
          refine wp_loop_rounds 1 ?_
          rw [rounds_succ]
          go_wp2_with fail
          go_ret
          refine ⟨rfl, HR2.out.same (fun j hj => ?_), K2.out.toBelow (Nat.le_refl _) (by intro k hk; simp at hk; omega)⟩
          have := frm_start (sn t) [] (fun _ => 0) (j := j) (by unfold frmAt; omega)
          rw [HSL.out] at this
          exact this
        · go_wp2_with (with_reducible refine wpList_copy_str rfl _ _ _ _ rfl 5 Tryd.underlying82 Tryd.size_u8 _ _ _ t rfl rfl R1.out 1 (by omega) (by intro h; first | rfl | omega) (by omega) ?_)
          intro w2 h2 k2
          have HI : Hid (RwK .u8 w2 wr.heap.size N 5 (cpf (updK (fun _ => 0) 0 (t.size : Int)) 1 (sn t)) ∧ Below wr.heap.size wr w2 ∧ ∀ j, j < frmAt (sn t) L 0 → cpf (updK (fun _ => 0) 0 (t.size : Int)) 1 (sn t) j = (frm (sn t) L).getD j 0) :=
            ⟨h2, (K1.out.trans k2 (fun _ h _ => h)).toBelow (Nat.le_refl _) (by intro k hk; simp at hk; omega), fun j hj => by have := frm_start (sn t) L (fun _ => 0) hj; rw [HSL.out] at this; exact this⟩
          clear h2 k2 c0 f0 K1 R1
          obtain ⟨w0, rfl⟩ : ∃ w0 : World, w0 = wr := ⟨_, rfl⟩
          go_wp2_with fail
          go_loopw [9, 46] (fun av iv wr => ∃ (i : Nat) (f : Nat → Int), iv = .int .i64 i ∧ i ≤ L.length ∧ av = .int .i64 (1 + (t.size : Int) + ((blobs (L.take i)).length : Int)) ∧ Hid (RwK .u8 wr w0.heap.size N 5 f ∧ Below w0.heap.size w0 wr ∧ ∀ j, j < frmAt (sn t) L i → f j = (frm (sn t) L).getD j 0)) (fun _ iv _ => L.length - (intOf iv).toNat)
          case atStart => exact ⟨0, _, rfl, by omega, by simp [blobs], HI⟩
          case round =>
            clear HI
            obtain ⟨i, f, rfl, hil, rfl, hS⟩ := hrel
            by_cases hlt : i < L.length
            · obtain ⟨b, off, r, m, k, -, rfl, -, hcw, rfl, hrd, -⟩ := HL.out.at hlt
              have hc : wr.cell? ⟨b, off + i, none⟩ = some (.slice r (L.getD i []).length k) := by
                rw [World.cell?_of_block (w := w0) (hS.out.2.1.block b (lt_of_cell hcw))]; exact hcw
              have HRD := Lib.hid hrd
              have HSt := Lib.hid (fun j hj => frm_step (sn t) hlt hS.out.2.2 (j := j) hj)
              have R := Lib.hid hS.out.1
              have B := Lib.hid hS.out.2.1
              have HA : Hid (frmAt (sn t) L i = 1 + t.size + (blobs (L.take i)).length) := by show _ = _; unfold frmAt; rw [HSL.out]
              have hfit : 1 + t.size + (blobs (L.take i)).length + 8 + (L.getD i []).length ≤ N := by
                have e1 := frmAt_succ (sn t) hlt
                have e2 := frmAt_le (sn t) L (i + 1)
                rw [HNf.out] at e2
                have := HA.out
                omega
              rw [HA.out] at HSt
              have HE := Lib.hid (blobs_len hlt)
              clear hS hcw hrd
              obtain ⟨a, ha⟩ : ∃ a : Nat, 1 + t.size + (blobs (L.take i)).length = a := ⟨_, rfl⟩
              have ha' : (1 + (t.size : Int) + ((blobs (L.take i)).length : Int)) = (a : Int) := by omega
              rw [ha]at HSt hfit
              rw [ha']
              have HAA := Lib.hid ha
              clear ha ha'
              generalize hbb : L.getD i [] = bb at *
              clear hbb
              go_wp2_with fail
              refine (put64_any R.out (off := a) (len := N - a) (cap := N - a) (by omega) (Nat.le_refl _) (by omega) _).mono ?_
              rintro e w3 ⟨rfl, h3, k3⟩
              have R3 := Lib.hid h3
              have hB3 := B.out.trans ((k3.toBelow (B := w0.heap.size) B.out.size (by intro k hk; simp at hk; omega)))
              have B3 := Lib.hid hB3
              have hP : Hid (0 < bb.length → ∃ ad, r = some ad ∧ ∀ j, j < bb.length → w3.cell? (ad.add j) = some (.int .u8 (bb.getD j 0))) := by
                intro h0
                obtain ⟨q', c', e, rfl | ⟨b', o', rfl, hcc⟩⟩ := HRD.out.on hB3
                · simp at h0
                · simp only [Value.slice.injEq] at e
                  exact ⟨_, e.1, fun j hj => by rw [addr_add]; exact hcc j hj⟩
              have HN3 := Lib.hid (R3.out.lt)
              clear h3 k3 hB3 hc HRD R B
              by_cases haN : a + 8 = N
              all_goals
                go_wp2_with (with_reducible refine wpList_copy_rw rfl _ _ _ _ rfl 5 Tryd.underlying82 Tryd.size_u8 _ _ _ _ _ _ rfl rfl R3.out (a + 8) bb (Nat.min_eq_left (by omega)).symm (fun h0 => ⟨by first | rfl | omega, hP.out h0⟩) (by omega) ?_)
                intro w4 h4 k4
                have HN4 : Hid (RwK .u8 w4 w0.heap.size N 5 (cpf (put8 f a (bb.length : Int)) (a + 8) bb) ∧ Below w0.heap.size w0 w4 ∧ ∀ j, j < frmAt (sn t) L (i + 1) → cpf (put8 f a (bb.length : Int)) (a + 8) bb j = (frm (sn t) L).getD j 0) :=
                  ⟨by first | exact h4 | (rw [haN]; exact h4), B3.out.trans (k4.toBelow (B := w0.heap.size) B3.out.size (by intro k hk; simp at hk; omega)), HSt.out⟩
                clear h4 k4 hP
                go_wp2_with fail
                go_roundw
                case rel => exact ⟨i + 1, _, by go_num, by omega, by rw [HE.out]; have := HAA.out; congr 1; omega, HN4⟩
                case measure => simp [intOf]; omega
            · obtain rfl : i = L.length := by omega
              have HR := Lib.hid hS
              clear hS
              go_wp2_with fail
              go_ret
              refine ⟨rfl, HR.out.out.1.same (fun j hj => HR.out.out.2.2 j (by rw [frmAt_end, HNf.out]; exact hj)), HR.out.out.2.1⟩
end Go.Proofs.YtjlodnecdngdfaaDoor
namespace Go.Proofs.YtjlodnecdngdfaaDoor
open Go.RowKit
set_option maxRecDepth 100000

theorem zero128 (w : World) : (zeroValue 143).run Tryd.prog w = .ok (.agg (Array.replicate 128 (.int .u8 0))) w := by kernel_rfl
@[go_sem] theorem Tryd.idx8_0 (w : World) (a b c d e f g h : Int) : (Instr.index 106 (.agg #[.int .u32 a, .int .u32 b, .int .u32 c, .int .u32 d, .int .u32 e, .int .u32 f, .int .u32 g, .int .u32 h]) (.int .i64 0)).run Tryd.prog w = .ok (.int .u32 a) w := by kernel_rfl
@[go_sem] theorem Tryd.idx8_1 (w : World) (a b c d e f g h : Int) : (Instr.index 106 (.agg #[.int .u32 a, .int .u32 b, .int .u32 c, .int .u32 d, .int .u32 e, .int .u32 f, .int .u32 g, .int .u32 h]) (.int .i64 1)).run Tryd.prog w = .ok (.int .u32 b) w := by kernel_rfl
@[go_sem] theorem Tryd.idx8_2 (w : World) (a b c d e f g h : Int) : (Instr.index 106 (.agg #[.int .u32 a, .int .u32 b, .int .u32 c, .int .u32 d, .int .u32 e, .int .u32 f, .int .u32 g, .int .u32 h]) (.int .i64 2)).run Tryd.prog w = .ok (.int .u32 c) w := by kernel_rfl
@[go_sem] theorem Tryd.idx8_3 (w : World) (a b c d e f g h : Int) : (Instr.index 106 (.agg #[.int .u32 a, .int .u32 b, .int .u32 c, .int .u32 d, .int .u32 e, .int .u32 f, .int .u32 g, .int .u32 h]) (.int .i64 3)).run Tryd.prog w = .ok (.int .u32 d) w := by kernel_rfl
@[go_sem] theorem Tryd.idx8_4 (w : World) (a b c d e f g h : Int) : (Instr.index 106 (.agg #[.int .u32 a, .int .u32 b, .int .u32 c, .int .u32 d, .int .u32 e, .int .u32 f, .int .u32 g, .int .u32 h]) (.int .i64 4)).run Tryd.prog w = .ok (.int .u32 e) w := by kernel_rfl
@[go_sem] theorem Tryd.idx8_5 (w : World) (a b c d e f g h : Int) : (Instr.index 106 (.agg #[.int .u32 a, .int .u32 b, .int .u32 c, .int .u32 d, .int .u32 e, .int .u32 f, .int .u32 g, .int .u32 h]) (.int .i64 5)).run Tryd.prog w = .ok (.int .u32 f) w := by kernel_rfl
@[go_sem] theorem Tryd.idx8_6 (w : World) (a b c d e f g h : Int) : (Instr.index 106 (.agg #[.int .u32 a, .int .u32 b, .int .u32 c, .int .u32 d, .int .u32 e, .int .u32 f, .int .u32 g, .int .u32 h]) (.int .i64 6)).run Tryd.prog w = .ok (.int .u32 g) w := by kernel_rfl
@[go_sem] theorem Tryd.idx8_7 (w : World) (a b c d e f g h : Int) : (Instr.index 106 (.agg #[.int .u32 a, .int .u32 b, .int .u32 c, .int .u32 d, .int .u32 e, .int .u32 f, .int .u32 g, .int .u32 h]) (.int .i64 7)).run Tryd.prog w = .ok (.int .u32 h) w := by kernel_rfl
def msr : Value → Value → Nat
  | .slice _ n _, .bool true => n
  | .slice _ n _, _ => n + 1000
  | _, _ => 0

set_option maxHeartbeats 4000000 in
theorem Sum_any {w : World} {v : Value} {xs : List Int} (hr : RdC w v xs) (hx : Bytes xs) (hT : Tbl w) :
    Calls Tryd.prog 93 #[v] w fun e w' => e = .returned (.agg (hc (sha xs)).toArray) ∧ Below w.heap.size w w' := by
  obtain ⟨q, c, rfl, hlc, hq⟩ := hr
  obtain ⟨b, off, hqb, hcell⟩ : ∃ b off, (xs.length = 0 ∨ q = some ⟨b, off, none⟩) ∧ ∀ i, i < xs.length → w.cell? ⟨b, off + i, none⟩ = some (.int .u8 (xs.getD i 0)) := by
    rcases hq with rfl | ⟨b, off, h1, h2⟩
    · exact ⟨0, 0, .inl rfl, fun i hi => by simp at hi⟩
    · exact ⟨b, off, .inr h1, h2⟩
  have HC := Lib.hid hcell
  have HT := Lib.hid hT
  have HX := Lib.hid hx
  have HQ := Lib.hid hqb
  clear hcell hT hx hqb hq
  have hz := zero128
  have h0 : Hid (SmSt w (((w.alloc (.cells (hc zero32).toArray 24)).alloc (.cells #[.int .u32 1779033703, .int .u32 3144134277, .int .u32 1013904242, .int .u32 2773480762, .int .u32 1359893119, .int .u32 2600822924, .int .u32 528734635, .int .u32 1541459225] 106)).alloc (.cells (Array.replicate 128 (.int .u8 0)) 143)) iv (fun _ => 0)) := by
    refine ⟨?_, ?_, ?_, ?_⟩
    · exact (((Below.refl _ _).alloc (Nat.le_refl _) _).alloc (by simp) _).alloc (by simp; omega) _
    · exact ((HashAt.new w zero32).alloc _).alloc _
    · have := (RwK.newL .u32 (w.alloc (.cells (hc zero32).toArray 24)) iv.lst 106).alloc (.cells (Array.replicate 128 (.int .u8 0)) 143)
      simp only [World.size_alloc] at this
      exact this
    · have := RwK.new .u8 ((w.alloc (.cells (hc zero32).toArray 24)).alloc (.cells #[.int .u32 1779033703, .int .u32 3144134277, .int .u32 1013904242, .int .u32 2773480762, .int .u32 1359893119, .int .u32 2600822924, .int .u32 528734635, .int .u32 1541459225] 106)) 128 143
      simp only [World.size_alloc] at this
      exact this
  have hI : Hid (Inv xs b off w false 0 xs.length q (((w.alloc (.cells (hc zero32).toArray 24)).alloc (.cells #[.int .u32 1779033703, .int .u32 3144134277, .int .u32 1013904242, .int .u32 2773480762, .int .u32 1359893119, .int .u32 2600822924, .int .u32 528734635, .int .u32 1541459225] 106)).alloc (.cells (Array.replicate 128 (.int .u8 0)) 143))) :=
    ⟨_, _, h0.out, fun _ => ⟨by omega, by simpa using HQ.out, rfl, rfl⟩, fun e => Bool.noConfusion e⟩
  clear h0 HQ
  go_enter Tryd.func93, Tryd.ntmps93
  go_wp2_with fail
  go_step3
  go_wp2_with fail
  go_step3
  go_wp2_with fail
  clear hz
  go_loopw [5, 6] (fun lv ev wr => ∃ (e : Bool) (i n k : Nat) (q : Option Addr), ev = .bool e ∧ lv = .slice q n k ∧ n ≤ k ∧ Hid (Inv xs b off w e i n q wr)) (fun lv ev _ => msr lv ev)
  case atStart => exact ⟨false, 0, _, _, _, rfl, rfl, hlc, hI⟩
  case round =>
    clear hI
    obtain ⟨e, i, n, k, q, rfl, rfl, hnk, hI⟩ := hrel
    by_cases hn : 64 ≤ n
    · obtain ⟨bb, oo, Bf, S, F, rfl, hc, hb8, hm, hstep⟩ := hI.out.block hn HX.out HC.out
      have hTr := hm.tab HT.out
      have KM := Lib.hid (mix_any S hn hnk hc hb8 hTr)
      have HM := Lib.hid hm
      have HS := Lib.hid hstep
      clear hstep hI hTr hc hb8
      have s0 := hm.rs.cell 0 (by omega)
      have s1 := hm.rs.cell 1 (by omega)
      have s2 := hm.rs.cell 2 (by omega)
      have s3 := hm.rs.cell 3 (by omega)
      have s4 := hm.rs.cell 4 (by omega)
      have s5 := hm.rs.cell 5 (by omega)
      have s6 := hm.rs.cell 6 (by omega)
      have s7 := hm.rs.cell 7 (by omega)
      simp only [St8.lst, List.getD_cons_zero, List.getD_cons_succ] at s0 s1 s2 s3 s4 s5 s6 s7
      clear hm
      go_wp2_with fail
      refine KM.out.mono ?_
      rintro e1 w1 ⟨rfl, hb1⟩
      have hm1 := HM.out.on hb1
      generalize hT8 : S.mix Bf = T at HS ⊢
      clear hT8
      have HP := Lib.hid (hm1.put T)
      clear s0 s1 s2 s3 s4 s5 s6 s7 HM KM hb1
      have s0 := hm1.rs.cell 0 (by omega)
      have s1 := hm1.rs.cell 1 (by omega)
      have s2 := hm1.rs.cell 2 (by omega)
      have s3 := hm1.rs.cell 3 (by omega)
      have s4 := hm1.rs.cell 4 (by omega)
      have s5 := hm1.rs.cell 5 (by omega)
      have s6 := hm1.rs.cell 6 (by omega)
      have s7 := hm1.rs.cell 7 (by omega)
      have f0 := hm1.rs.free 0
      have f1 := hm1.rs.free 1
      have f2 := hm1.rs.free 2
      have f3 := hm1.rs.free 3
      have f4 := hm1.rs.free 4
      have f5 := hm1.rs.free 5
      have f6 := hm1.rs.free 6
      have f7 := hm1.rs.free 7
      clear hm1
      by_cases hk : k = 64
      · go_wp2_with fail
        exact ⟨⟨e, i + 1, _, _, _, rfl, rfl, by omega, Lib.hid (HS.out _ _ HP.out (.inl (by omega)))⟩, by cases e <;> simp [msr] <;> omega⟩
      · go_wp2_with fail
        exact ⟨⟨e, i + 1, _, _, _, rfl, rfl, by omega, Lib.hid (HS.out _ _ HP.out (.inr rfl))⟩, by cases e <;> simp [msr] <;> omega⟩
    · cases e with
      | false =>
        obtain ⟨hi, hl, hm64, hm, hrd⟩ := hI.out.rest (k := k) (by omega) HC.out
        by_cases h2 : 64 < n + 9
        · have KE := Lib.hid (end_two hm.rt hrd (by omega) xs.length (by omega))
          have HM := Lib.hid hm
          have HI := Lib.hid hi
          have H64 := Lib.hid hm64
          clear hI hl hrd hm hi hm64
          go_wp2_with fail
          refine KE.out.mono ?_
          rintro e1 w1 ⟨rfl, ht, hk⟩
          have hm1 := HM.out.chgT ht hk
          rw [HI.out] at hm1
          have hm64 := H64.out
          have HN : Hid (Inv xs b off w true 0 128 (some ⟨w.heap.size + 1 + 1, 0, none⟩) w1) := Inv.tail (by rw [if_pos (by omega)]; exact hm1) (by rw [if_pos (by omega)])
          clear ht hk hm1 KE HM HI hm64 H64
          go_wp2_with fail
          exact ⟨⟨true, 0, _, _, _, rfl, rfl, by omega, HN⟩, by simp [msr] <;> omega⟩
        · have KE := Lib.hid (end_one hm.rt hrd (by omega) xs.length (by omega))
          have HM := Lib.hid hm
          have HI := Lib.hid hi
          have H64 := Lib.hid hm64
          clear hI hl hrd hm hi hm64
          go_wp2_with fail
          refine KE.out.mono ?_
          rintro e1 w1 ⟨rfl, ht, hk⟩
          have hm1 := HM.out.chgT ht hk
          rw [HI.out] at hm1
          have hm64 := H64.out
          have HN : Hid (Inv xs b off w true 0 64 (some ⟨w.heap.size + 1 + 1, 0, none⟩) w1) := Inv.tail (by rw [if_neg (by omega)]; exact hm1) (by rw [if_neg (by omega)])
          clear ht hk hm1 KE HM HI hm64 H64
          go_wp2_with fail
          exact ⟨⟨true, 0, _, _, _, rfl, rfl, by omega, HN⟩, by simp [msr] <;> omega⟩
      | true =>
        obtain ⟨F, hm⟩ := hI.out.done (by omega)
        have HM := Lib.hid hm
        have s0 := hm.rs.cell 0 (by omega)
        have s1 := hm.rs.cell 1 (by omega)
        have s2 := hm.rs.cell 2 (by omega)
        have s3 := hm.rs.cell 3 (by omega)
        have s4 := hm.rs.cell 4 (by omega)
        have s5 := hm.rs.cell 5 (by omega)
        have s6 := hm.rs.cell 6 (by omega)
        have s7 := hm.rs.cell 7 (by omega)
        simp only [St8.lst, List.getD_cons_zero, List.getD_cons_succ] at s0 s1 s2 s3 s4 s5 s6 s7
        have hsz := hm.rt.lt
        have hsz1 := hm.rs.lt
        have hsz0 := hm.rr.lt
        clear hm hI
        generalize hS : shaSt xs (nbk xs.length) = S at *
        have HSS : Hid (sha xs = S.out) := by unfold sha; rw [hS]; exact rfl
        clear hS
        go_wp2_with fail
        have hr0 : RwK .u8 (wr.alloc (.cells (hc zero32).toArray 24)) wr.heap.size 32 24 (fun i => zero32.getD i 0) := RwK.newL .u8 wr zero32 24
        have R0 := Lib.hid hr0
        have K0 := Lib.hid (Chg.refl (wr.alloc (.cells (hc zero32).toArray 24)) [wr.heap.size])
        clear hr0 s0 s1 s2 s3 s4 s5 s6 s7
        refine wp_loop_rounds 9 ?_
        rw [rounds_succ]
        go_wp2_with fail
        refine (put32_any R0.out (off := 0) (len := 32) (cap := 32) (by omega) (by omega) _).mono ?_
        rintro e1 x0 ⟨rfl, hr, hk⟩
        have R1 := Lib.hid hr
        have K1 := Lib.hid (K0.out.trans hk (fun _ h _ => h))
        clear hr hk R0 K0
        go_wp2_with fail
        rw [rounds_succ]
        go_wp2_with fail
        refine (put32_any R1.out (off := 4) (len := 28) (cap := 28) (by omega) (by omega) _).mono ?_
        rintro e1 x1 ⟨rfl, hr, hk⟩
        have R2 := Lib.hid hr
        have K2 := Lib.hid (K1.out.trans hk (fun _ h _ => h))
        clear hr hk R1 K1
        go_wp2_with fail
        rw [rounds_succ]
        go_wp2_with fail
        refine (put32_any R2.out (off := 8) (len := 24) (cap := 24) (by omega) (by omega) _).mono ?_
        rintro e1 x2 ⟨rfl, hr, hk⟩
        have R3 := Lib.hid hr
        have K3 := Lib.hid (K2.out.trans hk (fun _ h _ => h))
        clear hr hk R2 K2
        go_wp2_with fail
        rw [rounds_succ]
        go_wp2_with fail
        refine (put32_any R3.out (off := 12) (len := 20) (cap := 20) (by omega) (by omega) _).mono ?_
        rintro e1 x3 ⟨rfl, hr, hk⟩
        have R4 := Lib.hid hr
        have K4 := Lib.hid (K3.out.trans hk (fun _ h _ => h))
        clear hr hk R3 K3
        go_wp2_with fail
        rw [rounds_succ]
        go_wp2_with fail
        refine (put32_any R4.out (off := 16) (len := 16) (cap := 16) (by omega) (by omega) _).mono ?_
        rintro e1 x4 ⟨rfl, hr, hk⟩
        have R5 := Lib.hid hr
        have K5 := Lib.hid (K4.out.trans hk (fun _ h _ => h))
        clear hr hk R4 K4
        go_wp2_with fail
        rw [rounds_succ]
        go_wp2_with fail
        refine (put32_any R5.out (off := 20) (len := 12) (cap := 12) (by omega) (by omega) _).mono ?_
        rintro e1 x5 ⟨rfl, hr, hk⟩
        have R6 := Lib.hid hr
        have K6 := Lib.hid (K5.out.trans hk (fun _ h _ => h))
        clear hr hk R5 K5
        go_wp2_with fail
        rw [rounds_succ]
        go_wp2_with fail
        refine (put32_any R6.out (off := 24) (len := 8) (cap := 8) (by omega) (by omega) _).mono ?_
        rintro e1 x6 ⟨rfl, hr, hk⟩
        have R7 := Lib.hid hr
        have K7 := Lib.hid (K6.out.trans hk (fun _ h _ => h))
        clear hr hk R6 K6
        go_wp2_with fail
        rw [rounds_succ]
        go_wp2_with fail
        refine (put32_any R7.out (off := 28) (len := 4) (cap := 4) (by omega) (by omega) _).mono ?_
        rintro e1 x7 ⟨rfl, hr, hk⟩
        have R8 := Lib.hid hr
        have K8 := Lib.hid (K7.out.trans hk (fun _ h _ => h))
        clear hr hk R7 K7
        go_wp2_with fail
        have hF : HashAt x7 wr.heap.size S.out := RwK.hash R8.out
        have hS32 : S.out.length = 32 := rfl
        have hrow := hF.row hS32
        have hm8 := HM.out.on (((Below.refl _ _).alloc (Nat.le_refl _) (.cells (hc zero32).toArray 24)).trans (K8.out.toBelow (B := wr.heap.size) (by simp) (by intro k hk; simp at hk; omega)))
        have hth := hm8.rr.there zero32_len
        have hput := (hm8.rr.put zero32_len hS32).row hS32
        have HB := Lib.hid (below_setCells' (B := w.heap.size) w.heap.size (Nat.le_refl _) (hc S.out) 0 hm8.below)
        clear hF hm8 R8 K8 HM
        rw [rounds_succ]
        go_wp2_with fail
        rw [Exit.noGoto_ret]
        refine bodyPost_ret (v := .agg (hc S.out).toArray) (by simp [results, Tryd.results93, go_sem, hput, hS32]) rfl ⟨by rw [HSS.out], HB.out⟩
end Go.Proofs.YtjlodnecdngdfaaDoor
namespace Go.Proofs.YtjlodnecdngdfaaDoor
open Go.RowKit
set_option maxRecDepth 100000

theorem HashAt.cell {w : World} {b : Nat} {F : List Int} (h : HashAt w b F) {i : Nat} (hi : i < F.length) : w.cell? ⟨b, i, none⟩ = some (.int .u8 (F.getD i 0)) := by
  rw [cell_of_row _ _ _ _ _ _ h]
  simp [hc, List.getD, hi]
theorem rdc_of_rw {w : World} {b : Nat} {T : TypeId} {xs : List Int} (h : RwK .u8 w b xs.length T (fun i => xs.getD i 0)) : RdC w (.slice (some ⟨b, 0, none⟩) xs.length xs.length) xs :=
  ⟨_, _, rfl, Nat.le_refl _, .inr ⟨b, 0, rfl, fun i hi => by rw [Nat.zero_add]; exact h.cell i hi⟩⟩
end Go.Proofs.YtjlodnecdngdfaaDoor
namespace Go.Proofs.YtjlodnecdngdfaaDoor
set_option maxRecDepth 100000
open Go.RowKit

section
variable {w w' : World} {e : TypeId} {size : Nat} {v : Value} {n : Nat} {xs : List Value}
theorem own_lt (h : w.ownsRow 0 e size v n xs) {k : Nat} (hk : v.ownBlock = some k) : k < w.heap.size := by
  rcases h.2 with ⟨rfl, _⟩ | ⟨g, cap, cur, rfl, _, hg, _⟩
  · simp [Value.ownBlock] at hk
  · obtain rfl : g = k := by simpa [Value.ownBlock] using hk
    exact (Array.getElem?_eq_some_iff.1 hg).1
theorem own_ne (h : w.ownsRow 0 e size v n xs) {p : Nat} {cs : Array Value} {t : TypeId} {fr : Nat × Nat} (hp : w.heap[p]? = some (.cells cs t fr)) (ht : t ≠ e) : v.ownBlock ≠ some p := by
  rcases h.2 with ⟨rfl, _⟩ | ⟨g, cap, cur, rfl, _, hg, _⟩
  · simp [Value.ownBlock]
  · intro hk
    obtain rfl : g = p := by simpa [Value.ownBlock] using hk
    rw [hp] at hg
    simp at hg
    exact ht hg.2.1
theorem own_keep (h : w.ownsRow 0 e size v n xs) (hb : ∀ k, v.ownBlock = some k → w'.heap[k]? = w.heap[k]?) : w'.ownsRow 0 e size v n xs := by
  refine ⟨h.1, ?_⟩
  rcases h.2 with hn | ⟨g, cap, cur, rfl, hq, hg, r⟩
  · exact .inl hn
  · exact .inr ⟨g, cap, cur, rfl, hq, by rw [hb g rfl]; exact hg, r⟩
theorem own_chg2 {S : List Nat} (h : w.ownsRow 0 e size v n xs) (hc : Chg w w' S) (hS : ∀ k, v.ownBlock = some k → k ∉ S) : w'.ownsRow 0 e size v n xs :=
  own_keep h fun k hk => hc.block k (own_lt h hk) (hS k hk)
theorem own_on (h : w.ownsRow 0 e size v n xs) (hb : Below w.heap.size w w') : w'.ownsRow 0 e size v n xs := own_chg2 h (Chg.below hb (Nat.le_refl _) []) (by simp)
theorem own_two {e' : TypeId} {size' : Nat} {v' : Value} {n' : Nat} {xs' : List Value} (h : w.ownsRow 0 e size v n xs) (h' : w.ownsRow 0 e' size' v' n' xs') (ht : e ≠ e') {k : Nat} (hk : v.ownBlock = some k) : v'.ownBlock ≠ some k := by
  rcases h.2 with ⟨rfl, _⟩ | ⟨g, cap, cur, rfl, _, hg, _⟩
  · simp [Value.ownBlock] at hk
  · obtain rfl : g = k := by simpa [Value.ownBlock] using hk
    exact own_ne h' hg ht
theorem own_slice (h : w.ownsRow 0 e size v n xs) : ∃ q c, v = .slice q n c := by
  rcases h.2 with ⟨rfl, rfl⟩ | ⟨g, cap, cur, rfl, _⟩
  · exact ⟨_, _, rfl⟩
  · exact ⟨_, _, rfl⟩
theorem own_empty (w : World) (e : TypeId) (size : Nat) : (w.alloc (.cells #[] e)).ownsRow 0 e size (.slice (some ⟨w.heap.size, 0, none⟩) 0 0) 0 [] :=
  ⟨by simp, .inr ⟨w.heap.size, 0, #[], rfl, Nat.zero_le _, heap_alloc_new w _, Nat.le_refl _, Nat.zero_le _, by simp, by simp⟩⟩
end

end Go.Proofs.YtjlodnecdngdfaaDoor
namespace Go.Proofs.YtjlodnecdngdfaaDoor

theorem wpAnyH_strong {P : Program} {md : Region.Mode} {ops : Array Oper} {Q : Exit → Act → World → Prop} {S S' : World → Prop} (hS : ∀ w, S' w → S w) : ∀ {fuel : Nat} {listed : Array Bool} {a : Act} {w : World}, wpAnyH P md ops Q S' fuel listed a w → wpAnyH P md ops Q S fuel listed a w
  | 0, _, _, _, h => h
  | _ + 1, _, _, _, h => ⟨h.1, fun i hi => wpOp_mono (fun _ _ h' => ⟨hS _ h'.1, wpAnyH_strong hS h'.2⟩) (h.2 i hi)⟩
end Go.Proofs.YtjlodnecdngdfaaDoor
namespace Go.Proofs.YtjlodnecdngdfaaDoor
open Go.RowKit
set_option maxRecDepth 100000

theorem eight_any (w : World) (n : Int) : Calls Tryd.prog 95 #[.int .u64 n] w fun e w' => e = .returned (.slice (some ⟨w.heap.size, 0, none⟩) 8 8) ∧ w'.heap[w.heap.size]? = some (.cells (bc (be8 n)).toArray 5 (0, 0)) ∧ Below w.heap.size w w' := by
  go_enter Tryd.func95, Tryd.ntmps95
  go_wp2_with fail
  go_ret
  exact ⟨rfl, heap_alloc_new w _, (Below.refl _ _).alloc (Nat.le_refl _) _⟩
/-- How long the padded string is. -/
theorem padlen (L : Nat) : L + 9 + (64 - (L + 9) % 64) % 64 = 64 * nbk L := by
  unfold nbk
  split <;> omega

set_option maxHeartbeats 4000000 in
theorem pad_any {w : World} {v : Value} {xs : List Int} (hr : Rd w v xs) (hl : xs.length ≤ 100000000000000) :
    Calls Tryd.prog 85 #[v] w fun e w' => e = .returned (.slice (some ⟨w.heap.size, 0, none⟩) (64 * nbk xs.length) (64 * nbk xs.length)) ∧ RwK .u8 w' w.heap.size (64 * nbk xs.length) 5 (padF xs) ∧ Below w.heap.size w w' := by
  obtain ⟨i0, hi, hz0, hz1, hz2⟩ := info_parts Tryd.infoU8
  replace hi := Lib.hid hi
  replace hz0 := Lib.hid hz0
  replace hz1 := Lib.hid hz1
  replace hz2 := Lib.hid hz2
  have HR := Lib.hid hr
  obtain ⟨q, c, rfl⟩ := hr.len
  clear hr
  have hp := padlen xs.length
  have HP : Hid ((xs.length : Int) + 9 + (64 - ((xs.length : Int) + 9) % 64) % 64 = ((64 * nbk xs.length : Nat) : Int)) := by rw [← hp]; show _ = _; omega
  have hN9 : xs.length + 9 ≤ 64 * nbk xs.length := by omega
  have hNle : 64 * nbk xs.length ≤ 100000000000073 := by omega
  have HPF : Hid (∀ j, j < 64 * nbk xs.length → cpf (updK (cpf (fun _ => 0) 0 xs) xs.length 128) (64 * nbk xs.length - 8) (be8 (8 * (xs.length : Int))) j = padF xs j) := by
    intro j hj
    unfold padF
    by_cases h8 : 64 * nbk xs.length - 8 ≤ j
    · rw [cpf_in h8 (by simp; omega), if_neg (by omega), if_neg (by omega), if_neg (by omega)]
      congr 1
      omega
    · rw [cpf_out (Or.inl (by omega))]
      by_cases e : j = xs.length
      · subst e; rw [updK_same, if_neg (by omega), if_pos rfl]
      · rw [updK_ne _ _ e]
        by_cases hlt : j < xs.length
        · rw [cpf_in (by omega) (by omega), if_pos hlt]; rfl
        · rw [cpf_out (Or.inr (by omega)), if_neg hlt, if_neg e, if_pos (by omega)]
  clear hp
  have hQ : ((xs.length : Int) + 9 + -(((xs.length : Int) + 9) % 64) % 64) = ((64 * nbk xs.length : Nat) : Int) := by have := HP.out; omega
  generalize 64 * nbk xs.length = N at *
  go_enter Tryd.func85, Tryd.ntmps85
  go_wp2_with (refine wpList_make_full _ rfl _ _ _ rfl 0 _ _ _ _ Tryd.underlying82 hi.out hz0.out hz1.out _ _ _ _ N rfl rfl rfl rfl ?b1 ?b2 ?b3 ?_)
  case b1 => rw [hz2.out]; omega
  case b2 => unfold maxLen; omega
  case b3 => omega
  clear hQ
  intro w1 own1 grow1
  have hr1 : RwK .u8 w1 w.heap.size N 5 (fun _ => 0) := rw_of_made own1
  have B1 := Lib.hid (show Below w.heap.size w w1 from (Below.refl _ _).grown grow1 (Nat.le_refl _) (by intro k hk; simp at hk))
  have HR1 := Lib.hid (HR.out.on B1.out)
  have HPos : Hid (0 < xs.length → (some ⟨w.heap.size, 0, none⟩ : Option Addr) = some ⟨w.heap.size, 0, none⟩ ∧ ∃ ad, q = some ad ∧ ∀ j, j < xs.length → w1.cell? (ad.add j) = some (.int .u8 (xs.getD j 0))) := by
    intro h0
    obtain ⟨q', c', e, rfl | ⟨b', o', rfl, hcc⟩⟩ := HR1.out
    · simp at h0
    · simp only [Value.slice.injEq] at e
      exact ⟨rfl, _, e.1, fun j hj => by rw [addr_add]; exact hcc j hj⟩
  have R1 := Lib.hid hr1
  clear own1 grow1 hr1 HR HR1
  go_wp2_with (with_reducible refine wpList_copy_rw rfl _ _ _ _ rfl 5 Tryd.underlying82 Tryd.size_u8 _ _ _ _ _ _ rfl rfl R1.out 0 xs (Nat.min_eq_left (by omega)).symm HPos.out (by omega) ?_)
  intro w2 h2 k2
  have c2 := h2.cell xs.length (by omega)
  have f2 := h2.free xs.length
  have H2 := Lib.hid (h2.store (j := xs.length) (by omega) 128)
  have B2 := Lib.hid ((B1.out.trans (k2.toBelow (B := w.heap.size) B1.out.size (by intro k hk; simp at hk; omega))).setCell (p := ⟨w.heap.size, xs.length, none⟩) (Nat.le_refl _) (.int .u8 128))
  clear h2 k2 B1 R1 HPos
  have hn8 : (8 : Int) ≤ (N : Int) := by omega
  have kn8 : IntKind.i64.wrap ((N : Int) - 8) = (N : Int) - 8 := IntWalk.i64_in _ (by omega)
  have en8 : ((N : Int) - 8).toNat = N - 8 := by omega
  have hle8 : (N : Int) - 8 ≤ (N : Int) := by omega
  have hne8 : ¬ N = N - 8 := by omega
  have hsb8 : N - (N - 8) = 8 := by omega
  go_wp2_with fail
  generalize w2.setCell ⟨w.heap.size, xs.length, none⟩ (.int .u8 128) = wg at H2 B2 ⊢
  refine wp_region_held_drew (S := fun W => Below w.heap.size w W) (by kernel_rfl) (B2.out.drew) (fun h0 => ?_)
  refine wpAnyH_take (i := 0) (v := ?_) (by rw [List.getElem?_toArray]; rfl) (by kernel_rfl) (by kernel_rfl) (by kernel_rfl) (by exact fun _ _ _ h => h) (Or.inl ⟨by rfl, ?_⟩) h0 ?_
  rotate_left
  · intro W hW
    go_simp
    all_goals with_reducible rfl
  try simp only [Act.put, List.setIfInBounds_toArray, List.set_cons_zero, List.set_cons_succ]
  refine wpAnyH_take (i := 1) (v := ?_) (by rw [List.getElem?_toArray]; rfl) (by kernel_rfl) (by kernel_rfl) (by kernel_rfl) (by exact fun _ _ _ h => h) (Or.inl ⟨by rfl, ?_⟩) h0 ?_
  rotate_left
  · intro W hW
    go_simp
    all_goals with_reducible rfl
  try simp only [Act.put, List.setIfInBounds_toArray, List.set_cons_zero, List.set_cons_succ]
  refine wpAnyH_take (i := 2) (v := ?_) (by rw [List.getElem?_toArray]; rfl) (by kernel_rfl) (by kernel_rfl) (by kernel_rfl) (by exact fun _ _ _ h => h) (Or.inl ⟨by rfl, ?_⟩) h0 ?_
  rotate_left
  · intro W hW
    go_simp
    all_goals with_reducible rfl
  try simp only [Act.put, List.setIfInBounds_toArray, List.set_cons_zero, List.set_cons_succ]
  refine wpAnyH_take (i := 3) (v := ?_) (by rw [List.getElem?_toArray]; rfl) (by kernel_rfl) (by kernel_rfl) (by kernel_rfl) (by exact fun _ _ _ h => h) (Or.inl ⟨by rfl, ?_⟩) h0 ?_
  rotate_left
  · intro W hW
    go_simp
    all_goals with_reducible rfl
  try simp only [Act.put, List.setIfInBounds_toArray, List.set_cons_zero, List.set_cons_succ]
  refine wpAnyH_take (i := 4) (v := ?_) (by rw [List.getElem?_toArray]; rfl) (by kernel_rfl) (by kernel_rfl) (by kernel_rfl) (by exact fun _ _ _ h => h) (Or.inl ⟨by rfl, ?_⟩) h0 ?_
  rotate_left
  · intro W hW
    go_simp
    all_goals with_reducible rfl
  try simp only [Act.put, List.setIfInBounds_toArray, List.set_cons_zero, List.set_cons_succ]
  refine wpAnyH_take (i := 5) (v := ?_) (by rw [List.getElem?_toArray]; rfl) (by kernel_rfl) (by kernel_rfl) (by kernel_rfl) (by exact fun _ _ _ h => h) (Or.inl ⟨by rfl, ?_⟩) h0 ?_
  rotate_left
  · intro W hW
    go_simp
    all_goals with_reducible rfl
  try simp only [Act.put, List.setIfInBounds_toArray, List.set_cons_zero, List.set_cons_succ]
  refine wpAnyH_take (i := 6) (v := ?_) (by rw [List.getElem?_toArray]; rfl) (by kernel_rfl) (by kernel_rfl) (by kernel_rfl) (by exact fun _ _ _ h => h) (Or.inl ⟨by rfl, ?_⟩) h0 ?_
  rotate_left
  · intro W hW
    go_simp
    all_goals with_reducible rfl
  try simp only [Act.put, List.setIfInBounds_toArray, List.set_cons_zero, List.set_cons_succ]
  refine wpAnyH_take (i := 7) (v := ?_) (by rw [List.getElem?_toArray]; rfl) (by kernel_rfl) (by kernel_rfl) (by kernel_rfl) (by exact fun _ _ _ h => h) (Or.inl ⟨by rfl, ?_⟩) h0 ?_
  rotate_left
  · intro W hW
    go_simp
    all_goals with_reducible rfl
  try simp only [Act.put, List.setIfInBounds_toArray, List.set_cons_zero, List.set_cons_succ]
  refine wpAnyH_ready (rs := [8]) (by kernel_rfl) (by simp) ?_
  refine AllReadyH.cons (by rw [List.getElem?_toArray]; rfl) (fun K hK => ?_) AllReadyH.nil
  rw [if_pos (by rfl)]
  go_wp2_with fail
  refine (eight_any _ _).mono ?_
  rintro e w8 ⟨rfl, hb8, hbl8⟩
  have R8 := Lib.hid ((H2.out.drew).on hbl8)
  have HB8 : Hid (w8.heap[wg.heap.size]? = some (.cells (bc (be8 (8 * (xs.length : Int)))).toArray 5 (0, 0))) := hb8
  go_wp2_with fail
  refine hK.out _ _ (h0.trans (hbl8.mono h0.size)) (fun h8 => ?_)
  clear hK K
  try simp only [Act.put, List.setIfInBounds_toArray, List.set_cons_zero, List.set_cons_succ]
  refine wpAnyH_ready (rs := [9]) (by kernel_rfl) (by simp) ?_
  refine AllReadyH.cons (by rw [List.getElem?_toArray]; rfl) (fun K hK => ?_) AllReadyH.nil
  rw [if_pos (by rfl)]
  refine wp_copy_rw _ _ _ _ rfl 5 Tryd.underlying82 Tryd.size_u8 _ _ _ _ _ _ rfl rfl R8.out (N - 8) (be8 (8 * (xs.length : Int))) rfl (fun _ => ⟨rfl, _, rfl, fun j hj => by rw [addr_add, Nat.zero_add, Joins.cell_of_block HB8.out]; simp only [be8_len] at hj; rcases (by omega : j = 0 ∨ j = 1 ∨ j = 2 ∨ j = 3 ∨ j = 4 ∨ j = 5 ∨ j = 6 ∨ j = 7) with e | e | e | e | e | e | e | e <;> subst e <;> rfl⟩) (by rw [be8_len]; omega) ?_
  intro w9 h9 k9
  have H9 := Lib.hid h9
  have B9 := Lib.hid (h8.trans (k9.toBelow (B := w.heap.size) h8.size (by intro k hk; simp at hk; omega)))
  refine hK.out _ _ (B9.out) (fun h9x => ?_)
  clear hK K
  try simp only [Act.put, List.setIfInBounds_toArray, List.set_cons_zero, List.set_cons_succ]
  refine wpAnyH_done (by kernel_rfl) ?_ _
  go_wp2_with fail
  go_ret
  exact ⟨rfl, H9.out.same (fun j hj => HPF.out j hj), B9.out⟩
end Go.Proofs.YtjlodnecdngdfaaDoor
