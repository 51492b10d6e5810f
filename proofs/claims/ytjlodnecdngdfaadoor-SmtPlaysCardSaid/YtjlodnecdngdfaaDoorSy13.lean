/-
  Pairs of package smt as rows; a literal slice of one.; What is read within some blocks (a footprint): bytes, rows of any length; rows of one's own that are appended to.; Pairs as rows; what a range over a map hands out.; Package smt: Pairs of any map, out of what slices.SortFunc keeps.; Package smt: which of two pairs comes first.; slices.SortFunc at pairs: the shelf's contract laid.; The order of bytes is a strict weak order; rows of pairs, flat.; slices.SortFunc at pairs.; A slice of bytes, as a law's argument.; The walks of basculelaw02: Lent, Stays.; A list of slices of bytes, as a law's argument; what it weighs.; How many slices an argument of slices holds; a hash as an argument, and its bytes.
-/
import Derived.Maps.RangeRun
import Derived.Lib.BytesEntry
import Derived.Lib.Bytealg
import Derived.Shelf.SlSortCmp.WholeK
import Derived.Shelf.Small.Bits
import Derived.Shelf.Lay
import Derived.Ground.SlsfProg
import Derived.Ground.SlgcProg
import Derived.Ground.NamesProg
import Derived.Deep.Slices
import Derived.Deep.Grids
import Derived.Test.YtjlodnecdngdfaaDoorSy1
import Derived.Test.YtjlodnecdngdfaaDoorSy2
import Derived.Test.YtjlodnecdngdfaaDoorSy6
import Derived.Test.YtjlodnecdngdfaaDoorSy11
import Derived.Test.YtjlodnecdngdfaaDoorSy12
namespace Go.Proofs.YtjlodnecdngdfaaDoor
open Go.RowKit
set_option maxRecDepth 100000

def prRow (K V : List Int) : List Value := hc K ++ (hc V ++ [])
theorem prRow_len {K V : List Int} (hK : K.length = 32) (hV : V.length = 32) : (prRow K V).length = 64 := by simp [prRow, hc_len, hK, hV]
def PrB (w : World) (b : Nat) (K V : List Int) : Prop := w.heap[b]? = some (.cells (prRow K V).toArray 72 (0, 0))
section
variable {w w' : World} {b : Nat} {K V : List Int}
theorem PrB.lt (h : PrB w b K V) : b < w.heap.size := (Array.getElem?_eq_some_iff.1 h).1
theorem PrB.new (w : World) (K V : List Int) : PrB (w.alloc (.cells (prRow K V).toArray 72)) w.heap.size K V := heap_alloc_new w _
theorem PrB.on (h : PrB w b K V) (hb : Below w.heap.size w w') : PrB w' b K V := by
  unfold PrB
  rw [hb.block b h.lt]; exact h
theorem PrB.whole (h : PrB w b K V) (hK : K.length = 32) (hV : V.length = 32) : rowOf w b 0 64 = prRow K V := by
  rw [rowOf_block h]
  have := prRow_len hK hV
  simp [List.take_of_length_le (Nat.le_of_eq this)]
theorem PrB.key (h : PrB w b K V) (hK : K.length = 32) : rowOf w b 0 32 = hc K := by
  rw [rowOf_block h]
  simp [prRow, hc_len, hK]
theorem PrB.val (h : PrB w b K V) (hK : K.length = 32) (hV : V.length = 32) : rowOf w b 32 32 = hc V := by
  rw [rowOf_block h]
  have := take_midd (hc K) (hc V) [] (o := 32) (n := 32) (by simp [hc_len, hK]) (by simp [hc_len, hV])
  simpa [prRow] using this
theorem PrB.there (h : PrB w b K V) (hK : K.length = 32) (hV : V.length = 32) : w.there b 0 64 := fun j hj => by
  refine ⟨?_, Joins.unfrozen_of_block h _⟩
  rw [cell_of_row _ _ _ _ _ _ h]
  have := prRow_len hK hV
  simp [this]; omega
theorem PrB.put (h : PrB w b K V) (hK : K.length = 32) (hV : V.length = 32) {K' V' : List Int} (hK' : K'.length = 32) (hV' : V'.length = 32) : PrB (w.setCells b 0 (prRow K' V')) b K' V' := by
  have := setCells_block (b := b) (t := 72) (fr := (0, 0)) (prRow K' V') (o := 0) (w := w) (pre := []) (mid := prRow K V) (post := []) (by simpa [PrB] using h) rfl (by rw [prRow_len hK hV, prRow_len hK' hV'])
  simpa [PrB] using this
end
theorem pr_one (K V : List Int) : (prRow K V).toArray.all (·.oneCell') = true := by
  refine all_oneCell_toArray fun u hu => ?_
  simp only [prRow, List.mem_append, List.not_mem_nil, or_false] at hu
  rcases hu with hu | hu
  all_goals exact (Array.all_eq_true_iff_forall_mem.1 (hc_one _)) u (by simpa using hu)
@[go_sem ↓] theorem load64p (a : Addr) : loadCellsFrom a 0 64 #[] = rowLoad a 64 := rfl
theorem run_storeCells_pr {P : Program} (w : World) (b : Nat) (K V : List Int) (hK : K.length = 32) (hV : V.length = 32) (ht : w.there b 0 64) : (storeCells ⟨b, 0, none⟩ (prRow K V) 0).run P w = .ok () (w.setCells b 0 (prRow K V)) := by
  have e := prRow_len hK hV
  have := run_storeCells_cells (P := P) b 0 (prRow K V) 0 w (fun j hj => by rw [e] at hj; simpa using (ht j hj).1) (fun j hj => by rw [e] at hj; simpa using (ht j hj).2) (fun u hu => (Array.all_eq_true_iff_forall_mem.1 (pr_one K V)) u (by simpa using hu))
  simpa using this
@[go_sem ↓] theorem Tryd.zero_pr (w : World) : (zeroValue 72).run Tryd.prog w = .ok (.agg (prRow zero32 zero32).toArray) w := by kernel_rfl
def prPlaces : List (Nat × Nat) := [(0, 32), (32, 32)]
theorem Tryd.built_pr (ps : List (Nat × Value)) : Tryd.prog.built 72 ps = Instr.fill (fun i => prPlaces.toArray[i]?) (prRow zero32 zero32).toArray ps := by kernel_rfl
@[go_sem ↓] theorem Tryd.build_pr (ps : Array (Nat × Value)) : Instr.build 72 ps = rowBuild 72 ps := rfl
@[go_sem] theorem Tryd.run_pr (w : World) (K V : List Int) (hK : K.length = 32) (hV : V.length = 32) :
    (rowBuild 72 #[(0, .agg (hc K).toArray), (1, .agg (hc V).toArray)]).run Tryd.prog w = .ok (.agg (prRow K V).toArray) w := by
  refine run_build w _ _ _ ?_
  rw [Tryd.built_pr]
  show Instr.fill _ _ ((0, Value.agg (hc K).toArray) :: (1, Value.agg (hc V).toArray) :: []) = _
  have z1 : prRow zero32 zero32 = [] ++ (hc zero32 ++ (hc zero32 ++ [])) := rfl
  rw [z1, fill_at (i := 0) (off := 0) (size := 32) (vs := hc K) rfl rfl rfl rfl (by rw [hc_len, hK])]
  rw [List.nil_append]
  rw [fill_at (i := 1) (off := 32) (size := 32) (vs := hc V) rfl rfl (by rw [hc_len, hK]) rfl (by rw [hc_len, hV])]
  rfl
/-- A new row of one element. -/
theorem run_bs_one {P : Program} {t e : TypeId} {n : Nat} {zs xs : List Value} (w : World) (ht : P.underlying t = some (.slice e)) (hs : (sizeOf e).run P w = .ok n w) (hz : (zeroValue e).run P w = .ok (.agg zs.toArray) w)
    (hn : 0 < n) (hm : n ≤ 65536) (hx : xs.length = n) :
    (Instr.buildSlice t 1 #[(0, .agg xs.toArray)]).run P w = .ok (.slice (some ⟨w.heap.size, 0, none⟩) 1 1) (w.alloc (.cells xs.toArray e)) := by
  have hf : ∀ m : List Value, m.length = n → Instr.fill (fun i => some (i * n, n)) m.toArray #[(0, Value.agg xs.toArray)].toList = some xs.toArray := by
    intro m hm
    have := fill_at (place := fun i => some (i * n, n)) (rest := []) (i := 0) (off := 0) (size := n) (v := .agg xs.toArray) (pre := []) (mid := m) (post := []) (vs := xs) (by simp) rfl rfl hm hx
    simpa [Instr.fill] using this
  have hf' := hf ((Array.range (1 * n)).map (zs.toArray[· % zs.toArray.size]!)).toList (by simp)
  rw [Array.toArray_toList] at hf'
  unfold Instr.buildSlice
  simp only [Sem.run_bind, run_underlying ht, Result.andThen_ok, hs]
  rw [if_neg (by omega)]
  rw [if_neg (by omega)]
  simp only [Sem.run_bind, Sem.run_pure, Result.andThen_ok, hz, Value.cells]
  rw [hf']
  simp [newRow]
def rowNew (t : TypeId) (ps : Array (Nat × Value)) : Sem Value := Instr.buildSlice t 1 ps
@[go_sem ↓] theorem Tryd.slice_pr (ps : Array (Nat × Value)) : Instr.buildSlice 30 1 ps = rowNew 30 ps := rfl
@[go_sem] theorem Tryd.run_slice_pr (w : World) (K V : List Int) (hK : K.length = 32) (hV : V.length = 32) :
    (rowNew 30 #[(0, .agg (prRow K V).toArray)]).run Tryd.prog w = .ok (.slice (some ⟨w.heap.size, 0, none⟩) 1 1) (w.alloc (.cells (prRow K V).toArray 72)) :=
  run_bs_one w Tryd.underlying30 (by kernel_rfl) (Tryd.zero_pr w) (n := 64) (by decide) (by decide) (prRow_len hK hV)
end Go.Proofs.YtjlodnecdngdfaaDoor
namespace Go.Proofs.YtjlodnecdngdfaaDoor
set_option maxRecDepth 100000
open Go.RowKit

abbrev Fp := Nat → Prop
/-- The blocks of F are the same in both worlds. -/
def Agr (F : Fp) (w w' : World) : Prop := ∀ g, F g → g < w.heap.size → w'.heap[g]? = w.heap[g]?
theorem Agr.below {F : Fp} {w w' : World} (h : Below w.heap.size w w') : Agr F w w' := fun g _ hg => h.block g hg
theorem Agr.chg {F : Fp} {w w' : World} {K : List Nat} (h : Chg w w' K) (hF : ∀ g, F g → g ∉ K) : Agr F w w' := fun g hf hg => h.block g hg (hF g hf)
/-- A way of reading a value out of a row of cells, that hangs on the blocks of F alone. -/
structure FpOk {α : Type} (P : World → Fp → α → List Value → Prop) : Prop where
  mono : ∀ {w F G x r}, P w F x r → (∀ g, F g → G g) → P w G x r
  agr : ∀ {w w' F x r}, P w F x r → Agr F w w' → P w' F x r
  lt : ∀ {w F x r}, P w F x r → P w (fun g => F g ∧ g < w.heap.size) x r
theorem FpOk.on {α : Type} {P : World → Fp → α → List Value → Prop} (k : FpOk P) {w w' : World} {F : Fp} {x : α} {r : List Value} (h : P w F x r) (hb : Below w.heap.size w w') : P w' F x r := k.agr h (Agr.below hb)

/-! ### Bytes -/
def RdF (w : World) (F : Fp) (v : Value) (xs : List Int) : Prop := Rd w v xs ∧ (xs ≠ [] → ∀ g, v.ownBlock = some g → F g)
theorem RdF.rd {w : World} {F : Fp} {v : Value} {xs : List Int} (h : RdF w F v xs) : Rd w v xs := h.1
theorem RdF.mono {w : World} {F G : Fp} {v : Value} {xs : List Int} (h : RdF w F v xs) (hG : ∀ g, F g → G g) : RdF w G v xs := ⟨h.1, fun hn g hg => hG g (h.2 hn g hg)⟩
theorem RdF.agr {w w' : World} {F : Fp} {v : Value} {xs : List Int} (h : RdF w F v xs) (ha : Agr F w w') : RdF w' F v xs := by
  refine ⟨?_, h.2⟩
  obtain ⟨q, c, rfl, hq | ⟨b, off, rfl, hx⟩⟩ := h.1
  · exact ⟨q, c, rfl, .inl hq⟩
  · refine ⟨_, c, rfl, ?_⟩
    by_cases hn : xs = []
    · exact .inl hn
    · refine .inr ⟨b, off, rfl, fun i hi => ?_⟩
      have hb := lt_of_cell (hx i hi)
      rw [World.cell?_of_block (w := w) (ha b (h.2 hn b rfl) hb)]
      exact hx i hi
theorem RdF.lt {w : World} {F : Fp} {v : Value} {xs : List Int} (h : RdF w F v xs) : RdF w (fun g => F g ∧ g < w.heap.size) v xs := ⟨h.1, fun hn g hg => ⟨h.2 hn g hg, h.1.lt hn hg⟩⟩
theorem RdF.on {w w' : World} {F : Fp} {v : Value} {xs : List Int} (h : RdF w F v xs) (hb : Below w.heap.size w w') : RdF w' F v xs := h.agr (Agr.below hb)
/-- What was there reads within what was there. -/
theorem Rd.old {w : World} {v : Value} {xs : List Int} (h : Rd w v xs) : RdF w (fun g => g < w.heap.size) v xs := ⟨h, fun hn _ hg => h.lt hn hg⟩
/-- A cell that holds a slice of bytes. -/
def PBs (w : World) (F : Fp) (xs : List Int) (r : List Value) : Prop := ∃ q c, r = [.slice q xs.length c] ∧ RdF w F (.slice q xs.length c) xs
theorem PBs_ok : FpOk PBs where
  mono := fun ⟨q, c, e, h⟩ hG => ⟨q, c, e, h.mono hG⟩
  agr := fun ⟨q, c, e, h⟩ ha => ⟨q, c, e, h.agr ha⟩
  lt := fun ⟨q, c, e, h⟩ => ⟨q, c, e, h.lt⟩

/-! ### Rows -/
section
variable {α : Type} {P : World → Fp → α → List Value → Prop} {d : α} {n : Nat}
/-- A slice's rows of n cells each. -/
def RwF (n : Nat) (d : α) (P : World → Fp → α → List Value → Prop) (w : World) (F : Fp) (q : Option Addr) (L : List α) : Prop := L = [] ∨ ∃ b off, q = some ⟨b, off, none⟩ ∧ F b ∧ ∀ i, i < L.length → ∃ r, r.length = n ∧ rowOf w b (off + i * n) n = r ∧ P w F (L.getD i d) r
theorem rowOf_lt {w : World} {b o n : Nat} {r : List Value} (hn : 0 < n) (hr : r.length = n) (h : rowOf w b o n = r) : b < w.heap.size := by
  unfold rowOf at h
  cases e : w.heap[b]? with
  | none => rw [e] at h; rw [← h] at hr; simp at hr; omega
  | some x => exact (Array.getElem?_eq_some_iff.1 e).1
theorem rowOf_agr {w w' : World} {b o n : Nat} (h : w'.heap[b]? = w.heap[b]?) : rowOf w' b o n = rowOf w b o n := by unfold rowOf; rw [h]
theorem RwF.mono (k : FpOk P) {w : World} {F G : Fp} {q : Option Addr} {L : List α} (h : RwF n d P w F q L) (hG : ∀ g, F g → G g) : RwF n d P w G q L := by
  rcases h with h | ⟨b, off, e, hb, hx⟩
  · exact .inl h
  · refine .inr ⟨b, off, e, hG b hb, fun i hi => ?_⟩
    obtain ⟨r, h1, h2, h3⟩ := hx i hi
    exact ⟨r, h1, h2, k.mono h3 hG⟩
theorem RwF.agr (k : FpOk P) (hn : 0 < n) {w w' : World} {F : Fp} {q : Option Addr} {L : List α} (h : RwF n d P w F q L) (ha : Agr F w w') : RwF n d P w' F q L := by
  rcases h with h | ⟨b, off, e, hb, hx⟩
  · exact .inl h
  · refine .inr ⟨b, off, e, hb, fun i hi => ?_⟩
    obtain ⟨r, h1, h2, h3⟩ := hx i hi
    exact ⟨r, h1, by rw [rowOf_agr (ha b hb (rowOf_lt hn h1 h2))]; exact h2, k.agr h3 ha⟩
theorem RwF.lt (k : FpOk P) (hn : 0 < n) {w : World} {F : Fp} {q : Option Addr} {L : List α} (h : RwF n d P w F q L) : RwF n d P w (fun g => F g ∧ g < w.heap.size) q L := by
  by_cases h0 : L = []
  · exact .inl h0
  · obtain ⟨b, off, e, hb, hx⟩ := h.resolve_left h0
    refine .inr ⟨b, off, e, ⟨hb, ?_⟩, fun i hi => ?_⟩
    · obtain ⟨r, h1, h2, _⟩ := hx 0 (List.length_pos_iff.2 h0)
      exact rowOf_lt hn h1 h2
    · obtain ⟨r, h1, h2, h3⟩ := hx i hi
      exact ⟨r, h1, h2, k.lt h3⟩
theorem RwF.on (k : FpOk P) (hn : 0 < n) {w w' : World} {F : Fp} {q : Option Addr} {L : List α} (h : RwF n d P w F q L) (hb : Below w.heap.size w w') : RwF n d P w' F q L := h.agr k hn (Agr.below hb)
theorem RwF.nil (w : World) (F : Fp) (q : Option Addr) : RwF n d P w F q [] := .inl rfl
/-- The row at a place. -/
theorem RwF.get {w : World} {F : Fp} {q : Option Addr} {L : List α} (h : RwF n d P w F q L) {i : Nat} (hi : i < L.length) : ∃ b off r, q = some ⟨b, off, none⟩ ∧ F b ∧ r.length = n ∧ rowOf w b (off + i * n) n = r ∧ P w F (L.getD i d) r := by
  have h0 : L ≠ [] := fun e => by rw [e] at hi; simp at hi
  obtain ⟨b, off, e, hb, hx⟩ := h.resolve_left h0
  obtain ⟨r, h1, h2, h3⟩ := hx i hi
  exact ⟨b, off, r, e, hb, h1, h2, h3⟩
/-- A cell that holds such a slice. -/
def PSl (n : Nat) (d : α) (P : World → Fp → α → List Value → Prop) (w : World) (F : Fp) (L : List α) (r : List Value) : Prop := ∃ q c, r = [.slice q L.length c] ∧ RwF n d P w F q L
theorem PSl_ok (k : FpOk P) (hn : 0 < n) : FpOk (PSl n d P) where
  mono := fun ⟨q, c, e, h⟩ hG => ⟨q, c, e, h.mono k hG⟩
  agr := fun ⟨q, c, e, h⟩ ha => ⟨q, c, e, h.agr k hn ha⟩
  lt := fun ⟨q, c, e, h⟩ => ⟨q, c, e, h.lt k hn⟩

/-! ### Rows of one's own -/
/-- The rows that a call has laid by now: all read within F, and none in the rows' own block. -/
structure OwF (n : Nat) (d : α) (P : World → Fp → α → List Value → Prop) (F : Fp) (w W : World) (T : TypeId) (v : Value) (L : List α) (done : List Value) : Prop where
  own : W.ownsRow 0 T n v L.length done
  each : ∀ i, i < L.length → ∃ r, r.length = n ∧ (done.drop (i * n)).take n = r ∧ P W (fun g => F g ∧ v.ownBlock ≠ some g) (L.getD i d) r
  fresh : ∀ g, v.ownBlock = some g → w.heap.size ≤ g
  below : Below w.heap.size w W
variable {F : Fp} {w W W' : World} {T : TypeId} {v : Value} {L : List α} {done : List Value}
theorem OwF.start (hb : Below w.heap.size w W) : OwF n d P F w W T (.slice none 0 0) [] [] := ⟨World.ownsRow_nil W 0 T n, fun i hi => by simp at hi, by simp [Value.ownBlock], hb⟩
theorem OwF.on (k : FpOk P) (h : OwF n d P F w W T v L done) (hb : Below W.heap.size W W') : OwF n d P F w W' T v L done :=
  ⟨own_on h.own hb, fun i hi => by
    obtain ⟨r, h1, h2, h3⟩ := h.each i hi
    exact ⟨r, h1, h2, k.on h3 hb⟩, h.fresh, h.below.trans (hb.mono h.below.size)⟩
theorem OwF.len (h : OwF n d P F w W T v L done) : done.length = L.length * n := h.own.1
theorem OwF.slice (h : OwF n d P F w W T v L done) : ∃ q c, v = .slice q L.length c := own_slice h.own
theorem OwF.rd (k : FpOk P) {q : Option Addr} {m c : Nat} (h : OwF n d P F w W T (.slice q m c) L done) (hF : ∀ g, w.heap.size ≤ g → F g) : RwF n d P W F q L := by
  rcases h.own.2 with ⟨e, h0⟩ | ⟨g, cap, cur, e, _, hg, hnc, hcm, hcs', htake⟩
  · exact .inl (List.eq_nil_of_length_eq_zero h0)
  · simp only [Value.slice.injEq] at e
    obtain ⟨rfl, rfl, rfl⟩ := e
    refine .inr ⟨g, 0, rfl, hF g (h.fresh g rfl), fun j hj => ?_⟩
    obtain ⟨r, h1, h2, h3⟩ := h.each j hj
    refine ⟨r, h1, ?_, k.mono h3 (fun _ h => h.1)⟩
    have hl := h.len
    have hc2 : cur = (done ++ cur.toList.drop (L.length * n)).toArray := by
      apply Array.ext'
      show cur.toList = done ++ cur.toList.drop (L.length * n)
      rw [← htake, List.take_append_drop]
    rw [hc2] at hg
    rw [rowOf_block hg, Nat.zero_add, ← h2]
    have h5 : j * n + n ≤ L.length * n := by rw [← Nat.succ_mul]; exact Nat.mul_le_mul_right n hj
    have e : ((done ++ cur.toList.drop (L.length * n)).drop (j * n)).take n = (done.drop (j * n)).take n := by
      rw [List.drop_append_of_le_length (by omega), List.take_append_of_le_length (by rw [List.length_drop]; omega)]
    rw [← e]
    simp [List.take_drop]
theorem OwF.chg (k : FpOk P) {K : List Nat} (h : OwF n d P F w W T v L done) (hc : Chg W W' K) (hF : ∀ g, F g → g ∉ K) (hv : ∀ g, v.ownBlock = some g → g ∉ K) (hK : ∀ x, x ∈ K → w.heap.size ≤ x) : OwF n d P F w W' T v L done :=
  ⟨own_keep h.own (fun g hg => hc.block g (own_lt h.own hg) (hv g hg)), fun i hi => by
    obtain ⟨r, h1, h2, h3⟩ := h.each i hi
    exact ⟨r, h1, h2, k.agr h3 (Agr.chg hc (fun g hg => hF g hg.1))⟩, h.fresh, h.below.trans (hc.toBelow h.below.size hK)⟩
/-- One more row. -/
theorem OwF.grow (k : FpOk P) {x : α} {r : List Value} {q : Option Addr} {c : Nat} (h : OwF n d P F w W T v L done) (hr : r.length = n) (hp : P W (fun g => F g ∧ v.ownBlock ≠ some g) x r)
    (own : W'.ownsRow 0 T n (.slice q (L.length + 1) c) (L.length + 1) (done ++ r)) (grow : W.grownBy W' v.ownBlock) (fr : (Value.slice q (L.length + 1) c).ownBlock = v.ownBlock ∨ (Value.slice q (L.length + 1) c).ownBlock = some W.heap.size) :
    OwF n d P F w W' T (.slice q (L.length + 1) c) (L ++ [x]) (done ++ r) := by
  have hl := h.len
  have key : ∀ {y : α} {s : List Value}, P W (fun g => F g ∧ v.ownBlock ≠ some g) y s → P W' (fun g => F g ∧ (Value.slice q (L.length + 1) c).ownBlock ≠ some g) y s := fun {y s} hy => by
    have h1 := k.agr (k.lt hy) (w' := W') (fun g hg hlt => grow.block g hlt (fun e => hg.1.2 e.symm))
    refine k.mono h1 (fun g hg => ⟨hg.1.1, fun e => ?_⟩)
    rcases fr with e2 | e2
    · rw [e2] at e; exact hg.1.2 e
    · rw [e2] at e
      have : W.heap.size = g := Option.some.inj e
      omega
  refine ⟨?_, fun i hi => ?_, fun g hg => ?_, ?_⟩
  · rw [List.length_append, List.length_singleton]; exact own
  · rw [List.length_append, List.length_singleton] at hi
    by_cases hil : i < L.length
    · obtain ⟨s, h1, h2, h3⟩ := h.each i hil
      have eg : (L ++ [x]).getD i d = L.getD i d := by simp [List.getD, List.getElem?_append_left hil]
      rw [eg]
      have h5 : i * n + n ≤ L.length * n := by rw [← Nat.succ_mul]; exact Nat.mul_le_mul_right n hil
      refine ⟨s, h1, ?_, key h3⟩
      rw [List.drop_append_of_le_length (by omega), List.take_append_of_le_length (by rw [List.length_drop]; omega)]
      exact h2
    · obtain rfl : i = L.length := by omega
      have eg : (L ++ [x]).getD L.length d = x := by simp [List.getD]
      rw [eg]
      refine ⟨r, hr, ?_, key hp⟩
      rw [← hl, List.drop_left, List.take_of_length_le (by omega)]
  · rcases fr with e | e
    · rw [e] at hg; exact h.fresh g hg
    · rw [e] at hg
      have := h.below.size
      have : W.heap.size = g := Option.some.inj hg
      omega
  · exact h.below.grown grow h.below.size (fun g hg => h.fresh g hg)
/-- What is read outside one's own row is so behind an append. -/
theorem FpOk.grown (k : FpOk P) {G : Fp} {v' : Value} {y : α} {s : List Value} (hy : P W (fun g => G g ∧ v.ownBlock ≠ some g) y s) (grow : W.grownBy W' v.ownBlock) (fr : v'.ownBlock = v.ownBlock ∨ v'.ownBlock = some W.heap.size) : P W' (fun g => G g ∧ v'.ownBlock ≠ some g) y s := by
  have h1 := k.agr (k.lt hy) (w' := W') (fun g hg hlt => grow.block g hlt (fun e => hg.1.2 e.symm))
  refine k.mono h1 (fun g hg => ⟨hg.1.1, fun e => ?_⟩)
  rcases fr with e2 | e2
  · rw [e2] at e; exact hg.1.2 e
  · rw [e2] at e
    have : W.heap.size = g := Option.some.inj e
    omega
theorem RwF.grown (k : FpOk P) (hn : 0 < n) {G : Fp} {v' : Value} {q : Option Addr} {M : List α} (hy : RwF n d P W (fun g => G g ∧ v.ownBlock ≠ some g) q M) (grow : W.grownBy W' v.ownBlock) (fr : v'.ownBlock = v.ownBlock ∨ v'.ownBlock = some W.heap.size) : RwF n d P W' (fun g => G g ∧ v'.ownBlock ≠ some g) q M := by
  obtain ⟨q', c', e, h⟩ := (PSl_ok (d := d) k hn).grown (y := M) (s := [.slice q M.length 0]) ⟨q, 0, rfl, hy⟩ grow fr
  simp only [List.cons.injEq, Value.slice.injEq, and_true] at e
  rw [e.1]
  exact h
/-- What lies elsewhere stays when one's own row grows. -/
theorem OwF.agr {G : Fp} (h : OwF n d P F w W T v L done) (grow : W.grownBy W' v.ownBlock) (hG : ∀ g, G g → v.ownBlock ≠ some g) : Agr G W W' := by
  have _ := h.own
  exact fun g hg hlt => grow.block g hlt (fun e => hG g hg e.symm)
end
/-- A literal slice of one row, as what is appended. -/
theorem src_any {P : Program} {tx e' T : TypeId} {n : Nat} {w : World} {R : List Value} (hk : P.underlying tx = some (.slice e')) (hR : R.length = n) (h1 : ∀ u ∈ R, u.oneCell' = true) : Src P n tx (.slice (some ⟨w.heap.size, 0, none⟩) 1 1) 1 R (w.alloc (.cells R.toArray T)) := by
  refine Src.ofSlice _ hk _ _ _ _ (by rw [hR, Nat.one_mul]) (fun j u hu => ?_) h1
  rw [addr_add, Joins.cell_of_block (heap_alloc_new w (.cells R.toArray T)), Nat.zero_add]
  simpa using hu
end Go.Proofs.YtjlodnecdngdfaaDoor
namespace Go.Proofs.YtjlodnecdngdfaaDoor
open Go.RowKit
open Go.ChangeMaps (setBlock)
set_option maxRecDepth 100000


theorem Tryd.infoPr : (Tryd.prog.info? 72).map (fun i => (i.zero, i.size, i.bytes)) = some (some (.agg (prRow zero32 zero32).toArray), 64, 64) := by kernel_rfl
theorem setBlock_chg (w : World) (r : Nat) (o : Obj) : Chg w (setBlock w r o) [r] :=
  ⟨rfl, rfl, rfl, by simp [setBlock], fun k _ hn => by
    have hne : ¬ r = k := fun e => hn (by simp [e])
    simp [setBlock, hne]⟩
theorem setBlock_there {w : World} {r : Nat} (o : Obj) (h : r < w.heap.size) : (setBlock w r o).heap[r]? = some o := by simp [setBlock, h]
section
variable {P : Program} {w : World} {ops : Array Oper} {rest : List Oper} {o : Oper} {a : Act} {Q : Exit → Act → World → Prop} {E : List En} {r m c : Nat} {seen : Array Nat}
/-- The step of a range over a map. -/
theorem wpList_next_en (hg : o.guard = none) (it : Operand) (hop : o.op = Op.next it false) (hit : a.eval it = .pointer (some ⟨r, 0, none⟩))
    (hr : w.heap[r]? = some (.mapIter (some m) c seen c)) (hb : w.heap[m]? = some (.map (mes E) c)) (hE : EnC E c)
    (hDone : (∀ e ∈ E, seen.contains e.b = true) → wpList P ops Q rest (a.put o.dst (.tuple #[.bool false])) w)
    (hMore : ∀ e ∈ E, seen.contains e.b = false → ∀ w', Chg w w' [r] → w'.heap.size = w.heap.size → w'.heap[r]? = some (.mapIter (some m) c (seen.push e.b) c) → w'.heap[m]? = some (.map (mes E) c) →
      (leftOf (mes E) (seen.push e.b)).size < (leftOf (mes E) seen).size → (Instr.entry (.pointer (some ⟨r, 0, none⟩))).run P w' = .ok (.tuple #[.agg (hc e.k).toArray, .agg (hc e.v).toArray]) w' →
      wpList P ops Q rest (a.put o.dst (.tuple #[.bool true, .agg (hc e.k).toArray, .agg (hc e.v).toArray])) w') :
    wpList P ops Q (o :: rest) a w := by
  refine wpList_plain hg fun K' hK' => ?_
  have hold : ∀ x ∈ (mes E).toList, x.born < c := fun x hx => by
    simp [mes] at hx
    obtain ⟨e, he, rfl⟩ := hx
    exact hE.lt e he
  have hbn : ((mes E).toList.map (·.born)).Nodup := by
    have : (mes E).toList.map (·.born) = E.map (·.b) := by simp [mes, En.me, Function.comp_def]
    rw [this]; exact hE.nd
  unfold Oper.wp
  rcases run_next_at (P := P) w o.type r m c c seen (mes E) c hr hb hold (Nat.le_refl _) with ⟨h0, hrun⟩ | ⟨x, hx, w1, h1, hrun⟩
  · simp [execOp, hop, hit, hrun, Result.andThen]
    refine hK' _ _ (hDone fun e he => ?_)
    exact all_seen (mes E) seen h0 e.me (by simp [mes]; exact ⟨e, he, rfl⟩)
  · obtain ⟨hxm, hxs⟩ := mem_left hx
    have hsh := left_shrinks (mes E) seen x hx
    have hmm := hxm
    simp [mes] at hxm
    obtain ⟨e, he, rfl⟩ := hxm
    simp [execOp, hop, hit, hrun, Result.andThen]
    have hmr : m ≠ r := fun e => by rw [e, hr] at hb; simp at hb
    have hrl : r < w1.heap.size := by
      have := (Array.getElem?_eq_some_iff.1 hr).1
      rcases h1 with rfl | rfl
      · exact this
      · exact this
    have c1 : Chg w w1 [r] := by
      rcases h1 with rfl | rfl
      · exact Chg.refl _ _
      · exact (Chg.refl _ _).drew
    have c2 := c1.trans (setBlock_chg w1 r (.mapIter (some m) c (seen.push e.me.born) c)) (fun g hg _ => hg)
    have hm2 : (setBlock w1 r (.mapIter (some m) c (seen.push e.me.born) c)).heap[m]? = some (.map (mes E) c) := by
      rw [c2.block m (Array.getElem?_eq_some_iff.1 hb).1 (by simpa using hmr)]; exact hb
    refine hK' _ _ (hMore e he hxs _ c2 ?_ (setBlock_there _ hrl) hm2 hsh ?_)
    · have hs : (setBlock w1 r (.mapIter (some m) c (seen.push e.me.born) c)).heap.size = w1.heap.size := by simp [setBlock]
      have hs1 : w1.heap.size = w.heap.size := by
        rcases h1 with rfl | rfl
        · rfl
        · rfl
      exact hs.trans hs1
    · exact run_entry_at (P := P) _ r m c seen (mes E) c e.me (setBlock_there _ hrl) hm2 hmm hbn
end
end Go.Proofs.YtjlodnecdngdfaaDoor
namespace Go.Proofs.YtjlodnecdngdfaaDoor
open Go.RowKit
open Go.ChangeMaps (setBlock)
set_option maxRecDepth 100000

/-- The cells of pairs. -/
def prL (L : List En) : List Value := L.flatMap fun e => prRow e.k e.v
theorem prL_app (L M : List En) : prL (L ++ M) = prL L ++ prL M := by simp [prL]
/-- What slices.SortFunc keeps. -/
def SortP (Srt : List En → Prop) : Prop := ∀ (W : World) (g cap : Nat) (L : List En), EnB L → L.length ≤ 4096 → W.ownsRow 0 72 64 (.slice (some ⟨g, 0, none⟩) L.length cap) L.length (prL L) →
  Calls Tryd.prog 37 #[.slice (some ⟨g, 0, none⟩) L.length cap, .func (.func 38) #[] #[]] W fun e w' => e = .returned (.tuple #[]) ∧ (∃ L' : List En, L'.Perm L ∧ Srt L' ∧ w'.ownsRow 0 72 64 (.slice (some ⟨g, 0, none⟩) L'.length cap) L'.length (prL L')) ∧ Chg W w' [g]
/-- Within Pairs: the iterator, the row so far. -/
structure PrS (w wr : World) (r m : Nat) (E : List En) (c : Nat) (seen : Array Nat) (v : Value) (L : List En) : Prop where
  own : wr.ownsRow 0 72 64 v L.length (prL L)
  it : wr.heap[r]? = some (.mapIter (some m) c seen c)
  below : Below w.heap.size w wr
  sn : seen.toList = L.map (·.b)
  sub : ∀ e ∈ L, e ∈ E
  nd : (L.map (·.b)).Nodup
  ne : v.ownBlock ≠ some r
  fresh : ∀ g, v.ownBlock = some g → w.heap.size ≤ g
  rge : w.heap.size ≤ r
  own0 : v.ownBlock ≠ none
section
variable {w W W' : World} {r m c : Nat} {E L : List En} {seen : Array Nat} {v : Value}
theorem PrS.on (h : PrS w W r m E c seen v L) (hb : Below W.heap.size W W') : PrS w W' r m E c seen v L :=
  ⟨own_on h.own hb, by rw [hb.block r (Array.getElem?_eq_some_iff.1 h.it).1]; exact h.it, h.below.trans (hb.mono h.below.size), h.sn, h.sub, h.nd, h.ne, h.fresh, h.rge, h.own0⟩
theorem PrS.more {W0 : World} (h : PrS w W0 r m E c seen v L) (hbw : Below w.heap.size w W) {e : En} (he : e ∈ E) (hs : seen.contains e.b = false) {s : Array Nat} (hse : s = seen.push e.b) {q : Option Addr} {cp : Nat}
    (own : W'.ownsRow 0 72 64 (.slice q (L.length + 1) cp) (L.length + 1) (prL L ++ prRow e.k e.v)) (grow : W.grownBy W' v.ownBlock)
    (fr : (Value.slice q (L.length + 1) cp).ownBlock = v.ownBlock ∨ (Value.slice q (L.length + 1) cp).ownBlock = some W.heap.size)
    (it : W.heap[r]? = some (.mapIter (some m) c s c)) : PrS w W' r m E c s (.slice q (L.length + 1) cp) (L ++ [e]) := by
  have hrl := (Array.getElem?_eq_some_iff.1 it).1
  have hn : e.b ∉ L.map (·.b) := by
    rw [← h.sn]
    simpa using hs
  refine ⟨by simpa [prL_app, prL] using own, ?_, hbw.grown grow hbw.size (fun g hg => h.fresh g hg), by rw [hse]; simp [h.sn], fun x hx => ?_, ?_, ?_, ?_, h.rge, ?_⟩
  · rw [grow.block r hrl (fun e => h.ne e.symm)]; exact it
  · rcases List.mem_append.1 hx with hx | hx
    · exact h.sub x hx
    · obtain rfl := List.mem_singleton.1 hx; exact he
  · rw [List.map_append, List.nodup_append]
    refine ⟨h.nd, by simp, fun a ha b hb e' => ?_⟩
    simp at hb
    exact hn (by rw [← hb, ← e']; exact ha)
  · rcases fr with e' | e'
    · rw [e']; exact h.ne
    · rw [e']; intro e2; have := Option.some.inj e2; omega
  · intro g hg
    rcases fr with e' | e'
    · rw [e'] at hg; exact h.fresh g hg
    · rw [e'] at hg
      have := Option.some.inj hg
      have := hbw.size
      omega
  · rcases fr with e' | e'
    · rw [e']; exact h.own0
    · rw [e']; simp
theorem PrS.perm (h : PrS w W r m E c seen v L) (hE : EnC E c) (hall : ∀ e ∈ E, seen.contains e.b = true) : L.Perm E := by
  have inj : ∀ x ∈ E, ∀ y ∈ E, x.b = y.b → x = y := by
    have : ∀ (l : List En), (l.map (·.b)).Nodup → ∀ x ∈ l, ∀ y ∈ l, x.b = y.b → x = y := by
      intro l
      induction l with
      | nil => intro _ x hx; cases hx
      | cons a l ih =>
        intro hnd x hx y hy hb
        rw [List.map_cons, List.nodup_cons] at hnd
        rcases List.mem_cons.1 hx with h1 | h1
        · rcases List.mem_cons.1 hy with h2 | h2
          · rw [h1, h2]
          · exact absurd (List.mem_map.2 ⟨y, h2, by rw [← hb, h1]⟩) hnd.1
        · rcases List.mem_cons.1 hy with h2 | h2
          · exact absurd (List.mem_map.2 ⟨x, h1, by rw [hb, h2]⟩) hnd.1
          · exact ih hnd.2 x h1 y h2 hb
    exact this E hE.nd
  have nodup_of : ∀ l : List En, (l.map (·.b)).Nodup → l.Nodup := by
    intro l
    induction l with
    | nil => intro _; exact List.nodup_nil
    | cons a l ih =>
      intro hnd
      rw [List.map_cons, List.nodup_cons] at hnd
      exact List.nodup_cons.2 ⟨fun hm => hnd.1 (List.mem_map.2 ⟨a, hm, rfl⟩), ih hnd.2⟩
  refine (List.perm_ext_iff_of_nodup (nodup_of L h.nd) (nodup_of E hE.nd)).2 fun e => ⟨h.sub e, fun he => ?_⟩
  have h1 := hall e he
  have h2 : e.b ∈ L.map (·.b) := by rw [← h.sn]; simpa using h1
  obtain ⟨x, hx, hb⟩ := List.mem_map.1 h2
  rw [← inj x (h.sub x hx) e he hb]
  exact hx
end
set_option maxHeartbeats 8000000 in
theorem Pairs_of {Srt : List En → Prop} (hS : SortP Srt) {w : World} {p m c : Nat} {E : List En} {top : Option Addr} {bl : List Nat} (hM : MapS w p m E c top bl) (hle : E.length ≤ 4096) :
    Calls Tryd.prog 18 #[.pointer (some ⟨p, 0, none⟩)] w fun e w' => ∃ v L, e = .returned v ∧ L.Perm E ∧ Srt L ∧ w'.ownsRow 0 72 64 v L.length (prL L) ∧ Below w.heap.size w w' ∧ ∀ g, v.ownBlock = some g → w.heap.size ≤ g := by
  obtain ⟨i0, hi, hz0, hz1, hz2⟩ := info_parts Tryd.infoPr
  replace hi := Lib.hid hi
  replace hz0 := Lib.hid hz0
  replace hz1 := Lib.hid hz1
  replace hz2 := Lib.hid hz2
  have HS := Lib.hid hS
  have HM := Lib.hid hM
  have HLE := Lib.hid hle
  have c00 := hM.s.c0
  have hln := run_len_at (P := Tryd.prog) 3 Tryd.underlying53 hM.s.mp
  have hsz : (mes E).size = E.length := by simp [mes]
  rw [hsz] at hln
  clear hS hM hle hsz
  go_enter Tryd.func18, Tryd.ntmps18
  go_wp2_with fail
  refine (made_yes c00).mono ?_
  rintro e wn ⟨rfl, h⟩
  obtain rfl := h.symm
  clear h
  go_wp2_with (refine wpList_make_own _ rfl _ _ _ rfl 0 _ _ _ _ Tryd.underlying30 hi.out hz0.out hz1.out _ _ _ E.length rfl rfl rfl ?b1 ?b2 ?b3 ?_)
  case b1 => rw [hz2.out]; have := HLE.out; omega
  case b2 => unfold maxLen; have := HLE.out; omega
  case b3 => omega
  clear hln
  intro w1 own1 grow1
  have g1 : Below w.heap.size w w1 := (Below.refl _ _).grown grow1 (Nat.le_refl _) (by intro k hk; simp at hk)
  have M1 := HM.out.on g1
  have c01 := M1.s.c0
  have hrg := run_range_map (P := Tryd.prog) w1 53 24 24 m (mes E) c Tryd.underlying53 M1.s.mp
  have b12 : Below w1.heap.size w1 (w1.alloc (.mapIter (some m) c #[] c)) := (Below.refl _ _).alloc (Nat.le_refl _) _
  have S0 : Hid (PrS w (w1.alloc (.mapIter (some m) c #[] c)) w1.heap.size m E c #[] (.slice (some ⟨w.heap.size, 0, none⟩) 0 E.length) []) :=
    Lib.hid ⟨own_on own1 b12, heap_alloc_new w1 _, g1.trans (b12.mono g1.size), rfl, fun e h => (by cases h), List.nodup_nil, by
      have := own_lt own1 (k := w.heap.size) rfl
      simp [Value.ownBlock]; omega, fun g hg => by simp [Value.ownBlock] at hg; omega, g1.size, by simp [Value.ownBlock]⟩
  obtain ⟨r, hr⟩ : ∃ r, w1.heap.size = r := ⟨_, rfl⟩
  rw [hr] at S0 hrg
  clear own1 grow1 g1 M1 b12 c00
  go_wp2_with fail
  clear hrg c01 hr
  go_loopw [3] (fun ov wr => ∃ L seen qo co, ov = .slice qo L.length co ∧ (leftOf (mes E) seen).size + L.length ≤ E.length ∧ Hid (PrS w wr r m E c seen (.slice qo L.length co) L)) (fun _ wr => match wr.heap[r]? with | some (.mapIter _ _ seen _) => (leftOf (mes E) seen).size | _ => 0)
  case atStart => exact ⟨[], #[], _, _, rfl, by
    have h1 : (leftOf (mes E) #[]).size ≤ (mes E).size := by unfold leftOf; exact Array.size_filter_le ..
    have h2 : (mes E).size = E.length := by simp [mes]
    rw [h2] at h1
    exact h1, S0⟩
  case round =>
    clear S0
    obtain ⟨L, seen, qo, co, rfl, hcnt, hS⟩ := hrel
    have HCN := Lib.hid hcnt
    clear hcnt
    have hmp := HM.out.on hS.out.below
    have HMR := Lib.hid hmp.s.mp
    clear hmp
    go_wp2_with (refine wpList_next_en rfl _ rfl rfl hS.out.it HMR.out HM.out.n ?_ ?_)
    · -- all have come
      intro hall
      have hp := hS.out.perm HM.out.n (fun e he => by simpa using hall e he)
      have HP := Lib.hid hp
      have EB : EnB L := ⟨fun e he => HM.out.e.b.ok e (hp.mem_iff.1 he), fun e he => HM.out.e.b.kb e (hp.mem_iff.1 he), fun e he => HM.out.e.b.vb e (hp.mem_iff.1 he)⟩
      obtain ⟨g, rfl⟩ : ∃ g, qo = some ⟨g, 0, none⟩ := by
        rcases hS.out.own.2 with h | ⟨g, cap, cur, h, -⟩
        · exact absurd (by rw [h.1]; rfl) hS.out.own0
        · simp only [Value.slice.injEq] at h
          exact ⟨g, h.1⟩
      have KS := Lib.hid (HS.out _ g co L EB (by rw [hp.length_eq]; exact HLE.out) hS.out.own)
      clear hall hp EB
      go_wp2_with fail
      refine KS.out.mono ?_
      rintro e w5 ⟨rfl, ⟨L', hp', hs', own'⟩, hc'⟩
      have hl : L'.length = L.length := hp'.length_eq
      rw [hl] at own'
      have HP' := Lib.hid hp'
      have HS' := Lib.hid hs'
      have OW := Lib.hid own'
      have HL := Lib.hid hl
      have B5 := Lib.hid (hS.out.below.trans (hc'.toBelow hS.out.below.size (fun k hk => hS.out.fresh k (by obtain rfl := List.mem_singleton.1 hk; rfl))))
      clear hp' hs' own' hc' KS hl
      go_wp2_with fail
      go_ret
      exact ⟨_, L', rfl, HP'.out.trans HP.out, HS'.out, by rw [HL.out]; exact OW.out, B5.out, hS.out.fresh⟩
    · intro e he hs w2 hc2 hsz2 hit2 hmp2 hlt hen
      have lk := (HM.out.e.b.ok e he).1
      have lv := (HM.out.e.b.ok e he).2
      have hse : seen.contains e.b = false := by simpa using hs
      have HSE := Lib.hid hse
      have HE := Lib.hid he
      have HLT := Lib.hid hlt
      have LK := Lib.hid lk
      have LV := Lib.hid lv
      have lhk := hc_len e.k
      have lhv := hc_len e.v
      have z32 := zero32_len
      have B2 := Lib.hid (hS.out.below.trans (hc2.toBelow hS.out.below.size (fun k hk => by obtain rfl := List.mem_singleton.1 hk; exact hS.out.rge)))
      have O2 := Lib.hid (own_chg2 hS.out.own hc2 (fun k hk hm => hS.out.ne (by obtain rfl := List.mem_singleton.1 hm; exact hk)))
      have IT2 := Lib.hid hit2
      have Z1 := (HashAt.new w2 zero32).alloc (.cells (hc zero32).toArray 24)
      have Z2 := HashAt.new (w2.alloc (.cells (hc zero32).toArray 24)) zero32
      rw [World.size_alloc] at Z2
      have th1 := Z1.there zero32_len
      have P1 := Z1.put zero32_len lk
      have Z2b := Z2.others (k := w2.heap.size) (by omega) 0 (hc e.k)
      have th2 := Z2b.there zero32_len
      have P2 := Z2b.put zero32_len lv
      have P1b := P1.others (k := w2.heap.size + 1) (by omega) 0 (hc e.v)
      have r1 := P1b.row lk
      have r2 := P2.row lv
      have B5 := Lib.hid (below_setCells' (B := w2.heap.size) (w2.heap.size + 1) (by omega) (hc e.v) 0 (below_setCells' (B := w2.heap.size) w2.heap.size (Nat.le_refl _) (hc e.k) 0 (((Below.refl w2.heap.size w2).alloc (Nat.le_refl _) (.cells (hc zero32).toArray 24)).alloc (by simp) (.cells (hc zero32).toArray 24))))
      clear he hs hse hlt hc2 hsz2 hit2 hmp2 Z1 Z2 P1 Z2b P2 P1b HMR
      go_upto_region 7 with fail
      clear th1 th2 hen
      have hprl := prRow_len (K := e.k) (V := e.v) lk lv
      obtain ⟨w5, hw5⟩ : ∃ x, (((w2.alloc (.cells (hc zero32).toArray 24)).alloc (.cells (hc zero32).toArray 24)).setCells w2.heap.size 0 (hc e.k)).setCells (w2.heap.size + 1) 0 (hc e.v) = x := ⟨_, rfl⟩
      rw [hw5] at r1 r2 B5 ⊢
      clear hw5
      have b6 : Below w5.heap.size w5 (w5.alloc (.cells (prRow e.k e.v).toArray 72)) := (Below.refl _ _).alloc (Nat.le_refl _) _
      have O6 := Lib.hid (own_on (own_on O2.out B5.out) b6)
      have SR := Lib.hid (src_any (P := Tryd.prog) (T := 72) (n := 64) (w := w5) (R := prRow e.k e.v) Tryd.underlying30 hprl (fun u hu => (Array.all_eq_true_iff_forall_mem.1 (pr_one e.k e.v)) u (by simpa using hu)))
      have B6 := Lib.hid ((B2.out.trans (B5.out.mono B2.out.size)).trans (b6.mono (Nat.le_trans B2.out.size B5.out.size)))
      have IT6 : Hid ((w5.alloc (.cells (prRow e.k e.v).toArray 72)).heap[r]? = some (.mapIter (some m) c (seen.push e.b) c)) := by
        show _ = _
        have h1 := (Array.getElem?_eq_some_iff.1 IT2.out).1
        rw [b6.block r (by have := B5.out.size; omega), B5.out.block r h1]; exact IT2.out
      have hrs := Tryd.run_slice_pr w5 e.k e.v lk lv
      have HZS : Hid ((Value.agg (prRow zero32 zero32).toArray).cells.size = 64) := by
        show (prRow zero32 zero32).toArray.size = 64
        have := prRow_len zero32_len zero32_len
        simpa using this
      clear b6 B5 O2 IT2
      go_wp2_with (at_builtin; refine wpList_append_row rfl _ _ rfl Tryd.underlying30 hi.out hz0.out hz1.out hz2.out HZS.out O6.out SR.out ?b1 ?b2 ?_)
      case b1 => unfold maxLen; have := HLE.out; have := HCN.out; have := HLT.out; omega
      case b2 => have := HLE.out; have := HCN.out; have := HLT.out; omega
      intro q8 k8 w8 own8 grow8 fr8
      have S8 := Lib.hid (hS.out.more B6.out HE.out HSE.out rfl own8 grow8 (by rw [World.size_alloc]; exact fr8) IT6.out)
      clear own8 grow8 fr8
      go_wp2_with fail
      go_roundw
      case rel => exact ⟨L ++ [e], seen.push e.b, q8, k8, by rw [List.length_append, List.length_singleton], by have := HCN.out; have := HLT.out; rw [List.length_append, List.length_singleton]; omega, by rw [List.length_append, List.length_singleton]; exact S8⟩
      case measure => rw [S8.out.it, hS.out.it]; exact HLT.out
end Go.Proofs.YtjlodnecdngdfaaDoor
namespace Go.Proofs.YtjlodnecdngdfaaDoor
open Go.RowKit
set_option maxRecDepth 100000

/-- bytes.Compare, on bytes as numbers. -/
def cmpB (a b : List Int) : Int := Lib.compareBytes (Lib.bytesOf a) (Lib.bytesOf b)
theorem run_cmp {P : Program} {w : World} {a b : Addr} {xs ys : List Int} {c d : Nat} (hx : ∀ j x, xs[j]? = some x → w.cell? (a.add j) = some (.int .u8 x)) (hy : ∀ j x, ys[j]? = some x → w.cell? (b.add j) = some (.int .u8 x)) :
    (Extern.BytealgCompare.compare #[.slice (some a) xs.length c, .slice (some b) ys.length d]).run P w = .ok (.int .i64 (cmpB xs ys)) w := by
  change Sem.run P (do pure (goInt (Extern.BytealgCompare.cmp (← Extern.Bytes.bytesOf (.slice (some a) xs.length c)) (← Extern.Bytes.bytesOf (.slice (some b) ys.length d))))) w = _
  simp only [Extern.Bytes.bytesOf, Sem.run_bind, Lib.run_loadBytesX _ xs a _ hx, Lib.run_loadBytesX _ ys b _ hy, Result.andThen, Sem.run_pure]
  rw [Lib.cmp_eq]
  simp [cmpB, goInt]
theorem Compare_any {w : World} {a b : Addr} {xs ys : List Int} {c d : Nat} (hx : ∀ j x, xs[j]? = some x → w.cell? (a.add j) = some (.int .u8 x)) (hy : ∀ j x, ys[j]? = some x → w.cell? (b.add j) = some (.int .u8 x)) :
    Calls Tryd.prog 39 #[.slice (some a) xs.length c, .slice (some b) ys.length d] w fun e w' => e = .returned (.int .i64 (cmpB xs ys)) ∧ w' = w := by
  have HR := Lib.hid (run_cmp (P := Tryd.prog) (c := c) (d := d) hx hy)
  clear hx hy
  go_enter Tryd.func39, Tryd.ntmps39
  go_wp2_with fail
  rw [run_callFunc_extern Tryd.func56 (by kernel_rfl) (by kernel_rfl) (by kernel_rfl) (e := Extern.BytealgCompare.compare) (by kernel_rfl), HR.out]
  simp only [Result.andThen]
  rw [Oper.upon_value]
  go_wp2_with fail
  go_ret
  exact ⟨rfl, rfl⟩
set_option maxHeartbeats 4000000 in
theorem cmpPairs_any {Ky V G U : List Int} (w : World) (hKy : Ky.length = 32) (hV : V.length = 32) (hG : G.length = 32) (hU : U.length = 32) :
    Calls Tryd.prog 38 #[.agg (prRow Ky V).toArray, .agg (prRow G U).toArray] w fun e w' => e = .returned (.int .i64 (cmpB Ky G)) ∧ w' = ((w.alloc (.cells (prRow Ky V).toArray 72)).alloc (.cells (prRow G U).toArray 72)).drew := by
  have LK := Lib.hid hKy
  have LG := Lib.hid hG
  have CA : Hid (∀ j x, Ky[j]? = some x → ((w.alloc (.cells (prRow Ky V).toArray 72)).alloc (.cells (prRow G U).toArray 72)).drew.cell? ((⟨w.heap.size, 0, none⟩ : Addr).add j) = some (.int .u8 x)) := fun j x hj => by
    have hlt := (List.getElem?_eq_some_iff.1 hj).1
    have hb : ((w.alloc (.cells (prRow Ky V).toArray 72)).alloc (.cells (prRow G U).toArray 72)).drew.heap[w.heap.size]? = some (.cells (prRow Ky V).toArray 72 (0, 0)) := by
      show ((w.alloc (.cells (prRow Ky V).toArray 72)).alloc (.cells (prRow G U).toArray 72)).heap[w.heap.size]? = _
      rw [Below.heap_alloc _ _ _ (by simp)]
      exact heap_alloc_new w _
    rw [addr_add, Joins.cell_of_block hb]
    simp only [Nat.zero_add, prRow, List.append_nil, List.getElem?_toArray]
    rw [List.getElem?_append_left (by rw [hc_len]; exact hlt)]
    simp [hc, hj]
  have CB : Hid (∀ j x, G[j]? = some x → ((w.alloc (.cells (prRow Ky V).toArray 72)).alloc (.cells (prRow G U).toArray 72)).drew.cell? ((⟨w.heap.size + 1, 0, none⟩ : Addr).add j) = some (.int .u8 x)) := fun j x hj => by
    have hlt := (List.getElem?_eq_some_iff.1 hj).1
    have hb : ((w.alloc (.cells (prRow Ky V).toArray 72)).alloc (.cells (prRow G U).toArray 72)).drew.heap[w.heap.size + 1]? = some (.cells (prRow G U).toArray 72 (0, 0)) := by
      have := heap_alloc_new (w.alloc (.cells (prRow Ky V).toArray 72)) (.cells (prRow G U).toArray 72)
      rw [World.size_alloc] at this
      exact this
    rw [addr_add, Joins.cell_of_block hb]
    simp only [Nat.zero_add, prRow, List.append_nil, List.getElem?_toArray]
    rw [List.getElem?_append_left (by rw [hc_len]; exact hlt)]
    simp [hc, hj]
  have l1 := prRow_len hKy hV
  have l2 := prRow_len hG hU
  have o1 := pr_one Ky V
  have o2 := pr_one G U
  clear hKy hV hG hU
  go_enter Tryd.func38, Tryd.ntmps38
  go_wp2_with fail
  refine wp_region_held_drew (S := fun W => W = ((w.alloc (.cells (prRow Ky V).toArray 72)).alloc (.cells (prRow G U).toArray 72)).drew) (by kernel_rfl) (rfl) (fun h0 => ?_)
  refine wpAnyH_take (i := 0) (v := ?_) (by rw [List.getElem?_toArray]; rfl) (by kernel_rfl) (by kernel_rfl) (by kernel_rfl) (by exact fun _ _ _ h => h) (Or.inl ⟨by rfl, ?_⟩) h0 ?_
  rotate_left
  · intro W hW
    go_simp
    all_goals with_reducible rfl
  try simp only [Act.put, List.setIfInBounds_toArray, List.set_cons_zero, List.set_cons_succ]
  refine wpAnyH_take (i := 1) (v := ?_) (by rw [List.getElem?_toArray]; rfl) (by kernel_rfl) (by kernel_rfl) (by kernel_rfl) (by exact fun _ _ _ h => h) (Or.inl ⟨by rfl, ?_⟩) h0 ?_
  rotate_left
  · intro W hW
    go_simp
    all_goals with_reducible rfl
  try simp only [Act.put, List.setIfInBounds_toArray, List.set_cons_zero, List.set_cons_succ]
  refine wpAnyH_take (i := 2) (v := ?_) (by rw [List.getElem?_toArray]; rfl) (by kernel_rfl) (by kernel_rfl) (by kernel_rfl) (by exact fun _ _ _ h => h) (Or.inl ⟨by rfl, ?_⟩) h0 ?_
  rotate_left
  · intro W hW
    go_simp
    all_goals with_reducible rfl
  try simp only [Act.put, List.setIfInBounds_toArray, List.set_cons_zero, List.set_cons_succ]
  refine wpAnyH_take (i := 3) (v := ?_) (by rw [List.getElem?_toArray]; rfl) (by kernel_rfl) (by kernel_rfl) (by kernel_rfl) (by exact fun _ _ _ h => h) (Or.inl ⟨by rfl, ?_⟩) h0 ?_
  rotate_left
  · intro W hW
    go_simp
    all_goals with_reducible rfl
  try simp only [Act.put, List.setIfInBounds_toArray, List.set_cons_zero, List.set_cons_succ]
  refine wpAnyH_ready (rs := [4]) (by kernel_rfl) (by simp) ?_
  refine AllReadyH.cons (by rw [List.getElem?_toArray]; rfl) (fun K hK => ?_) AllReadyH.nil
  rw [if_pos (by rfl)]
  have hkk := Compare_any (w := ((w.alloc (.cells (prRow Ky V).toArray 72)).alloc (.cells (prRow G U).toArray 72)).drew) (a := ⟨w.heap.size, 0, none⟩) (b := ⟨w.heap.size + 1, 0, none⟩) (c := 32) (d := 32) CA.out CB.out
  rw [LK.out, LG.out] at hkk
  have HKC := Lib.hid hkk
  clear hkk
  go_wp2_with fail
  refine HKC.out.mono ?_
  rintro e w' ⟨rfl, rfl⟩
  go_wp2_with fail
  refine hK.out _ _ (by first | rfl | trivial) (fun h0 => ?_)
  clear hK K
  try simp only [Act.put, List.setIfInBounds_toArray, List.set_cons_zero, List.set_cons_succ]
  refine wpAnyH_take (i := 5) (v := ?_) (by rw [List.getElem?_toArray]; rfl) (by kernel_rfl) (by kernel_rfl) (by kernel_rfl) (by exact fun _ _ _ h => h) (Or.inl ⟨by rfl, ?_⟩) h0 ?_
  rotate_left
  · intro W hW
    go_simp
    all_goals with_reducible rfl
  try simp only [Act.put, List.setIfInBounds_toArray, List.set_cons_zero, List.set_cons_succ]
  refine wpAnyH_done (by kernel_rfl) ?_ _
  go_wp2_with fail
  go_ret
  exact ⟨rfl, rfl⟩
end Go.Proofs.YtjlodnecdngdfaaDoor
namespace Go.Proofs.YtjlodnecdngdfaaDoor
open Go.Shelf Go.RowKit Go.Lib Go.Sort
set_option maxRecDepth 100000
shelf_lay_g SlLaysF0.n6 Slsf 6 at Tryd 37 as Tryd.sortPr
#check @Tryd.sortPr
end Go.Proofs.YtjlodnecdngdfaaDoor
namespace Go.Proofs.YtjlodnecdngdfaaDoor
open Go.Shelf Go.RowKit Go.Lib Go.Sort
set_option maxRecDepth 100000

theorem cb_neg : ∀ a b : List UInt8, Lib.compareBytes b a = - Lib.compareBytes a b
  | [], [] => rfl
  | [], _ :: _ => rfl
  | _ :: _, [] => rfl
  | a :: xs, b :: ys => by
    have ih := cb_neg xs ys
    simp only [Lib.compareBytes, UInt8.lt_iff_toNat_lt]
    by_cases h1 : a.toNat < b.toNat
    · have h2 : ¬ b.toNat < a.toNat := by omega
      rw [if_neg h2, if_pos h1, if_pos h1]; rfl
    · by_cases h2 : b.toNat < a.toNat
      · rw [if_pos h2, if_neg h1, if_pos h2]
      · rw [if_neg h2, if_neg h1, if_neg h1, if_neg h2, ih]
theorem cb_le : ∀ a b c : List UInt8, Lib.compareBytes a b ≤ 0 → Lib.compareBytes b c ≤ 0 → Lib.compareBytes a c ≤ 0
  | [], _, [], _, _ => by simp [Lib.compareBytes]
  | [], _, _ :: _, _, _ => by simp [Lib.compareBytes]
  | _ :: _, [], _, h, _ => by simp [Lib.compareBytes] at h
  | _ :: _, _ :: _, [], _, h => by simp [Lib.compareBytes] at h
  | a :: xs, b :: ys, c :: zs, h1, h2 => by
    have ih := cb_le xs ys zs
    simp only [Lib.compareBytes, UInt8.lt_iff_toNat_lt] at h1 h2 ⊢
    repeat' split at h1
    all_goals (repeat' split at h2)
    all_goals (repeat' split)
    all_goals first | omega | exact ih h1 h2
theorem cmp_neg (a b : List Int) : cmpB b a = - cmpB a b := cb_neg _ _
theorem cmp_le {a b c : List Int} (h1 : cmpB a b ≤ 0) (h2 : cmpB b c ≤ 0) : cmpB a c ≤ 0 := cb_le _ _ _ h1 h2
/-- A pair as the sort sees it. -/
def SPr : Type := { e : En // e.k.length = 32 ∧ e.v.length = 32 }
instance : Inhabited SPr := ⟨⟨⟨zero32, zero32, 0⟩, zero32_len, zero32_len⟩⟩
def sEnc (x : SPr) : List Value := prRow x.1.k x.1.v
def sCf (x y : SPr) : Int := cmpB x.1.k y.1.k
theorem sLt (x y : SPr) : ltOf sCf x y = decide (cmpB x.1.k y.1.k < 0) := rfl
theorem sSwo : SWO (ltOf sCf) where
  irrefl x := by
    rw [sLt]
    have := cmp_neg x.1.k x.1.k
    simp; omega
  trans x y z h1 h2 := by
    rw [sLt] at *
    simp at *
    have a := cmp_neg x.1.k z.1.k
    have b := cmp_neg x.1.k y.1.k
    refine Classical.byContradiction fun hn => ?_
    have := cmp_le (a := y.1.k) (b := z.1.k) (c := x.1.k) (by omega) (by omega)
    omega
  ntrans x y z h1 h2 := by
    rw [sLt] at *
    simp at *
    have a := cmp_neg x.1.k y.1.k
    have b := cmp_neg y.1.k z.1.k
    have c := cmp_neg x.1.k z.1.k
    have := cmp_le (a := z.1.k) (b := y.1.k) (c := x.1.k) (by omega) (by omega)
    omega
theorem flat_get {α : Type} {f : α → List Value} {k : Nat} (hk : ∀ x, (f x).length = k) (h0 : 0 < k) : ∀ (L : List α) (t : Nat), t < L.length * k → ∃ x, L[t / k]? = some x ∧ (L.flatMap f)[t]? = (f x)[t % k]?
  | [], t, h => by simp at h
  | a :: L, t, h => by
    by_cases hlt : t < k
    · refine ⟨a, by rw [Nat.div_eq_of_lt hlt]; rfl, ?_⟩
      rw [List.flatMap_cons, List.getElem?_append_left (by rw [hk]; exact hlt), Nat.mod_eq_of_lt hlt]
    · have e : (L.length + 1) * k = L.length * k + k := by rw [Nat.add_mul, Nat.one_mul]
      rw [List.length_cons, e] at h
      obtain ⟨x, h1, h2⟩ := flat_get hk h0 L (t - k) (by omega)
      have hd : t / k = (t - k) / k + 1 := by rw [Nat.div_eq_sub_div h0 (by omega)]
      have hm : t % k = (t - k) % k := by rw [Nat.mod_eq_sub_mod (by omega)]
      refine ⟨x, by rw [hd]; exact h1, ?_⟩
      rw [List.flatMap_cons, List.getElem?_append_right (by rw [hk]; omega), hk, h2, hm]
theorem flatK_list {α : Type} [Inhabited α] {f : α → List Value} {k : Nat} (hk : ∀ x, (f x).length = k) (h0 : 0 < k) (d : Array α) : (flatK f k d).toList = d.toList.flatMap f := by
  have hl : (d.toList.flatMap f).length = d.size * k := by
    have : ∀ L : List α, (L.flatMap f).length = L.length * k := by
      intro L
      induction L with
      | nil => simp
      | cons a L ih => rw [List.flatMap_cons, List.length_append, ih, hk, List.length_cons, Nat.add_mul, Nat.one_mul, Nat.add_comm]
    rw [this]; simp
  apply List.ext_getElem?
  intro t
  by_cases ht : t < d.size * k
  · obtain ⟨x, h1, h2⟩ := flat_get hk h0 d.toList t (by simpa using ht)
    rw [h2]
    have h3 := get_flatK f k d t ht
    have h4 : t < (flatK f k d).toList.length := by simpa using ht
    have hm : t % k < (f x).length := by rw [hk]; exact Nat.mod_lt _ h0
    have hdx : d[t / k]! = x := by
      have : d[t / k]? = some x := by simpa using h1
      simp [getElem!_def, this]
    rw [hdx] at h3
    rw [List.getElem?_eq_getElem h4, List.getElem?_eq_getElem hm]
    congr 1
    have h5 : (flatK f k d)[t]! = (flatK f k d).toList[t] := by simp [getElem!_pos, ht]
    have h6 : (f x)[t % k]! = (f x)[t % k] := getElem!_pos (f x) (t % k) hm
    rw [← h5, ← h6, h3]
  · rw [List.getElem?_eq_none (by simpa using ht), List.getElem?_eq_none (by rw [hl]; omega)]
end Go.Proofs.YtjlodnecdngdfaaDoor
namespace Go.Proofs.YtjlodnecdngdfaaDoor
open Go.Shelf Go.RowKit Go.Lib Go.Sort
set_option maxRecDepth 100000

/-- Pairs by rising keys. -/
def SrtE (L : List En) : Prop := L.Pairwise fun a b => cmpB a.k b.k ≤ 0
theorem sEnc_len (x : SPr) : (sEnc x).length = 64 := prRow_len x.2.1 x.2.2
theorem sEnc_one (x : SPr) : ∀ v ∈ sEnc x, v.oneCell' = true := fun u hu => (Array.all_eq_true_iff_forall_mem.1 (pr_one x.1.k x.1.v)) u (by simpa [sEnc] using hu)
theorem sEnc_flat (l : List SPr) : l.flatMap sEnc = prL (l.map (·.1)) := by
  unfold prL
  rw [List.flatMap_map]
  rfl
theorem sCmp (blk off size : Nat) (w : World) : CmpLays Tryd.prog 38 #[] sEnc 64 sCf blk off size w := fun m os dk _ x y => by
  refine (cmpPairs_any (Ky := x.1.k) (V := x.1.v) (G := y.1.k) (U := y.1.v) (sortWorldK sEnc 64 w blk off m dk os) x.2.1 x.2.2 y.2.1 y.2.2).mono ?_
  rintro e w' ⟨rfl, rfl⟩
  exact ⟨rfl, 1, _, by rw [alloc_eq_grow, alloc_eq_grow, grow_grow]; rfl⟩
theorem putCells_take {F cur : Array Value} (h : F.size ≤ cur.size) : (putCells id 0 F cur).toList.take F.size = F.toList := by
  apply List.ext_getElem?
  intro t
  by_cases ht : t < F.size
  · rw [List.getElem?_take, if_pos ht]
    have h1 : t < (putCells id 0 F cur).size := by simp [putCells]; omega
    have h2 : (putCells id 0 F cur).toList[t]? = some (putCells id 0 F cur)[t] := by simp [h1]
    rw [h2]
    have h3 : F.toList[t]? = some F[t] := by simp [ht]
    rw [h3]
    congr 1
    simp [putCells, ht]
  · rw [List.getElem?_eq_none (by simp; omega), List.getElem?_eq_none (by simpa using ht)]
theorem sort_any {W : World} {g cap : Nat} {L : List En} (hb : EnB L) (hle : L.length ≤ 4096) (hown : W.ownsRow 0 72 64 (.slice (some ⟨g, 0, none⟩) L.length cap) L.length (prL L)) :
    Calls Tryd.prog 37 #[.slice (some ⟨g, 0, none⟩) L.length cap, .func (.func 38) #[] #[]] W fun e w' => e = .returned (.tuple #[]) ∧ (∃ L' : List En, L'.Perm L ∧ SrtE L' ∧ w'.ownsRow 0 72 64 (.slice (some ⟨g, 0, none⟩) L'.length cap) L'.length (prL L')) ∧ Chg W w' [g] := by
  obtain ⟨hlen, h | ⟨g', cap', cur, hv, -, hg, hn, hcm, hcs, htk⟩⟩ := hown
  · exact absurd h.1 (by simp)
  simp only [Value.slice.injEq, Option.some.injEq, Addr.mk.injEq, and_true, true_and] at hv
  obtain ⟨rfl, rfl⟩ := hv
  obtain ⟨d, hd⟩ : ∃ d : Array SPr, d.toList.map (·.1) = L := ⟨(L.attach.map fun x => (⟨x.1, hb.ok x.1 x.2⟩ : SPr)).toArray, by
    show (L.attach.map fun x => (⟨x.1, hb.ok x.1 x.2⟩ : SPr)).map (·.1) = L
    rw [List.map_map]
    exact List.attach_map_subtype_val L⟩
  have hds : d.size = L.length := by rw [← hd]; simp
  have hF : (flatK sEnc 64 d).toList = prL L := by rw [flatK_list sEnc_len (by decide), sEnc_flat, hd]
  have hgl := (Array.getElem?_eq_some_iff.1 hg).1
  have hH : HoldsK sEnc 64 W g 0 d := fun j hj => by
    refine ⟨?_, Joins.unfrozen_of_block hg _⟩
    have hj' : j < d.size * 64 := by simpa using hj
    rw [Joins.cell_of_block hg, Nat.zero_add]
    have h1 : cur[j]? = (prL L)[j]? := by
      rw [← htk, List.getElem?_take, if_pos (by rw [← hds]; exact hj')]; simp
    rw [h1, ← hF]
    simp [getElem!_pos, hj']
  have eg : ∀ args w, (callFunc 38 args).run Tryd.prog w = .ok (.enter 38 args) w := enters_of Tryd.func38 (by kernel_rfl) rfl
  have hcon := AnyQ.slices_SortFunc Tryd.sortPr 64 (fun w => by kernel_rfl) (fun w => by kernel_rfl) sEnc sEnc_len sEnc_one sCf sSwo 38 #[] g 0 cap d W eg (sCmp g 0 d.size W) hH hgl (by rw [hds]; omega)
  rw [hds] at hcon
  change Calls Tryd.prog 37 _ _ _ at hcon
  refine hcon.mono ?_
  rintro e w' ⟨rfl, d', n, os, ⟨hs', -, hperm⟩, hsrt, rfl⟩
  have hx : ∀ a : Array SPr, a.extract 0 a.size = a := fun a => by simp
  have hperm' : d'.toList.Perm d.toList := by
    have e1 : d'.extract 0 L.length = d' := by rw [← hds, ← hs']; exact hx d'
    have e2 : d.extract 0 L.length = d := by rw [← hds]; exact hx d
    rw [e1, e2] at hperm
    exact hperm
  have hds' : d'.size = L.length := by rw [hs', hds]
  have hl' : (d'.toList.map (·.1)).length = L.length := by simp [hds']
  have hF' : (flatK sEnc 64 d').toList = prL (d'.toList.map (·.1)) := by rw [flatK_list sEnc_len (by decide), sEnc_flat]
  have hg' : (sortWorldK sEnc 64 W g 0 n d' os).heap[g]? = some (.cells (putCells id 0 (flatK sEnc 64 d') cur) 72 (0, 0)) := by
    unfold sortWorldK putRowK putRow
    rw [heap_grow_old _ _ (by simp [mapBlock, Sort.ahead]; exact hgl)]
    simp [mapBlock, Sort.ahead, Array.getElem?_modify, hg, onCells]
  have hFs : (flatK sEnc 64 d').size = L.length * 64 := by simp [hds']
  refine ⟨rfl, ⟨d'.toList.map (·.1), by rw [← hd]; exact hperm'.map _, ?_, ?_⟩, ?_⟩
  · unfold SrtE
    rw [List.pairwise_map, List.pairwise_iff_getElem]
    intro i j hi hj hij
    have hi' : i < d'.size := by simpa using hi
    have hj' : j < d'.size := by simpa using hj
    have := hsrt i j (Nat.zero_le _) hij (by rw [← hds']; exact hj')
    rw [sLt] at this
    simp [getElem!_pos, hi', hj'] at this
    have h2 := cmp_neg d'[i].1.k d'[j].1.k
    simp only [Array.getElem_toList]
    omega
  · rw [hl']
    refine ⟨by rw [← hF']; simp [hds'], .inr ⟨g, cap, _, rfl, Nat.zero_le _, hg', hn, hcm, by simp [putCells, hcs], ?_⟩⟩
    rw [← hF', ← hFs]
    exact putCells_take (by rw [hFs, hcs]; exact Nat.mul_le_mul_right 64 hn)
  · refine ⟨rfl, rfl, rfl, ?_, fun k hk hne => ?_⟩
    · have := size_sortWorldK_c sEnc 64 W g 0 n d' os
      exact this
    · have hne' : ¬ g = k := fun e => hne (by simp [e])
      unfold sortWorldK putRowK putRow
      rw [heap_grow_old _ _ (by simp [mapBlock, Sort.ahead]; exact hk)]
      simp [mapBlock, Sort.ahead, Array.getElem?_modify, hne']
/-- slices.SortFunc keeps what Pairs asks of it. -/
theorem sortP : SortP SrtE := fun _ _ _ _ hb hle hown => sort_any hb hle hown
/-- Pairs of any map. -/
theorem Pairs_all {w : World} {p m c : Nat} {E : List En} {top : Option Addr} {bl : List Nat} (hM : MapS w p m E c top bl) (hle : E.length ≤ 4096) :
    Calls Tryd.prog 18 #[.pointer (some ⟨p, 0, none⟩)] w fun e w' => ∃ v L, e = .returned v ∧ L.Perm E ∧ SrtE L ∧ w'.ownsRow 0 72 64 v L.length (prL L) ∧ Below w.heap.size w w' ∧ ∀ g, v.ownBlock = some g → w.heap.size ≤ g := Pairs_of sortP hM hle
end Go.Proofs.YtjlodnecdngdfaaDoor
namespace Go.Proofs.YtjlodnecdngdfaaDoor
set_option maxRecDepth 100000
open Go.ChangeShapes Go.WideShapes Go.ChangeAt Go.RowKit Go.Deep

theorem u8_bounds {x : Int} (h : (Lit.int .u8 x).wf = true) : 0 ≤ x ∧ x < 256 := by
  have : 0 ≤ x ∧ x ≤ 255 := by simpa [Lit.wf, IntKind.min, IntKind.max, IntKind.signed, IntKind.bits] using h
  omega

section
variable {H : Type} {enc : TypeId × Value → H} {w : World} {base : Nat} {held : Bool}
end
end Go.Proofs.YtjlodnecdngdfaaDoor
namespace Go.Proofs.YtjlodnecdngdfaaDoor
open Go.RowKit
set_option maxRecDepth 100000

/-- A slice of the call's own: xs, and behind them in its room 55 and 56. -/
structure LentAt (w : World) (v : Value) (xs : List Int) (B : Nat) : Prop where
  own : ∃ g c, v = .slice (some ⟨g, 0, none⟩) xs.length c ∧ xs.length + 2 ≤ c ∧ B ≤ g ∧ w.ownsRow 0 5 1 (.slice (some ⟨g, 0, none⟩) (xs.length + 2) c) (xs.length + 2) (bc (xs ++ [55, 56]))


theorem old {w W : World} (hb : Below w.heap.size w W) {p : Addr} {v : Value} (hc : w.cell? p = some v) : W.cell? p = some v := by
  rw [hb.cell (World.block_lt_of_cell? w p hc)]; exact hc
theorem LentAt.on {w w' : World} {v : Value} {xs : List Int} {B : Nat} (h : LentAt w v xs B) (hb : Below w.heap.size w w') : LentAt w' v xs B := by
  obtain ⟨g, c, e, h1, h2, h3⟩ := h.own
  exact ⟨g, c, e, h1, h2, own_on h3 hb⟩
theorem LentAt.tail {w : World} {v : Value} {xs : List Int} {B : Nat} (h : LentAt w v xs B) : ∃ g c, v = .slice (some ⟨g, 0, none⟩) xs.length c ∧ xs.length + 2 ≤ c ∧ w.cell? ⟨g, xs.length, none⟩ = some (.int .u8 55) ∧ w.cell? ⟨g, xs.length + 1, none⟩ = some (.int .u8 56) := by
  obtain ⟨g, c, rfl, h1, h2, h3⟩ := h.own
  have hr := rd_of_row (by simpa using h3 : w.ownsRow 0 5 1 (.slice (some ⟨g, 0, none⟩) (xs.length + 2) c) (xs.length + 2) (bc (xs ++ [55, 56])))
  obtain ⟨q', c', e, h0 | ⟨b, off, rfl, hc⟩⟩ := hr
  · simp at h0
  · simp only [Value.slice.injEq, Option.some.injEq, Addr.mk.injEq, and_true] at e
    obtain ⟨⟨rfl, rfl⟩, -, -⟩ := e
    have c5 := hc xs.length (by simp)
    have c6 := hc (xs.length + 1) (by simp)
    rw [Nat.zero_add] at c5 c6
    exact ⟨g, c, rfl, h1, by rw [c5]; simp [List.getD], by rw [c6]; simp [List.getD]⟩

end Go.Proofs.YtjlodnecdngdfaaDoor
namespace Go.Proofs.YtjlodnecdngdfaaDoor
set_option maxRecDepth 100000
open Go.ChangeShapes Go.WideShapes Go.ChangeAt Go.RowKit Go.Deep

section
variable {H : Type} {enc : TypeId × Value → H} {w : World} {base : Nat} {held : Bool}
end
end Go.Proofs.YtjlodnecdngdfaaDoor
namespace Go.Proofs.YtjlodnecdngdfaaDoor
set_option maxRecDepth 100000
open Go.ChangeShapes Go.WideShapes Go.ChangeAt Go.RowKit Go.Deep

section
variable {H : Type} {enc : TypeId × Value → H} {w : World} {base : Nat} {held : Bool}
theorem mapM_memB {α β : Type} {f : α → Option β} : ∀ {L : List α} {xs : List β}, L.mapM f = some xs → ∀ i ∈ L, ∃ y, f i = some y
  | [], _, _, i, hi => by simp at hi
  | a :: L, xs, h, i, hi => by
    rw [List.mapM_cons] at h
    simp only [bind, Option.bind_eq_some_iff, pure, Option.some.injEq] at h
    obtain ⟨y, hy, ys, hys, _⟩ := h
    rcases List.mem_cons.1 hi with rfl | hi
    · exact ⟨y, hy⟩
    · exact mapM_memB hys i hi
theorem trod_hashB {t e : TypeId} {P : Program} {spare : Nat → Bool} {fuel : Nat} {cs : List Value} {x : DataW H × List MemPlace} (ht : P.underlying t = some (.array 32 e)) (he : P.underlying e = some (.int .u8)) (hC : P.cellsOf t = 32) (h1 : P.cellsOf e = 1)
    (h : DataW.trod enc P w base spare held fuel t cs = some x) : ∃ F : List Int, F.length = 32 ∧ cs = hc F ∧ Bytes F := by
  cases fuel with
  | zero => simp [DataW.trod] at h
  | succ m =>
    rw [DataW.trod_step] at h
    unfold DataW.trodStep at h
    simp only [ht, h1, hC, Nat.mul_one] at h
    split at h
    · rename_i hl
      simp only [Option.map_eq_some_iff] at h
      obtain ⟨ys, hy, _⟩ := h
      have key : ∀ i, i < 32 → ∃ a, cs[i]? = some (.int .u8 a) ∧ 0 ≤ a ∧ a < 256 := by
        intro i hi
        obtain ⟨y, hy⟩ := mapM_memB hy i (by simp [hi])
        obtain ⟨a, ea, _, wa⟩ := DataW.trod_int he hy
        refine ⟨a, ?_, u8_bounds wa⟩
        have := congrArg (fun l => l[0]?) ea
        simpa [List.getElem?_take, List.getElem?_drop] using this
      refine ⟨cs.map fun v => match v with | .int _ q => q | _ => 0, by simp [hl], ?_, ?_⟩
      · apply List.ext_getElem?
        intro i
        by_cases hi : i < 32
        · obtain ⟨a, e0, _⟩ := key i hi
          simp [hc, e0]
        · rw [List.getElem?_eq_none (by omega), List.getElem?_eq_none (by simp [hc]; omega)]
      · intro z hz
        obtain ⟨v, hv, rfl⟩ := List.mem_map.1 hz
        obtain ⟨i, hi, rfl⟩ := List.getElem_of_mem hv
        obtain ⟨a, e0, ha⟩ := key i (by omega)
        rw [List.getElem?_eq_getElem hi, Option.some.injEq] at e0
        rw [e0]
        exact ha
    · simp at h
theorem open_hashB {r : Reach} {b0 : Nat} {v : Value} {d : DataW H} {p : List MemPlace} (hv : Value.okWide Tryd.prog w r b0 24 v) (h : DataW.Trod enc Tryd.prog w base (fun _ => true) held 24 v d p) :
    ∃ F : List Int, F.length = 32 ∧ v = .agg (hc F).toArray ∧ Bytes F := by
  obtain ⟨cs, rfl, _, _⟩ : ∃ cs, v = .agg cs ∧ cs.size = Tryd.prog.cellsOf 24 ∧ Row.okWide Tryd.prog w r b0 24 cs := by
    simpa [Value.okWide, Tryd.underlying24] using hv
  obtain ⟨fuel, hf⟩ := h
  obtain ⟨F, hF, e, hb⟩ := trod_hashB Tryd.underlying24 Tryd.underlying5 (by kernel_rfl) (by kernel_rfl) hf
  exact ⟨F, hF, by rw [← e]; simp [Value.cells], hb⟩
end
end Go.Proofs.YtjlodnecdngdfaaDoor
