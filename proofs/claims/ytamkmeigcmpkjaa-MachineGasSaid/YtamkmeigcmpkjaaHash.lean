/-
  Rows of cells in the midst of a block, as a walk reads and writes them; a hash's cells; '==' on hashes.
-/
import Derived.Test.YtamkmeigcmpkjaaEq
import Derived.Deep.MidRow
import Derived.Deep.WholeRow
import Derived.Lib.Hide
import Derived.Lib.SmallJoins
import Derived.StillTailTactics
import Derived.BigQuiet
import Derived.Deep.QuietTactic
namespace Go.Proofs.Ytamkmeigcmpkjaa
open Go.RowKit

/-- n cells of block b from offset o on. -/
def rowOf (w : World) (b o n : Nat) : List Value := match w.heap[b]? with
  | some (.cells cs _ _) => (cs.extract o (o + n)).toList
  | _ => []

theorem rowOf_block {w : World} {b : Nat} {cs : Array Value} {t : TypeId} {fr : Nat × Nat} (h : w.heap[b]? = some (.cells cs t fr)) (o n : Nat) : rowOf w b o n = (cs.extract o (o + n)).toList := by
  simp [rowOf, h]

@[simp, go_sem] theorem rowOf_drew (w : World) (b o n : Nat) : rowOf w.drew b o n = rowOf w b o n := rfl
@[simp, go_sem] theorem there_drew (w : World) (b o n : Nat) : w.drew.there b o n = w.there b o n := by simp

theorem range_rowOf (w : World) (b o n : Nat) : w.rangeAt b o (rowOf w b o n) := by
  intro j v hv
  unfold rowOf at hv
  split at hv
  · rename_i cs t fr h
    exact World.rangeAt_of_block h o n j v hv
  · simp at hv

theorem run_load_rowOf {P : Program} (w : World) (b o : Nat) (ty : TypeId) (d : TypeDesc) {n : Nat} (hu : P.underlying ty = some d) (hd : d.isRow = true) (hi : (P.info? ty).map (·.size) = some n) (hn : (rowOf w b o n).length = n) :
    (Instr.loadAt ty (.pointer (some ⟨b, o, none⟩))).run P w = .ok (.agg (rowOf w b o n).toArray) w :=
  run_loadAt_mid w b o ty _ d (range_rowOf w b o n) hu hd (by rw [hi, hn])

/-- The same load, kept shut: a walk would open it cell by cell. -/
def rowLoad (a : Addr) (n : Nat) : Sem (Array Value) := loadCellsFrom a 0 n #[]
@[go_sem ↓] theorem load32 (a : Addr) : loadCellsFrom a 0 32 #[] = rowLoad a 32 := rfl
@[go_sem] theorem run_rowLoad {P : Program} (w : World) (b o n : Nat) (hn : (rowOf w b o n).length = n) :
    (rowLoad ⟨b, o, none⟩ n).run P w = .ok (rowOf w b o n).toArray w := by
  have := run_loadCells_list (P := P) w ⟨b, o, none⟩ (rowOf w b o n) (fun j v hv => by rw [Addr.add_mid]; exact range_rowOf w b o n j v hv)
  rw [hn] at this
  exact this
def rowBuild (t : TypeId) (ps : Array (Nat × Value)) : Sem Value := Instr.build t ps

/-- A hash's cells. -/
def hc (F : List Int) : List Value := F.map (Value.int .u8)
@[go_sem] theorem hc_len (F : List Int) : (hc F).length = F.length := by simp [hc]
def zero32 : List Int := [0, 0, 0, 0, 0, 0, 0, 0, 0, 0, 0, 0, 0, 0, 0, 0, 0, 0, 0, 0, 0, 0, 0, 0, 0, 0, 0, 0, 0, 0, 0, 0]
@[go_sem] theorem zero32_len : zero32.length = 32 := by simp [zero32]
theorem hc_one (F : List Int) : (hc F).toArray.all (·.oneCell') = true := by
  rw [Array.all_eq_true_iff_forall_mem]
  intro v hv
  simp [hc] at hv
  obtain ⟨x, _, rfl⟩ := hv
  rfl

@[go_sem] theorem run_storeCells_hash {P : Program} (w : World) (b o : Nat) (F : List Int) (ht : w.there b o F.length) : (storeCells ⟨b, o, none⟩ (hc F) 0).run P w = .ok () (w.setCells b o (hc F)) := by
  have := run_storeCells_cells (P := P) b o (hc F) 0 w (fun j hj => by rw [hc_len] at hj; simpa using (ht j hj).1) (fun j hj => by rw [hc_len] at hj; simpa using (ht j hj).2) (fun v hv => (Array.all_eq_true_iff_forall_mem.1 (hc_one F)) v (by simpa using hv))
  simpa using this

/-! ### What a store of many cells leaves -/
theorem setCells_block {b : Nat} {t : TypeId} {fr : Nat × Nat} : ∀ (vs : List Value) {o : Nat} {w : World} {pre mid post : List Value}, w.heap[b]? = some (.cells (pre ++ (mid ++ post)).toArray t fr) → pre.length = o → mid.length = vs.length →
    (w.setCells b o vs).heap[b]? = some (.cells (pre ++ (vs ++ post)).toArray t fr)
  | [], o, w, pre, mid, post, h, _, hm => by
    obtain rfl : mid = [] := by simpa using hm
    exact h
  | v :: vs, o, w, pre, [], post, h, _, hm => by simp at hm
  | v :: vs, o, w, pre, m :: mid, post, h, hp, hm => by
    have h1 : (w.setCell ⟨b, o, none⟩ v).heap[b]? = some (.cells ((pre ++ [v]) ++ (mid ++ post)).toArray t fr) := by
      rw [Joins.block_setCell h v]
      congr 2
      apply Array.ext'
      simp [hp.symm]
    have := setCells_block vs (o := o + 1) h1 (by simp [hp]) (by simpa using hm)
    rw [World.setCells, this]
    simp
theorem setCells_other {b c : Nat} (hne : c ≠ b) : ∀ (vs : List Value) (o : Nat) (w : World), (w.setCells b o vs).heap[c]? = w.heap[c]?
  | [], _, _ => rfl
  | v :: vs, o, w => by
    rw [World.setCells, setCells_other hne vs (o + 1) _, Below.heap_setCell _ _ _ _ hne]
theorem size_setCells (b : Nat) : ∀ (vs : List Value) (o : Nat) (w : World), (w.setCells b o vs).heap.size = w.heap.size
  | [], _, _ => rfl
  | v :: vs, o, w => by rw [World.setCells, size_setCells b vs (o + 1) _]; simp [World.setCell]
theorem below_setCells' {B : Nat} {a : World} (b : Nat) (hb : B ≤ b) : ∀ (vs : List Value) (o : Nat) {w : World}, Below B a w → Below B a (w.setCells b o vs)
  | [], _, _, h => h
  | v :: r, o, _, h => below_setCells' b hb r (o + 1) (h.setCell (p := ⟨b, o, none⟩) hb v)


/-! ### A composite's cells -/
theorem list_fold_put (o : Nat) : ∀ (xs : List Value) (k : Nat) (pre mid post : List Value), pre.length = o + k → mid.length = xs.length →
    (xs.zipIdx k).foldl (fun (cs : Array Value) (p : Value × Nat) => cs.setIfInBounds (o + p.2) p.1) (pre ++ (mid ++ post)).toArray = (pre ++ (xs ++ post)).toArray
  | [], k, pre, mid, post, _, hm => by
    obtain rfl : mid = [] := by simpa using hm
    simp
  | x :: xs, k, pre, m :: mid, post, hp, hm => by
    have ih := list_fold_put o xs (k + 1) (pre ++ [x]) mid post (by simp; omega) (by simpa using hm)
    simp only [List.zipIdx_cons, List.foldl_cons]
    have e : (pre ++ (m :: mid ++ post)).toArray.setIfInBounds (o + k) x = (pre ++ [x] ++ (mid ++ post)).toArray := by
      apply Array.ext'
      simp [hp.symm]
    rw [e, ih]
    simp
  | x :: xs, k, pre, [], post, _, hm => by simp at hm

theorem fold_put (o n : Nat) (xs pre mid post : List Value) (hp : pre.length = o) (hm : mid.length = n) (hx : xs.length = n) :
    xs.toArray.zipIdx.foldl (fun (cs : Array Value) (p : Value × Nat) => cs.setIfInBounds (o + p.2) p.1) (pre ++ (mid ++ post)).toArray = (pre ++ (xs ++ post)).toArray := by
  have := list_fold_put o xs 0 pre mid post (by omega) (by omega)
  simpa using this
end Go.Proofs.Ytamkmeigcmpkjaa
