/-
  The machine's state in memory: a block of 21 cells, its stack a row of its own; the small methods.; What is read within some blocks (a footprint): bytes, rows of any length; rows of one's own that are appended to.; Small lemmas on rows.; The machine's pop, push, pay and fetch.; The machine's pay and fetch; the closure that tells an instruction.; The machine's fetch; the closure that tells an instruction.; A step keeps a state's ranges.
-/
import Derived.Laws.OwnMore
import Derived.StillTailTactics
import Derived.BigQuiet
import Derived.Deep.QuietTactic
import Derived.Deep.AppendSrc
import Derived.Deep.CutRange
import Derived.Test.YtnllcmcahfkmaaaDoorMp1
import Derived.Test.YtnllcmcahfkmaaaDoorMp2
namespace Go.Proofs.YtnllcmcahfkmaaaDoor
set_option maxRecDepth 100000
open Go.RowKit

def wcs (xs : List Int) : List Value := xs.map (Value.int .u64)
@[simp] theorem wcs_len (xs : List Int) : (wcs xs).length = xs.length := by simp [wcs]
theorem wcs_append (xs ys : List Int) : wcs (xs ++ ys) = wcs xs ++ wcs ys := by simp [wcs]
theorem wcs_one (xs : List Int) : ∀ u ∈ wcs xs, u.oneCell' = true := by
  intro u hu
  obtain ⟨x, _, rfl⟩ := List.mem_map.1 hu
  rfl
theorem wcs_set (xs : List Int) (i : Nat) (x : Int) : (wcs xs).set i (.int .u64 x) = wcs (xs.set i x) := by simp [wcs, List.map_set]
theorem wcs_get {xs : List Int} {i : Nat} (h : i < xs.length) : (wcs xs)[i]? = some (.int .u64 (xs.getD i 0)) := by simp [wcs, List.getD, h]
def U64s (xs : List Int) : Prop := ∀ x ∈ xs, 0 ≤ x ∧ x < 18446744073709551616
theorem U64s.get {xs : List Int} (h : U64s xs) (i : Nat) : 0 ≤ xs.getD i 0 ∧ xs.getD i 0 < 18446744073709551616 := by
  by_cases hi : i < xs.length
  · have e : xs.getD i 0 = xs[i] := by simp [List.getD, hi]
    rw [e]
    exact h _ (List.getElem_mem hi)
  · have e : xs.getD i 0 = 0 := by simp [List.getD, Nat.not_lt.1 hi]
    rw [e]; omega
theorem own_cut {w : World} {b : Nat} {e : TypeId} {q : Option Addr} {n c m : Nat} {xs : List Value} (h : w.ownsRow b e 1 (.slice q n c) n xs) (hm : m ≤ n) : w.ownsRow b e 1 (.slice q m c) m (xs.take m) := by
  obtain ⟨hl, h | ⟨g, cap, cur, e1, h1, h2, h3, h4, h5, h6⟩⟩ := h
  · obtain ⟨e1, rfl⟩ := h
    simp only [Value.slice.injEq] at e1
    obtain ⟨rfl, -, rfl⟩ := e1
    obtain rfl : m = 0 := by omega
    exact ⟨by simp, .inl ⟨rfl, rfl⟩⟩
  · simp only [Value.slice.injEq] at e1
    obtain ⟨rfl, -, rfl⟩ := e1
    refine ⟨by rw [List.length_take]; omega, .inr ⟨g, c, cur, rfl, h1, h2, by omega, h4, h5, ?_⟩⟩
    rw [← h6, List.take_take]
    congr 1
    omega

/-- The cells of a state. -/
def stRow (s : Ms) (q : Option Addr) (c : Nat) : List Value := .int .i64 s.pc :: .int .u64 s.gas :: .int .i64 s.st :: .int .i64 s.e :: .slice q s.stk.length c :: wcs s.wds
/-- Its ranges. -/
structure Ms.ok (s : Ms) : Prop where
  gas : 0 ≤ s.gas ∧ s.gas < 18446744073709551616
  stk : U64s s.stk
  wds : U64s s.wds
  w16 : s.wds.length = 16
  len : s.stk.length ≤ 1000000000000
/-- The state s lies in block p, its stack is a row of its own; what was there in a is as it was. -/
structure McS (a w : World) (p : Nat) (s : Ms) : Prop where
  ex : ∃ q c, w.heap[p]? = some (.cells (stRow s q c).toArray 34 (0, 0)) ∧ w.ownsRow 0 23 1 (.slice q s.stk.length c) s.stk.length (wcs s.stk) ∧ ∀ g, (Value.slice q s.stk.length c).ownBlock = some g → a.heap.size ≤ g
  pl : a.heap.size ≤ p
  below : Below a.heap.size a w
section
variable {a w w' : World} {p : Nat} {s : Ms}
theorem McS.on (h : McS a w p s) (hb : Below w.heap.size w w') : McS a w' p s := by
  obtain ⟨q, c, h1, h2, h3⟩ := h.ex
  refine ⟨⟨q, c, ?_, own_on h2 hb, h3⟩, h.pl, h.below.trans (hb.mono h.below.size)⟩
  rw [hb.block _ (Array.getElem?_eq_some_iff.1 h1).1]; exact h1
theorem McS.lt (h : McS a w p s) : p < w.heap.size := by
  obtain ⟨q, c, h1, h2, h3⟩ := h.ex
  exact (Array.getElem?_eq_some_iff.1 h1).1
/-- A store into a cell that is not the stack's. -/
theorem McS.put (h : McS a w p s) {k : Nat} {v : Value} {s' : Ms} (hs : s'.stk = s.stk) (hk : ∀ q c, (stRow s q c).set k v = stRow s' q c) : McS a (w.setCell ⟨p, k, none⟩ v) p s' := by
  obtain ⟨q, c, h1, h2, h3⟩ := h.ex
  refine ⟨⟨q, c, ?_, ?_, by rw [hs]; exact h3⟩, h.pl, ?_⟩
  · rw [Joins.block_setCell h1 v, List.setIfInBounds_toArray, hk]
  · rw [hs]
    exact ownsRow_setCell_other h2 (own_ne h2 h1 (by decide)) v
  · exact (Chg.setCell (S := []) (Chg.below h.below (Nat.le_refl _) []) (p := ⟨p, k, none⟩) (.inr h.pl) v).toBelow (Nat.le_refl _) (fun _ h => by cases h)
theorem McS.pc (h : McS a w p s) (x : Int) : McS a (w.setCell ⟨p, 0, none⟩ (.int .i64 x)) p { s with pc := x } := h.put (s' := { s with pc := x }) rfl (fun _ _ => rfl)
theorem McS.gas (h : McS a w p s) (x : Int) : McS a (w.setCell ⟨p, 1, none⟩ (.int .u64 x)) p { s with gas := x } := h.put (s' := { s with gas := x }) rfl (fun _ _ => rfl)
theorem McS.st (h : McS a w p s) (x : Int) : McS a (w.setCell ⟨p, 2, none⟩ (.int .i64 x)) p { s with st := x } := h.put (s' := { s with st := x }) rfl (fun _ _ => rfl)
theorem McS.err (h : McS a w p s) (x : Int) : McS a (w.setCell ⟨p, 3, none⟩ (.int .i64 x)) p { s with e := x } := h.put (s' := { s with e := x }) rfl (fun _ _ => rfl)
theorem McS.word (h : McS a w p s) (i : Nat) (x : Int) : McS a (w.setCell ⟨p, 5 + i, none⟩ (.int .u64 x)) p { s with wds := s.wds.set i x } := h.put (s' := { s with wds := s.wds.set i x }) rfl (fun _ _ => by
  rw [Nat.add_comm]
  show _ :: _ :: _ :: _ :: _ :: (wcs s.wds).set i _ = _
  rw [wcs_set]
  rfl)
/-- A store of another stack. -/
theorem McS.stack {q q' : Option Addr} {c c' : Nat} {xs : List Int} (h1 : w.heap[p]? = some (.cells (stRow s q c).toArray 34 (0, 0))) (pl : a.heap.size ≤ p) (hb : Below a.heap.size a w)
    (own : w.ownsRow 0 23 1 (.slice q' xs.length c') xs.length (wcs xs)) (fr : ∀ g, (Value.slice q' xs.length c').ownBlock = some g → a.heap.size ≤ g) : McS a (w.setCell ⟨p, 4, none⟩ (.slice q' xs.length c')) p { s with stk := xs } := by
  refine ⟨⟨q', c', ?_, ?_, fr⟩, pl, ?_⟩
  · rw [Joins.block_setCell h1 _, List.setIfInBounds_toArray]
    rfl
  · exact ownsRow_setCell_other own (own_ne own h1 (by decide)) _
  · exact (Chg.setCell (S := []) (Chg.below hb (Nat.le_refl _) []) (p := ⟨p, 4, none⟩) (.inr pl) _).toBelow (Nat.le_refl _) (fun _ h => by cases h)
/-- What the cells hold. -/
structure McC (w : World) (p : Nat) (s : Ms) (q : Option Addr) (c : Nat) : Prop where
  blk : w.heap[p]? = some (.cells (stRow s q c).toArray 34 (0, 0))
  own : w.ownsRow 0 23 1 (.slice q s.stk.length c) s.stk.length (wcs s.stk)
theorem McC.c0 {q : Option Addr} {c : Nat} (h : McC w p s q c) : w.cell? ⟨p, 0, none⟩ = some (.int .i64 s.pc) := (Joins.cell_of_block h.blk 0).trans rfl
theorem McC.c1 {q : Option Addr} {c : Nat} (h : McC w p s q c) : w.cell? ⟨p, 1, none⟩ = some (.int .u64 s.gas) := (Joins.cell_of_block h.blk 1).trans rfl
theorem McC.c2 {q : Option Addr} {c : Nat} (h : McC w p s q c) : w.cell? ⟨p, 2, none⟩ = some (.int .i64 s.st) := (Joins.cell_of_block h.blk 2).trans rfl
theorem McC.c3 {q : Option Addr} {c : Nat} (h : McC w p s q c) : w.cell? ⟨p, 3, none⟩ = some (.int .i64 s.e) := (Joins.cell_of_block h.blk 3).trans rfl
theorem McC.c4 {q : Option Addr} {c : Nat} (h : McC w p s q c) : w.cell? ⟨p, 4, none⟩ = some (.slice q s.stk.length c) := (Joins.cell_of_block h.blk 4).trans rfl
theorem McC.word {q : Option Addr} {c : Nat} (h : McC w p s q c) {i : Nat} (hi : i < s.wds.length) : w.cell? ⟨p, 5 + i, none⟩ = some (.int .u64 (s.wds.getD i 0)) := by
  rw [Joins.cell_of_block h.blk, List.getElem?_toArray, Nat.add_comm]
  exact wcs_get hi
theorem McC.un {q : Option Addr} {c : Nat} (h : McC w p s q c) (i : Nat) : w.frozen? ⟨p, i, none⟩ = false := Joins.unfrozen_of_block h.blk i
theorem McC.at {q : Option Addr} {c : Nat} (h : McC w p s q c) {i : Nat} (hi : i < s.stk.length) : ∃ g, q = some ⟨g, 0, none⟩ ∧ w.cell? ⟨g, i, none⟩ = some (.int .u64 (s.stk.getD i 0)) ∧ w.frozen? ⟨g, i, none⟩ = false := by
  obtain ⟨g, cap, e⟩ := Joins.ownsRow_form h.own (by omega)
  simp only [Value.slice.injEq] at e
  obtain ⟨rfl, -, rfl⟩ := e
  refine ⟨g, rfl, ?_, h.own.frozenAt i⟩
  rw [h.own.cellAt i (by omega)]
  exact wcs_get hi
end
/-- Blocks that are not rows of numbers, and not the state's, stay. -/
def Kept (p : Nat) (w w' : World) : Prop := ∀ g cs T fr, w.heap[g]? = some (.cells cs T fr) → g ≠ p → T ≠ 23 → w'.heap[g]? = some (.cells cs T fr)
theorem Kept.refl (p : Nat) (w : World) : Kept p w w := fun _ _ _ _ h _ _ => h
theorem Kept.trans {p : Nat} {a b c : World} (h : Kept p a b) (k : Kept p b c) : Kept p a c := fun g cs T fr h1 h2 h3 => k g cs T fr (h g cs T fr h1 h2 h3) h2 h3
theorem Kept.below {p : Nat} {w w' : World} (h : Below w.heap.size w w') : Kept p w w' := fun g cs T fr h1 _ _ => by rw [h.block g (Array.getElem?_eq_some_iff.1 h1).1]; exact h1
theorem Kept.setCell (p : Nat) (w : World) (k : Nat) (v : Value) : Kept p w (w.setCell ⟨p, k, none⟩ v) := fun g cs T fr h1 h2 _ => by
  rw [Below.heap_setCell _ _ _ _ (by simpa using h2)]; exact h1
theorem Kept.grown {p : Nat} {w w' : World} {v : Value} {n : Nat} {xs : List Value} (hg : w.grownBy w' v.ownBlock) (ho : w.ownsRow 0 23 1 v n xs) : Kept p w w' := fun g cs T fr h1 _ h3 => by
  rw [hg.block g (Array.getElem?_eq_some_iff.1 h1).1 (fun e => own_ne ho h1 h3 e.symm)]; exact h1
theorem Kept.row {p : Nat} {w : World} {g n c : Nat} {xs : List Value} (ho : w.ownsRow 0 23 1 (.slice (some ⟨g, 0, none⟩) n c) n xs) (i : Nat) (v : Value) : Kept p w (w.setCell ⟨g, i, none⟩ v) := fun g' cs T fr h1 _ h3 => by
  have hne : g' ≠ g := fun e => own_ne ho h1 h3 (by rw [e]; rfl)
  rw [Below.heap_setCell _ _ _ _ (by simpa using hne)]; exact h1
theorem McS.setAt {a w : World} {p g c : Nat} {s : Ms} (C : McC w p s (some ⟨g, 0, none⟩) c) (fr : ∀ x, (Value.slice (some ⟨g, 0, none⟩) s.stk.length c).ownBlock = some x → a.heap.size ≤ x) (pl : a.heap.size ≤ p) (hb : Below a.heap.size a w) (i : Nat) (v : Int) :
    McS a (w.setCell ⟨g, i, none⟩ (.int .u64 v)) p { s with stk := s.stk.set i v } ∧ McC (w.setCell ⟨g, i, none⟩ (.int .u64 v)) p { s with stk := s.stk.set i v } (some ⟨g, 0, none⟩) c := by
  have hne : p ≠ g := fun e => own_ne C.own C.blk (by decide) (by rw [e]; rfl)
  have e1 : stRow { s with stk := s.stk.set i v } (some ⟨g, 0, none⟩) c = stRow s (some ⟨g, 0, none⟩) c := by simp [stRow]
  have k1 : (w.setCell ⟨g, i, none⟩ (.int .u64 v)).heap[p]? = some (.cells (stRow { s with stk := s.stk.set i v } (some ⟨g, 0, none⟩) c).toArray 34 (0, 0)) := by
    rw [e1, Below.heap_setCell _ _ _ _ (by simpa using hne)]; exact C.blk
  have k2 : (w.setCell ⟨g, i, none⟩ (.int .u64 v)).ownsRow 0 23 1 (.slice (some ⟨g, 0, none⟩) (s.stk.set i v).length c) (s.stk.set i v).length (wcs (s.stk.set i v)) := by
    rw [List.length_set, ← wcs_set]
    exact (C.own.stored i _).1
  have hg : a.heap.size ≤ g := fr g rfl
  exact ⟨⟨⟨some ⟨g, 0, none⟩, c, k1, k2, by simpa using fr⟩, pl, (Chg.setCell (S := []) (Chg.below hb (Nat.le_refl _) []) (p := ⟨g, i, none⟩) (.inr hg) _).toBelow (Nat.le_refl _) (fun _ h => by cases h)⟩, ⟨k1, k2⟩⟩
def Ret (v : Value) (a w : World) (p : Nat) (s : Ms) (e : Ending) (w' : World) : Prop := e = .returned v ∧ McS a w' p s ∧ Kept p w w'
theorem fail_any {a w : World} {p : Nat} {s : Ms} (h : McS a w p s) (x : Int) : Calls Tryd.prog 13 #[.pointer (some ⟨p, 0, none⟩), .int .i64 x] w (Ret (.tuple #[]) a w p (s.fail x)) := by
  obtain ⟨q, c, h1, h2, h3⟩ := h.ex
  have C : McC w p s q c := ⟨h1, h2⟩
  have R := Lib.hid ((h.st 2).err x)
  have KP := Lib.hid ((Kept.setCell p w 2 (.int .i64 2)).trans (Kept.setCell p _ 3 (.int .i64 x)))
  have c2 := C.c2
  have c3 := C.c3
  have u2 := C.un 2
  have u3 := C.un 3
  clear h h1 h2 h3 C
  go_enter Tryd.func13, Tryd.ntmps13
  go_wp2_with fail
  go_end0
  exact ⟨rfl, R.out, KP.out⟩
theorem jump_any {a w : World} {p : Nat} {s : Ms} (h : McS a w p s) {x : Int} (h0 : 0 ≤ x) : Calls Tryd.prog 21 #[.pointer (some ⟨p, 0, none⟩), .int .u64 x] w (Ret (.tuple #[]) a w p { s with pc := jmp x }) := by
  obtain ⟨q, c, h1, h2, h3⟩ := h.ex
  have C : McC w p s q c := ⟨h1, h2⟩
  have R : Hid (∀ y, y = jmp x → McS a (w.setCell ⟨p, 0, none⟩ (.int .i64 y)) p { s with pc := jmp x }) := fun y hy => by rw [← hy]; exact h.pc y
  have c0 := C.c0
  have u0 := C.un 0
  clear h h1 h2 h3 C
  go_enter Tryd.func21, Tryd.ntmps21
  go_wp2_with fail
  all_goals (go_end0; exact ⟨rfl, R.out _ (by unfold jmp; omega), Kept.setCell _ _ _ _⟩)
end Go.Proofs.YtnllcmcahfkmaaaDoor
namespace Go.Proofs.YtnllcmcahfkmaaaDoor
set_option maxRecDepth 100000
open Go.RowKit

abbrev Fp := Nat → Prop
/-- The blocks of F are the same in both worlds. -/
def Agr (F : Fp) (w w' : World) : Prop := ∀ g, F g → g < w.heap.size → w'.heap[g]? = w.heap[g]?
theorem Agr.below {F : Fp} {w w' : World} (h : Below w.heap.size w w') : Agr F w w' := fun g _ hg => h.block g hg
theorem Agr.chg {F : Fp} {w w' : World} {K : List Nat} (h : Chg w w' K) (hF : ∀ g, F g → g ∉ K) : Agr F w w' := fun g hf hg => h.block g hg (hF g hf)
/-- A way of reading a value out of a row of cells, that hangs on the blocks of F alone. -/
structure FpOk {α : Type} (P : World → Fp → α → List Value → Prop) : Prop where
  mono : ∀ {w F G x r}, P w F x r → (∀ g, F g → G g) → P w G x r
  agr : ∀ {w w' F x r}, P w F x r → Agr F w w' → P w' F x r
  lt : ∀ {w F x r}, P w F x r → P w (fun g => F g ∧ g < w.heap.size) x r
theorem FpOk.on {α : Type} {P : World → Fp → α → List Value → Prop} (k : FpOk P) {w w' : World} {F : Fp} {x : α} {r : List Value} (h : P w F x r) (hb : Below w.heap.size w w') : P w' F x r := k.agr h (Agr.below hb)

/-! ### Bytes -/
def RdF (w : World) (F : Fp) (v : Value) (xs : List Int) : Prop := Rd w v xs ∧ (xs ≠ [] → ∀ g, v.ownBlock = some g → F g)
theorem RdF.rd {w : World} {F : Fp} {v : Value} {xs : List Int} (h : RdF w F v xs) : Rd w v xs := h.1
theorem RdF.mono {w : World} {F G : Fp} {v : Value} {xs : List Int} (h : RdF w F v xs) (hG : ∀ g, F g → G g) : RdF w G v xs := ⟨h.1, fun hn g hg => hG g (h.2 hn g hg)⟩
theorem RdF.agr {w w' : World} {F : Fp} {v : Value} {xs : List Int} (h : RdF w F v xs) (ha : Agr F w w') : RdF w' F v xs := by
  refine ⟨?_, h.2⟩
  obtain ⟨q, c, rfl, hq | ⟨b, off, rfl, hx⟩⟩ := h.1
  · exact ⟨q, c, rfl, .inl hq⟩
  · refine ⟨_, c, rfl, ?_⟩
    by_cases hn : xs = []
    · exact .inl hn
    · refine .inr ⟨b, off, rfl, fun i hi => ?_⟩
      have hb := lt_of_cell (hx i hi)
      rw [World.cell?_of_block (w := w) (ha b (h.2 hn b rfl) hb)]
      exact hx i hi
theorem RdF.lt {w : World} {F : Fp} {v : Value} {xs : List Int} (h : RdF w F v xs) : RdF w (fun g => F g ∧ g < w.heap.size) v xs := ⟨h.1, fun hn g hg => ⟨h.2 hn g hg, h.1.lt hn hg⟩⟩
theorem RdF.on {w w' : World} {F : Fp} {v : Value} {xs : List Int} (h : RdF w F v xs) (hb : Below w.heap.size w w') : RdF w' F v xs := h.agr (Agr.below hb)
/-- What was there reads within what was there. -/
theorem Rd.old {w : World} {v : Value} {xs : List Int} (h : Rd w v xs) : RdF w (fun g => g < w.heap.size) v xs := ⟨h, fun hn _ hg => h.lt hn hg⟩
/-- A cell that holds a slice of bytes. -/
def PBs (w : World) (F : Fp) (xs : List Int) (r : List Value) : Prop := ∃ q c, r = [.slice q xs.length c] ∧ RdF w F (.slice q xs.length c) xs
theorem PBs_ok : FpOk PBs where
  mono := fun ⟨q, c, e, h⟩ hG => ⟨q, c, e, h.mono hG⟩
  agr := fun ⟨q, c, e, h⟩ ha => ⟨q, c, e, h.agr ha⟩
  lt := fun ⟨q, c, e, h⟩ => ⟨q, c, e, h.lt⟩

/-! ### Rows -/
section
variable {α : Type} {P : World → Fp → α → List Value → Prop} {d : α} {n : Nat}
/-- A slice's rows of n cells each. -/
def RwF (n : Nat) (d : α) (P : World → Fp → α → List Value → Prop) (w : World) (F : Fp) (q : Option Addr) (L : List α) : Prop := L = [] ∨ ∃ b off, q = some ⟨b, off, none⟩ ∧ F b ∧ ∀ i, i < L.length → ∃ r, r.length = n ∧ rowOf w b (off + i * n) n = r ∧ P w F (L.getD i d) r
theorem rowOf_lt {w : World} {b o n : Nat} {r : List Value} (hn : 0 < n) (hr : r.length = n) (h : rowOf w b o n = r) : b < w.heap.size := by
  unfold rowOf at h
  cases e : w.heap[b]? with
  | none => rw [e] at h; rw [← h] at hr; simp at hr; omega
  | some x => exact (Array.getElem?_eq_some_iff.1 e).1
theorem rowOf_agr {w w' : World} {b o n : Nat} (h : w'.heap[b]? = w.heap[b]?) : rowOf w' b o n = rowOf w b o n := by unfold rowOf; rw [h]
theorem RwF.mono (k : FpOk P) {w : World} {F G : Fp} {q : Option Addr} {L : List α} (h : RwF n d P w F q L) (hG : ∀ g, F g → G g) : RwF n d P w G q L := by
  rcases h with h | ⟨b, off, e, hb, hx⟩
  · exact .inl h
  · refine .inr ⟨b, off, e, hG b hb, fun i hi => ?_⟩
    obtain ⟨r, h1, h2, h3⟩ := hx i hi
    exact ⟨r, h1, h2, k.mono h3 hG⟩
theorem RwF.agr (k : FpOk P) (hn : 0 < n) {w w' : World} {F : Fp} {q : Option Addr} {L : List α} (h : RwF n d P w F q L) (ha : Agr F w w') : RwF n d P w' F q L := by
  rcases h with h | ⟨b, off, e, hb, hx⟩
  · exact .inl h
  · refine .inr ⟨b, off, e, hb, fun i hi => ?_⟩
    obtain ⟨r, h1, h2, h3⟩ := hx i hi
    exact ⟨r, h1, by rw [rowOf_agr (ha b hb (rowOf_lt hn h1 h2))]; exact h2, k.agr h3 ha⟩
theorem RwF.lt (k : FpOk P) (hn : 0 < n) {w : World} {F : Fp} {q : Option Addr} {L : List α} (h : RwF n d P w F q L) : RwF n d P w (fun g => F g ∧ g < w.heap.size) q L := by
  by_cases h0 : L = []
  · exact .inl h0
  · obtain ⟨b, off, e, hb, hx⟩ := h.resolve_left h0
    refine .inr ⟨b, off, e, ⟨hb, ?_⟩, fun i hi => ?_⟩
    · obtain ⟨r, h1, h2, _⟩ := hx 0 (List.length_pos_iff.2 h0)
      exact rowOf_lt hn h1 h2
    · obtain ⟨r, h1, h2, h3⟩ := hx i hi
      exact ⟨r, h1, h2, k.lt h3⟩
theorem RwF.on (k : FpOk P) (hn : 0 < n) {w w' : World} {F : Fp} {q : Option Addr} {L : List α} (h : RwF n d P w F q L) (hb : Below w.heap.size w w') : RwF n d P w' F q L := h.agr k hn (Agr.below hb)
theorem RwF.nil (w : World) (F : Fp) (q : Option Addr) : RwF n d P w F q [] := .inl rfl
/-- The row at a place. -/
theorem RwF.get {w : World} {F : Fp} {q : Option Addr} {L : List α} (h : RwF n d P w F q L) {i : Nat} (hi : i < L.length) : ∃ b off r, q = some ⟨b, off, none⟩ ∧ F b ∧ r.length = n ∧ rowOf w b (off + i * n) n = r ∧ P w F (L.getD i d) r := by
  have h0 : L ≠ [] := fun e => by rw [e] at hi; simp at hi
  obtain ⟨b, off, e, hb, hx⟩ := h.resolve_left h0
  obtain ⟨r, h1, h2, h3⟩ := hx i hi
  exact ⟨b, off, r, e, hb, h1, h2, h3⟩
/-- A cell that holds such a slice. -/
def PSl (n : Nat) (d : α) (P : World → Fp → α → List Value → Prop) (w : World) (F : Fp) (L : List α) (r : List Value) : Prop := ∃ q c, r = [.slice q L.length c] ∧ RwF n d P w F q L
theorem PSl_ok (k : FpOk P) (hn : 0 < n) : FpOk (PSl n d P) where
  mono := fun ⟨q, c, e, h⟩ hG => ⟨q, c, e, h.mono k hG⟩
  agr := fun ⟨q, c, e, h⟩ ha => ⟨q, c, e, h.agr k hn ha⟩
  lt := fun ⟨q, c, e, h⟩ => ⟨q, c, e, h.lt k hn⟩

/-! ### Rows of one's own -/
/-- The rows that a call has laid by now: all read within F, and none in the rows' own block. -/
structure OwF (n : Nat) (d : α) (P : World → Fp → α → List Value → Prop) (F : Fp) (w W : World) (T : TypeId) (v : Value) (L : List α) (done : List Value) : Prop where
  own : W.ownsRow 0 T n v L.length done
  each : ∀ i, i < L.length → ∃ r, r.length = n ∧ (done.drop (i * n)).take n = r ∧ P W (fun g => F g ∧ v.ownBlock ≠ some g) (L.getD i d) r
  fresh : ∀ g, v.ownBlock = some g → w.heap.size ≤ g
  below : Below w.heap.size w W
variable {F : Fp} {w W W' : World} {T : TypeId} {v : Value} {L : List α} {done : List Value}
theorem OwF.start (hb : Below w.heap.size w W) : OwF n d P F w W T (.slice none 0 0) [] [] := ⟨World.ownsRow_nil W 0 T n, fun i hi => by simp at hi, by simp [Value.ownBlock], hb⟩
theorem OwF.on (k : FpOk P) (h : OwF n d P F w W T v L done) (hb : Below W.heap.size W W') : OwF n d P F w W' T v L done :=
  ⟨own_on h.own hb, fun i hi => by
    obtain ⟨r, h1, h2, h3⟩ := h.each i hi
    exact ⟨r, h1, h2, k.on h3 hb⟩, h.fresh, h.below.trans (hb.mono h.below.size)⟩
theorem OwF.len (h : OwF n d P F w W T v L done) : done.length = L.length * n := h.own.1
theorem OwF.slice (h : OwF n d P F w W T v L done) : ∃ q c, v = .slice q L.length c := own_slice h.own
theorem OwF.rows (k : FpOk P) {q : Option Addr} {m c : Nat} (h : OwF n d P F w W T (.slice q m c) L done) : L = [] ∨ ∃ b off, q = some ⟨b, off, none⟩ ∧ (Value.slice q m c).ownBlock = some b ∧ ∀ i, i < L.length → ∃ r, r.length = n ∧ rowOf W b (off + i * n) n = r ∧ P W (fun g => F g ∧ (Value.slice q m c).ownBlock ≠ some g) (L.getD i d) r := by
  have _ := k
  rcases h.own.2 with ⟨e, h0⟩ | ⟨g, cap, cur, e, _, hg, hnc, hcm, hcs', htake⟩
  · exact .inl (List.eq_nil_of_length_eq_zero h0)
  · simp only [Value.slice.injEq] at e
    obtain ⟨rfl, rfl, rfl⟩ := e
    refine .inr ⟨g, 0, rfl, rfl, fun j hj => ?_⟩
    obtain ⟨r, h1, h2, h3⟩ := h.each j hj
    refine ⟨r, h1, ?_, h3⟩
    have hl := h.len
    have hc2 : cur = (done ++ cur.toList.drop (L.length * n)).toArray := by
      apply Array.ext'
      show cur.toList = done ++ cur.toList.drop (L.length * n)
      rw [← htake, List.take_append_drop]
    rw [hc2] at hg
    rw [rowOf_block hg, Nat.zero_add, ← h2]
    have h5 : j * n + n ≤ L.length * n := by rw [← Nat.succ_mul]; exact Nat.mul_le_mul_right n hj
    have e : ((done ++ cur.toList.drop (L.length * n)).drop (j * n)).take n = (done.drop (j * n)).take n := by
      rw [List.drop_append_of_le_length (by omega), List.take_append_of_le_length (by rw [List.length_drop]; omega)]
    rw [← e]
    simp [List.take_drop]
theorem OwF.rd (k : FpOk P) {q : Option Addr} {m c : Nat} (h : OwF n d P F w W T (.slice q m c) L done) (hF : ∀ g, w.heap.size ≤ g → F g) : RwF n d P W F q L := by
  rcases h.own.2 with ⟨e, h0⟩ | ⟨g, cap, cur, e, _, hg, hnc, hcm, hcs', htake⟩
  · exact .inl (List.eq_nil_of_length_eq_zero h0)
  · simp only [Value.slice.injEq] at e
    obtain ⟨rfl, rfl, rfl⟩ := e
    refine .inr ⟨g, 0, rfl, hF g (h.fresh g rfl), fun j hj => ?_⟩
    obtain ⟨r, h1, h2, h3⟩ := h.each j hj
    refine ⟨r, h1, ?_, k.mono h3 (fun _ h => h.1)⟩
    have hl := h.len
    have hc2 : cur = (done ++ cur.toList.drop (L.length * n)).toArray := by
      apply Array.ext'
      show cur.toList = done ++ cur.toList.drop (L.length * n)
      rw [← htake, List.take_append_drop]
    rw [hc2] at hg
    rw [rowOf_block hg, Nat.zero_add, ← h2]
    have h5 : j * n + n ≤ L.length * n := by rw [← Nat.succ_mul]; exact Nat.mul_le_mul_right n hj
    have e : ((done ++ cur.toList.drop (L.length * n)).drop (j * n)).take n = (done.drop (j * n)).take n := by
      rw [List.drop_append_of_le_length (by omega), List.take_append_of_le_length (by rw [List.length_drop]; omega)]
    rw [← e]
    simp [List.take_drop]
theorem OwF.rd2 (k : FpOk P) {q : Option Addr} {m c : Nat} (h : OwF n d P F w W T (.slice q m c) L done) (hF : ∀ g, (Value.slice q m c).ownBlock = some g → F g) : RwF n d P W F q L := by
  rcases OwF.rows k h with h0 | ⟨b, off, e, hb, hx⟩
  · exact .inl h0
  · refine .inr ⟨b, off, e, hF b hb, fun i hi => ?_⟩
    obtain ⟨r, h1, h2, h3⟩ := hx i hi
    exact ⟨r, h1, h2, k.mono h3 (fun _ h => h.1)⟩
theorem OwF.chg (k : FpOk P) {K : List Nat} (h : OwF n d P F w W T v L done) (hc : Chg W W' K) (hF : ∀ g, F g → g ∉ K) (hv : ∀ g, v.ownBlock = some g → g ∉ K) (hK : ∀ x, x ∈ K → w.heap.size ≤ x) : OwF n d P F w W' T v L done :=
  ⟨own_keep h.own (fun g hg => hc.block g (own_lt h.own hg) (hv g hg)), fun i hi => by
    obtain ⟨r, h1, h2, h3⟩ := h.each i hi
    exact ⟨r, h1, h2, k.agr h3 (Agr.chg hc (fun g hg => hF g hg.1))⟩, h.fresh, h.below.trans (hc.toBelow h.below.size hK)⟩
/-- One more row. -/
theorem OwF.grow (k : FpOk P) {x : α} {r : List Value} {q : Option Addr} {c : Nat} (h : OwF n d P F w W T v L done) (hr : r.length = n) (hp : P W (fun g => F g ∧ v.ownBlock ≠ some g) x r)
    (own : W'.ownsRow 0 T n (.slice q (L.length + 1) c) (L.length + 1) (done ++ r)) (grow : W.grownBy W' v.ownBlock) (fr : (Value.slice q (L.length + 1) c).ownBlock = v.ownBlock ∨ (Value.slice q (L.length + 1) c).ownBlock = some W.heap.size) :
    OwF n d P F w W' T (.slice q (L.length + 1) c) (L ++ [x]) (done ++ r) := by
  have hl := h.len
  have key : ∀ {y : α} {s : List Value}, P W (fun g => F g ∧ v.ownBlock ≠ some g) y s → P W' (fun g => F g ∧ (Value.slice q (L.length + 1) c).ownBlock ≠ some g) y s := fun {y s} hy => by
    have h1 := k.agr (k.lt hy) (w' := W') (fun g hg hlt => grow.block g hlt (fun e => hg.1.2 e.symm))
    refine k.mono h1 (fun g hg => ⟨hg.1.1, fun e => ?_⟩)
    rcases fr with e2 | e2
    · rw [e2] at e; exact hg.1.2 e
    · rw [e2] at e
      have : W.heap.size = g := Option.some.inj e
      omega
  refine ⟨?_, fun i hi => ?_, fun g hg => ?_, ?_⟩
  · rw [List.length_append, List.length_singleton]; exact own
  · rw [List.length_append, List.length_singleton] at hi
    by_cases hil : i < L.length
    · obtain ⟨s, h1, h2, h3⟩ := h.each i hil
      have eg : (L ++ [x]).getD i d = L.getD i d := by simp [List.getD, List.getElem?_append_left hil]
      rw [eg]
      have h5 : i * n + n ≤ L.length * n := by rw [← Nat.succ_mul]; exact Nat.mul_le_mul_right n hil
      refine ⟨s, h1, ?_, key h3⟩
      rw [List.drop_append_of_le_length (by omega), List.take_append_of_le_length (by rw [List.length_drop]; omega)]
      exact h2
    · obtain rfl : i = L.length := by omega
      have eg : (L ++ [x]).getD L.length d = x := by simp [List.getD]
      rw [eg]
      refine ⟨r, hr, ?_, key hp⟩
      rw [← hl, List.drop_left, List.take_of_length_le (by omega)]
  · rcases fr with e | e
    · rw [e] at hg; exact h.fresh g hg
    · rw [e] at hg
      have := h.below.size
      have : W.heap.size = g := Option.some.inj hg
      omega
  · exact h.below.grown grow h.below.size (fun g hg => h.fresh g hg)
/-- What is read outside one's own row is so behind an append. -/
theorem FpOk.grown (k : FpOk P) {G : Fp} {v' : Value} {y : α} {s : List Value} (hy : P W (fun g => G g ∧ v.ownBlock ≠ some g) y s) (grow : W.grownBy W' v.ownBlock) (fr : v'.ownBlock = v.ownBlock ∨ v'.ownBlock = some W.heap.size) : P W' (fun g => G g ∧ v'.ownBlock ≠ some g) y s := by
  have h1 := k.agr (k.lt hy) (w' := W') (fun g hg hlt => grow.block g hlt (fun e => hg.1.2 e.symm))
  refine k.mono h1 (fun g hg => ⟨hg.1.1, fun e => ?_⟩)
  rcases fr with e2 | e2
  · rw [e2] at e; exact hg.1.2 e
  · rw [e2] at e
    have : W.heap.size = g := Option.some.inj e
    omega
theorem RwF.grown (k : FpOk P) (hn : 0 < n) {G : Fp} {v' : Value} {q : Option Addr} {M : List α} (hy : RwF n d P W (fun g => G g ∧ v.ownBlock ≠ some g) q M) (grow : W.grownBy W' v.ownBlock) (fr : v'.ownBlock = v.ownBlock ∨ v'.ownBlock = some W.heap.size) : RwF n d P W' (fun g => G g ∧ v'.ownBlock ≠ some g) q M := by
  obtain ⟨q', c', e, h⟩ := (PSl_ok (d := d) k hn).grown (y := M) (s := [.slice q M.length 0]) ⟨q, 0, rfl, hy⟩ grow fr
  simp only [List.cons.injEq, Value.slice.injEq, and_true] at e
  rw [e.1]
  exact h
/-- What lies elsewhere stays when one's own row grows. -/
theorem OwF.agr {G : Fp} (h : OwF n d P F w W T v L done) (grow : W.grownBy W' v.ownBlock) (hG : ∀ g, G g → v.ownBlock ≠ some g) : Agr G W W' := by
  have _ := h.own
  exact fun g hg hlt => grow.block g hlt (fun e => hG g hg e.symm)
end
/-- A literal slice of one row, as what is appended. -/
theorem src_any {P : Program} {tx e' T : TypeId} {n : Nat} {w : World} {R : List Value} (hk : P.underlying tx = some (.slice e')) (hR : R.length = n) (h1 : ∀ u ∈ R, u.oneCell' = true) : Src P n tx (.slice (some ⟨w.heap.size, 0, none⟩) 1 1) 1 R (w.alloc (.cells R.toArray T)) := by
  refine Src.ofSlice _ hk _ _ _ _ (by rw [hR, Nat.one_mul]) (fun j u hu => ?_) h1
  rw [addr_add, Joins.cell_of_block (heap_alloc_new w (.cells R.toArray T)), Nat.zero_add]
  simpa using hu
end Go.Proofs.YtnllcmcahfkmaaaDoor
namespace Go.Proofs.YtnllcmcahfkmaaaDoor
set_option maxRecDepth 100000
open Go.RowKit

theorem getD_memG {α : Type} {L : List α} {d : α} {i : Nat} (hi : i < L.length) : L.getD i d ∈ L := by
  have e : L.getD i d = L[i] := by simp [List.getD, hi]
  rw [e]
  exact List.getElem_mem hi
theorem take_snocG {α : Type} {L M : List α} {d : α} (h : L = M.take L.length) (hl : L.length < M.length) : L ++ [M.getD L.length d] = M.take (L.length + 1) := by
  rw [List.take_succ_eq_append_getElem hl, ← h]
  simp [List.getD, hl]
theorem cell_rowOfG {w : World} {b o n : Nat} {cs : List Value} (h : rowOf w b o n = cs) {j : Nat} {v : Value} (hj : cs[j]? = some v) : w.cell? ⟨b, o + j, none⟩ = some v := by
  have hr := range_rowOf w b o n j v (by rw [h]; exact hj)
  exact hr
theorem row_cellG {n : Nat} {w : World} {b off i j : Nat} {r : List Value} {v : Value} (h : rowOf w b (off + i * n) n = r) (hr : r.length = n) (hj : r[j]? = some v) : w.cell? ⟨b, off + i * n + j, none⟩ = some v := by
  have _ := hr
  exact cell_rowOfG h hj
end Go.Proofs.YtnllcmcahfkmaaaDoor
namespace Go.Proofs.YtnllcmcahfkmaaaDoor
set_option maxRecDepth 100000
open Go.RowKit

theorem dropLast_take {xs : List Int} : xs.dropLast = xs.take (xs.length - 1) := List.dropLast_eq_take
theorem wcs_take (xs : List Int) (n : Nat) : (wcs xs).take n = wcs (xs.take n) := by simp [wcs, List.map_take]
theorem pop_any {a w : World} {p : Nat} {s : Ms} (h : McS a w p s) (hn : 0 < s.stk.length) (hl : s.stk.length ≤ 1000000000000) : Calls Tryd.prog 22 #[.pointer (some ⟨p, 0, none⟩)] w (Ret (.int .u64 s.top) a w p { s with stk := s.stk.dropLast }) := by
  obtain ⟨q, c, h1, h2, h3⟩ := h.ex
  have C : McC w p s q c := ⟨h1, h2⟩
  obtain ⟨k, hk⟩ : ∃ k, s.stk.length = k + 1 := ⟨s.stk.length - 1, by omega⟩
  have hd : s.stk.dropLast.length = k := by rw [List.length_dropLast]; omega
  have ht : s.top = s.stk.getD k 0 := by unfold Ms.top; rw [hk]; rfl
  have O2 : w.ownsRow 0 23 1 (.slice q k c) k (wcs s.stk.dropLast) := by
    have := own_cut h2 (m := k) (by omega)
    rw [wcs_take] at this
    rw [dropLast_take, hk]
    exact this
  obtain ⟨g, rfl, cg, ug⟩ := C.at (i := k) (by omega)
  have R := Lib.hid (McS.stack (xs := s.stk.dropLast) h1 h.pl h.below (by rw [hd]; exact O2) (by rw [hd]; intro x hx; exact h3 x (by simpa [Value.ownBlock] using hx)))
  rw [hd] at R
  have hcap : k + 1 ≤ c := by
    rcases h2.2 with ⟨e, _⟩ | ⟨g', cap, cur, e, _, hg, hnc, hcm, _⟩
    · simp at e
    · simp only [Value.slice.injEq, Option.some.injEq, Addr.mk.injEq, and_true, true_and] at e
      omega
  have hcm : c ≤ maxLen := by
    rcases h2.2 with ⟨e, _⟩ | ⟨g', cap, cur, e, _, hg, hnc, hcm, _⟩
    · simp at e
    · simp only [Value.slice.injEq, Option.some.injEq, Addr.mk.injEq, and_true, true_and] at e
      omega
  unfold maxLen at hcm
  have c4 := C.c4
  have u4 := C.un 4
  rw [hk] at c4
  rw [ht]
  obtain ⟨x, hx⟩ : ∃ x, s.stk.getD k 0 = x := ⟨_, rfl⟩
  rw [hx] at cg ⊢
  have w1 : IntKind.i64.wrap (((k + 1 : Nat) : Int) - 1) = (k : Int) := by
    rw [show ((k + 1 : Nat) : Int) - 1 = (k : Int) by omega]; exact IntWalk.i64_in _ (by omega)
  have w2 : IntKind.i64.wrap ((k : Int) + 1 - 1) = (k : Int) := by
    rw [show (k : Int) + 1 - 1 = (k : Int) by omega]; exact IntWalk.i64_in _ (by omega)
  clear h h1 h2 h3 C ht hx O2 hn hl
  go_enter Tryd.func22, Tryd.ntmps22
  go_wp2_with fail
  go_ret
  exact ⟨rfl, R.out, Kept.setCell _ _ _ _⟩

theorem Tryd.infoU64 : (Tryd.prog.info? 23).map (fun i => (i.zero, i.size, i.bytes)) = some (some (.int .u64 0), 1, 8) := by kernel_rfl
theorem push_any {a w : World} {p : Nat} {s : Ms} (h : McS a w p s) (hl : s.stk.length ≤ 1000000000000) (x : Int) : Calls Tryd.prog 23 #[.pointer (some ⟨p, 0, none⟩), .int .u64 x] w (Ret (.tuple #[]) a w p { s with stk := s.stk ++ [x] }) := by
  obtain ⟨i0, hi, hz0, hz1, hz2⟩ := info_parts Tryd.infoU64
  replace hi := Lib.hid hi
  replace hz0 := Lib.hid hz0
  replace hz1 := Lib.hid hz1
  replace hz2 := Lib.hid hz2
  obtain ⟨q, c, h1, h2, h3⟩ := h.ex
  have C : McC w p s q c := ⟨h1, h2⟩
  have c4 := C.c4
  have hp := (Array.getElem?_eq_some_iff.1 h1).1
  have ba : Below w.heap.size w (w.alloc (.cells #[.int .u64 x] 23)) := (Below.refl _ _).alloc (Nat.le_refl _) _
  have OW := Lib.hid (own_on h2 ba)
  have BA := Lib.hid ba
  have H1 : Hid ((w.alloc (.cells #[.int .u64 x] 23)).heap[p]? = some (.cells (stRow s q c).toArray 34 (0, 0))) := by
    show _ = _
    rw [ba.block _ hp]; exact h1
  have SR := Lib.hid (src_any (P := Tryd.prog) (T := 23) (n := 1) (w := w) (R := [.int .u64 x]) Tryd.underlying24 rfl (by simp [Value.oneCell']))
  have BL := Lib.hid (h.below.trans (ba.mono h.below.size))
  have PL := Lib.hid h.pl
  have FR := Lib.hid h3
  have NE := Lib.hid (own_ne h2 h1 (by decide))
  obtain ⟨n, hn⟩ : ∃ n, s.stk.length = n := ⟨_, rfl⟩
  have HN := Lib.hid hn
  have hz : (w.alloc (.cells #[.int .u64 x] 23)).heap.size = w.heap.size + 1 := by simp
  have HZ := Lib.hid (show a.heap.size ≤ (w.alloc (.cells #[.int .u64 x] 23)).heap.size by have := h.below.size; omega)
  rw [hn] at c4 OW NE FR hl
  clear h h1 h2 h3 C ba hn hz hp
  go_enter Tryd.func23, Tryd.ntmps23
  go_wp2_with (at_builtin; refine wpList_append_row rfl _ _ rfl Tryd.underlying24 hi.out hz0.out hz1.out hz2.out rfl OW.out SR.out ?b1 ?b2 ?_)
  case b1 => unfold maxLen; omega
  case b2 => omega
  intro q8 k8 w8 own8 grow8 fr8
  have H8 : w8.heap[p]? = some (.cells (stRow s q c).toArray 34 (0, 0)) := by
    rw [grow8.block p (Array.getElem?_eq_some_iff.1 H1.out).1 (fun e => NE.out e.symm)]
    exact H1.out
  have F8 : ∀ g, (Value.slice q8 (n + 1) k8).ownBlock = some g → a.heap.size ≤ g := fun g hg => by
    rcases fr8 with e | e
    · rw [e] at hg; exact FR.out g hg
    · rw [e] at hg
      have h9 : (w.alloc (.cells #[.int .u64 x] 23)).heap.size = g := by simpa using hg
      have := HZ.out
      omega
  have B8 : Below a.heap.size a w8 := BL.out.grown grow8 BL.out.size (fun j hj => FR.out j hj)
  have C8 : McC w8 p s q c → w8.frozen? ⟨p, 4, none⟩ = false := fun C => C.un 4
  have u4 : w8.frozen? ⟨p, 4, none⟩ = false := Joins.unfrozen_of_block H8 4
  have c4' : w8.cell? ⟨p, 4, none⟩ = some (.slice q n c) := (Joins.cell_of_block H8 4).trans (by rw [← HN.out]; rfl)
  have hap : (s.stk ++ [x]).length = n + 1 := by rw [List.length_append, HN.out]; rfl
  have R := McS.stack (xs := s.stk ++ [x]) (q' := q8) (c' := k8) H8 PL.out B8 (by
    rw [hap, wcs_append]
    exact own8) (by rw [hap]; exact F8)
  rw [hap] at R
  have R := Lib.hid R
  have KP := Lib.hid (((Kept.below BA.out).trans (Kept.grown grow8 OW.out)).trans (Kept.setCell p w8 4 (.slice q8 (n + 1) k8)))
  clear own8 grow8 fr8 H8 F8 B8 C8 H1 SR OW c4
  go_wp2_with fail
  go_end0
  exact ⟨rfl, R.out, KP.out⟩
end Go.Proofs.YtnllcmcahfkmaaaDoor
namespace Go.Proofs.YtnllcmcahfkmaaaDoor
set_option maxRecDepth 100000
open Go.RowKit

/-- A slice of numbers, read. -/
def RdU (w : World) (v : Value) (xs : List Int) : Prop := ∃ q c, v = .slice q xs.length c ∧ (xs = [] ∨ ∃ b off, q = some ⟨b, off, none⟩ ∧ ∀ i, i < xs.length → w.cell? ⟨b, off + i, none⟩ = some (.int .u64 (xs.getD i 0)))
theorem RdU.on {w w' : World} {v : Value} {xs : List Int} (h : RdU w v xs) (hb : Below w.heap.size w w') : RdU w' v xs := by
  obtain ⟨q, c, rfl, hq | ⟨b, off, rfl, hx⟩⟩ := h
  · exact ⟨q, c, rfl, .inl hq⟩
  · exact ⟨_, c, rfl, .inr ⟨b, off, rfl, fun i hi => (hb.cell (lt_of_cell (hx i hi))).trans (hx i hi)⟩⟩
theorem RdU.at {w : World} {q : Option Addr} {n c : Nat} {xs : List Int} (h : RdU w (.slice q n c) xs) {i : Nat} (hi : i < xs.length) : ∃ b off, q = some ⟨b, off, none⟩ ∧ n = xs.length ∧ w.cell? ⟨b, off + i, none⟩ = some (.int .u64 (xs.getD i 0)) := by
  obtain ⟨q', c', e, hq | ⟨b, off, rfl, hx⟩⟩ := h
  · rw [hq] at hi; simp at hi
  · simp only [Value.slice.injEq] at e
    obtain ⟨rfl, rfl, -⟩ := e
    exact ⟨b, off, rfl, rfl, hx i hi⟩

theorem needs_in (op a : Int) (h0 : 0 ≤ a) (h3 : op = 3 ∨ op = 4 → a < 32) : 0 ≤ needsM ⟨op, a⟩ ∧ needsM ⟨op, a⟩ ≤ 40 := by
  unfold needsM
  simp only
  repeat' split
  all_goals omega
theorem more_in (op a : Int) : -1 ≤ moreM ⟨op, a⟩ ∧ moreM ⟨op, a⟩ ≤ 1 := by
  unfold moreM
  simp only
  repeat' split
  all_goals omega
set_option maxHeartbeats 4000000 in
theorem pay_any {a w : World} {p : Nat} {s : Ms} (h : McS a w p s) (ok : s.ok) (op x : Int) (h0 : 0 ≤ x) (h3 : op = 3 ∨ op = 4 → x < 32) : Calls Tryd.prog 20 #[.pointer (some ⟨p, 0, none⟩), .agg #[.int .i64 op, .int .u64 x]] w (Ret (.int .i64 (payE ⟨op, x⟩ s)) a w p { s with gas := payG ⟨op, x⟩ s }) := by
  have hg := ok.gas
  have hl := ok.len
  have ba : Below w.heap.size w (w.alloc (.cells #[.int .i64 op, .int .u64 x] 47)) := (Below.refl _ _).alloc (Nat.le_refl _) _
  have ha := h.on ba
  have HA := Lib.hid ha
  obtain ⟨q, c, h1, h2, -⟩ := ha.ex
  have C : McC (w.alloc (.cells #[.int .i64 op, .int .u64 x] 47)) p s q c := ⟨h1, h2⟩
  have c1 := C.c1
  have u1 := C.un 1
  have hp : p ≠ w.heap.size := by have := h.lt; omega
  have KB := heap_alloc_new w (.cells #[.int .i64 op, .int .u64 x] 47)
  obtain ⟨n0, n1⟩ := needs_in op x h0 h3
  obtain ⟨m0, m1⟩ := more_in op x
  have EF := Lib.hid (fun (W : World) => effect_any W op x h0 h3)
  have KP0 := Lib.hid (Kept.below (p := p) ba)
  clear h ha h1 h2 C ba h0 h3 ok
  by_cases h14 : op = 14
  · subst h14
    have ec : costM 14 = 2 := rfl
    have x14 : (14 == 14) = true := by rfl
    have x15 : (14 == 15) = false := by rfl
    by_cases hlt : s.gas < 2
    · have d : decide (s.gas < 2) = true := decide_eq_true hlt
      have e1 : payE ⟨14, x⟩ s = 35 := by unfold payE; rw [ec, if_pos hlt]
      have e2 : payG ⟨14, x⟩ s = 0 := by unfold payG; rw [ec, if_pos hlt]
      rw [e1, e2]
      have R := Lib.hid (HA.out.gas 0)
      clear hlt e1 e2 ec n0 n1 m0 m1 hg EF
      go_enter Tryd.func20, Tryd.ntmps20
      go_wp2_with fail
      go_ret
      exact ⟨rfl, R.out, KP0.out.trans (Kept.setCell _ _ _ _)⟩
    have d : decide (s.gas < 2) = false := decide_eq_false hlt
    have e1 : payE ⟨14, x⟩ s = if (s.stk.length : Int) < needsM ⟨14, x⟩ ∨ (s.stk.length : Int) + moreM ⟨14, x⟩ > 32 then 36 else 0 := by unfold payE; rw [ec, if_neg hlt]
    have e2 : payG ⟨14, x⟩ s = s.gas - 2 := by unfold payG; rw [ec, if_neg hlt]
    rw [e1, e2]
    clear e1 e2 ec
    have w1 : IntKind.u64.wrap (s.gas - 2) = s.gas - 2 := by rw [IntKind.wrap_u64]; omega
    obtain ⟨G, hG⟩ : ∃ G, s.gas - 2 = G := ⟨_, rfl⟩
    rw [hG] at w1 ⊢
    obtain ⟨N, hN⟩ : ∃ N, needsM ⟨14, x⟩ = N := ⟨_, rfl⟩
    obtain ⟨Q, hQ⟩ : ∃ Q, moreM ⟨14, x⟩ = Q := ⟨_, rfl⟩
    rw [hN, hQ] at EF ⊢
    rw [hN] at n0 n1
    rw [hQ] at m0 m1
    replace w1 : IntKind.u64.wrap (s.gas - 2) = G := by rw [hG]; exact w1
    clear hN hQ hlt hG
    obtain ⟨E, hE⟩ : ∃ E : Int, (if (s.stk.length : Int) < N ∨ (s.stk.length : Int) + Q > 32 then 36 else 0) = E := ⟨_, rfl⟩
    rw [hE]
    have HE := Lib.hid hE
    clear hE
    go_enter Tryd.func20, Tryd.ntmps20
    go_upto_region 11 with fail
    have R2 := Lib.hid (HA.out.gas G)
    have KB2 : Hid (((w.alloc (.cells #[.int .i64 14, .int .u64 x] 47)).setCell ⟨p, 1, none⟩ (.int .u64 G)).heap[w.heap.size]? = some (.cells #[.int .i64 14, .int .u64 x] 47 (0, 0))) := by
      show _ = _
      rw [Below.heap_setCell _ _ _ _ (by simpa using Ne.symm hp)]
      exact KB
    have KP2 := Lib.hid (KP0.out.trans (Kept.setCell p _ 1 (.int .u64 G)))
    clear HA c1 u1 KB w1 d KP0
    generalize ((w.alloc (.cells #[.int .i64 14, .int .u64 x] 47)).setCell ⟨p, 1, none⟩ (.int .u64 G)) = w2 at *
    have kb0 := (Joins.cell_of_block KB2.out 0).trans (rfl : _ = some _)
    have kb1 := (Joins.cell_of_block KB2.out 1).trans (rfl : _ = some _)
    go_wp2_with fail
    refine (EF.out w2).mono ?_
    rintro e w3 ⟨rfl, b3⟩
    have R3 := R2.out.on b3
    have KP3 := Lib.hid (KP2.out.trans (Kept.below b3))
    obtain ⟨q3, c3, h31, h32, -⟩ := R3.ex
    have C3 : McC w3 p { s with gas := G } q3 c3 := ⟨h31, h32⟩
    have c4 : w3.cell? ⟨p, 4, none⟩ = some (.slice q3 s.stk.length c3) := C3.c4
    replace R3 := Lib.hid R3
    clear b3 h31 h32 C3 kb0 kb1 KB2 R2 EF
    have w5 : IntKind.i64.wrap ((s.stk.length : Int) + Q) = (s.stk.length : Int) + Q := IntWalk.i64_in _ (by omega)
    by_cases g1 : (s.stk.length : Int) < N
    · have d1 : decide ((s.stk.length : Int) < N) = true := decide_eq_true g1
      go_wp2_with fail
      go_ret
      exact ⟨by rw [← HE.out, if_pos (.inl g1)]; rfl, R3.out, KP3.out⟩
    have d1 : decide ((s.stk.length : Int) < N) = false := decide_eq_false g1
    by_cases g2 : (s.stk.length : Int) + Q > 32
    · have d2 : decide ((s.stk.length : Int) + Q > 32) = true := decide_eq_true g2
      go_wp2_with fail
      go_ret
      exact ⟨by rw [← HE.out, if_pos (.inr g2)]; rfl, R3.out, KP3.out⟩
    have d2 : decide ((s.stk.length : Int) + Q > 32) = false := decide_eq_false g2
    go_wp2_with fail
    go_ret
    exact ⟨by rw [← HE.out, if_neg (by omega)]; rfl, R3.out, KP3.out⟩
  by_cases h15 : op = 15
  · subst h15
    have ec : costM 15 = 5 := rfl
    have x14 : (15 == 14) = false := by rfl
    have x15 : (15 == 15) = true := by rfl
    by_cases hlt : s.gas < 5
    · have d : decide (s.gas < 5) = true := decide_eq_true hlt
      have e1 : payE ⟨15, x⟩ s = 35 := by unfold payE; rw [ec, if_pos hlt]
      have e2 : payG ⟨15, x⟩ s = 0 := by unfold payG; rw [ec, if_pos hlt]
      rw [e1, e2]
      have R := Lib.hid (HA.out.gas 0)
      clear hlt e1 e2 ec n0 n1 m0 m1 hg EF
      go_enter Tryd.func20, Tryd.ntmps20
      go_wp2_with fail
      go_ret
      exact ⟨rfl, R.out, KP0.out.trans (Kept.setCell _ _ _ _)⟩
    have d : decide (s.gas < 5) = false := decide_eq_false hlt
    have e1 : payE ⟨15, x⟩ s = if (s.stk.length : Int) < needsM ⟨15, x⟩ ∨ (s.stk.length : Int) + moreM ⟨15, x⟩ > 32 then 36 else 0 := by unfold payE; rw [ec, if_neg hlt]
    have e2 : payG ⟨15, x⟩ s = s.gas - 5 := by unfold payG; rw [ec, if_neg hlt]
    rw [e1, e2]
    clear e1 e2 ec
    have w1 : IntKind.u64.wrap (s.gas - 5) = s.gas - 5 := by rw [IntKind.wrap_u64]; omega
    obtain ⟨G, hG⟩ : ∃ G, s.gas - 5 = G := ⟨_, rfl⟩
    rw [hG] at w1 ⊢
    obtain ⟨N, hN⟩ : ∃ N, needsM ⟨15, x⟩ = N := ⟨_, rfl⟩
    obtain ⟨Q, hQ⟩ : ∃ Q, moreM ⟨15, x⟩ = Q := ⟨_, rfl⟩
    rw [hN, hQ] at EF ⊢
    rw [hN] at n0 n1
    rw [hQ] at m0 m1
    replace w1 : IntKind.u64.wrap (s.gas - 5) = G := by rw [hG]; exact w1
    clear hN hQ hlt hG
    obtain ⟨E, hE⟩ : ∃ E : Int, (if (s.stk.length : Int) < N ∨ (s.stk.length : Int) + Q > 32 then 36 else 0) = E := ⟨_, rfl⟩
    rw [hE]
    have HE := Lib.hid hE
    clear hE
    go_enter Tryd.func20, Tryd.ntmps20
    go_upto_region 11 with fail
    have R2 := Lib.hid (HA.out.gas G)
    have KB2 : Hid (((w.alloc (.cells #[.int .i64 15, .int .u64 x] 47)).setCell ⟨p, 1, none⟩ (.int .u64 G)).heap[w.heap.size]? = some (.cells #[.int .i64 15, .int .u64 x] 47 (0, 0))) := by
      show _ = _
      rw [Below.heap_setCell _ _ _ _ (by simpa using Ne.symm hp)]
      exact KB
    have KP2 := Lib.hid (KP0.out.trans (Kept.setCell p _ 1 (.int .u64 G)))
    clear HA c1 u1 KB w1 d KP0
    generalize ((w.alloc (.cells #[.int .i64 15, .int .u64 x] 47)).setCell ⟨p, 1, none⟩ (.int .u64 G)) = w2 at *
    have kb0 := (Joins.cell_of_block KB2.out 0).trans (rfl : _ = some _)
    have kb1 := (Joins.cell_of_block KB2.out 1).trans (rfl : _ = some _)
    go_wp2_with fail
    refine (EF.out w2).mono ?_
    rintro e w3 ⟨rfl, b3⟩
    have R3 := R2.out.on b3
    have KP3 := Lib.hid (KP2.out.trans (Kept.below b3))
    obtain ⟨q3, c3, h31, h32, -⟩ := R3.ex
    have C3 : McC w3 p { s with gas := G } q3 c3 := ⟨h31, h32⟩
    have c4 : w3.cell? ⟨p, 4, none⟩ = some (.slice q3 s.stk.length c3) := C3.c4
    replace R3 := Lib.hid R3
    clear b3 h31 h32 C3 kb0 kb1 KB2 R2 EF
    have w5 : IntKind.i64.wrap ((s.stk.length : Int) + Q) = (s.stk.length : Int) + Q := IntWalk.i64_in _ (by omega)
    by_cases g1 : (s.stk.length : Int) < N
    · have d1 : decide ((s.stk.length : Int) < N) = true := decide_eq_true g1
      go_wp2_with fail
      go_ret
      exact ⟨by rw [← HE.out, if_pos (.inl g1)]; rfl, R3.out, KP3.out⟩
    have d1 : decide ((s.stk.length : Int) < N) = false := decide_eq_false g1
    by_cases g2 : (s.stk.length : Int) + Q > 32
    · have d2 : decide ((s.stk.length : Int) + Q > 32) = true := decide_eq_true g2
      go_wp2_with fail
      go_ret
      exact ⟨by rw [← HE.out, if_pos (.inr g2)]; rfl, R3.out, KP3.out⟩
    have d2 : decide ((s.stk.length : Int) + Q > 32) = false := decide_eq_false g2
    go_wp2_with fail
    go_ret
    exact ⟨by rw [← HE.out, if_neg (by omega)]; rfl, R3.out, KP3.out⟩
  have ec : costM op = 1 := by unfold costM; rw [if_neg h14, if_neg h15]
  have x14 : (op == 14) = false := by simp [h14]
  have x15 : (op == 15) = false := by simp [h15]
  by_cases hlt : s.gas < 1
  · have d : decide (s.gas < 1) = true := decide_eq_true hlt
    have e1 : payE ⟨op, x⟩ s = 35 := by unfold payE; rw [ec, if_pos hlt]
    have e2 : payG ⟨op, x⟩ s = 0 := by unfold payG; rw [ec, if_pos hlt]
    rw [e1, e2]
    have R := Lib.hid (HA.out.gas 0)
    clear hlt e1 e2 ec n0 n1 m0 m1 hg EF
    go_enter Tryd.func20, Tryd.ntmps20
    go_wp2_with fail
    go_ret
    exact ⟨rfl, R.out, KP0.out.trans (Kept.setCell _ _ _ _)⟩
  have d : decide (s.gas < 1) = false := decide_eq_false hlt
  have e1 : payE ⟨op, x⟩ s = if (s.stk.length : Int) < needsM ⟨op, x⟩ ∨ (s.stk.length : Int) + moreM ⟨op, x⟩ > 32 then 36 else 0 := by unfold payE; rw [ec, if_neg hlt]
  have e2 : payG ⟨op, x⟩ s = s.gas - 1 := by unfold payG; rw [ec, if_neg hlt]
  rw [e1, e2]
  clear e1 e2 ec
  have w1 : IntKind.u64.wrap (s.gas - 1) = s.gas - 1 := by rw [IntKind.wrap_u64]; omega
  obtain ⟨G, hG⟩ : ∃ G, s.gas - 1 = G := ⟨_, rfl⟩
  rw [hG] at w1 ⊢
  obtain ⟨N, hN⟩ : ∃ N, needsM ⟨op, x⟩ = N := ⟨_, rfl⟩
  obtain ⟨Q, hQ⟩ : ∃ Q, moreM ⟨op, x⟩ = Q := ⟨_, rfl⟩
  rw [hN, hQ] at EF ⊢
  rw [hN] at n0 n1
  rw [hQ] at m0 m1
  replace w1 : IntKind.u64.wrap (s.gas - 1) = G := by rw [hG]; exact w1
  clear hN hQ hlt hG
  obtain ⟨E, hE⟩ : ∃ E : Int, (if (s.stk.length : Int) < N ∨ (s.stk.length : Int) + Q > 32 then 36 else 0) = E := ⟨_, rfl⟩
  rw [hE]
  have HE := Lib.hid hE
  clear hE
  go_enter Tryd.func20, Tryd.ntmps20
  go_upto_region 11 with fail
  have R2 := Lib.hid (HA.out.gas G)
  have KB2 : Hid (((w.alloc (.cells #[.int .i64 op, .int .u64 x] 47)).setCell ⟨p, 1, none⟩ (.int .u64 G)).heap[w.heap.size]? = some (.cells #[.int .i64 op, .int .u64 x] 47 (0, 0))) := by
    show _ = _
    rw [Below.heap_setCell _ _ _ _ (by simpa using Ne.symm hp)]
    exact KB
  have KP2 := Lib.hid (KP0.out.trans (Kept.setCell p _ 1 (.int .u64 G)))
  clear HA c1 u1 KB w1 d KP0
  generalize ((w.alloc (.cells #[.int .i64 op, .int .u64 x] 47)).setCell ⟨p, 1, none⟩ (.int .u64 G)) = w2 at *
  have kb0 := (Joins.cell_of_block KB2.out 0).trans (rfl : _ = some _)
  have kb1 := (Joins.cell_of_block KB2.out 1).trans (rfl : _ = some _)
  go_wp2_with fail
  refine (EF.out w2).mono ?_
  rintro e w3 ⟨rfl, b3⟩
  have R3 := R2.out.on b3
  have KP3 := Lib.hid (KP2.out.trans (Kept.below b3))
  obtain ⟨q3, c3, h31, h32, -⟩ := R3.ex
  have C3 : McC w3 p { s with gas := G } q3 c3 := ⟨h31, h32⟩
  have c4 : w3.cell? ⟨p, 4, none⟩ = some (.slice q3 s.stk.length c3) := C3.c4
  replace R3 := Lib.hid R3
  clear b3 h31 h32 C3 kb0 kb1 KB2 R2 EF
  have w5 : IntKind.i64.wrap ((s.stk.length : Int) + Q) = (s.stk.length : Int) + Q := IntWalk.i64_in _ (by omega)
  by_cases g1 : (s.stk.length : Int) < N
  · have d1 : decide ((s.stk.length : Int) < N) = true := decide_eq_true g1
    go_wp2_with fail
    go_ret
    exact ⟨by rw [← HE.out, if_pos (.inl g1)]; rfl, R3.out, KP3.out⟩
  have d1 : decide ((s.stk.length : Int) < N) = false := decide_eq_false g1
  by_cases g2 : (s.stk.length : Int) + Q > 32
  · have d2 : decide ((s.stk.length : Int) + Q > 32) = true := decide_eq_true g2
    go_wp2_with fail
    go_ret
    exact ⟨by rw [← HE.out, if_pos (.inr g2)]; rfl, R3.out, KP3.out⟩
  have d2 : decide ((s.stk.length : Int) + Q > 32) = false := decide_eq_false g2
  go_wp2_with fail
  go_ret
  exact ⟨by rw [← HE.out, if_neg (by omega)]; rfl, R3.out, KP3.out⟩
end Go.Proofs.YtnllcmcahfkmaaaDoor
namespace Go.Proofs.YtnllcmcahfkmaaaDoor
set_option maxRecDepth 100000
open Go.RowKit

theorem below_drewN8 {B : Nat} {a w : World} (h : Below B a w) (n : Nat) : Below B a (w.drewN n) := ⟨h.os, h.tape, h.output, h.size, h.block⟩
/-- An instruction's two cells. -/
def PIs (_ : World) (_ : Fp) (x : Ins) (r : List Value) : Prop := r = [.int .i64 x.op, .int .u64 x.a]
theorem PIs_ok : FpOk PIs where
  mono := fun h _ => h
  agr := fun h _ => h
  lt := fun h => h
/-- A context as an argument. -/
def cxV (c : Cx) (q : Option Addr) (k : Nat) : Value := .agg #[.int .u64 c.who, .int .u64 c.val, .slice q c.inp.length k]
set_option maxHeartbeats 4000000 in
theorem fetch_any {a w : World} {p : Nat} {s : Ms} (h : McS a w p s) (ok : s.ok) {c : Cx} {qi : Option Addr} {ki : Nat} (hi : RdU w (.slice qi c.inp.length ki) c.inp) (hil : c.inp.length ≤ 140737488355328) (op x : Int) (h0 : 0 ≤ x ∧ x < 18446744073709551616) (hn : op = 3 → x < (s.stk.length : Int)) (hw : op = 14 → x < 16) : Calls Tryd.prog 24 #[.pointer (some ⟨p, 0, none⟩), cxV c qi ki, .agg #[.int .i64 op, .int .u64 x]] w (Ret (.int .u64 (fetchM c ⟨op, x⟩ s)) a w p s) := by
  have hl := ok.len
  have b1 : Below w.heap.size w (w.alloc (.cells #[.int .u64 c.who, .int .u64 c.val, .slice qi c.inp.length ki] 39)) := (Below.refl _ _).alloc (Nat.le_refl _) _
  have b2 : Below w.heap.size w ((w.alloc (.cells #[.int .u64 c.who, .int .u64 c.val, .slice qi c.inp.length ki] 39)).alloc (.cells #[.int .i64 op, .int .u64 x] 47)) := b1.alloc b1.size _
  have hb := h.on b2
  have R := Lib.hid hb
  obtain ⟨q, k, h1, h2, -⟩ := hb.ex
  have C : McC ((w.alloc (.cells #[.int .u64 c.who, .int .u64 c.val, .slice qi c.inp.length ki] 39)).alloc (.cells #[.int .i64 op, .int .u64 x] 47)) p s q k := ⟨h1, h2⟩
  have c4 := C.c4
  have HC := Lib.hid C
  have HI := Lib.hid (hi.on b2)
  have W16 := Lib.hid ok.w16
  have RN := Lib.hid (fun (m : Nat) => hb.on (below_drewN8 (Below.refl _ _) m))
  have KB := Lib.hid (Kept.below (p := p) b2)
  unfold cxV
  clear h hb h1 h2 C b1 b2 hi ok
  by_cases h1 : op = 1
  · subst h1
    have E : fetchM c ⟨1, x⟩ s = x := rfl
    rw [E]
    clear E
    clear hn hw h0 hil hl c4
    go_enter Tryd.func24, Tryd.ntmps24
    go_wp2_with fail
    go_ret
    exact ⟨rfl, R.out, KB.out⟩
  have x1 : (op == 1) = false := by simp [h1]
  by_cases h3 : op = 3
  · subst h3
    have hx := hn rfl
    obtain ⟨n, rfl⟩ : ∃ n : Nat, x = n := ⟨x.toNat, by omega⟩
    obtain ⟨i, hi⟩ : ∃ i, s.stk.length - 1 - n = i := ⟨_, rfl⟩
    have E : fetchM c ⟨3, (n : Int)⟩ s = s.stk.getD i 0 := by rw [← hi]; rfl
    obtain ⟨g, rfl, cg, -⟩ := HC.out.at (i := i) (by omega)
    rw [E]
    obtain ⟨v, hv⟩ : ∃ v, s.stk.getD i 0 = v := ⟨_, rfl⟩
    rw [hv] at cg ⊢
    have w0 : IntKind.i64.wrap ((s.stk.length : Int) - 1) = (s.stk.length : Int) - 1 := IntWalk.i64_in _ (by omega)
    have w1 : IntKind.i64.wrap (n : Int) = (n : Int) := IntWalk.i64_in _ (by omega)
    have w2 : IntKind.i64.wrap ((s.stk.length : Int) - 1 - (n : Int)) = (i : Int) := by
      rw [show (s.stk.length : Int) - 1 - (n : Int) = (i : Int) by omega]; exact IntWalk.i64_in _ (by omega)
    have il : i < s.stk.length := by omega
    clear E hn hw h0 hil hx hi hv HC
    go_enter Tryd.func24, Tryd.ntmps24
    go_wp2_with fail
    go_quiet (fail)
    go_wp2_with fail
    go_ret
    exact ⟨rfl, RN.out _, KB.out.trans (Kept.below (below_drewN8 (Below.refl _ _) _))⟩
  have x3 : (op == 3) = false := by simp [h3]
  by_cases h14 : op = 14
  · subst h14
    have hx := hw rfl
    obtain ⟨n, rfl⟩ : ∃ n : Nat, x = n := ⟨x.toNat, by omega⟩
    have E : fetchM c ⟨14, (n : Int)⟩ s = s.wds.getD n 0 := rfl
    have cg := HC.out.word (i := n) (by have := W16.out; omega)
    rw [E]
    obtain ⟨v, hv⟩ : ∃ v, s.wds.getD n 0 = v := ⟨_, rfl⟩
    rw [hv] at cg ⊢
    have il : n < 16 := by omega
    clear E hn hw h0 hil hx hv HC hl c4
    go_enter Tryd.func24, Tryd.ntmps24
    go_wp2_with fail
    go_quiet (fail)
    go_wp2_with fail
    go_ret
    exact ⟨rfl, RN.out _, KB.out.trans (Kept.below (below_drewN8 (Below.refl _ _) _))⟩
  have x14 : (op == 14) = false := by simp [h14]
  by_cases h17 : op = 17
  · subst h17
    have E : fetchM c ⟨17, x⟩ s = c.val := rfl
    rw [E]
    clear E
    clear hn hw h0 hil hl c4
    go_enter Tryd.func24, Tryd.ntmps24
    go_wp2_with fail
    go_ret
    exact ⟨rfl, R.out, KB.out⟩
  have x17 : (op == 17) = false := by simp [h17]
  by_cases h18 : op = 18
  · subst h18
    have E : fetchM c ⟨18, x⟩ s = c.who := rfl
    rw [E]
    clear E
    clear hn hw h0 hil hl c4
    go_enter Tryd.func24, Tryd.ntmps24
    go_wp2_with fail
    go_ret
    exact ⟨rfl, R.out, KB.out⟩
  have x18 : (op == 18) = false := by simp [h18]
  have E : fetchM c ⟨op, x⟩ s = if x < (c.inp.length : Int) then c.inp.getD x.toNat 0 else 0 := by
    unfold fetchM
    simp only
    rw [if_neg h1, if_neg h3, if_neg h14, if_neg h17, if_neg h18]
  rw [E]
  have wl : IntKind.u64.wrap (c.inp.length : Int) = (c.inp.length : Int) := by rw [IntKind.wrap_u64]; omega
  clear E hn hw h1 h3 h14 h17 h18 c4
  by_cases hlt : x < (c.inp.length : Int)
  · rw [if_pos hlt]
    obtain ⟨n, rfl⟩ : ∃ n : Nat, x = n := ⟨x.toNat, by omega⟩
    have hn : n < c.inp.length := by omega
    obtain ⟨b, off, rfl, -, cg⟩ := HI.out.at hn
    have e2 : (n : Int).toNat = n := rfl
    rw [e2]
    obtain ⟨v, hv⟩ : ∃ v, c.inp.getD n 0 = v := ⟨_, rfl⟩
    rw [hv] at cg ⊢
    have d : decide ((n : Int) < (c.inp.length : Int)) = true := decide_eq_true hlt
    have d2 : decide (n < c.inp.length) = true := decide_eq_true hn
    clear hv e2 h0 hlt hl
    go_enter Tryd.func24, Tryd.ntmps24
    go_wp2_with fail
    go_ret
    exact ⟨rfl, R.out, KB.out⟩
  rw [if_neg hlt]
  have d : decide (x < (c.inp.length : Int)) = false := decide_eq_false hlt
  clear h0 hlt hl
  go_enter Tryd.func24, Tryd.ntmps24
  go_wp2_with fail
  go_ret
  exact ⟨rfl, R.out, KB.out⟩

/-- What the closure tells: the instruction at a place, or none. -/
def atV (L : List Ins) (pc : Int) : Value := if 0 ≤ pc ∧ pc < (L.length : Int) then .tuple #[.agg #[.int .i64 (L.getD pc.toNat ins0).op, .int .u64 (L.getD pc.toNat ins0).a], .bool true] else .tuple #[.agg #[.int .i64 0, .int .u64 0], .bool false]
set_option maxHeartbeats 4000000 in
theorem At_any {w : World} {F : Fp} {L : List Ins} {q : Option Addr} {c bl : Nat} (hc : w.heap[bl]? = some (.cells #[.slice q L.length c] 37 (0, 0))) (hr : RwF 2 ins0 PIs w F q L) (_hl : L.length ≤ 1000) (pc : Int) :
    Calls Tryd.prog 15 #[.int .i64 pc, .pointer (some ⟨bl, 0, none⟩)] w fun e w' => e = .returned (atV L pc) ∧ Below w.heap.size w w' := by
  have ba : Below w.heap.size w (w.alloc (.cells #[.int .i64 0, .int .u64 0] 47)) := (Below.refl _ _).alloc (Nat.le_refl _) _
  have K1 : (w.alloc (.cells #[.int .i64 0, .int .u64 0] 47)).heap[bl]? = some (.cells #[.slice q L.length c] 37 (0, 0)) := by
    rw [ba.block _ (Array.getElem?_eq_some_iff.1 hc).1]; exact hc
  have k0 := (Joins.cell_of_block K1 0).trans (rfl : _ = some _)
  have BN := Lib.hid (fun (x y : Int) => (Below.refl w.heap.size w).alloc (Nat.le_refl _) (.cells #[.int .i64 x, .int .u64 y] 47))
  have Z := Lib.hid (fun (x y : Int) => heap_alloc_new w (.cells #[.int .i64 x, .int .u64 y] 47))
  have ZN : ∀ x y : Int, (w.alloc (.cells #[.int .i64 x, .int .u64 y] 47)).cell? ⟨w.heap.size, 0, none⟩ = some (.int .i64 x) ∧ (w.alloc (.cells #[.int .i64 x, .int .u64 y] 47)).cell? ⟨w.heap.size, 1, none⟩ = some (.int .u64 y) := fun x y => ⟨(Joins.cell_of_block (Z.out x y) 0).trans rfl, (Joins.cell_of_block (Z.out x y) 1).trans rfl⟩
  have ZN := Lib.hid ZN
  by_cases h0 : pc < 0
  · have d : decide (pc < 0) = true := decide_eq_true h0
    have E : atV L pc = .tuple #[.agg #[.int .i64 0, .int .u64 0], .bool false] := by unfold atV; rw [if_neg (by omega)]
    rw [E]
    clear E h0 hr hc K1 ba
    go_enter Tryd.func15, Tryd.ntmps15
    go_wp2_with fail
    obtain ⟨z0, z1⟩ := ZN.out 0 0
    refine bodyPost_ret (v := .tuple #[.agg #[.int .i64 0, .int .u64 0], .bool false]) (by simp [results, Tryd.results15, go_sem, z0, z1]) rfl ⟨rfl, BN.out _ _⟩
  have d : decide (pc < 0) = false := decide_eq_false h0
  by_cases h1 : pc ≥ (L.length : Int)
  · have d1 : decide (pc ≥ (L.length : Int)) = true := decide_eq_true h1
    have d2 : decide ((L.length : Int) ≤ pc) = true := decide_eq_true h1
    have E : atV L pc = .tuple #[.agg #[.int .i64 0, .int .u64 0], .bool false] := by unfold atV; rw [if_neg (by omega)]
    rw [E]
    clear E h0 h1 hr hc K1 ba
    go_enter Tryd.func15, Tryd.ntmps15
    go_wp2_with fail
    obtain ⟨z0, z1⟩ := ZN.out 0 0
    refine bodyPost_ret (v := .tuple #[.agg #[.int .i64 0, .int .u64 0], .bool false]) (by simp [results, Tryd.results15, go_sem, z0, z1]) rfl ⟨rfl, BN.out _ _⟩
  have d1 : decide (pc ≥ (L.length : Int)) = false := decide_eq_false h1
  have d2 : decide ((L.length : Int) ≤ pc) = false := decide_eq_false h1
  obtain ⟨n, rfl⟩ : ∃ n : Nat, pc = n := ⟨pc.toNat, by omega⟩
  have hn : n < L.length := by omega
  have E : atV L (n : Int) = .tuple #[.agg #[.int .i64 (L.getD n ins0).op, .int .u64 (L.getD n ins0).a], .bool true] := by
    unfold atV
    rw [if_pos ⟨by omega, by omega⟩]
    rfl
  rw [E]
  obtain ⟨b, off, r, rfl, _, hr2, hrow, hp⟩ := hr.get hn
  subst hp
  have cw0 := row_cellG hrow hr2 (j := 0) (v := .int .i64 (L.getD n ins0).op) rfl
  have cw1 := row_cellG hrow hr2 (j := 1) (v := .int .u64 (L.getD n ins0).a) rfl
  rw [Nat.add_zero] at cw0
  have g0 := (ba.cell (lt_of_cell cw0)).trans cw0
  have g1 := (ba.cell (lt_of_cell cw1)).trans cw1
  obtain ⟨x, hx⟩ : ∃ x, (L.getD n ins0).op = x := ⟨_, rfl⟩
  obtain ⟨y, hy⟩ : ∃ x, (L.getD n ins0).a = x := ⟨_, rfl⟩
  rw [hx] at g0 ⊢
  rw [hy] at g1 ⊢
  clear E h0 h1 hc K1 ba hr2 hrow cw0 cw1 hx hy
  go_enter Tryd.func15, Tryd.ntmps15
  go_wp2_with fail
  obtain ⟨z0, z1⟩ := ZN.out x y
  refine bodyPost_ret (v := .tuple #[.agg #[.int .i64 x, .int .u64 y], .bool true]) (by simp [results, Tryd.results15, go_sem, z0, z1]) rfl ⟨rfl, BN.out _ _⟩
end Go.Proofs.YtnllcmcahfkmaaaDoor
namespace Go.Proofs.YtnllcmcahfkmaaaDoor
open Go.RowKit

theorem U64s.take {xs : List Int} (h : U64s xs) : U64s xs.dropLast := fun x hx => h x ((List.dropLast_sublist xs).subset hx)
theorem U64s.push {xs : List Int} (h : U64s xs) {v : Int} (hv : 0 ≤ v ∧ v < 18446744073709551616) : U64s (xs ++ [v]) := fun x hx => by
  rcases List.mem_append.1 hx with hx | hx
  · exact h x hx
  · obtain rfl : x = v := by simpa using hx
    exact hv
theorem U64s.set {xs : List Int} (h : U64s xs) {i : Nat} {v : Int} (hv : 0 ≤ v ∧ v < 18446744073709551616) : U64s (xs.set i v) := fun x hx => by
  rcases List.mem_or_eq_of_mem_set hx with hx | rfl
  · exact h x hx
  · exact hv
/-- An instruction's, a code's, a context's ranges. -/
def Ins.ok (i : Ins) : Prop := 0 ≤ i.a ∧ i.a < 18446744073709551616
structure Cx.ok (c : Cx) : Prop where
  who : 0 ≤ c.who ∧ c.who < 18446744073709551616
  val : 0 ≤ c.val ∧ c.val < 18446744073709551616
  inp : U64s c.inp
  len : c.inp.length ≤ 140737488355328
theorem fetchM_in {c : Cx} {i : Ins} {s : Ms} (hc : c.ok) (hi : i.ok) (hs : s.ok) : 0 ≤ fetchM c i s ∧ fetchM c i s < 18446744073709551616 := by
  unfold fetchM
  repeat' split
  · exact hi
  · exact hs.stk.get _
  · exact hs.wds.get _
  · exact hc.val
  · exact hc.who
  · exact hc.inp.get _
  · omega
theorem rkV_in {op b a : Int} (hb : 0 ≤ b ∧ b < 18446744073709551616) (ha : 0 ≤ a ∧ a < 18446744073709551616) : 0 ≤ rkV op b a ∧ rkV op b a < 18446744073709551616 := by
  unfold rkV tru
  repeat' split
  all_goals try (rw [IntKind.wrap_u64]; omega)
  all_goals try omega
  · rename_i h0 _
    rw [Int.tdiv_eq_ediv_of_nonneg hb.1]
    have := Int.ediv_nonneg hb.1 ha.1
    have := Int.ediv_le_self a hb.1
    omega
  · rename_i h0 _
    rw [Int.tmod_eq_emod_of_nonneg hb.1]
    have := Int.emod_nonneg b h0
    have := Int.emod_lt_of_pos b (show 0 < a by omega)
    omega
theorem payG_in {i : Ins} {s : Ms} (hs : s.ok) : 0 ≤ payG i s ∧ payG i s < 18446744073709551616 := by
  have h1 := costM_pos i.op
  have h2 := hs.gas
  unfold payG
  split <;> omega
theorem Ms.ok.pay {i : Ins} {s : Ms} (hs : s.ok) : ({ s with gas := payG i s } : Ms).ok := ⟨payG_in hs, hs.stk, hs.wds, hs.w16, hs.len⟩
theorem doM_ok {c : Cx} {i : Ins} {s : Ms} (hc : c.ok) (hi : i.ok) (hs : s.ok) (hl : (s.stk.length : Int) + moreM i ≤ 32) : (doM c i s).ok := by
  have ht := hs.stk.get (s.stk.length - 1)
  have h2 := hs.stk.get (s.stk.length - 2)
  have hd : ∀ xs : List Int, xs.length ≤ 1000000000000 → xs.dropLast.length ≤ 1000000000000 := fun xs h => by rw [List.length_dropLast]; omega
  unfold doM Ms.fail
  split
  · exact ⟨hs.gas, hs.stk, hs.wds, hs.w16, hs.len⟩
  split
  · exact ⟨hs.gas, hs.stk, hs.wds, hs.w16, hs.len⟩
  split
  · exact ⟨hs.gas, hs.stk, hs.wds, hs.w16, hs.len⟩
  split
  · split
    · exact ⟨hs.gas, hs.stk.take, hs.wds, hs.w16, hd _ hs.len⟩
    · exact ⟨hs.gas, hs.stk.take, hs.wds, hs.w16, hd _ hs.len⟩
  split
  · exact ⟨hs.gas, hs.stk.take, hs.wds, hs.w16, hd _ hs.len⟩
  split
  · exact ⟨hs.gas, (hs.stk.set (hs.stk.get _)).set ht, hs.wds, hs.w16, by simp only [List.length_set]; exact hs.len⟩
  split
  · exact ⟨hs.gas, hs.stk.take, hs.wds.set ht, by simp only [List.length_set]; exact hs.w16, hd _ hs.len⟩
  split
  · rename_i h
    refine ⟨hs.gas, hs.stk.push (fetchM_in hc hi hs), hs.wds, hs.w16, ?_⟩
    simp only [List.length_append, List.length_singleton]
    have : moreM i = 1 := by
      unfold moreM
      split
      · rfl
      · rw [if_neg (by omega), if_pos (by omega)]
    omega
  split
  · refine ⟨hs.gas, hs.stk.take.take.push (rkV_in h2 ht), hs.wds, hs.w16, ?_⟩
    simp only [List.length_append, List.length_singleton, List.length_dropLast]
    have := hs.len
    omega
  · exact ⟨hs.gas, hs.stk, hs.wds, hs.w16, hs.len⟩
theorem payE_ok {i : Ins} {s : Ms} (h : payE i s = 0) : ¬ s.gas < costM i.op ∧ needsM i ≤ (s.stk.length : Int) ∧ (s.stk.length : Int) + moreM i ≤ 32 := by
  unfold payE at h
  split at h
  · omega
  · split at h
    · omega
    · omega
theorem stepM_ok {L : List Ins} {c : Cx} {s : Ms} (hc : c.ok) (hL : ∀ i ∈ L, i.ok) (hs : s.ok) : (stepM L c s).ok := by
  unfold stepM insM
  split
  · have hi : (L.getD s.pc.toNat ins0).ok := by
      by_cases h : s.pc.toNat < L.length
      · have e : L.getD s.pc.toNat ins0 = L[s.pc.toNat] := by simp [List.getD, h]
        rw [e]
        exact hL _ (List.getElem_mem h)
      · have e : L.getD s.pc.toNat ins0 = ins0 := by simp [List.getD, Nat.not_lt.1 h]
        rw [e]
        exact ⟨by simp [ins0], by simp [ins0]⟩
    split
    · rename_i h
      exact doM_ok hc hi hs.pay (payE_ok h).2.2
    · exact ⟨payG_in hs, hs.stk, hs.wds, hs.w16, hs.len⟩
  · exact ⟨hs.gas, hs.stk, hs.wds, hs.w16, hs.len⟩
theorem goM_ok {L : List Ins} {c : Cx} (hc : c.ok) (hL : ∀ i ∈ L, i.ok) : ∀ {k : Nat} {s : Ms}, s.ok → (goM L c k s).1.ok
  | 0, _, h => h
  | k + 1, s, h => by
    unfold goM
    split
    · exact goM_ok hc hL (stepM_ok hc hL h)
    · exact h
theorem goM_succ {L : List Ins} {c : Cx} {M n : Nat} {s t : Ms} (hs : t.st = 0) (hlt : n < M) (h : goM L c M s = ((goM L c (M - n) t).1, (goM L c (M - n) t).2 + n)) : goM L c M s = ((goM L c (M - (n + 1)) (stepM L c t)).1, (goM L c (M - (n + 1)) (stepM L c t)).2 + (n + 1)) := by
  rw [h, show M - n = (M - (n + 1)) + 1 by omega]
  simp only [goM, if_pos hs]
  rw [Nat.add_assoc, Nat.add_comm 1 n]
theorem codeOk_in {L : List Ins} (h : codeOk L = true) : L.length ≤ 128 ∧ ∀ i ∈ L, insOk i = true := by
  unfold codeOk at h
  simp only [Bool.and_eq_true, decide_eq_true_eq, List.all_eq_true] at h
  exact h
theorem insOk_in {op x : Int} (h : insOk ⟨op, x⟩ = true) : (op = 3 ∨ op = 4 → x < 32) ∧ (op = 14 ∨ op = 15 → x < 16) := by
  unfold insOk at h
  refine ⟨fun h1 => ?_, fun h1 => ?_⟩
  · simp only at h
    rw [if_neg (by omega), if_pos h1] at h
    simpa using h
  · simp only at h
    rw [if_neg (by omega), if_neg (by omega), if_pos h1] at h
    simpa using h
end Go.Proofs.YtnllcmcahfkmaaaDoor
