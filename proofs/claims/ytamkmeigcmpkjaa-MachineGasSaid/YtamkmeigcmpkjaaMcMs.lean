/-
  The machine's state in memory: a block of 21 cells, its stack a row of its own; the small methods.
-/
import Derived.Test.YtamkmeigcmpkjaaMcSt
import Derived.Test.YtamkmeigcmpkjaaOwnR
import Derived.Laws.OwnMore
import Derived.StillTailTactics
namespace Go.Proofs.Ytamkmeigcmpkjaa
set_option maxRecDepth 100000
open Go.RowKit

def wcs (xs : List Int) : List Value := xs.map (Value.int .u64)
@[simp] theorem wcs_len (xs : List Int) : (wcs xs).length = xs.length := by simp [wcs]
theorem wcs_append (xs ys : List Int) : wcs (xs ++ ys) = wcs xs ++ wcs ys := by simp [wcs]
theorem wcs_one (xs : List Int) : ∀ u ∈ wcs xs, u.oneCell' = true := by
  intro u hu
  obtain ⟨x, _, rfl⟩ := List.mem_map.1 hu
  rfl
theorem wcs_set (xs : List Int) (i : Nat) (x : Int) : (wcs xs).set i (.int .u64 x) = wcs (xs.set i x) := by simp [wcs, List.map_set]
theorem wcs_get {xs : List Int} {i : Nat} (h : i < xs.length) : (wcs xs)[i]? = some (.int .u64 (xs.getD i 0)) := by simp [wcs, List.getD, h]
def U64s (xs : List Int) : Prop := ∀ x ∈ xs, 0 ≤ x ∧ x < 18446744073709551616
theorem U64s.get {xs : List Int} (h : U64s xs) (i : Nat) : 0 ≤ xs.getD i 0 ∧ xs.getD i 0 < 18446744073709551616 := by
  by_cases hi : i < xs.length
  · have e : xs.getD i 0 = xs[i] := by simp [List.getD, hi]
    rw [e]
    exact h _ (List.getElem_mem hi)
  · have e : xs.getD i 0 = 0 := by simp [List.getD, Nat.not_lt.1 hi]
    rw [e]; omega
theorem own_cut {w : World} {b : Nat} {e : TypeId} {q : Option Addr} {n c m : Nat} {xs : List Value} (h : w.ownsRow b e 1 (.slice q n c) n xs) (hm : m ≤ n) : w.ownsRow b e 1 (.slice q m c) m (xs.take m) := by
  obtain ⟨hl, h | ⟨g, cap, cur, e1, h1, h2, h3, h4, h5, h6⟩⟩ := h
  · obtain ⟨e1, rfl⟩ := h
    simp only [Value.slice.injEq] at e1
    obtain ⟨rfl, -, rfl⟩ := e1
    obtain rfl : m = 0 := by omega
    exact ⟨by simp, .inl ⟨rfl, rfl⟩⟩
  · simp only [Value.slice.injEq] at e1
    obtain ⟨rfl, -, rfl⟩ := e1
    refine ⟨by rw [List.length_take]; omega, .inr ⟨g, c, cur, rfl, h1, h2, by omega, h4, h5, ?_⟩⟩
    rw [← h6, List.take_take]
    congr 1
    omega

/-- The cells of a state. -/
def stRow (s : Ms) (q : Option Addr) (c : Nat) : List Value := .int .i64 s.pc :: .int .u64 s.gas :: .int .i64 s.st :: .int .i64 s.e :: .slice q s.stk.length c :: wcs s.wds
/-- Its ranges. -/
structure Ms.ok (s : Ms) : Prop where
  gas : 0 ≤ s.gas ∧ s.gas < 18446744073709551616
  stk : U64s s.stk
  wds : U64s s.wds
  w16 : s.wds.length = 16
  len : s.stk.length ≤ 1000000000000
/-- The state s lies in block p, its stack is a row of its own; what was there in a is as it was. -/
structure McS (a w : World) (p : Nat) (s : Ms) : Prop where
  ex : ∃ q c, w.heap[p]? = some (.cells (stRow s q c).toArray 31 (0, 0)) ∧ w.ownsRow 0 23 1 (.slice q s.stk.length c) s.stk.length (wcs s.stk) ∧ ∀ g, (Value.slice q s.stk.length c).ownBlock = some g → a.heap.size ≤ g
  pl : a.heap.size ≤ p
  below : Below a.heap.size a w
section
variable {a w w' : World} {p : Nat} {s : Ms}
theorem McS.on (h : McS a w p s) (hb : Below w.heap.size w w') : McS a w' p s := by
  obtain ⟨q, c, h1, h2, h3⟩ := h.ex
  refine ⟨⟨q, c, ?_, own_on h2 hb, h3⟩, h.pl, h.below.trans (hb.mono h.below.size)⟩
  rw [hb.block _ (Array.getElem?_eq_some_iff.1 h1).1]; exact h1
theorem McS.lt (h : McS a w p s) : p < w.heap.size := by
  obtain ⟨q, c, h1, h2, h3⟩ := h.ex
  exact (Array.getElem?_eq_some_iff.1 h1).1
/-- A store into a cell that is not the stack's. -/
theorem McS.put (h : McS a w p s) {k : Nat} {v : Value} {s' : Ms} (hs : s'.stk = s.stk) (hk : ∀ q c, (stRow s q c).set k v = stRow s' q c) : McS a (w.setCell ⟨p, k, none⟩ v) p s' := by
  obtain ⟨q, c, h1, h2, h3⟩ := h.ex
  refine ⟨⟨q, c, ?_, ?_, by rw [hs]; exact h3⟩, h.pl, ?_⟩
  · rw [Joins.block_setCell h1 v, List.setIfInBounds_toArray, hk]
  · rw [hs]
    exact ownsRow_setCell_other h2 (own_ne h2 h1 (by decide)) v
  · exact (Chg.setCell (S := []) (Chg.below h.below (Nat.le_refl _) []) (p := ⟨p, k, none⟩) (.inr h.pl) v).toBelow (Nat.le_refl _) (fun _ h => by cases h)
theorem McS.pc (h : McS a w p s) (x : Int) : McS a (w.setCell ⟨p, 0, none⟩ (.int .i64 x)) p { s with pc := x } := h.put (s' := { s with pc := x }) rfl (fun _ _ => rfl)
theorem McS.gas (h : McS a w p s) (x : Int) : McS a (w.setCell ⟨p, 1, none⟩ (.int .u64 x)) p { s with gas := x } := h.put (s' := { s with gas := x }) rfl (fun _ _ => rfl)
theorem McS.st (h : McS a w p s) (x : Int) : McS a (w.setCell ⟨p, 2, none⟩ (.int .i64 x)) p { s with st := x } := h.put (s' := { s with st := x }) rfl (fun _ _ => rfl)
theorem McS.err (h : McS a w p s) (x : Int) : McS a (w.setCell ⟨p, 3, none⟩ (.int .i64 x)) p { s with e := x } := h.put (s' := { s with e := x }) rfl (fun _ _ => rfl)
theorem McS.word (h : McS a w p s) (i : Nat) (x : Int) : McS a (w.setCell ⟨p, 5 + i, none⟩ (.int .u64 x)) p { s with wds := s.wds.set i x } := h.put (s' := { s with wds := s.wds.set i x }) rfl (fun _ _ => by
  rw [Nat.add_comm]
  show _ :: _ :: _ :: _ :: _ :: (wcs s.wds).set i _ = _
  rw [wcs_set]
  rfl)
/-- A store of another stack. -/
theorem McS.stack {q q' : Option Addr} {c c' : Nat} {xs : List Int} (h1 : w.heap[p]? = some (.cells (stRow s q c).toArray 31 (0, 0))) (pl : a.heap.size ≤ p) (hb : Below a.heap.size a w)
    (own : w.ownsRow 0 23 1 (.slice q' xs.length c') xs.length (wcs xs)) (fr : ∀ g, (Value.slice q' xs.length c').ownBlock = some g → a.heap.size ≤ g) : McS a (w.setCell ⟨p, 4, none⟩ (.slice q' xs.length c')) p { s with stk := xs } := by
  refine ⟨⟨q', c', ?_, ?_, fr⟩, pl, ?_⟩
  · rw [Joins.block_setCell h1 _, List.setIfInBounds_toArray]
    rfl
  · exact ownsRow_setCell_other own (own_ne own h1 (by decide)) _
  · exact (Chg.setCell (S := []) (Chg.below hb (Nat.le_refl _) []) (p := ⟨p, 4, none⟩) (.inr pl) _).toBelow (Nat.le_refl _) (fun _ h => by cases h)
/-- What the cells hold. -/
structure McC (w : World) (p : Nat) (s : Ms) (q : Option Addr) (c : Nat) : Prop where
  blk : w.heap[p]? = some (.cells (stRow s q c).toArray 31 (0, 0))
  own : w.ownsRow 0 23 1 (.slice q s.stk.length c) s.stk.length (wcs s.stk)
theorem McC.c0 {q : Option Addr} {c : Nat} (h : McC w p s q c) : w.cell? ⟨p, 0, none⟩ = some (.int .i64 s.pc) := (Joins.cell_of_block h.blk 0).trans rfl
theorem McC.c1 {q : Option Addr} {c : Nat} (h : McC w p s q c) : w.cell? ⟨p, 1, none⟩ = some (.int .u64 s.gas) := (Joins.cell_of_block h.blk 1).trans rfl
theorem McC.c2 {q : Option Addr} {c : Nat} (h : McC w p s q c) : w.cell? ⟨p, 2, none⟩ = some (.int .i64 s.st) := (Joins.cell_of_block h.blk 2).trans rfl
theorem McC.c3 {q : Option Addr} {c : Nat} (h : McC w p s q c) : w.cell? ⟨p, 3, none⟩ = some (.int .i64 s.e) := (Joins.cell_of_block h.blk 3).trans rfl
theorem McC.c4 {q : Option Addr} {c : Nat} (h : McC w p s q c) : w.cell? ⟨p, 4, none⟩ = some (.slice q s.stk.length c) := (Joins.cell_of_block h.blk 4).trans rfl
theorem McC.word {q : Option Addr} {c : Nat} (h : McC w p s q c) {i : Nat} (hi : i < s.wds.length) : w.cell? ⟨p, 5 + i, none⟩ = some (.int .u64 (s.wds.getD i 0)) := by
  rw [Joins.cell_of_block h.blk, List.getElem?_toArray, Nat.add_comm]
  exact wcs_get hi
theorem McC.un {q : Option Addr} {c : Nat} (h : McC w p s q c) (i : Nat) : w.frozen? ⟨p, i, none⟩ = false := Joins.unfrozen_of_block h.blk i
theorem McC.at {q : Option Addr} {c : Nat} (h : McC w p s q c) {i : Nat} (hi : i < s.stk.length) : ∃ g, q = some ⟨g, 0, none⟩ ∧ w.cell? ⟨g, i, none⟩ = some (.int .u64 (s.stk.getD i 0)) ∧ w.frozen? ⟨g, i, none⟩ = false := by
  obtain ⟨g, cap, e⟩ := Joins.ownsRow_form h.own (by omega)
  simp only [Value.slice.injEq] at e
  obtain ⟨rfl, -, rfl⟩ := e
  refine ⟨g, rfl, ?_, h.own.frozenAt i⟩
  rw [h.own.cellAt i (by omega)]
  exact wcs_get hi
end
/-- Blocks that are not rows of numbers, and not the state's, stay. -/
def Kept (p : Nat) (w w' : World) : Prop := ∀ g cs T fr, w.heap[g]? = some (.cells cs T fr) → g ≠ p → T ≠ 23 → w'.heap[g]? = some (.cells cs T fr)
theorem Kept.refl (p : Nat) (w : World) : Kept p w w := fun _ _ _ _ h _ _ => h
theorem Kept.trans {p : Nat} {a b c : World} (h : Kept p a b) (k : Kept p b c) : Kept p a c := fun g cs T fr h1 h2 h3 => k g cs T fr (h g cs T fr h1 h2 h3) h2 h3
theorem Kept.below {p : Nat} {w w' : World} (h : Below w.heap.size w w') : Kept p w w' := fun g cs T fr h1 _ _ => by rw [h.block g (Array.getElem?_eq_some_iff.1 h1).1]; exact h1
theorem Kept.setCell (p : Nat) (w : World) (k : Nat) (v : Value) : Kept p w (w.setCell ⟨p, k, none⟩ v) := fun g cs T fr h1 h2 _ => by
  rw [Below.heap_setCell _ _ _ _ (by simpa using h2)]; exact h1
theorem Kept.grown {p : Nat} {w w' : World} {v : Value} {n : Nat} {xs : List Value} (hg : w.grownBy w' v.ownBlock) (ho : w.ownsRow 0 23 1 v n xs) : Kept p w w' := fun g cs T fr h1 _ h3 => by
  rw [hg.block g (Array.getElem?_eq_some_iff.1 h1).1 (fun e => own_ne ho h1 h3 e.symm)]; exact h1
theorem Kept.row {p : Nat} {w : World} {g n c : Nat} {xs : List Value} (ho : w.ownsRow 0 23 1 (.slice (some ⟨g, 0, none⟩) n c) n xs) (i : Nat) (v : Value) : Kept p w (w.setCell ⟨g, i, none⟩ v) := fun g' cs T fr h1 _ h3 => by
  have hne : g' ≠ g := fun e => own_ne ho h1 h3 (by rw [e]; rfl)
  rw [Below.heap_setCell _ _ _ _ (by simpa using hne)]; exact h1
theorem McS.setAt {a w : World} {p g c : Nat} {s : Ms} (C : McC w p s (some ⟨g, 0, none⟩) c) (fr : ∀ x, (Value.slice (some ⟨g, 0, none⟩) s.stk.length c).ownBlock = some x → a.heap.size ≤ x) (pl : a.heap.size ≤ p) (hb : Below a.heap.size a w) (i : Nat) (v : Int) :
    McS a (w.setCell ⟨g, i, none⟩ (.int .u64 v)) p { s with stk := s.stk.set i v } ∧ McC (w.setCell ⟨g, i, none⟩ (.int .u64 v)) p { s with stk := s.stk.set i v } (some ⟨g, 0, none⟩) c := by
  have hne : p ≠ g := fun e => own_ne C.own C.blk (by decide) (by rw [e]; rfl)
  have e1 : stRow { s with stk := s.stk.set i v } (some ⟨g, 0, none⟩) c = stRow s (some ⟨g, 0, none⟩) c := by simp [stRow]
  have k1 : (w.setCell ⟨g, i, none⟩ (.int .u64 v)).heap[p]? = some (.cells (stRow { s with stk := s.stk.set i v } (some ⟨g, 0, none⟩) c).toArray 31 (0, 0)) := by
    rw [e1, Below.heap_setCell _ _ _ _ (by simpa using hne)]; exact C.blk
  have k2 : (w.setCell ⟨g, i, none⟩ (.int .u64 v)).ownsRow 0 23 1 (.slice (some ⟨g, 0, none⟩) (s.stk.set i v).length c) (s.stk.set i v).length (wcs (s.stk.set i v)) := by
    rw [List.length_set, ← wcs_set]
    exact (C.own.stored i _).1
  have hg : a.heap.size ≤ g := fr g rfl
  exact ⟨⟨⟨some ⟨g, 0, none⟩, c, k1, k2, by simpa using fr⟩, pl, (Chg.setCell (S := []) (Chg.below hb (Nat.le_refl _) []) (p := ⟨g, i, none⟩) (.inr hg) _).toBelow (Nat.le_refl _) (fun _ h => by cases h)⟩, ⟨k1, k2⟩⟩
def Ret (v : Value) (a w : World) (p : Nat) (s : Ms) (e : Ending) (w' : World) : Prop := e = .returned v ∧ McS a w' p s ∧ Kept p w w'
theorem fail_any {a w : World} {p : Nat} {s : Ms} (h : McS a w p s) (x : Int) : Calls Try.prog 12 #[.pointer (some ⟨p, 0, none⟩), .int .i64 x] w (Ret (.tuple #[]) a w p (s.fail x)) := by
  obtain ⟨q, c, h1, h2, h3⟩ := h.ex
  have C : McC w p s q c := ⟨h1, h2⟩
  have R := Lib.hid ((h.st 2).err x)
  have KP := Lib.hid ((Kept.setCell p w 2 (.int .i64 2)).trans (Kept.setCell p _ 3 (.int .i64 x)))
  have c2 := C.c2
  have c3 := C.c3
  have u2 := C.un 2
  have u3 := C.un 3
  clear h h1 h2 h3 C
  go_enter Try.func12, Try.ntmps12
  go_wp2_with fail
  go_end0
  exact ⟨rfl, R.out, KP.out⟩
theorem jump_any {a w : World} {p : Nat} {s : Ms} (h : McS a w p s) {x : Int} (h0 : 0 ≤ x) : Calls Try.prog 17 #[.pointer (some ⟨p, 0, none⟩), .int .u64 x] w (Ret (.tuple #[]) a w p { s with pc := jmp x }) := by
  obtain ⟨q, c, h1, h2, h3⟩ := h.ex
  have C : McC w p s q c := ⟨h1, h2⟩
  have R : Hid (∀ y, y = jmp x → McS a (w.setCell ⟨p, 0, none⟩ (.int .i64 y)) p { s with pc := jmp x }) := fun y hy => by rw [← hy]; exact h.pc y
  have c0 := C.c0
  have u0 := C.un 0
  clear h h1 h2 h3 C
  go_enter Try.func17, Try.ntmps17
  go_wp2_with fail
  all_goals (go_end0; exact ⟨rfl, R.out _ (by unfold jmp; omega), Kept.setCell _ _ _ _⟩)
end Go.Proofs.Ytamkmeigcmpkjaa
