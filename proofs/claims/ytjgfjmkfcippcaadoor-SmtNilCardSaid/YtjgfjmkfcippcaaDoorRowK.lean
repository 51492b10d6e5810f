/-
  A row of numbers of one kind in memory, by an index function.
-/
import Derived.Test.YtjgfjmkfcippcaaDoorRows
import Derived.WalkKit
import Derived.Below
import Derived.Lib.Hide
import Derived.Lib.SmallJoins
import Derived.ProofKit
import Derived.BigQuiet
import Derived.BigRegion
import Derived.Deep.QuietTactic
namespace Go.Proofs.YtjgfjmkfcippcaaDoor
open Go.RowKit

/-- Block b holds n numbers. -/
def RwK (k : IntKind) (w : World) (b n : Nat) (T : TypeId) (f : Nat → Int) : Prop := ∃ cs : Array Value, w.heap[b]? = some (.cells cs T (0, 0)) ∧ cs.size = n ∧ ∀ i, i < n → cs[i]? = some (.int k (f i))
def updK (f : Nat → Int) (k : Nat) (v : Int) : Nat → Int := fun i => if i = k then v else f i
theorem updK_same (f : Nat → Int) (k : Nat) (v : Int) : updK f k v k = v := by simp [updK]
theorem updK_ne (f : Nat → Int) {k i : Nat} (v : Int) (h : i ≠ k) : updK f k v i = f i := by simp [updK, h]

section
variable {k : IntKind} {w w1 : World} {b n : Nat} {T : TypeId} {f : Nat → Int}
theorem RwK.lt (h : RwK k w b n T f) : b < w.heap.size := by
  obtain ⟨cs, hb, _⟩ := h
  exact lt_of_block hb
theorem RwK.cell (h : RwK k w b n T f) (i : Nat) (hi : i < n) : w.cell? ⟨b, i, none⟩ = some (.int k (f i)) := by
  obtain ⟨cs, hb, _, hx⟩ := h
  rw [Joins.cell_of_block hb]; exact hx i hi
theorem RwK.free (h : RwK k w b n T f) (i : Nat) : w.frozen? ⟨b, i, none⟩ = false := by
  obtain ⟨cs, hb, _, hx⟩ := h
  exact Joins.unfrozen_of_block hb i
theorem RwK.on (h : RwK k w b n T f) (hb : Below w.heap.size w w1) : RwK k w1 b n T f := by
  have := h.lt
  obtain ⟨cs, h1, h2⟩ := h
  exact ⟨cs, by rw [hb.block _ this]; exact h1, h2⟩
theorem RwK.alloc (h : RwK k w b n T f) (o : Obj) : RwK k (w.alloc o) b n T f := by
  have l := h.lt
  obtain ⟨cs, h1, h2⟩ := h
  exact ⟨cs, by rw [Below.heap_alloc _ _ _ l]; exact h1, h2⟩
theorem RwK.drew (h : RwK k w b n T f) : RwK k w.drew b n T f := h
theorem RwK.other (h : RwK k w b n T f) {a : Addr} (ha : b ≠ a.block) (v : Value) : RwK k (w.setCell a v) b n T f := by
  obtain ⟨cs, h1, h2⟩ := h
  exact ⟨cs, by rw [Below.heap_setCell _ _ _ _ ha]; exact h1, h2⟩
theorem RwK.store (h : RwK k w b n T f) {j : Nat} (hj : j < n) (v : Int) : RwK k (w.setCell ⟨b, j, none⟩ (.int k v)) b n T (updK f j v) := by
  obtain ⟨cs, h1, h2, h3⟩ := h
  refine ⟨cs.setIfInBounds j (.int k v), Joins.block_setCell h1 _, by simp [h2], fun i hi => ?_⟩
  by_cases e : j = i
  · subst e; rw [Array.getElem?_setIfInBounds_self_of_lt (by omega), updK_same]
  · rw [Array.getElem?_setIfInBounds_ne e, updK_ne _ _ (fun h => e h.symm)]; exact h3 i hi
theorem RwK.new (k : IntKind) (w : World) (n : Nat) (T : TypeId) : RwK k (w.alloc (.cells (Array.replicate n (.int k 0)) T)) w.heap.size n T fun _ => 0 :=
  ⟨_, heap_alloc_new _ _, by simp, fun i hi => by simp [hi]⟩
theorem RwK.newL (k : IntKind) (w : World) (L : List Int) (T : TypeId) : RwK k (w.alloc (.cells (L.map (Value.int k)).toArray T)) w.heap.size L.length T fun i => L.getD i 0 :=
  ⟨_, heap_alloc_new _ _, by simp, fun i hi => by simp [hi, List.getD]⟩
theorem RwK.same {g : Nat → Int} (h : RwK k w b n T f) (e : ∀ i, i < n → f i = g i) : RwK k w b n T g := by
  obtain ⟨cs, h1, h2, h3⟩ := h
  exact ⟨cs, h1, h2, fun i hi => by rw [← e i hi]; exact h3 i hi⟩
/-- The block itself. -/
theorem RwK.block (h : RwK k w b n T f) : w.heap[b]? = some (.cells ((List.range n).map fun i => Value.int k (f i)).toArray T (0, 0)) := by
  obtain ⟨cs, h1, h2, h3⟩ := h
  rw [h1]
  congr 2
  apply Array.ext_getElem?
  intro i
  by_cases hi : i < n
  · rw [h3 i hi]; simp [hi]
  · rw [Array.getElem?_eq_none (by omega), Array.getElem?_eq_none (by simp; omega)]
end
end Go.Proofs.YtjgfjmkfcippcaaDoor
