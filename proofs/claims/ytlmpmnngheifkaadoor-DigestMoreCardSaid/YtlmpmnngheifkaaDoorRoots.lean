/-
  What basculeref02.Constants reckons: primes, powers in limbs, roots.
-/
import Derived.Test.YtlmpmnngheifkaaDoorRefSum
namespace Go.Proofs.YtlmpmnngheifkaaDoor
open Go.RowKit
set_option maxRecDepth 100000

/-! ### The numbers -/
def mst (a : Nat) (o : List Nat) (k m : Nat) (g : List Nat) (c : Nat) : Nat := (c + g.getD (k + m) 0 + a * o.getD m 0) % 18446744073709551616
/-- m rounds of the inmost loop. -/
def inner (a : Nat) (o : List Nat) (k : Nat) (g0 : List Nat) : Nat → List Nat × Nat
  | 0 => (g0, 0)
  | m + 1 => match inner a o k g0 m with
    | (g, c) => (g.set (k + m) (mst a o k m g c % 4294967296), mst a o k m g c / 4294967296)
def zero6 : List Nat := [0, 0, 0, 0, 0, 0]
def mulS (x : Nat) (o : List Nat) : List Nat := (inner (x / 4294967296) o 1 (inner (x % 4294967296) o 0 zero6 6).1 5).1
def powM (x : Nat) : Nat → List Nat
  | 0 => [1, 0, 0, 0, 0, 0]
  | n + 1 => mulS x (powM x n)
/-- The comparing loop: k limbs still to look at. -/
def fitsM (z w : List Nat) : Nat → Bool
  | 0 => true
  | k + 1 => if z.getD k 0 = w.getD k 0 then fitsM z w k else Nat.blt (z.getD k 0) (w.getD k 0)
def wantM (p n : Nat) : List Nat := zero6.set n p
def rootGo (p n : Nat) : Nat → Nat → Nat
  | 0, x => x
  | b + 1, x => rootGo p n b (if fitsM (powM ((x + 2 ^ b) % 18446744073709551616) n) (wantM p n) 6 then (x + 2 ^ b) % 18446744073709551616 else x)
def rootM (p n : Nat) : Nat := rootGo p n 38 0 % 4294967296
theorem inner_len (a : Nat) (o : List Nat) (k : Nat) (g0 : List Nat) : ∀ m, (inner a o k g0 m).1.length = g0.length
  | 0 => rfl
  | m + 1 => by
    have ih := inner_len a o k g0 m
    unfold inner
    generalize inner a o k g0 m = s at ih ⊢
    obtain ⟨g, c⟩ := s
    simpa using ih
theorem powM_len (x : Nat) : ∀ n, (powM x n).length = 6
  | 0 => rfl
  | n + 1 => by unfold powM mulS; rw [inner_len, inner_len]; rfl

/-! ### Rows of six -/
def vc (F : List Nat) : List Value := F.map fun (v : Nat) => Value.int .u64 (v : Int)
@[go_sem] theorem vc_len (F : List Nat) : (vc F).length = F.length := by simp [vc]
@[go_sem] theorem zero6_len : zero6.length = 6 := by simp [zero6]
theorem vc_one (F : List Nat) : (vc F).toArray.all (·.oneCell') = true := by
  rw [Array.all_eq_true_iff_forall_mem]
  intro v hv
  simp [vc] at hv
  obtain ⟨x, _, rfl⟩ := hv
  rfl
@[go_sem] theorem run_storeCells_u64 {P : Program} (w : World) (b o : Nat) (F : List Nat) (ht : w.there b o F.length) : (storeCells ⟨b, o, none⟩ (vc F) 0).run P w = .ok () (w.setCells b o (vc F)) := by
  have := run_storeCells_cells (P := P) b o (vc F) 0 w (fun j hj => by rw [vc_len] at hj; simpa using (ht j hj).1) (fun j hj => by rw [vc_len] at hj; simpa using (ht j hj).2) (fun v hv => (Array.all_eq_true_iff_forall_mem.1 (vc_one F)) v (by simpa using hv))
  simpa using this
@[go_sem ↓] theorem load6 (a : Addr) : loadCellsFrom a 0 6 #[] = rowLoad a 6 := rfl
@[go_sem ↓] theorem Tryd.build_six (ps : Array (Nat × Value)) : Instr.build 76 ps = rowBuild 76 ps := rfl
@[go_sem] theorem Tryd.run_six0 (w : World) : (rowBuild 76 #[]).run Tryd.prog w = .ok (.agg (vc zero6).toArray) w := by unfold rowBuild; kernel_rfl
@[go_sem] theorem Tryd.run_six1 (w : World) : (rowBuild 76 #[(0, .int .u64 1)]).run Tryd.prog w = .ok (.agg (vc (powM 0 0)).toArray) w := by unfold rowBuild; kernel_rfl
@[go_sem ↓] theorem Tryd.zero_six (w : World) : (zeroValue 76).run Tryd.prog w = .ok (.agg (vc zero6).toArray) w := by kernel_rfl
/-- Block b of w holds six limbs. -/
def SixAt (w : World) (b : Nat) (F : List Nat) : Prop := w.heap[b]? = some (.cells (vc F).toArray 76 (0, 0))
theorem SixAt.lt {w : World} {b : Nat} {F : List Nat} (h : SixAt w b F) : b < w.heap.size := (Array.getElem?_eq_some_iff.1 h).1
theorem SixAt.on {w w1 : World} {b : Nat} {F : List Nat} (h : SixAt w b F) (hb : Below w.heap.size w w1) : SixAt w1 b F := by
  have := h.lt
  unfold SixAt
  rw [hb.block _ this]; exact h
theorem SixAt.new (w : World) (F : List Nat) : SixAt (w.alloc (.cells (vc F).toArray 76)) w.heap.size F := heap_alloc_last w _
theorem SixAt.there {w : World} {b : Nat} {G : List Nat} (h : SixAt w b G) (hG : G.length = 6) : w.there b 0 6 := fun j hj => by
  refine ⟨?_, Joins.unfrozen_of_block h _⟩
  rw [cell_of_row _ _ _ _ _ _ h]
  simp [vc_len, hG, hj]
theorem SixAt.put {w : World} {b : Nat} {G : List Nat} (h : SixAt w b G) (hG : G.length = 6) {F : List Nat} (hF : F.length = 6) : SixAt (w.setCells b 0 (vc F)) b F := by
  have := setCells_block (b := b) (t := 76) (fr := (0, 0)) (vc F) (o := 0) (w := w) (pre := []) (mid := vc G) (post := []) (by simp only [List.nil_append, List.append_nil]; exact h) rfl (by rw [vc_len, vc_len, hF, hG])
  simpa only [SixAt, List.nil_append, List.append_nil] using this
theorem SixAt.row {w : World} {b : Nat} {F : List Nat} (h : SixAt w b F) (hF : F.length = 6) : rowOf w b 0 6 = vc F := by
  rw [rowOf_block h]
  have : (vc F).length = 6 := by rw [vc_len, hF]
  simp [List.take_of_length_le (Nat.le_of_eq this)]
theorem SixAt.cell {w : World} {b : Nat} {F : List Nat} (h : SixAt w b F) {i : Nat} (hi : i < F.length) : w.cell? ⟨b, i, none⟩ = some (.int .u64 ((F.getD i 0 : Nat) : Int)) := by
  rw [Joins.cell_of_block h]
  simp [vc, List.getD, hi]
theorem SixAt.free {w : World} {b : Nat} {F : List Nat} (h : SixAt w b F) (i : Nat) : w.frozen? ⟨b, i, none⟩ = false := Joins.unfrozen_of_block h i
theorem SixAt.store {w : World} {b : Nat} {F : List Nat} (h : SixAt w b F) (i v : Nat) : SixAt (w.setCell ⟨b, i, none⟩ (.int .u64 (v : Int))) b (F.set i v) := by
  have := Joins.block_setCell h (i := i) (.int .u64 (v : Int))
  unfold SixAt
  rw [this]
  congr 2
  simp [vc, List.map_set]
theorem SixAt.other {w : World} {b : Nat} {F : List Nat} (h : SixAt w b F) {a : Addr} (ha : b ≠ a.block) (v : Value) : SixAt (w.setCell a v) b F := by
  unfold SixAt
  rw [Below.heap_setCell _ _ _ _ ha]; exact h
theorem SixAt.alloc {w : World} {b : Nat} {F : List Nat} (h : SixAt w b F) (o : Obj) : SixAt (w.alloc o) b F := by
  unfold SixAt
  rw [Below.heap_alloc _ _ _ h.lt]; exact h
end Go.Proofs.YtlmpmnngheifkaaDoor
