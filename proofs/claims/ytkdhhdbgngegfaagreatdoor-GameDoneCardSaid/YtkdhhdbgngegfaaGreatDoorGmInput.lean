/-
  The walk of basculelaw17.input: some input.
-/
import Derived.Test.YtkdhhdbgngegfaaGreatDoorGmEnd
namespace Go.Proofs.YtkdhhdbgngegfaaGreatDoor
set_option maxRecDepth 100000
open Go.RowKit

def txCells : List Value := [.int .i64 1, .int .u64 0, .int .u64 0, .int .u64 0, .int .u64 0, .int .u64 0, .int .u64 0, .int .u64 0, .int .u64 0, .slice none 0 0]
def inRow0 : List Value := [.bool false, .int .u64 0, .int .u64 0, .int .u64 0, .int .u64 0, .int .u64 0, .int .u64 0, .int .u64 0, .int .u64 0, .int .u64 0, .int .u64 0, .int .u64 0, .int .u64 0, .slice none 0 0, .int .i64 0, .int .u64 0, .int .u64 0, .int .u64 0, .int .u64 0, .int .u64 0, .int .u64 0, .int .u64 0, .int .u64 0, .slice none 0 0]
def inRow1 : List Value := [.bool false, .int .u64 0, .int .u64 0, .int .u64 0, .int .u64 0, .int .u64 0, .int .u64 0, .int .u64 0, .int .u64 0, .int .u64 0, .int .u64 0, .int .u64 0, .int .u64 0, .slice none 0 0, .int .i64 1, .int .u64 0, .int .u64 0, .int .u64 0, .int .u64 0, .int .u64 0, .int .u64 0, .int .u64 0, .int .u64 0, .slice none 0 0]
@[go_sem] theorem inRow1_len : inRow1.length = 24 := rfl
@[go_sem ↓] theorem load24 (a : Addr) : loadCellsFrom a 0 24 #[] = rowLoad a 24 := rfl
@[go_sem ↓] theorem Tryz.build_tx (ps : Array (Nat × Value)) : Instr.build 45 ps = rowBuild 45 ps := rfl
@[go_sem ↓] theorem Tryz.build_in (ps : Array (Nat × Value)) : Instr.build 47 ps = rowBuild 47 ps := rfl
@[go_sem] theorem Tryz.run_tx1 (w : World) : (rowBuild 45 #[(0, .int .i64 1)]).run Tryz.prog w = .ok (.agg txCells.toArray) w := by kernel_rfl
@[go_sem] theorem Tryz.run_in1 (w : World) : (rowBuild 47 #[(3, .agg txCells.toArray)]).run Tryz.prog w = .ok (.agg inRow1.toArray) w := by kernel_rfl
@[go_sem ↓] theorem Tryz.zero_in1 (w : World) : (zeroValue 47).run Tryz.prog w = .ok (.agg inRow0.toArray) w := by kernel_rfl
@[go_sem ↓] theorem Tryz.run_store_new_in (w : World) :
    (storeCells ⟨w.heap.size, 0, none⟩ inRow1 0).run Tryz.prog (w.alloc (.cells inRow0.toArray 47)) = .ok () (w.alloc (.cells inRow1.toArray 47)) :=
  run_storeCells_new w 47 inRow0.toArray inRow1.toArray (by kernel_rfl) (by rfl) (by kernel_rfl)

theorem input_any (w : World) : Calls Tryz.prog 8 #[] w fun e w' => (∃ x, e = .returned (.agg x)) ∧ Below w.heap.size w w' := by
  have cr : rowOf (w.alloc (.cells inRow1.toArray 47)) w.heap.size 0 24 = inRow1 := by
    rw [rowOf_block (heap_alloc_last w _)]; rfl
  go_enter Tryz.func8, Tryz.ntmps8
  go_wp2_with fail
  refine bodyPost_ret (v := .agg inRow1.toArray) (by simp [results, Tryz.results8, go_sem, cr]) rfl ⟨⟨_, rfl⟩, ?_⟩
  repeat (first | with_reducible exact Below.refl _ _ | with_reducible refine Below.alloc ?_ (by simp; try omega) _)
end Go.Proofs.YtkdhhdbgngegfaaGreatDoor
