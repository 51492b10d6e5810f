/-
  The walks of package basculeref01: halves, whole, Add, Sub, less, Compare, Low, Of.
-/
import Derived.Test.YtnnlpiflalmmlaaDivNum
namespace Go.Proofs.Ytnnlpiflalmmlaa
open Go.RowKit

/-- A half digit. -/
def Hf (x : Int) : Prop := 0 ≤ x ∧ x < 4294967296
def D8 (x0 x1 x2 x3 x4 x5 x6 x7 : Int) : Prop := Hf x0 ∧ Hf x1 ∧ Hf x2 ∧ Hf x3 ∧ Hf x4 ∧ Hf x5 ∧ Hf x6 ∧ Hf x7
def V8 (x0 x1 x2 x3 x4 x5 x6 x7 : Int) : Int := x0 + 4294967296 * x1 + B * x2 + B * 4294967296 * x3 + B * B * x4 + B * B * 4294967296 * x5 + B * B * B * x6 + B * B * B * 4294967296 * x7

/-- Block b holds eight halves. -/
def At8 (w : World) (b : Nat) (x0 x1 x2 x3 x4 x5 x6 x7 : Int) : Prop := w.heap[b]? = some (.cells #[.int .u64 x0, .int .u64 x1, .int .u64 x2, .int .u64 x3, .int .u64 x4, .int .u64 x5, .int .u64 x6, .int .u64 x7] 52 (0, 0))
section
variable {w w1 : World} {b : Nat} {x0 x1 x2 x3 x4 x5 x6 x7 : Int}
theorem At8.lt (h : At8 w b x0 x1 x2 x3 x4 x5 x6 x7) : b < w.heap.size := lt_of_block h
theorem At8.cell (h : At8 w b x0 x1 x2 x3 x4 x5 x6 x7) : w.cell? ⟨b, 0, none⟩ = some (.int .u64 x0) ∧ w.cell? ⟨b, 1, none⟩ = some (.int .u64 x1) ∧ w.cell? ⟨b, 2, none⟩ = some (.int .u64 x2) ∧ w.cell? ⟨b, 3, none⟩ = some (.int .u64 x3) ∧ w.cell? ⟨b, 4, none⟩ = some (.int .u64 x4) ∧ w.cell? ⟨b, 5, none⟩ = some (.int .u64 x5) ∧ w.cell? ⟨b, 6, none⟩ = some (.int .u64 x6) ∧ w.cell? ⟨b, 7, none⟩ = some (.int .u64 x7) := by
  simp [Joins.cell_of_block h]
theorem At8.free (h : At8 w b x0 x1 x2 x3 x4 x5 x6 x7) : w.frozen? ⟨b, 0, none⟩ = false ∧ w.frozen? ⟨b, 1, none⟩ = false ∧ w.frozen? ⟨b, 2, none⟩ = false ∧ w.frozen? ⟨b, 3, none⟩ = false ∧ w.frozen? ⟨b, 4, none⟩ = false ∧ w.frozen? ⟨b, 5, none⟩ = false ∧ w.frozen? ⟨b, 6, none⟩ = false ∧ w.frozen? ⟨b, 7, none⟩ = false := by
  refine ⟨Joins.unfrozen_of_block h 0, Joins.unfrozen_of_block h 1, Joins.unfrozen_of_block h 2, Joins.unfrozen_of_block h 3, Joins.unfrozen_of_block h 4, Joins.unfrozen_of_block h 5, Joins.unfrozen_of_block h 6, Joins.unfrozen_of_block h 7⟩
theorem At8.on (h : At8 w b x0 x1 x2 x3 x4 x5 x6 x7) (hb : Below w.heap.size w w1) : At8 w1 b x0 x1 x2 x3 x4 x5 x6 x7 := by
  have := h.lt
  unfold At8
  rw [hb.block _ this]; exact h
theorem At8.alloc (h : At8 w b x0 x1 x2 x3 x4 x5 x6 x7) (o : Obj) : At8 (w.alloc o) b x0 x1 x2 x3 x4 x5 x6 x7 := by
  unfold At8
  rw [Below.heap_alloc _ _ _ h.lt]; exact h
theorem At8.other (h : At8 w b x0 x1 x2 x3 x4 x5 x6 x7) {a : Addr} (ha : b ≠ a.block) (v : Value) : At8 (w.setCell a v) b x0 x1 x2 x3 x4 x5 x6 x7 := by
  unfold At8
  rw [Below.heap_setCell _ _ _ _ ha]; exact h
theorem At8.set0 (h : At8 w b x0 x1 x2 x3 x4 x5 x6 x7) (y : Int) : At8 (w.setCell ⟨b, 0, none⟩ (.int .u64 y)) b y x1 x2 x3 x4 x5 x6 x7 := by
  have e := Joins.block_setCell (i := 0) h (.int .u64 y)
  unfold At8; rw [e]; rfl
theorem At8.set1 (h : At8 w b x0 x1 x2 x3 x4 x5 x6 x7) (y : Int) : At8 (w.setCell ⟨b, 1, none⟩ (.int .u64 y)) b x0 y x2 x3 x4 x5 x6 x7 := by
  have e := Joins.block_setCell (i := 1) h (.int .u64 y)
  unfold At8; rw [e]; rfl
theorem At8.set2 (h : At8 w b x0 x1 x2 x3 x4 x5 x6 x7) (y : Int) : At8 (w.setCell ⟨b, 2, none⟩ (.int .u64 y)) b x0 x1 y x3 x4 x5 x6 x7 := by
  have e := Joins.block_setCell (i := 2) h (.int .u64 y)
  unfold At8; rw [e]; rfl
theorem At8.set3 (h : At8 w b x0 x1 x2 x3 x4 x5 x6 x7) (y : Int) : At8 (w.setCell ⟨b, 3, none⟩ (.int .u64 y)) b x0 x1 x2 y x4 x5 x6 x7 := by
  have e := Joins.block_setCell (i := 3) h (.int .u64 y)
  unfold At8; rw [e]; rfl
theorem At8.set4 (h : At8 w b x0 x1 x2 x3 x4 x5 x6 x7) (y : Int) : At8 (w.setCell ⟨b, 4, none⟩ (.int .u64 y)) b x0 x1 x2 x3 y x5 x6 x7 := by
  have e := Joins.block_setCell (i := 4) h (.int .u64 y)
  unfold At8; rw [e]; rfl
theorem At8.set5 (h : At8 w b x0 x1 x2 x3 x4 x5 x6 x7) (y : Int) : At8 (w.setCell ⟨b, 5, none⟩ (.int .u64 y)) b x0 x1 x2 x3 x4 y x6 x7 := by
  have e := Joins.block_setCell (i := 5) h (.int .u64 y)
  unfold At8; rw [e]; rfl
theorem At8.set6 (h : At8 w b x0 x1 x2 x3 x4 x5 x6 x7) (y : Int) : At8 (w.setCell ⟨b, 6, none⟩ (.int .u64 y)) b x0 x1 x2 x3 x4 x5 y x7 := by
  have e := Joins.block_setCell (i := 6) h (.int .u64 y)
  unfold At8; rw [e]; rfl
theorem At8.set7 (h : At8 w b x0 x1 x2 x3 x4 x5 x6 x7) (y : Int) : At8 (w.setCell ⟨b, 7, none⟩ (.int .u64 y)) b x0 x1 x2 x3 x4 x5 x6 y := by
  have e := Joins.block_setCell (i := 7) h (.int .u64 y)
  unfold At8; rw [e]; rfl
end
theorem At8.new (w : World) (x0 x1 x2 x3 x4 x5 x6 x7 : Int) : At8 (w.alloc (.cells #[.int .u64 x0, .int .u64 x1, .int .u64 x2, .int .u64 x3, .int .u64 x4, .int .u64 x5, .int .u64 x6, .int .u64 x7] 52)) w.heap.size x0 x1 x2 x3 x4 x5 x6 x7 := heap_new _ _

theorem zero8 (w : World) : (zeroValue 52).run Try.prog w = .ok (.agg #[.int .u64 0, .int .u64 0, .int .u64 0, .int .u64 0, .int .u64 0, .int .u64 0, .int .u64 0, .int .u64 0]) w := by kernel_rfl

/-- Eight halves of a number. -/
def HalfP (w : World) (N : Int) (e : Ending) (w' : World) : Prop := ∃ x0 x1 x2 x3 x4 x5 x6 x7 : Int, e = .returned (.agg #[.int .u64 x0, .int .u64 x1, .int .u64 x2, .int .u64 x3, .int .u64 x4, .int .u64 x5, .int .u64 x6, .int .u64 x7]) ∧ D8 x0 x1 x2 x3 x4 x5 x6 x7 ∧ V8 x0 x1 x2 x3 x4 x5 x6 x7 = N ∧ Below w.heap.size w w'
/-- A number. -/
def OneP (w : World) (R : Int → Int → Int → Int → Prop) (e : Ending) (w' : World) : Prop := ∃ r0 r1 r2 r3 : Int, e = .returned (.agg #[.int .u64 r0, .int .u64 r1, .int .u64 r2, .int .u64 r3]) ∧ R r0 r1 r2 r3 ∧ Below w.heap.size w w'

set_option maxHeartbeats 1000000 in
theorem halves_any {a0 a1 a2 a3 : Int} (ha : D4 a0 a1 a2 a3) (w : World) :
    Calls Try.prog 31 #[.agg #[.int .u64 a0, .int .u64 a1, .int .u64 a2, .int .u64 a3]] w (HalfP w (V a0 a1 a2 a3)) := by
  obtain ⟨⟨n0, m0⟩, ⟨n1, m1⟩, ⟨n2, m2⟩, ⟨n3, m3⟩⟩ := ha
  unfold B at m0 m1 m2 m3
  go_enter Try.func31, Try.ntmps31
  go_wp2_with fail
  refine wp_loop_rounds 5 ?_
  iterate 4
    rw [rounds_succ]
    go_wp2_with fail
  rw [rounds_succ]
  go_wp2_with fail
  refine bodyPost_ret (v := .agg #[.int .u64 (a0 % 4294967296), .int .u64 (a0 / 4294967296), .int .u64 (a1 % 4294967296), .int .u64 (a1 / 4294967296), .int .u64 (a2 % 4294967296), .int .u64 (a2 / 4294967296), .int .u64 (a3 % 4294967296), .int .u64 (a3 / 4294967296)]) (by simp [results, Try.results31, go_sem]) rfl ⟨_, _, _, _, _, _, _, _, rfl, ?_, ?_, ?_⟩
  · unfold D8 Hf; omega
  · unfold V8 V B; omega
  · repeat (first | with_reducible exact Below.refl _ _ | with_reducible refine Below.alloc ?_ (by simp; try omega) _)

set_option maxHeartbeats 1000000 in
theorem whole_any {x0 x1 x2 x3 x4 x5 x6 x7 : Int} (hx : D8 x0 x1 x2 x3 x4 x5 x6 x7) (w : World) :
    Calls Try.prog 32 #[.agg #[.int .u64 x0, .int .u64 x1, .int .u64 x2, .int .u64 x3, .int .u64 x4, .int .u64 x5, .int .u64 x6, .int .u64 x7]] w (OneP w fun r0 r1 r2 r3 => D4 r0 r1 r2 r3 ∧ V r0 r1 r2 r3 = V8 x0 x1 x2 x3 x4 x5 x6 x7) := by
  obtain ⟨⟨n0, m0⟩, ⟨n1, m1⟩, ⟨n2, m2⟩, ⟨n3, m3⟩, ⟨n4, m4⟩, ⟨n5, m5⟩, ⟨n6, m6⟩, ⟨n7, m7⟩⟩ := hx
  go_enter Try.func32, Try.ntmps32
  go_wp2_with fail
  refine wp_loop_rounds 5 ?_
  iterate 4
    rw [rounds_succ]
    go_wp2_with fail
    go_region
    go_wp2_with fail
  rw [rounds_succ]
  go_wp2_with fail
  refine bodyPost_ret (v := .agg #[.int .u64 (x0 + x1 * 4294967296), .int .u64 (x2 + x3 * 4294967296), .int .u64 (x4 + x5 * 4294967296), .int .u64 (x6 + x7 * 4294967296)]) (by simp [results, Try.results32, go_sem]) rfl ⟨_, _, _, _, rfl, ⟨?_, ?_⟩, ?_⟩
  · unfold D4 Dg B; omega
  · unfold V8 V B; omega
  · repeat (first | with_reducible exact Below.refl _ _ | with_reducible refine Below.drew ?_ | with_reducible refine Below.alloc ?_ (by simp; try omega) _)

set_option maxHeartbeats 4000000 in
theorem refCompare_any {a0 a1 a2 a3 b0 b1 b2 b3 : Int} (ha : D4 a0 a1 a2 a3) (hb : D4 b0 b1 b2 b3) (w : World) :
    Calls Try.prog 14 #[.agg #[.int .u64 a0, .int .u64 a1, .int .u64 a2, .int .u64 a3], .agg #[.int .u64 b0, .int .u64 b1, .int .u64 b2, .int .u64 b3]] w fun e w' => e = .returned (.int .i64 (cmp (V a0 a1 a2 a3) (V b0 b1 b2 b3))) ∧ Below w.heap.size w w' := by
  rcases Int.lt_trichotomy a3 b3 with h3 | rfl | h3
  · have hr : cmp (V a0 a1 a2 a3) (V b0 b1 b2 b3) = -1 := by unfold D4 Dg B at ha hb; unfold cmp V B; (repeat' split) <;> first | rfl | omega
    rw [hr]
    clear ha hb hr
    go_enter Try.func14, Try.ntmps14
    go_wp2_with fail
    refine wp_loop_rounds 5 ?_
    rw [rounds_succ]
    go_wp2_with fail
    go_region
    go_wp2_with fail
    go_ret
    refine ⟨rfl, ?_⟩
    repeat (first | with_reducible exact Below.refl _ _ | with_reducible refine Below.drew ?_ | with_reducible refine Below.alloc ?_ (by simp; try omega) _)
  · rcases Int.lt_trichotomy a2 b2 with h2 | rfl | h2
    · have hr : cmp (V a0 a1 a2 a3) (V b0 b1 b2 a3) = -1 := by unfold D4 Dg B at ha hb; unfold cmp V B; (repeat' split) <;> first | rfl | omega
      rw [hr]
      clear ha hb hr
      go_enter Try.func14, Try.ntmps14
      go_wp2_with fail
      refine wp_loop_rounds 5 ?_
      rw [rounds_succ]
      go_wp2_with fail
      go_region
      go_wp2_with fail
      go_region
      go_wp2_with fail
      rw [rounds_succ]
      go_wp2_with fail
      go_region
      go_wp2_with fail
      go_ret
      refine ⟨rfl, ?_⟩
      repeat (first | with_reducible exact Below.refl _ _ | with_reducible refine Below.drew ?_ | with_reducible refine Below.alloc ?_ (by simp; try omega) _)
    · rcases Int.lt_trichotomy a1 b1 with h1 | rfl | h1
      · have hr : cmp (V a0 a1 a2 a3) (V b0 b1 a2 a3) = -1 := by unfold D4 Dg B at ha hb; unfold cmp V B; (repeat' split) <;> first | rfl | omega
        rw [hr]
        clear ha hb hr
        go_enter Try.func14, Try.ntmps14
        go_wp2_with fail
        refine wp_loop_rounds 5 ?_
        rw [rounds_succ]
        go_wp2_with fail
        go_region
        go_wp2_with fail
        go_region
        go_wp2_with fail
        rw [rounds_succ]
        go_wp2_with fail
        go_region
        go_wp2_with fail
        go_region
        go_wp2_with fail
        rw [rounds_succ]
        go_wp2_with fail
        go_region
        go_wp2_with fail
        go_ret
        refine ⟨rfl, ?_⟩
        repeat (first | with_reducible exact Below.refl _ _ | with_reducible refine Below.drew ?_ | with_reducible refine Below.alloc ?_ (by simp; try omega) _)
      · rcases Int.lt_trichotomy a0 b0 with h0 | rfl | h0
        · have hr : cmp (V a0 a1 a2 a3) (V b0 a1 a2 a3) = -1 := by unfold D4 Dg B at ha hb; unfold cmp V B; (repeat' split) <;> first | rfl | omega
          rw [hr]
          clear ha hb hr
          go_enter Try.func14, Try.ntmps14
          go_wp2_with fail
          refine wp_loop_rounds 5 ?_
          rw [rounds_succ]
          go_wp2_with fail
          go_region
          go_wp2_with fail
          go_region
          go_wp2_with fail
          rw [rounds_succ]
          go_wp2_with fail
          go_region
          go_wp2_with fail
          go_region
          go_wp2_with fail
          rw [rounds_succ]
          go_wp2_with fail
          go_region
          go_wp2_with fail
          go_region
          go_wp2_with fail
          rw [rounds_succ]
          go_wp2_with fail
          go_region
          go_wp2_with fail
          go_ret
          refine ⟨rfl, ?_⟩
          repeat (first | with_reducible exact Below.refl _ _ | with_reducible refine Below.drew ?_ | with_reducible refine Below.alloc ?_ (by simp; try omega) _)
        · have hr : cmp (V a0 a1 a2 a3) (V a0 a1 a2 a3) = 0 := by unfold D4 Dg B at ha hb; unfold cmp V B; (repeat' split) <;> first | rfl | omega
          rw [hr]
          clear ha hb hr
          go_enter Try.func14, Try.ntmps14
          go_wp2_with fail
          refine wp_loop_rounds 5 ?_
          rw [rounds_succ]
          go_wp2_with fail
          go_region
          go_wp2_with fail
          go_region
          go_wp2_with fail
          rw [rounds_succ]
          go_wp2_with fail
          go_region
          go_wp2_with fail
          go_region
          go_wp2_with fail
          rw [rounds_succ]
          go_wp2_with fail
          go_region
          go_wp2_with fail
          go_region
          go_wp2_with fail
          rw [rounds_succ]
          go_wp2_with fail
          go_region
          go_wp2_with fail
          go_region
          go_wp2_with fail
          rw [rounds_succ]
          go_wp2_with fail
          go_ret
          refine ⟨rfl, ?_⟩
          repeat (first | with_reducible exact Below.refl _ _ | with_reducible refine Below.drew ?_ | with_reducible refine Below.alloc ?_ (by simp; try omega) _)
        · have hr : cmp (V a0 a1 a2 a3) (V b0 a1 a2 a3) = 1 := by unfold D4 Dg B at ha hb; unfold cmp V B; (repeat' split) <;> first | rfl | omega
          rw [hr]
          clear ha hb hr
          go_enter Try.func14, Try.ntmps14
          go_wp2_with fail
          refine wp_loop_rounds 5 ?_
          rw [rounds_succ]
          go_wp2_with fail
          go_region
          go_wp2_with fail
          go_region
          go_wp2_with fail
          rw [rounds_succ]
          go_wp2_with fail
          go_region
          go_wp2_with fail
          go_region
          go_wp2_with fail
          rw [rounds_succ]
          go_wp2_with fail
          go_region
          go_wp2_with fail
          go_region
          go_wp2_with fail
          rw [rounds_succ]
          go_wp2_with fail
          go_region
          go_wp2_with fail
          go_region
          go_wp2_with fail
          go_ret
          refine ⟨rfl, ?_⟩
          repeat (first | with_reducible exact Below.refl _ _ | with_reducible refine Below.drew ?_ | with_reducible refine Below.alloc ?_ (by simp; try omega) _)
      · have hr : cmp (V a0 a1 a2 a3) (V b0 b1 a2 a3) = 1 := by unfold D4 Dg B at ha hb; unfold cmp V B; (repeat' split) <;> first | rfl | omega
        rw [hr]
        clear ha hb hr
        go_enter Try.func14, Try.ntmps14
        go_wp2_with fail
        refine wp_loop_rounds 5 ?_
        rw [rounds_succ]
        go_wp2_with fail
        go_region
        go_wp2_with fail
        go_region
        go_wp2_with fail
        rw [rounds_succ]
        go_wp2_with fail
        go_region
        go_wp2_with fail
        go_region
        go_wp2_with fail
        rw [rounds_succ]
        go_wp2_with fail
        go_region
        go_wp2_with fail
        go_region
        go_wp2_with fail
        go_ret
        refine ⟨rfl, ?_⟩
        repeat (first | with_reducible exact Below.refl _ _ | with_reducible refine Below.drew ?_ | with_reducible refine Below.alloc ?_ (by simp; try omega) _)
    · have hr : cmp (V a0 a1 a2 a3) (V b0 b1 b2 a3) = 1 := by unfold D4 Dg B at ha hb; unfold cmp V B; (repeat' split) <;> first | rfl | omega
      rw [hr]
      clear ha hb hr
      go_enter Try.func14, Try.ntmps14
      go_wp2_with fail
      refine wp_loop_rounds 5 ?_
      rw [rounds_succ]
      go_wp2_with fail
      go_region
      go_wp2_with fail
      go_region
      go_wp2_with fail
      rw [rounds_succ]
      go_wp2_with fail
      go_region
      go_wp2_with fail
      go_region
      go_wp2_with fail
      go_ret
      refine ⟨rfl, ?_⟩
      repeat (first | with_reducible exact Below.refl _ _ | with_reducible refine Below.drew ?_ | with_reducible refine Below.alloc ?_ (by simp; try omega) _)
  · have hr : cmp (V a0 a1 a2 a3) (V b0 b1 b2 b3) = 1 := by unfold D4 Dg B at ha hb; unfold cmp V B; (repeat' split) <;> first | rfl | omega
    rw [hr]
    clear ha hb hr
    go_enter Try.func14, Try.ntmps14
    go_wp2_with fail
    refine wp_loop_rounds 5 ?_
    rw [rounds_succ]
    go_wp2_with fail
    go_region
    go_wp2_with fail
    go_region
    go_wp2_with fail
    go_ret
    refine ⟨rfl, ?_⟩
    repeat (first | with_reducible exact Below.refl _ _ | with_reducible refine Below.drew ?_ | with_reducible refine Below.alloc ?_ (by simp; try omega) _)
end Go.Proofs.Ytnnlpiflalmmlaa
