/-
  Whether an act is light: the laws' own measure; any answer does.
-/
import Derived.Test.YtppaallnanodhaaGreatDoorOrNil
namespace Go.Proofs.YtppaallnanodhaaGreatDoor
set_option maxRecDepth 100000
open Go.RowKit

/-- An input's cells, as far as they count. -/
structure InV (xs : List Value) : Prop where
  len : xs.length = 24
  g1 : ∃ x, xs[12]? = some (.int .u64 x)
  g2 : ∃ x, xs[22]? = some (.int .u64 x)
  d1 : ∃ q n c, xs[13]? = some (.slice q n c) ∧ n ≤ maxLen
  d2 : ∃ q n c, xs[23]? = some (.slice q n c) ∧ n ≤ maxLen
/-- An act's cells, as far as they count. -/
structure AcV (cs : List Value) (F : List Int) : Prop where
  len : cs.length = 65
  who : ∃ x, cs[4]? = some (.int .u64 x)
  hl : F.length = 32
  h : (cs.drop 5).take 32 = hc F
  x : InV ((cs.drop 38).take 24)
  i : ∃ q n c, cs[62]? = some (.slice q n c) ∧ n ≤ maxLen
  s : ∃ q n c, cs[63]? = some (.slice q n c) ∧ n ≤ maxLen
  t : ∃ q n c, cs[64]? = some (.slice q n c) ∧ n ≤ maxLen
theorem at_row {w : World} {b : Nat} {cs : List Value} {T : TypeId} {fr : Nat × Nat} (h : w.heap[b]? = some (.cells cs.toArray T fr)) {i : Nat} {v : Value} (e : cs[i]? = some v) : w.cell? ⟨b, i, none⟩ = some v := by
  rw [Joins.cell_of_block h]; simpa using e
theorem part_row {w : World} {b : Nat} {cs : List Value} {T : TypeId} {fr : Nat × Nat} (h : w.heap[b]? = some (.cells cs.toArray T fr)) (o n : Nat) : rowOf w b o n = (cs.drop o).take n := by
  rw [rowOf_block h]; simp
@[go_sem ↓] theorem load24 (a : Addr) : loadCellsFrom a 0 24 #[] = rowLoad a 24 := rfl
@[go_sem ↓] theorem load65 (a : Addr) : loadCellsFrom a 0 65 #[] = rowLoad a 65 := rfl

/-- Some truth value. -/
def AnyB (w : World) (e : Ending) (w' : World) : Prop := ∃ b, e = .returned (.bool b) ∧ Below w.heap.size w w'
theorem heavy_any {w : World} {xs : List Value} (hx : InV xs) :
    Calls Tryz.prog 46 #[.agg xs.toArray] w (AnyB w) := by
  obtain ⟨g1, h1⟩ := hx.g1
  obtain ⟨g2, h2⟩ := hx.g2
  have HA := heap_alloc_last w (.cells xs.toArray 33)
  have c1 := at_row HA h1
  have c2 := at_row HA h2
  clear HA h1 h2
  go_enter Tryz.func46, Tryz.ntmps46
  by_cases k1 : 3000 < g1
  · go_wp2_with fail
    go_ret
    exact ⟨_, rfl, (Below.refl _ _).alloc (Nat.le_refl _) _⟩
  · go_wp2_with fail
    go_ret
    exact ⟨_, rfl, (Below.refl _ _).alloc (Nat.le_refl _) _⟩

theorem Light11_any {w : World} {g : Nat} {xs : List Value} {T : TypeId} (hx : InV xs) (hb : w.heap[g]? = some (.cells xs.toArray T (0, 0))) :
    Calls Tryz.prog 21 #[.slice (some ⟨g, 0, none⟩) 1 1] w (AnyB w) := by
  obtain ⟨q1, n1, k1, h1, m1⟩ := hx.d1
  obtain ⟨q2, n2, k2, h2, m2⟩ := hx.d2
  have c1 := at_row hb h1
  have c2 := at_row hb h2
  have cr : rowOf w g 0 24 = xs := by rw [part_row hb]; simp [List.take_of_length_le (show xs.length ≤ 24 by rw [hx.len]; exact Nat.le_refl _)]
  have hl := hx.len
  have HX := Lib.hid hx
  unfold maxLen at m1 m2
  clear h1 h2 hx hb
  go_enter Tryz.func21, Tryz.ntmps21
  go_wp2_with fail
  refine wp_loop_rounds 2 ?_
  rw [rounds_succ]
  by_cases d1 : 300 < n1
  · go_wp2_with fail
    try rw [Exit.noGoto_ret]
    go_ret
    exact ⟨_, rfl, Below.refl _ _⟩
  by_cases d2 : 300 < n2
  · go_wp2_with fail
    try rw [Exit.noGoto_ret]
    go_ret
    exact ⟨_, rfl, Below.refl _ _⟩
  go_wp2_with fail
  refine (heavy_any HX.out).mono ?_
  rintro e w1 ⟨b, rfl, hb1⟩
  cases b
  · go_wp2_with fail
    rw [rounds_succ]
    go_wp2_with fail
    go_ret
    exact ⟨_, rfl, hb1⟩
  · go_wp2_with fail
    try rw [Exit.noGoto_ret]
    go_ret
    exact ⟨_, rfl, hb1⟩

@[go_sem ↓] theorem Tryz.slice_rin (ps : Array (Nat × Value)) : Instr.buildSlice 89 1 ps = rowNew 89 ps := rfl
@[go_sem] theorem Tryz.run_slice_rin (w : World) (xs : List Value) (hx : xs.length = 24) :
    (rowNew 89 #[(0, .agg xs.toArray)]).run Tryz.prog w = .ok (.slice (some ⟨w.heap.size, 0, none⟩) 1 1) (w.alloc (.cells xs.toArray 33)) :=
  run_buildSlice_one w Tryz.underlying89 (by kernel_rfl) (show (zeroValue 33).run Tryz.prog w = .ok (.agg in0.toArray) w by kernel_rfl) (n := 24) (by decide) (by decide) hx

theorem Light18_any {w : World} {g : Nat} {cs : List Value} {F : List Int} {T : TypeId} (hx : AcV cs F) (hb : w.heap[g]? = some (.cells cs.toArray T (0, 0))) :
    Calls Tryz.prog 4 #[.slice (some ⟨g, 0, none⟩) 1 1] w (AnyB w) := by
  have HB := Lib.hid hb
  obtain ⟨q1, n1, k1, h1, m1⟩ := hx.i
  obtain ⟨q2, n2, k2, h2, m2⟩ := hx.s
  obtain ⟨q3, n3, k3, h3, m3⟩ := hx.t
  have cr : rowOf w g 38 24 = (cs.drop 38).take 24 := part_row hb 38 24
  have hl := hx.x.len
  have HX := Lib.hid hx.x
  have hlt := lt_of_block hb
  unfold maxLen at m1 m2 m3
  obtain ⟨xs, hxs⟩ : ∃ xs, (cs.drop 38).take 24 = xs := ⟨_, rfl⟩
  rw [hxs] at cr hl HX
  clear hxs hx hb
  go_enter Tryz.func4, Tryz.ntmps4
  go_wp2_with fail
  refine wp_loop_rounds 2 ?_
  rw [rounds_succ]
  go_wp2_with fail
  refine (Light11_any HX.out (heap_alloc_last w _)).mono ?_
  rintro e w1 ⟨b, rfl, hb1⟩
  have BB := Lib.hid (((Below.refl w.heap.size w).alloc (Nat.le_refl _) (.cells xs.toArray 33)).trans (hb1.mono (by simp)))
  have hg : w1.heap[g]? = some (.cells cs.toArray T (0, 0)) := by rw [BB.out.block g hlt]; exact HB.out
  have c1 := at_row hg h1
  have c2 := at_row hg h2
  have c3 := at_row hg h3
  clear hg hb1 HB cr hl HX h1 h2 h3 hlt
  cases b
  · go_wp2_with fail
    try rw [Exit.noGoto_ret]
    go_ret
    exact ⟨_, rfl, BB.out⟩
  by_cases d3 : 8 < n3
  · go_wp2_with fail
    try rw [Exit.noGoto_ret]
    go_ret
    exact ⟨_, rfl, BB.out⟩
  by_cases d1 : 8 < n1
  · go_wp2_with fail
    try rw [Exit.noGoto_ret]
    go_ret
    exact ⟨_, rfl, BB.out⟩
  by_cases d2 : 8 < n2
  · go_wp2_with fail
    try rw [Exit.noGoto_ret]
    go_ret
    exact ⟨_, rfl, BB.out⟩
  go_wp2_with fail
  rw [rounds_succ]
  go_wp2_with fail
  go_ret
  exact ⟨_, rfl, BB.out⟩
end Go.Proofs.YtppaallnanodhaaGreatDoor
