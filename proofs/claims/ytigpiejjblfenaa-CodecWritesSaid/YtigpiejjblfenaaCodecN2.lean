/-
  The walks of package codec: a number and a hash of no reader.
-/
import Derived.Test.YtigpiejjblfenaaCodecN
import Derived.Test.YtigpiejjblfenaaHash
namespace Go.Proofs.Ytigpiejjblfenaa
set_option maxRecDepth 100000
open Go.RowKit

theorem RWide_nil {w : World} {a : Value} (ha : Un w a) : Calls Try.prog 15 #[a] w fun e w' => e = .returned (.agg #[.int .u64 0, .int .u64 0, .int .u64 0, .int .u64 0]) ∧ Below w.heap.size w w' := by
  have h := ready_nil (ha.on ((Below.refl _ _).alloc (Nat.le_refl _) (.cells #[.int .u64 0, .int .u64 0, .int .u64 0, .int .u64 0] 44)))
  clear ha
  replace h := Lib.hid h
  go_enter Try.func15, Try.ntmps15
  go_wp2_with fail
  refine (h.out).mono ?_
  rintro e w1 ⟨rfl, rfl⟩
  go_wp2_with fail
  refine bodyPost_ret (v := .agg #[.int .u64 0, .int .u64 0, .int .u64 0, .int .u64 0]) (by simp [results, Try.results15, go_sem]) rfl ⟨rfl, ?_⟩
  repeat (first | with_reducible exact Below.refl _ _ | with_reducible refine Below.alloc ?_ (by simp; try omega) _ | with_reducible refine Below.setCell ?_ (by simp; try omega) _)

theorem RHash_nil {w : World} {a : Value} (ha : Un w a) : Calls Try.prog 16 #[a] w fun e w' => e = .returned (.agg (hc zero32).toArray) ∧ Below w.heap.size w w' := by
  have h := ready_nil (ha.on ((Below.refl _ _).alloc (Nat.le_refl _) (.cells (hc zero32).toArray 47)))
  have H := HashAt.new w zero32
  have hz := zero32_len
  clear ha
  replace h := Lib.hid h
  go_enter Try.func16, Try.ntmps16
  go_wp2_with fail
  refine (h.out).mono ?_
  rintro e w1 ⟨rfl, rfl⟩
  have hth : (w.alloc (.cells (hc zero32).toArray 47)).there w.heap.size 0 32 := fun j hj => by
    refine ⟨?_, Joins.unfrozen_of_block H _⟩
    rw [Joins.cell_of_block H]
    have : (hc zero32).length = 32 := by rw [hc_len, hz]
    simp [this]; omega
  go_wp2_with fail
  have cr : rowOf ((w.alloc (.cells (hc zero32).toArray 47)).setCells w.heap.size 0 (hc zero32)) w.heap.size 0 32 = hc zero32 := by
    have := setCells_block (b := w.heap.size) (t := 47) (fr := (0, 0)) (hc zero32) (o := 0) (w := w.alloc (.cells (hc zero32).toArray 47)) (pre := []) (mid := hc zero32) (post := []) (by simp only [List.nil_append, List.append_nil]; exact H) rfl rfl
    rw [rowOf_block this]
    have hl : (hc zero32).length = 32 := by rw [hc_len, hz]
    simp [List.take_of_length_le (Nat.le_of_eq hl)]
  refine bodyPost_ret (v := .agg (hc zero32).toArray) (by simp [results, Try.results16, go_sem, cr, hz]) rfl ⟨rfl, below_setCells' _ (Nat.le_refl _) _ _ ((Below.refl _ _).alloc (Nat.le_refl _) _)⟩
end Go.Proofs.Ytigpiejjblfenaa
