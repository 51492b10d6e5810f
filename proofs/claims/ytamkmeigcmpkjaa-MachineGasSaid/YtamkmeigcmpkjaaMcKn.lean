/-
  The law's own run of four.
-/
import Derived.Test.YtamkmeigcmpkjaaMcOw
namespace Go.Proofs.Ytamkmeigcmpkjaa
set_option maxRecDepth 100000
open Go.RowKit

theorem kL8_ok : ∀ i ∈ kL8, i.ok := by
  intro i hi
  simp only [kL8, List.mem_cons, List.not_mem_nil, or_false] at hi
  rcases hi with rfl | rfl | rfl | rfl <;> exact ⟨by decide, by decide⟩
theorem cx0_ok : cx0.ok := ⟨⟨by decide, by decide⟩, ⟨by decide, by decide⟩, (fun x hx => by cases hx), by decide⟩
theorem ws0_u : U64s ws0 := fun x hx => by
  simp only [ws0, List.mem_cons, List.not_mem_nil, or_false] at hx
  have : x = 0 := by omega
  omega
theorem start_ok {g : Int} {W : List Int} (h0 : 0 ≤ g ∧ g < 18446744073709551616) (hW : W.length = 16) (hu : U64s W) : (startM g W).ok := ⟨h0, (fun x hx => by cases hx), hu, hW, by simp [startM]⟩
theorem k_lit {w : World} (h : w.heap[(0 : Nat)]? = w.heap[(0 : Nat)]?) (g : Nat) (hg : w.heap[g]? = some (.cells #[.int .i64 1, .int .u64 2, .int .i64 1, .int .u64 3, .int .i64 6, .int .u64 0, .int .i64 0, .int .u64 0] 43 (0, 0))) : RwF 2 ins0 PIs w (fun _ => True) (some ⟨g, 0, none⟩) kL8 := by
  have _ := h
  refine .inr ⟨g, 0, rfl, trivial, fun i hi => ?_⟩
  have hi4 : i < 4 := hi
  refine ⟨[.int .i64 (kL8.getD i ins0).op, .int .u64 (kL8.getD i ins0).a], rfl, ?_, rfl⟩
  rw [rowOf_block hg]
  rcases i with _ | _ | _ | _ | i
  · rfl
  · rfl
  · rfl
  · rfl
  · omega
set_option maxHeartbeats 4000000 in
theorem knows8_any (w : World) : Calls Try.prog 5 #[] w fun e w' => e = .returned (.bool true) ∧ Below w.heap.size w w' := by
  have bL : Below w.heap.size w (w.alloc (.cells #[.int .i64 1, .int .u64 2, .int .i64 1, .int .u64 3, .int .i64 6, .int .u64 0, .int .i64 0, .int .u64 0] 43)) := (Below.refl _ _).alloc (Nat.le_refl _) _
  have BL := Lib.hid bL
  have RL := Lib.hid (k_lit rfl _ (heap_alloc_new w (.cells #[.int .i64 1, .int .u64 2, .int .i64 1, .int .u64 3, .int .i64 6, .int .u64 0, .int .i64 0, .int .u64 0] 43)))
  have hkl := Try.run_klit w
  clear bL
  go_enter Try.func5, Try.ntmps5
  go_upto_region 2 with fail
  clear hkl
  generalize w.alloc (.cells #[.int .i64 1, .int .u64 2, .int .i64 1, .int .u64 3, .int .i64 6, .int .u64 0, .int .i64 0, .int .u64 0] 43) = w1 at *
  go_wp2_with fail
  refine (Start_any _ 9 ws0_len).mono ?_
  rintro e w2 ⟨rfl, b2⟩
  have B2 := Lib.hid (BL.out.trans (b2.mono BL.out.size))
  have KR := Lib.hid (Run_any (cL := 4) (RL.out.on PIs_ok (by decide) b2) (by decide) kL8_ok (c := cx0) (qi := none) (ki := 0) cx0_ok ⟨none, 0, rfl, .inl rfl⟩ (s := startM 9 ws0) (qs := none) (ks := 0) (start_ok ⟨by decide, by decide⟩ ws0_len ws0_u) ⟨none, 0, rfl, .inl rfl⟩ (M := 99) (by decide))
  rw [k_run] at KR
  unfold RunP cxV at KR
  clear b2 RL BL
  go_wp2_with fail
  refine KR.out.mono ?_
  rintro e w3 ⟨q, k, rfl, RS, b3⟩
  have B3 := B2.out.trans (b3.mono B2.out.size)
  obtain ⟨b, off, rfl, -, cs0⟩ := RS.at (i := 0) (by decide)
  have bA : Below w3.heap.size w3 (w3.alloc (.cells (stRow ms0 none 0).toArray 31)) := (Below.refl _ _).alloc (Nat.le_refl _) _
  have KN : StAt (w3.alloc (.cells (stRow ms0 none 0).toArray 31)) w3.heap.size ms0 none 0 := heap_alloc_new w3 _
  have ct := KN.there ws0_len
  have K9 := Lib.hid (KN.put (s' := ⟨3, 5, 1, 0, [18446744073709551615], ws0⟩) (q' := some ⟨b, off, none⟩) (c' := k) ws0_len ws0_len)
  have BE := Lib.hid (below_setCells' w3.heap.size (Nat.le_trans B3.size (Nat.le_refl _)) (stRow ⟨3, 5, 1, 0, [18446744073709551615], ws0⟩ (some ⟨b, off, none⟩) k) 0 (B3.trans (bA.mono B3.size)))
  have hb3 := lt_of_cell cs0
  have cs9 : Hid (((w3.alloc (.cells (stRow ms0 none 0).toArray 31)).setCells w3.heap.size 0 (stRow ⟨3, 5, 1, 0, [18446744073709551615], ws0⟩ (some ⟨b, off, none⟩) k)).cell? ⟨b, off, none⟩ = some (.int .u64 18446744073709551615)) := by
    show _ = _
    rw [World.cell?_of_block (setCells_other (show b ≠ w3.heap.size from fun e => by rw [e] at hb3; exact Nat.lt_irrefl _ hb3) _ _ _)]
    exact (bA.cell hb3).trans cs0
  have W16 : (⟨3, 5, 1, 0, [18446744073709551615], ws0⟩ : Ms).wds.length = 16 := ws0_len
  clear RS b3 B3 bA KN cs0 hb3 KR
  go_upto_region 3 with fail
  generalize (w3.alloc (.cells (stRow ms0 none 0).toArray 31)).setCells w3.heap.size 0 (stRow ⟨3, 5, 1, 0, [18446744073709551615], ws0⟩ (some ⟨b, off, none⟩) k) = w9 at *
  clear ct
  have e0 : w9.cell? ⟨w3.heap.size, 0, none⟩ = some (.int .i64 3) := (Joins.cell_of_block K9.out 0).trans rfl
  have e1 : w9.cell? ⟨w3.heap.size, 1, none⟩ = some (.int .u64 5) := (Joins.cell_of_block K9.out 1).trans rfl
  have e2 : w9.cell? ⟨w3.heap.size, 2, none⟩ = some (.int .i64 1) := (Joins.cell_of_block K9.out 2).trans rfl
  have e4 : w9.cell? ⟨w3.heap.size, 4, none⟩ = some (.slice (some ⟨b, off, none⟩) 1 k) := (Joins.cell_of_block K9.out 4).trans rfl
  have e5 := cs9.out
  go_wp2_with fail
  go_ret
  exact ⟨rfl, BE.out⟩
end Go.Proofs.Ytamkmeigcmpkjaa
