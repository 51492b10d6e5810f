/-
  The walk of basculeref02.Sum.
-/
import Derived.Test.YtjgfjmkfcippcaaDoorRefSum
namespace Go.Proofs.YtjgfjmkfcippcaaDoor
open Go.RowKit
set_option maxRecDepth 100000

set_option maxHeartbeats 4000000 in
theorem refSum_any {w : World} {v : Value} {xs : List Int} (hr : Rd w v xs) (hx : Bytes xs) (hl : xs.length ≤ 100000000000000) :
    Calls Tryd.prog 77 #[v] w fun e w' => e = .returned (.agg (hc (sha xs)).toArray) ∧ Below w.heap.size w w' := by
  have HR := Lib.hid hr
  have HX := Lib.hid hx
  have H0 := Lib.hid (HashAt.new w zero32)
  have B0 := Lib.hid ((Below.refl w.heap.size w).alloc (Nat.le_refl _) (.cells (hc zero32).toArray 23))
  clear hr hx
  go_enter Tryd.func77, Tryd.ntmps77
  go_wp2_with fail
  refine (Table_any _).mono ?_
  rintro e w1 ⟨rfl, hb1⟩
  have H1 := Lib.hid (H0.out.on hb1)
  have B1 := Lib.hid (B0.out.trans (hb1.mono B0.out.size))
  clear hb1 H0 B0
  have hTn := TabAt.new (w1.alloc (.cells #[.int .u32 1779033703, .int .u32 3144134277, .int .u32 1013904242, .int .u32 2773480762, .int .u32 1359893119, .int .u32 2600822924, .int .u32 528734635, .int .u32 1541459225] 148)) zero64
  simp only [World.size_alloc] at hTn
  have hth := hTn.there zero64_len
  have hrow := (hTn.put zero64_len rootsZ_len).row rootsZ_len
  have h8 : ((((w1.alloc (.cells #[.int .u32 1779033703, .int .u32 3144134277, .int .u32 1013904242, .int .u32 2773480762, .int .u32 1359893119, .int .u32 2600822924, .int .u32 528734635, .int .u32 1541459225] 148)).alloc (.cells (uc zero64).toArray 155)).setCells (w1.heap.size + 1) 0 (uc rootsZ))).heap[w1.heap.size]? = some (.cells #[.int .u32 1779033703, .int .u32 3144134277, .int .u32 1013904242, .int .u32 2773480762, .int .u32 1359893119, .int .u32 2600822924, .int .u32 528734635, .int .u32 1541459225] 148 (0, 0)) := by
    rw [setCells_other (by omega), Below.heap_alloc _ _ _ (by simp)]
    exact heap_alloc_new w1 _
  have hb2 : Below w1.heap.size w1 (((w1.alloc (.cells #[.int .u32 1779033703, .int .u32 3144134277, .int .u32 1013904242, .int .u32 2773480762, .int .u32 1359893119, .int .u32 2600822924, .int .u32 528734635, .int .u32 1541459225] 148)).alloc (.cells (uc zero64).toArray 155)).setCells (w1.heap.size + 1) 0 (uc rootsZ)) :=
    below_setCells' _ (by omega) _ _ (((Below.refl _ _).alloc (Nat.le_refl _) _).alloc (by simp) _)
  have H2 := Lib.hid (H1.out.on hb2)
  have B2 := Lib.hid (B1.out.trans (hb2.mono B1.out.size))
  have c0 := Joins.cell_of_block h8 0
  have c1 := Joins.cell_of_block h8 1
  have c2 := Joins.cell_of_block h8 2
  have c3 := Joins.cell_of_block h8 3
  have c4 := Joins.cell_of_block h8 4
  have c5 := Joins.cell_of_block h8 5
  have c6 := Joins.cell_of_block h8 6
  have c7 := Joins.cell_of_block h8 7
  simp only [List.getElem?_toArray, List.getElem?_cons_zero, List.getElem?_cons_succ] at c0 c1 c2 c3 c4 c5 c6 c7
  have KS := Lib.hid (rsum_any (HR.out.on B2.out) HX.out hl)
  clear hTn hb2 H1 B1 h8
  go_wp2_with fail
  refine KS.out.mono ?_
  rintro e w3 ⟨rfl, hb3⟩
  have H3 := H2.out.on hb3
  have B3 := B2.out.trans (hb3.mono B2.out.size)
  have hth3 := H3.there zero32_len
  have hlen := sha_len xs
  have hput := (H3.put zero32_len hlen).row hlen
  have HB := Lib.hid (below_setCells' (B := w.heap.size) w.heap.size (Nat.le_refl _) (hc (sha xs)) 0 B3)
  generalize hF : sha xs = F at *
  have HF := Lib.hid hF
  clear hF
  clear hb3 H3 B3 KS H2 B2 hth hrow c0 c1 c2 c3 c4 c5 c6 c7
  go_wp2_with fail
  refine bodyPost_ret (v := .agg (hc F).toArray) (by simp [results, Tryd.results77, go_sem, hput, hlen]) rfl ⟨by rw [HF.out], HB.out⟩
end Go.Proofs.YtjgfjmkfcippcaaDoor
