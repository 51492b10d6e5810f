/-
  basculeref02.Slow: the document's digest with constants out of roots.
-/
import Derived.Test.YtlmpmnngheifkaaDoorConsts
import Derived.Test.YtlmpmnngheifkaaDoorRefSum2
namespace Go.Proofs.YtlmpmnngheifkaaDoor
open Go.RowKit
set_option maxRecDepth 100000

set_option maxHeartbeats 4000000 in
theorem Slow_any {w : World} {v : Value} {xs : List Int} (hr : Rd w v xs) (hx : Bytes xs) (hl : xs.length ≤ 100000000000000) :
    Calls Tryd.prog 14 #[v] w fun e w' => e = .returned (.agg (hc (sha xs)).toArray) ∧ Below w.heap.size w w' := by
  have HR := Lib.hid hr
  have HX := Lib.hid hx
  have H0 := Lib.hid (HashAt.new w zero32)
  have B0 := Lib.hid ((Below.refl w.heap.size w).alloc (Nat.le_refl _) (.cells (hc zero32).toArray 26))
  clear hr hx
  go_enter Tryd.func14, Tryd.ntmps14
  go_wp2_with fail
  refine (Consts_any _).mono ?_
  rintro e w1 ⟨rfl, hb1⟩
  have H1 := Lib.hid (H0.out.on hb1)
  have B1 := Lib.hid (B0.out.trans (hb1.mono B0.out.size))
  clear hb1 H0 B0
  have U0 : U8At ((w1.alloc (.cells #[.int .u32 0, .int .u32 0, .int .u32 0, .int .u32 0, .int .u32 0, .int .u32 0, .int .u32 0, .int .u32 0] 50)).alloc (.cells (uc zero64).toArray 56)) w1.heap.size [0, 0, 0, 0, 0, 0, 0, 0] := by
    unfold U8At
    rw [Below.heap_alloc _ _ _ (by simp)]
    exact heap_alloc_new w1 _
  have T0 := TabAt.new (w1.alloc (.cells #[.int .u32 0, .int .u32 0, .int .u32 0, .int .u32 0, .int .u32 0, .int .u32 0, .int .u32 0, .int .u32 0] 50)) zero64
  rw [World.size_alloc] at T0
  have hth8 := U0.there rfl
  have hth64 := (T0.setCells (c := w1.heap.size) (by omega) (uc h0L) 0).there zero64_len
  have r8 := ((U0.put rfl h0L_len).setCells (c := w1.heap.size + 1) (by omega) (uc rootsZ) 0).row h0L_len
  have r64 := ((T0.setCells (c := w1.heap.size) (by omega) (uc h0L) 0).put zero64_len rootsZ_len).row rootsZ_len
  have hb2 : Below w1.heap.size w1 ((((w1.alloc (.cells #[.int .u32 0, .int .u32 0, .int .u32 0, .int .u32 0, .int .u32 0, .int .u32 0, .int .u32 0, .int .u32 0] 50)).alloc (.cells (uc zero64).toArray 56)).setCells w1.heap.size 0 (uc h0L)).setCells (w1.heap.size + 1) 0 (uc rootsZ)) :=
    below_setCells' _ (by omega) _ _ (below_setCells' _ (Nat.le_refl _) _ _ (((Below.refl _ _).alloc (Nat.le_refl _) _).alloc (by simp) _))
  have H2 := Lib.hid (H1.out.on hb2)
  have B2 := Lib.hid (B1.out.trans (hb2.mono B1.out.size))
  have KS : Hid (Calls Tryd.prog 32 #[v, .agg (uc h0L).toArray, .agg (uc rootsZ).toArray] ((((w1.alloc (.cells #[.int .u32 0, .int .u32 0, .int .u32 0, .int .u32 0, .int .u32 0, .int .u32 0, .int .u32 0, .int .u32 0] 50)).alloc (.cells (uc zero64).toArray 56)).setCells w1.heap.size 0 (uc h0L)).setCells (w1.heap.size + 1) 0 (uc rootsZ)) fun e w' => e = .returned (.agg (hc (sha xs)).toArray) ∧ Below ((((w1.alloc (.cells #[.int .u32 0, .int .u32 0, .int .u32 0, .int .u32 0, .int .u32 0, .int .u32 0, .int .u32 0, .int .u32 0] 50)).alloc (.cells (uc zero64).toArray 56)).setCells w1.heap.size 0 (uc h0L)).setCells (w1.heap.size + 1) 0 (uc rootsZ)).heap.size ((((w1.alloc (.cells #[.int .u32 0, .int .u32 0, .int .u32 0, .int .u32 0, .int .u32 0, .int .u32 0, .int .u32 0, .int .u32 0] 50)).alloc (.cells (uc zero64).toArray 56)).setCells w1.heap.size 0 (uc h0L)).setCells (w1.heap.size + 1) 0 (uc rootsZ)) w') := rsum_any (HR.out.on B2.out) HX.out hl
  clear U0 T0 hb2 H1 B1
  go_wp2_with fail
  refine KS.out.mono ?_
  rintro e w3 ⟨rfl, hb3⟩
  have H3 := H2.out.on hb3
  have B3 := B2.out.trans (hb3.mono B2.out.size)
  have hth3 := H3.there zero32_len
  have hlen := sha_len xs
  have hput := (H3.put zero32_len hlen).row hlen
  have HB := Lib.hid (below_setCells' (B := w.heap.size) w.heap.size (Nat.le_refl _) (hc (sha xs)) 0 B3)
  generalize hF : sha xs = F at *
  have HF := Lib.hid hF
  clear hF
  clear hb3 H3 B3 KS H2 B2 hth8 hth64 r8 r64
  go_wp2_with fail
  refine bodyPost_ret (v := .agg (hc F).toArray) (by simp [results, Tryd.results14, go_sem, hput, hlen]) rfl ⟨by rw [HF.out], HB.out⟩
end Go.Proofs.YtlmpmnngheifkaaDoor
