/-
  The walks of package wide: Add, Sub, Compare, Of, Low.
-/
import Derived.Test.YtnnlpiflalmmlaaWide
namespace Go.Proofs.Ytnnlpiflalmmlaa
open Go.RowKit

theorem bcell {W w1 : World} (hb : Below W.heap.size W w1) : (∀ b o, b < W.heap.size → w1.cell? ⟨b, o, none⟩ = W.cell? ⟨b, o, none⟩) ∧ (∀ b o, b < W.heap.size → w1.frozen? ⟨b, o, none⟩ = W.frozen? ⟨b, o, none⟩) :=
  ⟨fun b o h => hb.cell (p := ⟨b, o, none⟩) h, fun b o h => hb.frozen (p := ⟨b, o, none⟩) h⟩

theorem D4_zero : D4 0 0 0 0 := by unfold D4 Dg B; omega

set_option maxHeartbeats 1000000 in
theorem Sub_any {a0 a1 a2 a3 b0 b1 b2 b3 : Int} (ha : D4 a0 a1 a2 a3) (hb : D4 b0 b1 b2 b3) (w : World) :
    Calls Try.prog 8 #[.agg #[.int .u64 a0, .int .u64 a1, .int .u64 a2, .int .u64 a3], .agg #[.int .u64 b0, .int .u64 b1, .int .u64 b2, .int .u64 b3]] w
      (NumP w fun r0 r1 r2 r3 c => D4 r0 r1 r2 r3 ∧ ((V b0 b1 b2 b3 ≤ V a0 a1 a2 a3 ∧ c = 0 ∧ V r0 r1 r2 r3 = V a0 a1 a2 a3 - V b0 b1 b2 b3) ∨ (V a0 a1 a2 a3 < V b0 b1 b2 b3 ∧ c = 31 ∧ V r0 r1 r2 r3 = 0))) := by
  have hc := sub_any ha hb
  have l1 := V_lo ha
  have l2 := V_lo hb
  have u1 := V_hi ha
  have u2 := V_hi hb
  clear ha hb
  go_enter Try.func8, Try.ntmps8
  go_wp2_with fail
  refine (hc _).mono ?_
  rintro e w1 ⟨r0, r1, r2, r3, c, rfl, ⟨hd, h01, hv⟩, hbw⟩
  have B1 : Below w.heap.size w w1 := Below.trans (by repeat (first | exact Below.refl _ _ | refine Below.alloc ?_ (by simp; try omega) _)) (hbw.mono (by simp; omega))
  have HB := Lib.hid B1
  have Hv := Lib.hid hv
  have Hd := Lib.hid hd
  obtain ⟨hcl, hfz⟩ := bcell hbw
  have hz : w.heap.size + 1 + 1 < w1.heap.size := by have := hbw.size; simp at this; omega
  have v1 := V_lo hd
  have v2 := V_hi hd
  clear hbw B1 hv hd
  rcases h01 with rfl | rfl
  · go_wp2_with fail
    exact bodyPost_ret (v := .tuple #[.agg #[.int .u64 r0, .int .u64 r1, .int .u64 r2, .int .u64 r3], .int .i64 0]) (by simp [results, Try.results8, go_sem, hcl, hz]) rfl
      ⟨r0, r1, r2, r3, 0, rfl, ⟨Hd.out, Or.inl ⟨by have := Hv.out; omega, rfl, by have := Hv.out; omega⟩⟩, by repeat (first | exact HB.out | (refine Below.setCell ?_ (by simp; try omega) _) | (refine Below.alloc ?_ (by simp [World.setCell]; try omega) _))⟩
  · go_wp2_with fail
    exact bodyPost_ret (v := .tuple #[.agg #[.int .u64 0, .int .u64 0, .int .u64 0, .int .u64 0], .int .i64 31]) (by simp [results, Try.results8, go_sem, hcl, hz]) rfl
      ⟨0, 0, 0, 0, 31, rfl, ⟨D4_zero, Or.inr ⟨by have := Hv.out; omega, rfl, rfl⟩⟩, by repeat (first | exact HB.out | (refine Below.setCell ?_ (by simp; try omega) _) | (refine Below.alloc ?_ (by simp [World.setCell]; try omega) _))⟩

set_option maxHeartbeats 1000000 in
theorem Add_any {a0 a1 a2 a3 b0 b1 b2 b3 : Int} (ha : D4 a0 a1 a2 a3) (hb : D4 b0 b1 b2 b3) (w : World) :
    Calls Try.prog 6 #[.agg #[.int .u64 a0, .int .u64 a1, .int .u64 a2, .int .u64 a3], .agg #[.int .u64 b0, .int .u64 b1, .int .u64 b2, .int .u64 b3]] w
      (NumP w fun r0 r1 r2 r3 c => D4 r0 r1 r2 r3 ∧ ((V a0 a1 a2 a3 + V b0 b1 b2 b3 < M ∧ c = 0 ∧ V r0 r1 r2 r3 = V a0 a1 a2 a3 + V b0 b1 b2 b3) ∨ (M ≤ V a0 a1 a2 a3 + V b0 b1 b2 b3 ∧ c = 30 ∧ V r0 r1 r2 r3 = 0))) := by
  have hc := add_any ha hb
  have l1 := V_lo ha
  have l2 := V_lo hb
  have u1 := V_hi ha
  have u2 := V_hi hb
  clear ha hb
  go_enter Try.func6, Try.ntmps6
  go_wp2_with fail
  refine (hc _).mono ?_
  rintro e w1 ⟨r0, r1, r2, r3, c, rfl, ⟨hd, h01, hv⟩, hbw⟩
  have B1 : Below w.heap.size w w1 := Below.trans (by repeat (first | exact Below.refl _ _ | refine Below.alloc ?_ (by simp; try omega) _)) (hbw.mono (by simp; omega))
  have HB := Lib.hid B1
  have Hv := Lib.hid hv
  have Hd := Lib.hid hd
  obtain ⟨hcl, hfz⟩ := bcell hbw
  have hz : w.heap.size + 1 + 1 < w1.heap.size := by have := hbw.size; simp at this; omega
  have v1 := V_lo hd
  have v2 := V_hi hd
  clear hbw B1 hv hd
  rcases h01 with rfl | rfl
  · go_wp2_with fail
    exact bodyPost_ret (v := .tuple #[.agg #[.int .u64 r0, .int .u64 r1, .int .u64 r2, .int .u64 r3], .int .i64 0]) (by simp [results, Try.results6, go_sem, hcl, hz]) rfl
      ⟨r0, r1, r2, r3, 0, rfl, ⟨Hd.out, Or.inl ⟨by have := Hv.out; omega, rfl, by have := Hv.out; omega⟩⟩, by repeat (first | exact HB.out | (refine Below.setCell ?_ (by simp; try omega) _) | (refine Below.alloc ?_ (by simp [World.setCell]; try omega) _))⟩
  · go_wp2_with fail
    exact bodyPost_ret (v := .tuple #[.agg #[.int .u64 0, .int .u64 0, .int .u64 0, .int .u64 0], .int .i64 30]) (by simp [results, Try.results6, go_sem, hcl, hz]) rfl
      ⟨0, 0, 0, 0, 30, rfl, ⟨D4_zero, Or.inr ⟨by have := Hv.out; omega, rfl, rfl⟩⟩, by repeat (first | exact HB.out | (refine Below.setCell ?_ (by simp; try omega) _) | (refine Below.alloc ?_ (by simp [World.setCell]; try omega) _))⟩
end Go.Proofs.Ytnnlpiflalmmlaa
