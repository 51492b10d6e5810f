/-
  The walk of basculelaw02.knows.
-/
import Derived.Test.YtlmpmnngheifkaaDoorFrameW
import Derived.Test.YtlmpmnngheifkaaDoorShaSum
import Derived.Test.YtlmpmnngheifkaaDoorShaAbc
import Derived.Lib.SlBytesConst
namespace Go.Proofs.YtlmpmnngheifkaaDoor
open Go.RowKit
set_option maxRecDepth 100000

theorem lit3_rd (w : World) (x y z : Int) : RdC (w.alloc (.cells #[.int .u8 x, .int .u8 y, .int .u8 z] 5 (3, 4))) (.slice (some ⟨w.heap.size, 0, none⟩) 3 3) [x, y, z] := by
  refine ⟨_, 3, rfl, by simp, .inr ⟨w.heap.size, 0, rfl, fun i hi => ?_⟩⟩
  have hb := heap_alloc_new w (.cells #[.int .u8 x, .int .u8 y, .int .u8 z] 5 (3, 4))
  rw [cell_of_row _ _ _ _ _ _ hb, Nat.zero_add]
  have e : i = 0 ∨ i = 1 ∨ i = 2 := by simp at hi; omega
  rcases e with rfl | rfl | rfl <;> rfl
theorem HashAt.cell {w : World} {b : Nat} {F : List Int} (h : HashAt w b F) {i : Nat} (hi : i < F.length) : w.cell? ⟨b, i, none⟩ = some (.int .u8 (F.getD i 0)) := by
  rw [cell_of_row _ _ _ _ _ _ h]
  simp [hc, List.getD, hi]

def sAb : ByteArray := ⟨#[97, 98]⟩
theorem frm_ab : frm (sn sAb) [[7]] = [2, 97, 98, 0, 0, 0, 0, 0, 0, 0, 1, 7] := by rfl
theorem str_ab : strOfNums [2, 97, 98, 0, 0, 0, 0, 0, 0, 0, 1, 7] = ⟨#[2, 97, 98, 0, 0, 0, 0, 0, 0, 0, 1, 7]⟩ := by rfl
/-- A block that a frame was laid in reads as the frame. -/
theorem rdc_of_rw {w : World} {b : Nat} {T : TypeId} {xs : List Int} (h : RwK .u8 w b xs.length T (fun i => xs.getD i 0)) : RdC w (.slice (some ⟨b, 0, none⟩) xs.length xs.length) xs :=
  ⟨_, _, rfl, Nat.le_refl _, .inr ⟨b, 0, rfl, fun i hi => by rw [Nat.zero_add]; exact h.cell i hi⟩⟩
theorem one_one (w : World) (x : Int) : RdL ((w.alloc (.cells #[.int .u8 x] 5)).alloc (.cells #[.slice (some ⟨w.heap.size, 0, none⟩) 1 1] 22)) (.slice (some ⟨w.heap.size + 1, 0, none⟩) 1 1) [[x]] [] := by
  have h1 : ((w.alloc (.cells #[.int .u8 x] 5)).alloc (.cells #[.slice (some ⟨w.heap.size, 0, none⟩) 1 1] 22)).heap[w.heap.size]? = some (.cells #[.int .u8 x] 5 (0, 0)) := by
    rw [Below.heap_alloc _ _ _ (by simp)]; exact heap_alloc_new w _
  have h2 : ((w.alloc (.cells #[.int .u8 x] 5)).alloc (.cells #[.slice (some ⟨w.heap.size, 0, none⟩) 1 1] 22)).heap[w.heap.size + 1]? = some (.cells #[.slice (some ⟨w.heap.size, 0, none⟩) 1 1] 22 (0, 0)) := by
    have := heap_alloc_new (w.alloc (.cells #[.int .u8 x] 5)) (.cells #[.slice (some ⟨w.heap.size, 0, none⟩) 1 1] 22)
    simpa using this
  refine ⟨_, 1, rfl, .inr ⟨w.heap.size + 1, 0, rfl, by simp, fun i hi => ?_⟩⟩
  obtain rfl : i = 0 := by simp at hi; omega
  refine ⟨.slice (some ⟨w.heap.size, 0, none⟩) 1 1, ?_, ⟨_, 1, rfl, .inr ⟨w.heap.size, 0, rfl, fun j hj => ?_⟩⟩, by simp⟩
  · rw [cell_of_row _ _ _ _ _ _ h2]; rfl
  · rw [cell_of_row _ _ _ _ _ _ h1]
    obtain rfl : j = 0 := by simp at hj; omega
    rfl

set_option maxHeartbeats 4000000 in
theorem knows_any {w : World} (hT : Tbl w) : Calls Tryd.prog 9 #[] w fun e w' => e = .returned (.bool true) ∧ Below w.heap.size w w' := by
  have hT1 := hT.on (B := w.heap.size) ((Below.refl _ _).alloc (Nat.le_refl _) (.cells #[.int .u8 97, .int .u8 98, .int .u8 99] 5 (3, 4))) hT.pos
  have KS := Lib.hid (Sum_any (lit3_rd w 97 98 99) (by intro x hx; simp at hx; omega) hT1)
  clear hT hT1
  have kc := fun (W : World) (C : Array Value) (n c : Nat) => Lib.run_convert_bytes_const (P := Tryd.prog) W 22 5 C n c Tryd.underlying22 Tryd.underlying5
  go_enter Tryd.func9, Tryd.ntmps9
  go_wp2_with fail
  refine KS.out.mono ?_
  rintro e w1 ⟨rfl, hb1⟩
  have B1 := Lib.hid (((Below.refl _ _).alloc (Nat.le_refl _) (.cells #[.int .u8 97, .int .u8 98, .int .u8 99] 5 (3, 4))).trans (hb1.mono (by simp)))
  have hlen := sha_len [97, 98, 99]
  have E0 := Lib.hid abc_0
  have E1 := Lib.hid abc_1
  have E2 := Lib.hid abc_31
  generalize sha [97, 98, 99] = F at *
  have H0 := HashAt.new w1 zero32
  have hth := H0.there zero32_len
  have HP := H0.put zero32_len hlen
  have c0 := HP.cell (i := 0) (by omega)
  have c1 := HP.cell (i := 1) (by omega)
  have c2 := HP.cell (i := 31) (by omega)
  rw [E0.out] at c0
  rw [E1.out] at c1
  rw [E2.out] at c2
  have B2 := Lib.hid (below_setCells' (B := w.heap.size) w1.heap.size B1.out.size (hc F) 0 (B1.out.alloc B1.out.size (.cells (hc zero32).toArray 26)))
  have hz2 : w1.heap.size < ((w1.alloc (.cells (hc zero32).toArray 26)).setCells w1.heap.size 0 (hc F)).heap.size := HP.lt
  clear hb1 KS H0 HP B1
  go_wp2_with fail
  generalize (w1.alloc (.cells (hc zero32).toArray 26)).setCells w1.heap.size 0 (hc F) = w2 at *
  refine (Frame_any (s := sAb) (one_one w2 7) (by decide) (by rw [frm_ab]; decide)).mono ?_
  rintro e w3 ⟨rfl, hr3, hb3⟩
  rw [frm_ab] at hr3 ⊢
  simp only [World.size_alloc] at hr3
  have KC : (convert 22 9 (.slice (some ⟨w2.heap.size + 1 + 1, 0, none⟩) 12 12)).run Tryd.prog w3 = .ok (.string ⟨#[2, 97, 98, 0, 0, 0, 0, 0, 0, 0, 1, 7]⟩) w3 := by
    rw [← str_ab]
    exact (rdc_of_rw hr3).rd.str (P := Tryd.prog) Tryd.underlying22 Tryd.underlying5 Tryd.underlying9
  have B3 := Lib.hid ((((B2.out).alloc B2.out.size (.cells #[.int .u8 7] 5)).alloc (by have := B2.out.size; simp; omega) (.cells #[.slice (some ⟨w2.heap.size, 0, none⟩) 1 1] 22)).trans (hb3.mono (by have := B2.out.size; simp; omega)))
  clear hr3 hb3 B2 c0 c1 c2 kc
  go_wp2_with fail
  go_ret
  exact ⟨rfl, B3.out⟩
end Go.Proofs.YtlmpmnngheifkaaDoor
