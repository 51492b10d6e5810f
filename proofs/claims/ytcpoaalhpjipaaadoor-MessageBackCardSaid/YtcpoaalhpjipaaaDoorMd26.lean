/-
  Inputs, copied from the document's kind to the program's and back; the same ones.; The walk of basculelaw09.MessageBack.
-/
import Derived.Deep.CutRange
import Derived.Test.YtcpoaalhpjipaaaDoorMd15
import Derived.Test.YtcpoaalhpjipaaaDoorMd19
import Derived.Test.YtcpoaalhpjipaaaDoorMd21
import Derived.Test.YtcpoaalhpjipaaaDoorMd24
import Derived.Test.YtcpoaalhpjipaaaDoorMd25
namespace Go.Proofs.YtcpoaalhpjipaaaDoor
set_option maxRecDepth 100000
open Go.RowKit


set_option maxHeartbeats 8000000 in
theorem Own9_any {w : World} {x : Inp} {qm qt : Option Addr} {km kt : Nat} (hr : Rd w (.slice qm x.m.data.length km) x.m.data) (hm : x.m.data.length ≤ 140737488355328) (ht : Rd w (.slice qt x.t.data.length kt) x.t.data) (hn : x.t.data.length ≤ 140737488355328) :
    Calls Tryd.prog 29 #[.agg (inRow x qm x.m.data.length km qt x.t.data.length kt).toArray] w fun e w' => ∃ qm' km' qt' kt', e = .returned (.agg (inRow x qm' x.m.data.length km' qt' x.t.data.length kt').toArray) ∧ Rd w' (.slice qm' x.m.data.length km') x.m.data ∧ Rd w' (.slice qt' x.t.data.length kt') x.t.data ∧ Below w.heap.size w w' := by
  have HM : Hid (∀ W, Below w.heap.size w W → Rd W (.slice qm x.m.data.length km) x.m.data) := fun W hb => hr.on hb
  have HT : Hid (∀ W, Below w.heap.size w W → Rd W (.slice qt x.t.data.length kt) x.t.data) := fun W hb => ht.on hb
  have b1 : Below w.heap.size w (w.alloc (.cells (inRow x qm x.m.data.length km qt x.t.data.length kt).toArray 70)) := (Below.refl _ _).alloc (Nat.le_refl _) _
  have b2 : Below (w.alloc (.cells (inRow x qm x.m.data.length km qt x.t.data.length kt).toArray 70)).heap.size (w.alloc (.cells (inRow x qm x.m.data.length km qt x.t.data.length kt).toArray 70)) ((w.alloc (.cells (inRow x qm x.m.data.length km qt x.t.data.length kt).toArray 70)).alloc (.cells (inRow inp0 none 0 0 none 0 0).toArray 74)) := (Below.refl _ _).alloc (Nat.le_refl _) _
  have hz : (w.alloc (.cells (inRow x qm x.m.data.length km qt x.t.data.length kt).toArray 70)).heap.size = w.heap.size + 1 := by simp
  have K0 := Lib.hid ((InAt.new w 70 x qm x.m.data.length km qt x.t.data.length kt).on b2)
  have R0 := InAt.new (w.alloc (.cells (inRow x qm x.m.data.length km qt x.t.data.length kt).toArray 70)) 74 inp0 none 0 0 none 0 0
  rw [hz] at R0
  have R0 := Lib.hid R0
  have B0 := Lib.hid (b1.trans (b2.mono b1.size))
  have SZ : Hid (((w.alloc (.cells (inRow x qm x.m.data.length km qt x.t.data.length kt).toArray 70)).alloc (.cells (inRow inp0 none 0 0 none 0 0).toArray 74)).heap.size = w.heap.size + 2) := by show _ = _; simp
  have RM := Lib.hid (fun (W : World) (q1 q2 : Option Addr) (k1 k2 : Nat) => Tryd.run_inp W x q1 x.m.data.length k1 q2 x.t.data.length k2)
  have h24 := inRow_len x qm x.m.data.length km qt x.t.data.length kt
  clear hr ht b1 b2 hz
  go_enter Tryd.func29, Tryd.ntmps29
  go_wp2_with fail
  generalize ((w.alloc (.cells (inRow x qm x.m.data.length km qt x.t.data.length kt).toArray 70)).alloc (.cells (inRow inp0 none 0 0 none 0 0).toArray 74)) = wa at *
  have B1 : Hid (Below w.heap.size w wa.drew) := Lib.hid B0.out.drew
  have R1 := Lib.hid (R0.out.on (Below.refl _ _).drew)
  have SZ1 : Hid (wa.drew.heap.size = w.heap.size + 2) := SZ.out
  have K1 : InAt wa.drew w.heap.size 70 x qm x.m.data.length km qt x.t.data.length kt := K0.out.on (Below.refl _ _).drew
  clear K0 R0 B0 SZ
  refine wp_region_held_drew (S := fun W => InAt W w.heap.size 70 x qm x.m.data.length km qt x.t.data.length kt) (by kernel_rfl) (K1) (fun h0 => ?_)
  generalize wa.drew = w1 at *
  refine wpAnyH_take (i := 0) (v := ?_) (by rw [List.getElem?_toArray]; rfl) (by kernel_rfl) (by kernel_rfl) (by kernel_rfl) (by exact fun _ _ _ h => h) (Or.inl ⟨by rfl, ?_⟩) h0 ?_
  rotate_left
  · intro W hW
    obtain ⟨c0, c1, c2, c3, c4⟩ := hW.cells
    have rm := hW.rowm
    have rt := hW.rowt
    go_simp
    all_goals with_reducible rfl
  try simp only [Act.put, List.setIfInBounds_toArray, List.set_cons_zero, List.set_cons_succ]
  refine wpAnyH_take (i := 1) (v := ?_) (by rw [List.getElem?_toArray]; rfl) (by kernel_rfl) (by kernel_rfl) (by kernel_rfl) (by exact fun _ _ _ h => h) (Or.inl ⟨by rfl, ?_⟩) h0 ?_
  rotate_left
  · intro W hW
    obtain ⟨c0, c1, c2, c3, c4⟩ := hW.cells
    have rm := hW.rowm
    have rt := hW.rowt
    go_simp
    all_goals with_reducible rfl
  try simp only [Act.put, List.setIfInBounds_toArray, List.set_cons_zero, List.set_cons_succ]
  refine wpAnyH_take (i := 2) (v := ?_) (by rw [List.getElem?_toArray]; rfl) (by kernel_rfl) (by kernel_rfl) (by kernel_rfl) (by exact fun _ _ _ h => h) (Or.inl ⟨by rfl, ?_⟩) h0 ?_
  rotate_left
  · intro W hW
    obtain ⟨c0, c1, c2, c3, c4⟩ := hW.cells
    have rm := hW.rowm
    have rt := hW.rowt
    go_simp
    all_goals with_reducible rfl
  try simp only [Act.put, List.setIfInBounds_toArray, List.set_cons_zero, List.set_cons_succ]
  refine wpAnyH_take (i := 3) (v := ?_) (by rw [List.getElem?_toArray]; rfl) (by kernel_rfl) (by kernel_rfl) (by kernel_rfl) (by exact fun _ _ _ h => h) (Or.inl ⟨by rfl, ?_⟩) h0 ?_
  rotate_left
  · intro W hW
    obtain ⟨c0, c1, c2, c3, c4⟩ := hW.cells
    have rm := hW.rowm
    have rt := hW.rowt
    go_simp
    all_goals with_reducible rfl
  try simp only [Act.put, List.setIfInBounds_toArray, List.set_cons_zero, List.set_cons_succ]
  refine wpAnyH_take (i := 4) (v := ?_) (by rw [List.getElem?_toArray]; rfl) (by kernel_rfl) (by kernel_rfl) (by kernel_rfl) (by exact fun _ _ _ h => h) (Or.inl ⟨by rfl, ?_⟩) h0 ?_
  rotate_left
  · intro W hW
    obtain ⟨c0, c1, c2, c3, c4⟩ := hW.cells
    have rm := hW.rowm
    have rt := hW.rowt
    go_simp
    all_goals with_reducible rfl
  try simp only [Act.put, List.setIfInBounds_toArray, List.set_cons_zero, List.set_cons_succ]
  refine wpAnyH_take (i := 5) (v := ?_) (by rw [List.getElem?_toArray]; rfl) (by kernel_rfl) (by kernel_rfl) (by kernel_rfl) (by exact fun _ _ _ h => h) (Or.inl ⟨by rfl, ?_⟩) h0 ?_
  rotate_left
  · intro W hW
    obtain ⟨c0, c1, c2, c3, c4⟩ := hW.cells
    have rm := hW.rowm
    have rt := hW.rowt
    go_simp
    all_goals with_reducible rfl
  try simp only [Act.put, List.setIfInBounds_toArray, List.set_cons_zero, List.set_cons_succ]
  refine wpAnyH_take (i := 7) (v := ?_) (by rw [List.getElem?_toArray]; rfl) (by kernel_rfl) (by kernel_rfl) (by kernel_rfl) (by exact fun _ _ _ h => h) (Or.inl ⟨by rfl, ?_⟩) h0 ?_
  rotate_left
  · intro W hW
    obtain ⟨c0, c1, c2, c3, c4⟩ := hW.cells
    have rm := hW.rowm
    have rt := hW.rowt
    go_simp
    all_goals with_reducible rfl
  try simp only [Act.put, List.setIfInBounds_toArray, List.set_cons_zero, List.set_cons_succ]
  refine wpAnyH_take (i := 8) (v := ?_) (by rw [List.getElem?_toArray]; rfl) (by kernel_rfl) (by kernel_rfl) (by kernel_rfl) (by exact fun _ _ _ h => h) (Or.inl ⟨by rfl, ?_⟩) h0 ?_
  rotate_left
  · intro W hW
    obtain ⟨c0, c1, c2, c3, c4⟩ := hW.cells
    have rm := hW.rowm
    have rt := hW.rowt
    go_simp
    all_goals with_reducible rfl
  try simp only [Act.put, List.setIfInBounds_toArray, List.set_cons_zero, List.set_cons_succ]
  refine wpAnyH_ready (rs := [6]) (by kernel_rfl) (by simp) ?_
  refine AllReadyH.cons (by rw [List.getElem?_toArray]; rfl) (fun K hK => ?_) AllReadyH.nil
  rw [if_pos (by rfl)]
  go_wp2_with fail
  refine (Message_any (HM.out _ B1.out) hm).mono ?_
  rintro e w2 ⟨q2, k2, rfl, hs⟩
  have K2 := h0.on hs.below
  have R2 := Lib.hid (R1.out.on hs.below)
  have M2 := Lib.hid hs.rd
  have F2 : Hid (∀ g, (Value.slice q2 x.m.data.length k2).ownBlock = some g → w1.heap.size ≤ g) := hs.fresh
  have B2 := Lib.hid (B1.out.trans (hs.below.mono B1.out.size))
  have Z2 : Hid (w1.heap.size ≤ w2.heap.size) := hs.below.size
  clear hs R1 B1
  go_wp2_with fail
  refine hK.out _ _ (K2) (fun h2 => ?_)
  clear hK K
  try simp only [Act.put, List.setIfInBounds_toArray, List.set_cons_zero, List.set_cons_succ]
  clear K2
  refine wpAnyH_ready (rs := [9]) (by kernel_rfl) (by simp) ?_
  refine AllReadyH.cons (by rw [List.getElem?_toArray]; rfl) (fun K hK => ?_) AllReadyH.nil
  rw [if_pos (by rfl)]
  go_wp2_with fail
  refine (Tx_any (HT.out _ B2.out) hn).mono ?_
  rintro e w3 ⟨q3, k3, rfl, hs⟩
  have K3 := h2.on hs.below
  have R3 := Lib.hid (R2.out.on hs.below)
  have M3 := Lib.hid (M2.out.on hs.below)
  have T3 := Lib.hid hs.rd
  have F3 : Hid (∀ g, (Value.slice q3 x.t.data.length k3).ownBlock = some g → w1.heap.size ≤ g) := fun g hg => Nat.le_trans Z2.out (hs.fresh g hg)
  have B3 := Lib.hid (B2.out.trans (hs.below.mono B2.out.size))
  clear hs R2 B2 M2 Z2
  go_wp2_with fail
  refine hK.out _ _ (K3) (fun h3 => ?_)
  clear hK K
  try simp only [Act.put, List.setIfInBounds_toArray, List.set_cons_zero, List.set_cons_succ]
  clear K3
  have hrm := fun W => RM.out W q2 q3 k2 k3
  refine wpAnyH_take (i := 10) (v := ?_) (by rw [List.getElem?_toArray]; rfl) (by kernel_rfl) (by kernel_rfl) (by kernel_rfl) (by exact fun _ _ _ h => h) (Or.inl ⟨by rfl, ?_⟩) h3 ?_
  rotate_left
  · intro W hW
    have hrm1 := hrm W
    go_simp
    all_goals with_reducible rfl
  try simp only [Act.put, List.setIfInBounds_toArray, List.set_cons_zero, List.set_cons_succ]
  refine wpAnyH_ready (rs := [11]) (by kernel_rfl) (by simp) ?_
  refine AllReadyH.cons (by rw [List.getElem?_toArray]; rfl) (fun K hK => ?_) AllReadyH.nil
  rw [if_pos (by rfl)]
  have th := R3.out.there
  have hput := (R3.out.put x q2 x.m.data.length k2 q3 x.t.data.length k3).row
  have cS : Chg w3 (w3.setCells (w.heap.size + 1) 0 (inRow x q2 x.m.data.length k2 q3 x.t.data.length k3)) [w.heap.size + 1] := chg_setCells _ _ _ (Chg.refl _ _)
  have M4 : Hid (Rd (w3.setCells (w.heap.size + 1) 0 (inRow x q2 x.m.data.length k2 q3 x.t.data.length k3)) (.slice q2 x.m.data.length k2) x.m.data) := M3.out.chg cS (fun _ g hg _ hm => by
    obtain rfl : g = w.heap.size + 1 := by simpa using hm
    have := F2.out _ hg
    have := SZ1.out
    omega)
  have T4 : Hid (Rd (w3.setCells (w.heap.size + 1) 0 (inRow x q2 x.m.data.length k2 q3 x.t.data.length k3)) (.slice q3 x.t.data.length k3) x.t.data) := T3.out.chg cS (fun _ g hg _ hm => by
    obtain rfl : g = w.heap.size + 1 := by simpa using hm
    have := F3.out _ hg
    have := SZ1.out
    omega)
  have B4 : Hid (Below w.heap.size w (w3.setCells (w.heap.size + 1) 0 (inRow x q2 x.m.data.length k2 q3 x.t.data.length k3))) := below_setCells' (w.heap.size + 1) (by omega) _ _ B3.out
  have K4 : InAt (w3.setCells (w.heap.size + 1) 0 (inRow x q2 x.m.data.length k2 q3 x.t.data.length k3)) w.heap.size 70 x qm x.m.data.length km qt x.t.data.length kt := InAt.chg h3 cS (by simp)
  have h24' := inRow_len x q2 x.m.data.length k2 q3 x.t.data.length k3
  clear cS hrm
  go_wp2_with fail
  refine hK.out _ _ (K4) (fun h4 => ?_)
  clear hK K
  try simp only [Act.put, List.setIfInBounds_toArray, List.set_cons_zero, List.set_cons_succ]
  clear K4
  refine wpAnyH_done (by kernel_rfl) ?_ _
  clear h0 h2 h3 h4
  go_wp2_with fail
  refine bodyPost_ret (v := .agg (inRow x q2 x.m.data.length k2 q3 x.t.data.length k3).toArray) (by simp [results, Tryd.results29, go_sem, hput]) rfl ⟨q2, k2, q3, k3, rfl, M4.out, T4.out, B4.out⟩

set_option maxHeartbeats 8000000 in
theorem Ref9_any {w : World} {x : Inp} {qm qt : Option Addr} {km kt : Nat} (hr : Rd w (.slice qm x.m.data.length km) x.m.data) (hm : x.m.data.length ≤ 140737488355328) (ht : Rd w (.slice qt x.t.data.length kt) x.t.data) (hn : x.t.data.length ≤ 140737488355328) :
    Calls Tryd.prog 32 #[.agg (inRow x qm x.m.data.length km qt x.t.data.length kt).toArray] w fun e w' => ∃ qm' km' qt' kt', e = .returned (.agg (inRow x qm' x.m.data.length km' qt' x.t.data.length kt').toArray) ∧ Rd w' (.slice qm' x.m.data.length km') x.m.data ∧ Rd w' (.slice qt' x.t.data.length kt') x.t.data ∧ Below w.heap.size w w' := by
  have HM : Hid (∀ W, Below w.heap.size w W → Rd W (.slice qm x.m.data.length km) x.m.data) := fun W hb => hr.on hb
  have HT : Hid (∀ W, Below w.heap.size w W → Rd W (.slice qt x.t.data.length kt) x.t.data) := fun W hb => ht.on hb
  have b1 : Below w.heap.size w (w.alloc (.cells (inRow x qm x.m.data.length km qt x.t.data.length kt).toArray 74)) := (Below.refl _ _).alloc (Nat.le_refl _) _
  have b2 : Below (w.alloc (.cells (inRow x qm x.m.data.length km qt x.t.data.length kt).toArray 74)).heap.size (w.alloc (.cells (inRow x qm x.m.data.length km qt x.t.data.length kt).toArray 74)) ((w.alloc (.cells (inRow x qm x.m.data.length km qt x.t.data.length kt).toArray 74)).alloc (.cells (inRow inp0 none 0 0 none 0 0).toArray 70)) := (Below.refl _ _).alloc (Nat.le_refl _) _
  have hz : (w.alloc (.cells (inRow x qm x.m.data.length km qt x.t.data.length kt).toArray 74)).heap.size = w.heap.size + 1 := by simp
  have K0 := Lib.hid ((InAt.new w 74 x qm x.m.data.length km qt x.t.data.length kt).on b2)
  have R0 := InAt.new (w.alloc (.cells (inRow x qm x.m.data.length km qt x.t.data.length kt).toArray 74)) 70 inp0 none 0 0 none 0 0
  rw [hz] at R0
  have R0 := Lib.hid R0
  have B0 := Lib.hid (b1.trans (b2.mono b1.size))
  have SZ : Hid (((w.alloc (.cells (inRow x qm x.m.data.length km qt x.t.data.length kt).toArray 74)).alloc (.cells (inRow inp0 none 0 0 none 0 0).toArray 70)).heap.size = w.heap.size + 2) := by show _ = _; simp
  have RM := Lib.hid (fun (W : World) (q1 q2 : Option Addr) (k1 k2 : Nat) => Tryd.run_inr W x q1 x.m.data.length k1 q2 x.t.data.length k2)
  have h24 := inRow_len x qm x.m.data.length km qt x.t.data.length kt
  clear hr ht b1 b2 hz
  go_enter Tryd.func32, Tryd.ntmps32
  go_wp2_with fail
  generalize ((w.alloc (.cells (inRow x qm x.m.data.length km qt x.t.data.length kt).toArray 74)).alloc (.cells (inRow inp0 none 0 0 none 0 0).toArray 70)) = wa at *
  have B1 : Hid (Below w.heap.size w wa.drew) := Lib.hid B0.out.drew
  have R1 := Lib.hid (R0.out.on (Below.refl _ _).drew)
  have SZ1 : Hid (wa.drew.heap.size = w.heap.size + 2) := SZ.out
  have K1 : InAt wa.drew w.heap.size 74 x qm x.m.data.length km qt x.t.data.length kt := K0.out.on (Below.refl _ _).drew
  clear K0 R0 B0 SZ
  refine wp_region_held_drew (S := fun W => InAt W w.heap.size 74 x qm x.m.data.length km qt x.t.data.length kt) (by kernel_rfl) (K1) (fun h0 => ?_)
  generalize wa.drew = w1 at *
  refine wpAnyH_take (i := 0) (v := ?_) (by rw [List.getElem?_toArray]; rfl) (by kernel_rfl) (by kernel_rfl) (by kernel_rfl) (by exact fun _ _ _ h => h) (Or.inl ⟨by rfl, ?_⟩) h0 ?_
  rotate_left
  · intro W hW
    obtain ⟨c0, c1, c2, c3, c4⟩ := hW.cells
    have rm := hW.rowm
    have rt := hW.rowt
    go_simp
    all_goals with_reducible rfl
  try simp only [Act.put, List.setIfInBounds_toArray, List.set_cons_zero, List.set_cons_succ]
  refine wpAnyH_take (i := 1) (v := ?_) (by rw [List.getElem?_toArray]; rfl) (by kernel_rfl) (by kernel_rfl) (by kernel_rfl) (by exact fun _ _ _ h => h) (Or.inl ⟨by rfl, ?_⟩) h0 ?_
  rotate_left
  · intro W hW
    obtain ⟨c0, c1, c2, c3, c4⟩ := hW.cells
    have rm := hW.rowm
    have rt := hW.rowt
    go_simp
    all_goals with_reducible rfl
  try simp only [Act.put, List.setIfInBounds_toArray, List.set_cons_zero, List.set_cons_succ]
  refine wpAnyH_take (i := 2) (v := ?_) (by rw [List.getElem?_toArray]; rfl) (by kernel_rfl) (by kernel_rfl) (by kernel_rfl) (by exact fun _ _ _ h => h) (Or.inl ⟨by rfl, ?_⟩) h0 ?_
  rotate_left
  · intro W hW
    obtain ⟨c0, c1, c2, c3, c4⟩ := hW.cells
    have rm := hW.rowm
    have rt := hW.rowt
    go_simp
    all_goals with_reducible rfl
  try simp only [Act.put, List.setIfInBounds_toArray, List.set_cons_zero, List.set_cons_succ]
  refine wpAnyH_take (i := 3) (v := ?_) (by rw [List.getElem?_toArray]; rfl) (by kernel_rfl) (by kernel_rfl) (by kernel_rfl) (by exact fun _ _ _ h => h) (Or.inl ⟨by rfl, ?_⟩) h0 ?_
  rotate_left
  · intro W hW
    obtain ⟨c0, c1, c2, c3, c4⟩ := hW.cells
    have rm := hW.rowm
    have rt := hW.rowt
    go_simp
    all_goals with_reducible rfl
  try simp only [Act.put, List.setIfInBounds_toArray, List.set_cons_zero, List.set_cons_succ]
  refine wpAnyH_take (i := 4) (v := ?_) (by rw [List.getElem?_toArray]; rfl) (by kernel_rfl) (by kernel_rfl) (by kernel_rfl) (by exact fun _ _ _ h => h) (Or.inl ⟨by rfl, ?_⟩) h0 ?_
  rotate_left
  · intro W hW
    obtain ⟨c0, c1, c2, c3, c4⟩ := hW.cells
    have rm := hW.rowm
    have rt := hW.rowt
    go_simp
    all_goals with_reducible rfl
  try simp only [Act.put, List.setIfInBounds_toArray, List.set_cons_zero, List.set_cons_succ]
  refine wpAnyH_take (i := 5) (v := ?_) (by rw [List.getElem?_toArray]; rfl) (by kernel_rfl) (by kernel_rfl) (by kernel_rfl) (by exact fun _ _ _ h => h) (Or.inl ⟨by rfl, ?_⟩) h0 ?_
  rotate_left
  · intro W hW
    obtain ⟨c0, c1, c2, c3, c4⟩ := hW.cells
    have rm := hW.rowm
    have rt := hW.rowt
    go_simp
    all_goals with_reducible rfl
  try simp only [Act.put, List.setIfInBounds_toArray, List.set_cons_zero, List.set_cons_succ]
  refine wpAnyH_take (i := 7) (v := ?_) (by rw [List.getElem?_toArray]; rfl) (by kernel_rfl) (by kernel_rfl) (by kernel_rfl) (by exact fun _ _ _ h => h) (Or.inl ⟨by rfl, ?_⟩) h0 ?_
  rotate_left
  · intro W hW
    obtain ⟨c0, c1, c2, c3, c4⟩ := hW.cells
    have rm := hW.rowm
    have rt := hW.rowt
    go_simp
    all_goals with_reducible rfl
  try simp only [Act.put, List.setIfInBounds_toArray, List.set_cons_zero, List.set_cons_succ]
  refine wpAnyH_take (i := 8) (v := ?_) (by rw [List.getElem?_toArray]; rfl) (by kernel_rfl) (by kernel_rfl) (by kernel_rfl) (by exact fun _ _ _ h => h) (Or.inl ⟨by rfl, ?_⟩) h0 ?_
  rotate_left
  · intro W hW
    obtain ⟨c0, c1, c2, c3, c4⟩ := hW.cells
    have rm := hW.rowm
    have rt := hW.rowt
    go_simp
    all_goals with_reducible rfl
  try simp only [Act.put, List.setIfInBounds_toArray, List.set_cons_zero, List.set_cons_succ]
  refine wpAnyH_ready (rs := [6]) (by kernel_rfl) (by simp) ?_
  refine AllReadyH.cons (by rw [List.getElem?_toArray]; rfl) (fun K hK => ?_) AllReadyH.nil
  rw [if_pos (by rfl)]
  go_wp2_with fail
  refine (RefMessage_any (HM.out _ B1.out) hm).mono ?_
  rintro e w2 ⟨q2, k2, rfl, hs⟩
  have K2 := h0.on hs.below
  have R2 := Lib.hid (R1.out.on hs.below)
  have M2 := Lib.hid hs.rd
  have F2 : Hid (∀ g, (Value.slice q2 x.m.data.length k2).ownBlock = some g → w1.heap.size ≤ g) := hs.fresh
  have B2 := Lib.hid (B1.out.trans (hs.below.mono B1.out.size))
  have Z2 : Hid (w1.heap.size ≤ w2.heap.size) := hs.below.size
  clear hs R1 B1
  go_wp2_with fail
  refine hK.out _ _ (K2) (fun h2 => ?_)
  clear hK K
  try simp only [Act.put, List.setIfInBounds_toArray, List.set_cons_zero, List.set_cons_succ]
  clear K2
  refine wpAnyH_ready (rs := [9]) (by kernel_rfl) (by simp) ?_
  refine AllReadyH.cons (by rw [List.getElem?_toArray]; rfl) (fun K hK => ?_) AllReadyH.nil
  rw [if_pos (by rfl)]
  go_wp2_with fail
  refine (RefTx_any (HT.out _ B2.out) hn).mono ?_
  rintro e w3 ⟨q3, k3, rfl, hs⟩
  have K3 := h2.on hs.below
  have R3 := Lib.hid (R2.out.on hs.below)
  have M3 := Lib.hid (M2.out.on hs.below)
  have T3 := Lib.hid hs.rd
  have F3 : Hid (∀ g, (Value.slice q3 x.t.data.length k3).ownBlock = some g → w1.heap.size ≤ g) := fun g hg => Nat.le_trans Z2.out (hs.fresh g hg)
  have B3 := Lib.hid (B2.out.trans (hs.below.mono B2.out.size))
  clear hs R2 B2 M2 Z2
  go_wp2_with fail
  refine hK.out _ _ (K3) (fun h3 => ?_)
  clear hK K
  try simp only [Act.put, List.setIfInBounds_toArray, List.set_cons_zero, List.set_cons_succ]
  clear K3
  have hrm := fun W => RM.out W q2 q3 k2 k3
  refine wpAnyH_take (i := 10) (v := ?_) (by rw [List.getElem?_toArray]; rfl) (by kernel_rfl) (by kernel_rfl) (by kernel_rfl) (by exact fun _ _ _ h => h) (Or.inl ⟨by rfl, ?_⟩) h3 ?_
  rotate_left
  · intro W hW
    have hrm1 := hrm W
    go_simp
    all_goals with_reducible rfl
  try simp only [Act.put, List.setIfInBounds_toArray, List.set_cons_zero, List.set_cons_succ]
  refine wpAnyH_ready (rs := [11]) (by kernel_rfl) (by simp) ?_
  refine AllReadyH.cons (by rw [List.getElem?_toArray]; rfl) (fun K hK => ?_) AllReadyH.nil
  rw [if_pos (by rfl)]
  have th := R3.out.there
  have hput := (R3.out.put x q2 x.m.data.length k2 q3 x.t.data.length k3).row
  have cS : Chg w3 (w3.setCells (w.heap.size + 1) 0 (inRow x q2 x.m.data.length k2 q3 x.t.data.length k3)) [w.heap.size + 1] := chg_setCells _ _ _ (Chg.refl _ _)
  have M4 : Hid (Rd (w3.setCells (w.heap.size + 1) 0 (inRow x q2 x.m.data.length k2 q3 x.t.data.length k3)) (.slice q2 x.m.data.length k2) x.m.data) := M3.out.chg cS (fun _ g hg _ hm => by
    obtain rfl : g = w.heap.size + 1 := by simpa using hm
    have := F2.out _ hg
    have := SZ1.out
    omega)
  have T4 : Hid (Rd (w3.setCells (w.heap.size + 1) 0 (inRow x q2 x.m.data.length k2 q3 x.t.data.length k3)) (.slice q3 x.t.data.length k3) x.t.data) := T3.out.chg cS (fun _ g hg _ hm => by
    obtain rfl : g = w.heap.size + 1 := by simpa using hm
    have := F3.out _ hg
    have := SZ1.out
    omega)
  have B4 : Hid (Below w.heap.size w (w3.setCells (w.heap.size + 1) 0 (inRow x q2 x.m.data.length k2 q3 x.t.data.length k3))) := below_setCells' (w.heap.size + 1) (by omega) _ _ B3.out
  have K4 : InAt (w3.setCells (w.heap.size + 1) 0 (inRow x q2 x.m.data.length k2 q3 x.t.data.length k3)) w.heap.size 74 x qm x.m.data.length km qt x.t.data.length kt := InAt.chg h3 cS (by simp)
  have h24' := inRow_len x q2 x.m.data.length k2 q3 x.t.data.length k3
  clear cS hrm
  go_wp2_with fail
  refine hK.out _ _ (K4) (fun h4 => ?_)
  clear hK K
  try simp only [Act.put, List.setIfInBounds_toArray, List.set_cons_zero, List.set_cons_succ]
  clear K4
  refine wpAnyH_done (by kernel_rfl) ?_ _
  clear h0 h2 h3 h4
  go_wp2_with fail
  refine bodyPost_ret (v := .agg (inRow x q2 x.m.data.length k2 q3 x.t.data.length k3).toArray) (by simp [results, Tryd.results32, go_sem, hput]) rfl ⟨q2, k2, q3, k3, rfl, M4.out, T4.out, B4.out⟩

set_option maxHeartbeats 8000000 in
theorem Same9_any {w : World} {x : Inp} {qm qt qm2 qt2 : Option Addr} {km kt km2 kt2 : Nat} (hr : Rd w (.slice qm x.m.data.length km) x.m.data) (ht : Rd w (.slice qt x.t.data.length kt) x.t.data) (hr2 : Rd w (.slice qm2 x.m.data.length km2) x.m.data) (ht2 : Rd w (.slice qt2 x.t.data.length kt2) x.t.data) :
    Calls Tryd.prog 31 #[.agg (inRow x qm x.m.data.length km qt x.t.data.length kt).toArray, .agg (inRow x qm2 x.m.data.length km2 qt2 x.t.data.length kt2).toArray] w fun e w' => e = .returned (.bool true) ∧ Below w.heap.size w w' := by
  have b1 : Below w.heap.size w (w.alloc (.cells (inRow x qm x.m.data.length km qt x.t.data.length kt).toArray 70)) := (Below.refl _ _).alloc (Nat.le_refl _) _
  have b2 : Below (w.alloc (.cells (inRow x qm x.m.data.length km qt x.t.data.length kt).toArray 70)).heap.size (w.alloc (.cells (inRow x qm x.m.data.length km qt x.t.data.length kt).toArray 70)) ((w.alloc (.cells (inRow x qm x.m.data.length km qt x.t.data.length kt).toArray 70)).alloc (.cells (inRow x qm2 x.m.data.length km2 qt2 x.t.data.length kt2).toArray 70)) := (Below.refl _ _).alloc (Nat.le_refl _) _
  have b0 := b1.trans (b2.mono b1.size)
  have K0 := Lib.hid ((InAt.new w 70 x qm x.m.data.length km qt x.t.data.length kt).on b2)
  have K1 := InAt.new (w.alloc (.cells (inRow x qm x.m.data.length km qt x.t.data.length kt).toArray 70)) 70 x qm2 x.m.data.length km2 qt2 x.t.data.length kt2
  have hz : (w.alloc (.cells (inRow x qm x.m.data.length km qt x.t.data.length kt).toArray 70)).heap.size = w.heap.size + 1 := by simp
  rw [hz] at K1
  have K1 := Lib.hid K1
  have SM := Lib.hid (SameMessage_any (hr.on b0) (hr2.on b0))
  have ST := Lib.hid (fun (W : World) (hb : Below w.heap.size w W) => SameTx_any (ht.on hb) (ht2.on hb))
  have B0 := Lib.hid b0
  obtain ⟨c0, c1, c2, c3, c4⟩ := K0.out.cells
  obtain ⟨d0, d1, d2, d3, d4⟩ := K1.out.cells
  have rm := K0.out.rowm
  have rm2 := K1.out.rowm
  have lm := mgRow_len x.m qm x.m.data.length km
  have lm2 := mgRow_len x.m qm2 x.m.data.length km2
  have lt := txRow_len x.t qt x.t.data.length kt
  have lt2 := txRow_len x.t qt2 x.t.data.length kt2
  have db : (x.dep == x.dep) = true := by simp
  clear hr ht hr2 ht2 b1 b2 b0 hz
  go_enter Tryd.func31, Tryd.ntmps31
  go_wp2_with fail
  generalize ((w.alloc (.cells (inRow x qm x.m.data.length km qt x.t.data.length kt).toArray 70)).alloc (.cells (inRow x qm2 x.m.data.length km2 qt2 x.t.data.length kt2).toArray 70)) = w0 at *
  refine SM.out.mono ?_
  rintro e w1 ⟨rfl, hb⟩
  have B1 := Lib.hid (B0.out.trans (hb.mono B0.out.size))
  have rt := (K0.out.on hb).rowt
  have rt2 := (K1.out.on hb).rowt
  clear hb K0 K1 B0 SM c0 c1 c2 c3 c4 d0 d1 d2 d3 d4 rm rm2
  go_wp2_with fail
  refine (ST.out _ B1.out).mono ?_
  rintro e w2 ⟨rfl, hb⟩
  have B2 := Lib.hid (B1.out.trans (hb.mono B1.out.size))
  clear hb B1
  go_wp2_with fail
  go_ret
  exact ⟨rfl, B2.out⟩
end Go.Proofs.YtcpoaalhpjipaaaDoor
namespace Go.Proofs.YtcpoaalhpjipaaaDoor
set_option maxRecDepth 100000
open Go.RowKit

theorem mGet_f {xs : List Int} (hx : Bytes xs) (h : (mE xs == 0) = true) : pMB (mG xs) = xs ∧ pME (mG xs) = 0 := by
  have h2 : mOk xs = true := by
    cases ho : mOk xs with
    | true => rfl
    | false => unfold mE at h; rw [ho] at h; simp at h
  obtain ⟨e1, e2, e3⟩ := mOk_bytes hx h2
  rw [e3]
  unfold pMB pME
  rw [if_pos e2, if_pos e2, e1]
  exact ⟨rfl, rfl⟩
theorem bGet_f {xs : List Int} (hx : Bytes xs) (h : (bE xs == 0) = true) : pBB (bGe xs) (bGl xs) = xs ∧ pBE (bGl xs) = 0 := by
  have h2 : bOk xs = true := by
    cases ho : bOk xs with
    | true => rfl
    | false => unfold bE at h; rw [ho] at h; simp at h
  obtain ⟨e1, e2⟩ := bOk_bytes hx h2
  unfold bGe bGl
  rw [if_pos h2, if_pos h2]
  unfold pBB pBE
  rw [if_pos e2, if_pos e2, e1]
  exact ⟨rfl, rfl⟩
theorem iGet_f {xs : List Int} (hx : Bytes xs) (h : (iE xs == 0) = true) : pIB (iG xs) = xs ∧ pIE (iG xs) = 0 := by
  have h2 : iOk xs = true := by
    cases ho : iOk xs with
    | true => rfl
    | false => unfold iE at h; rw [ho] at h; simp at h
  obtain ⟨e1, e2⟩ := i_fwd hx h2
  unfold iG
  rw [if_pos h2]
  unfold pIB pIE
  rw [if_pos e2, if_pos e2, e1]
  exact ⟨rfl, rfl⟩
theorem iPut_f {x : Inp} (ok : x.ok) (h : (pIE x == 0) = true) : iE (pIB x) = 0 ∧ iG (pIB x) = x := by
  have h2 : okI x = true := by
    cases ho : okI x with
    | true => rfl
    | false => unfold pIE at h; rw [ho] at h; simp at h
  have e : pIB x = inB x := if_pos h2
  obtain ⟨e1, e2⟩ := i_back ok h2
  rw [e]
  unfold iE iG
  rw [if_pos e1, if_pos e1]
  exact ⟨rfl, e2⟩
theorem pIB_ok {x : Inp} (ok : x.ok) : Bytes (pIB x) ∧ (pIB x).length ≤ 1000 := by
  unfold pIB
  split
  · rename_i h
    exact ⟨inB_bytes ok, inB_len h⟩
  · exact ⟨fun y hy => (by cases hy), by simp⟩
theorem bPut_f {ep : Int} {L : List Tg} (he : 0 ≤ ep ∧ ep < 18446744073709551616) (ok : TgsOk L) (h : (pBE L == 0) = true) : bE (pBB ep L) = 0 ∧ bGe (pBB ep L) = ep ∧ bGl (pBB ep L) = L := by
  have h2 : okB L = true := by
    cases ho : okB L with
    | true => rfl
    | false => unfold pBE at h; rw [ho] at h; simp at h
  have e : pBB ep L = baB ep L L.length := if_pos h2
  have e1 := bOk_back he ok h2
  obtain ⟨e2, e3⟩ := b_back he ok h2
  have h0 : (baB ep L L.length).drop 0 = be8 ep ++ (be8 (L.length : Int) ++ ((L.take L.length).map txB).flatten) := by simp [baB]
  obtain ⟨a1, b1, c1⟩ := nAt_back h0 he.1 he.2
  rw [e]
  unfold bE bGe bGl
  rw [if_pos e1, if_pos e1, if_pos e1, e3, e2 L.length (Nat.le_refl _), List.take_length]
  refine ⟨rfl, ?_, rfl⟩
  show uV (fU false (baB ep L L.length) 0 8) _ 0 = ep
  rw [fU_ok a1]
  exact b1
theorem pBB_ok {ep : Int} {L : List Tg} (ok : TgsOk L) : Bytes (pBB ep L) ∧ (pBB ep L).length ≤ 10000 := by
  unfold pBB
  split
  · rename_i h
    unfold okB at h
    simp only [Bool.and_eq_true, decide_eq_true_eq] at h
    have := baB_len (ep := ep) h.2 L.length (Nat.le_refl _)
    exact ⟨baB_bytes9 ok _, by omega⟩
  · exact ⟨fun y hy => (by cases hy), by simp⟩
theorem iG_ok {xs : List Int} (hx : Bytes xs) : (iG xs).ok ∧ (iG xs).m.data.length ≤ 65536 ∧ (iG xs).t.data.length ≤ 65536 := by
  unfold iG
  split
  · exact ⟨iM_ok hx, iM_len xs⟩
  · exact ⟨inp0_ok, by simp [inp0, mg0], by simp [inp0, tg0]⟩
theorem InAt.lens {w : World} {b : Nat} {T : TypeId} {x : Inp} {qm qt : Option Addr} {nm km nt kt : Nat} (h : InAt w b T x qm nm km qt nt kt) : w.cell? ⟨b, 13, none⟩ = some (.slice qm nm km) ∧ w.cell? ⟨b, 23, none⟩ = some (.slice qt nt kt) :=
  ⟨(Joins.cell_of_block h 13).trans rfl, (Joins.cell_of_block h 23).trans rfl⟩
theorem bGl_oks {xs : List Int} (hx : Bytes xs) : TgsOk (bGl xs) ∧ (bGl xs).length ≤ 8 := by
  unfold bGl
  split
  · rename_i h
    have h2 := h
    simp only [bOk, okB, Bool.and_eq_true, decide_eq_true_eq] at h2
    exact ⟨bIt_ok hx _, h2.2.1⟩
  · exact ⟨fun t ht => by simp at ht, by simp⟩

set_option maxHeartbeats 16000000 in
theorem Back9_walk {w : World} {x : Inp} {qm qt : Option Addr} {km kt : Nat} {ep : Int} {ql : Option Addr} {cl : Nat} {L : List Tg} {v : Value} {xs : List Int} (hT : Tbl w) (ok : x.ok) (hm : Rd w (.slice qm x.m.data.length km) x.m.data) (hml : x.m.data.length ≤ 140737488355000) (ht : Rd w (.slice qt x.t.data.length kt) x.t.data) (htl : x.t.data.length ≤ 140737488355000) (he : 0 ≤ ep ∧ ep < 18446744073709551616) (hL : RdTx w ql L) (okLs : TgsOk L) (hLl : L.length ≤ 140737488355000) (hv : Rd w v xs) (hx : Bytes xs) (hxl : xs.length ≤ 140737488355000) :
    Calls Tryd.prog 5 #[.agg (inRow x qm x.m.data.length km qt x.t.data.length kt).toArray, .int .u64 ep, .slice ql L.length cl, v] w fun e w' => e = .returned (.bool true) ∧ Below w.heap.size w w' := by
  have HT := Lib.hid hT
  have OK := Lib.hid ok
  have OL := Lib.hid okLs
  have BX := Lib.hid hx
  have HE := Lib.hid he
  have HM : Hid (∀ W, Below w.heap.size w W → Rd W (.slice qm x.m.data.length km) x.m.data) := fun W hb => hm.on hb
  have HTx : Hid (∀ W, Below w.heap.size w W → Rd W (.slice qt x.t.data.length kt) x.t.data) := fun W hb => ht.on hb
  have HV : Hid (∀ W, Below w.heap.size w W → Rd W v xs) := fun W hb => hv.on hb
  have HL : Hid (∀ W, Below w.heap.size w W → RdTx W ql L) := fun W hb => hL.on hb
  have KN := Lib.hid (fun (W : World) (hb : Below w.heap.size w W) => knows9_any (HT.out.on hb HT.out.pos))
  obtain ⟨qv, cv, rfl⟩ := hv.len
  have b1 : Below w.heap.size w (w.alloc (.cells (inRow x qm x.m.data.length km qt x.t.data.length kt).toArray 70)) := (Below.refl _ _).alloc (Nat.le_refl _) _
  have K0 : Hid (InAt (w.alloc (.cells (inRow x qm x.m.data.length km qt x.t.data.length kt).toArray 70)) w.heap.size 70 x qm x.m.data.length km qt x.t.data.length kt) := InAt.new w 70 x qm x.m.data.length km qt x.t.data.length kt
  have B0 := Lib.hid b1
  obtain ⟨c13, c23⟩ := K0.out.lens
  clear hT ok okLs hm ht hv hL hx b1 he
  go_enter Tryd.func5, Tryd.ntmps5
  by_cases hA : 4000 < x.m.data.length
  · have hAI : (4000 : Int) < (x.m.data.length : Int) := by omega
    go_wp2_with fail
    generalize w.alloc (.cells (inRow x qm x.m.data.length km qt x.t.data.length kt).toArray 70) = w0 at *
    refine (KN.out _ B0.out).mono ?_
    rintro e w2 ⟨rfl, hb2⟩
    have B2 := Lib.hid (B0.out.trans (hb2.mono B0.out.size))
    clear hb2
    go_wp2_with fail
    go_ret
    exact ⟨rfl, B2.out⟩
  have hAI : ¬ (4000 : Int) < (x.m.data.length : Int) := by omega
  have dhA : decide ((4000 : Int) < (x.m.data.length : Int)) = false := by rw [decide_eq_false_iff_not]; exact hAI
  by_cases hB : 4000 < x.t.data.length
  · have hBI : (4000 : Int) < (x.t.data.length : Int) := by omega
    go_wp2_with fail
    generalize w.alloc (.cells (inRow x qm x.m.data.length km qt x.t.data.length kt).toArray 70) = w0 at *
    refine (KN.out _ B0.out).mono ?_
    rintro e w2 ⟨rfl, hb2⟩
    have B2 := Lib.hid (B0.out.trans (hb2.mono B0.out.size))
    clear hb2
    go_wp2_with fail
    go_ret
    exact ⟨rfl, B2.out⟩
  have hBI : ¬ (4000 : Int) < (x.t.data.length : Int) := by omega
  have dhB : decide ((4000 : Int) < (x.t.data.length : Int)) = false := by rw [decide_eq_false_iff_not]; exact hBI
  by_cases hC : 12 < L.length
  · have hCI : (12 : Int) < (L.length : Int) := by omega
    go_wp2_with fail
    generalize w.alloc (.cells (inRow x qm x.m.data.length km qt x.t.data.length kt).toArray 70) = w0 at *
    refine (KN.out _ B0.out).mono ?_
    rintro e w2 ⟨rfl, hb2⟩
    have B2 := Lib.hid (B0.out.trans (hb2.mono B0.out.size))
    clear hb2
    go_wp2_with fail
    go_ret
    exact ⟨rfl, B2.out⟩
  have hCI : ¬ (12 : Int) < (L.length : Int) := by omega
  have dhC : decide ((12 : Int) < (L.length : Int)) = false := by rw [decide_eq_false_iff_not]; exact hCI
  by_cases hD : 9000 < xs.length
  · have hDI : (9000 : Int) < (xs.length : Int) := by omega
    go_wp2_with fail
    generalize w.alloc (.cells (inRow x qm x.m.data.length km qt x.t.data.length kt).toArray 70) = w0 at *
    refine (KN.out _ B0.out).mono ?_
    rintro e w2 ⟨rfl, hb2⟩
    have B2 := Lib.hid (B0.out.trans (hb2.mono B0.out.size))
    clear hb2
    go_wp2_with fail
    go_ret
    exact ⟨rfl, B2.out⟩
  have hDI : ¬ (9000 : Int) < (xs.length : Int) := by omega
  have dhD : decide ((9000 : Int) < (xs.length : Int)) = false := by rw [decide_eq_false_iff_not]; exact hDI
  have hrow := K0.out.row
  have h24 := inRow_len x qm x.m.data.length km qt x.t.data.length kt
  go_wp2_with fail
  clear c13 c23 hAI hBI hCI hDI dhA dhB dhC dhD hrow
  generalize w.alloc (.cells (inRow x qm x.m.data.length km qt x.t.data.length kt).toArray 70) = w0 at *
  have lM : Hid (x.m.data.length ≤ 4000) := by show _ ≤ _; omega
  have lT : Hid (x.t.data.length ≤ 4000) := by show _ ≤ _; omega
  have lL : Hid (L.length ≤ 12) := by show _ ≤ _; omega
  have lX : Hid (xs.length ≤ 9000) := by show _ ≤ _; omega
  clear hA hB hC hD hml htl hLl hxl
  refine (Own9_any (HM.out _ B0.out) (by have := lM.out; omega) (HTx.out _ B0.out) (by have := lT.out; omega)).mono ?_
  rintro e w1 ⟨q1, k1, q2, k2, rfl, hm1, ht1, hb1⟩
  have K1 := Lib.hid (K0.out.on hb1)
  have B1 := Lib.hid (B0.out.trans (hb1.mono B0.out.size))
  have M1 := Lib.hid hm1
  have T1 := Lib.hid ht1
  clear hm1 ht1 hb1 K0 B0
  go_wp2_with fail
  refine (PutInput_any OK.out M1.out (by have := lM.out; omega) T1.out (by have := lT.out; omega)).mono ?_
  rintro e w2 ⟨q3, k3, rfl, hr3, hb2⟩
  have K2 := Lib.hid (K1.out.on hb2)
  have B2 := Lib.hid (B1.out.trans (hb2.mono B1.out.size))
  have R2 := Lib.hid hr3
  have OX := Lib.hid (pIB_ok OK.out)
  have FX : Hid ((pIE x == 0) = true → iE (pIB x) = 0 ∧ iG (pIB x) = x) := fun h => iPut_f OK.out h
  clear hr3 hb2 K1 B1 M1 T1
  obtain ⟨C, hC⟩ : ∃ C, pIB x = C := ⟨_, rfl⟩
  obtain ⟨E, hE⟩ : ∃ E, pIE x = E := ⟨_, rfl⟩
  rw [hC] at R2 OX FX ⊢
  rw [hE] at FX ⊢
  clear hC hE
  go_wp2_with fail
  refine (num9_any E _).mono ?_
  rintro e wz ⟨rfl, hwz⟩
  obtain rfl := hwz.symm
  clear hwz
  go_upto_if 57 with fail
  go_cut [] from 9 (fun W => Hid (Below w.heap.size w W))
  case first =>
    cases hz : (E == 0) with
    | false =>
      go_wp2_with fail
      go_meet
      case rel => exact B2
    | true =>
      obtain ⟨f1, f2⟩ := FX.out hz
      have KG := Lib.hid (GetInput_any R2.out OX.out.1 (by have := OX.out.2; omega))
      unfold GiP at KG
      rw [f1, f2] at KG
      clear f1 f2 FX
      go_wp2_with fail
      refine KG.out.mono ?_
      rintro e w3 ⟨q4, k4, q5, k5, rfl, hm3, ht3, hb3⟩
      have K3 := K2.out.on hb3
      have B3 := B2.out.trans (hb3.mono B2.out.size)
      have ba : Below w3.heap.size w3 (w3.alloc (.cells (inRow inp0 none 0 0 none 0 0).toArray 74)) := (Below.refl _ _).alloc (Nat.le_refl _) _
      have KA := InAt.new w3 74 inp0 none 0 0 none 0 0
      have th := KA.there
      have KP := KA.put x q4 x.m.data.length k4 q5 x.t.data.length k5
      have cs : Below w3.heap.size w3 ((w3.alloc (.cells (inRow inp0 none 0 0 none 0 0).toArray 74)).setCells w3.heap.size 0 (inRow x q4 x.m.data.length k4 q5 x.t.data.length k5)) := below_setCells' _ (Nat.le_refl _) _ _ ba
      have K4 := Lib.hid (K3.on cs)
      have B4 := Lib.hid (B3.trans (cs.mono B3.size))
      have M4 := Lib.hid (hm3.on cs)
      have T4 := Lib.hid (ht3.on cs)
      have P4 := Lib.hid KP
      have szz : ((w3.alloc (.cells (inRow inp0 none 0 0 none 0 0).toArray 74)).setCells w3.heap.size 0 (inRow x q4 x.m.data.length k4 q5 x.t.data.length k5)).heap.size = w3.heap.size + 1 := by rw [size_setCells]; simp
      have h24' := inRow_len x q4 x.m.data.length k4 q5 x.t.data.length k5
      clear hm3 ht3 hb3 K3 B3 ba KA KP cs K2 B2 R2 KG
      go_wp2_with fail
      clear th szz
      obtain ⟨by_, hbe⟩ : ∃ b, w3.heap.size = b := ⟨_, rfl⟩
      rw [hbe] at K4 B4 M4 T4 P4 ⊢
      generalize (w3.alloc (.cells (inRow inp0 none 0 0 none 0 0).toArray 74)).setCells by_ 0 (inRow x q4 x.m.data.length k4 q5 x.t.data.length k5) = w4 at *
      clear hbe
      have K5 : InAt w4.drew by_ 74 x q4 x.m.data.length k4 q5 x.t.data.length k5 ∧ InAt w4.drew w.heap.size 70 x qm x.m.data.length km qt x.t.data.length kt := ⟨P4.out.on (Below.refl _ _).drew, K4.out.on (Below.refl _ _).drew⟩
      have B5 : Hid (Below w.heap.size w w4.drew) := Lib.hid B4.out.drew
      have M5 : Hid (Rd w4.drew (.slice q4 x.m.data.length k4) x.m.data) := M4.out
      have T5 : Hid (Rd w4.drew (.slice q5 x.t.data.length k5) x.t.data) := T4.out
      clear K4 P4 B4 M4 T4
      refine wp_region_held_drew (S := fun W => InAt W by_ 74 x q4 x.m.data.length k4 q5 x.t.data.length k5 ∧ InAt W w.heap.size 70 x qm x.m.data.length km qt x.t.data.length kt) (by kernel_rfl) (K5) (fun h0 => ?_)
      generalize w4.drew = w5 at *
      refine wpAnyH_take (i := 0) (v := ?_) (by rw [List.getElem?_toArray]; rfl) (by kernel_rfl) (by kernel_rfl) (by kernel_rfl) (by exact fun _ _ _ h => h) (Or.inl ⟨by rfl, ?_⟩) h0 ?_
      rotate_left
      · intro W hW
        go_simp
        all_goals with_reducible rfl
      try simp only [Act.put, List.setIfInBounds_toArray, List.set_cons_zero, List.set_cons_succ]
      refine wpAnyH_ready (rs := [1]) (by kernel_rfl) (by simp) ?_
      refine AllReadyH.cons (by rw [List.getElem?_toArray]; rfl) (fun K hK => ?_) AllReadyH.nil
      rw [if_pos (by rfl)]
      go_wp2_with fail
      refine (num9_any 0 _).mono ?_
      rintro e wz ⟨rfl, hwz⟩
      obtain rfl := hwz.symm
      clear hwz
      go_wp2_with fail
      refine hK.out _ _ (h0) (fun h1 => ?_)
      clear hK K
      try simp only [Act.put, List.setIfInBounds_toArray, List.set_cons_zero, List.set_cons_succ]
      refine wpAnyH_take (i := 2) (v := ?_) (by rw [List.getElem?_toArray]; rfl) (by kernel_rfl) (by kernel_rfl) (by kernel_rfl) (by exact fun _ _ _ h => h) (Or.inl ⟨by rfl, ?_⟩) h1 ?_
      rotate_left
      · intro W hW
        go_simp
        all_goals with_reducible rfl
      try simp only [Act.put, List.setIfInBounds_toArray, List.set_cons_zero, List.set_cons_succ]
      refine wpAnyH_take (i := 3) (v := ?_) (by rw [List.getElem?_toArray]; rfl) (by kernel_rfl) (by kernel_rfl) (by kernel_rfl) (by exact fun _ _ _ h => h) (Or.inl ⟨by rfl, ?_⟩) h1 ?_
      rotate_left
      · intro W hW
        go_simp
        all_goals with_reducible rfl
      try simp only [Act.put, List.setIfInBounds_toArray, List.set_cons_zero, List.set_cons_succ]
      refine wpAnyH_take (i := 4) (v := ?_) (by rw [List.getElem?_toArray]; rfl) (by kernel_rfl) (by kernel_rfl) (by kernel_rfl) (by exact fun _ _ _ h => h) (Or.inl ⟨by rfl, ?_⟩) h1 ?_
      rotate_left
      · intro W hW
        obtain ⟨hW1, hW2⟩ := hW
        have r1 := hW1.row
        have r2 := hW2.row
        go_simp
        all_goals with_reducible rfl
      try simp only [Act.put, List.setIfInBounds_toArray, List.set_cons_zero, List.set_cons_succ]
      refine wpAnyH_take (i := 6) (v := ?_) (by rw [List.getElem?_toArray]; rfl) (by kernel_rfl) (by kernel_rfl) (by kernel_rfl) (by exact fun _ _ _ h => h) (Or.inl ⟨by rfl, ?_⟩) h1 ?_
      rotate_left
      · intro W hW
        obtain ⟨hW1, hW2⟩ := hW
        have r1 := hW1.row
        have r2 := hW2.row
        go_simp
        all_goals with_reducible rfl
      try simp only [Act.put, List.setIfInBounds_toArray, List.set_cons_zero, List.set_cons_succ]
      refine wpAnyH_ready (rs := [5]) (by kernel_rfl) (by simp) ?_
      refine AllReadyH.cons (by rw [List.getElem?_toArray]; rfl) (fun K hK => ?_) AllReadyH.nil
      rw [if_pos (by rfl)]
      go_wp2_with fail
      refine (Ref9_any M5.out (by have := lM.out; omega) T5.out (by have := lT.out; omega)).mono ?_
      rintro e w7 ⟨q6, k6, q7, k7, rfl, hm7, ht7, hb7⟩
      have B7 := Lib.hid (B5.out.trans (hb7.mono B5.out.size))
      have M7 := Lib.hid hm7
      have T7 := Lib.hid ht7
      have K7 := And.intro (h1.1.on hb7) (h1.2.on hb7)
      have h24'' := inRow_len x q6 x.m.data.length k6 q7 x.t.data.length k7
      clear hm7 ht7 hb7 M5 T5 B5
      go_wp2_with fail
      refine hK.out _ _ (K7) (fun h7 => ?_)
      clear hK K
      try simp only [Act.put, List.setIfInBounds_toArray, List.set_cons_zero, List.set_cons_succ]
      clear K7
      refine wpAnyH_ready (rs := [7]) (by kernel_rfl) (by simp) ?_
      refine AllReadyH.cons (by rw [List.getElem?_toArray]; rfl) (fun K hK => ?_) AllReadyH.nil
      rw [if_pos (by rfl)]
      go_wp2_with fail
      refine (Same9_any M7.out T7.out (HM.out _ B7.out) (HTx.out _ B7.out)).mono ?_
      rintro e w8 ⟨rfl, hb8⟩
      have B8 := Lib.hid (B7.out.trans (hb8.mono B7.out.size))
      have K8 := And.intro (h7.1.on hb8) (h7.2.on hb8)
      clear hb8 M7 T7 B7
      go_wp2_with fail
      refine hK.out _ _ (K8) (fun h8 => ?_)
      clear hK K
      try simp only [Act.put, List.setIfInBounds_toArray, List.set_cons_zero, List.set_cons_succ]
      clear K8
      refine wpAnyH_take (i := 8) (v := ?_) (by rw [List.getElem?_toArray]; rfl) (by kernel_rfl) (by kernel_rfl) (by kernel_rfl) (by exact fun _ _ _ h => h) (Or.inl ⟨by rfl, ?_⟩) h8 ?_
      rotate_left
      · intro W hW
        go_simp
        all_goals with_reducible rfl
      try simp only [Act.put, List.setIfInBounds_toArray, List.set_cons_zero, List.set_cons_succ]
      refine wpAnyH_take (i := 9) (v := ?_) (by rw [List.getElem?_toArray]; rfl) (by kernel_rfl) (by kernel_rfl) (by kernel_rfl) (by exact fun _ _ _ h => h) (Or.inl ⟨by rfl, ?_⟩) h8 ?_
      rotate_left
      · intro W hW
        go_simp
        all_goals with_reducible rfl
      try simp only [Act.put, List.setIfInBounds_toArray, List.set_cons_zero, List.set_cons_succ]
      refine wpAnyH_done (by kernel_rfl) ?_ _
      clear h0 h7 h8
      go_wp2_with fail
      go_meet
      case rel => exact B8
  case rest =>
  have BA := hcut
  clear hcut K2 R2 FX OX B2
  generalize wc = wa at *
  go_wp2_with fail
  refine (Txs_any (HL.out _ BA.out) OL.out lL.out).mono ?_
  rintro e w2 ⟨qx, cx, done, rfl, hO⟩
  have B2 := Lib.hid (BA.out.trans (hO.below.mono BA.out.size))
  have RT := Lib.hid hO.rd
  clear hO BA
  go_wp2_with fail
  refine (PutBatch_any RT.out OL.out (by have := lL.out; omega)).mono ?_
  rintro e w3 ⟨q3, k3, rfl, rc, hb⟩
  have RC := Lib.hid rc.rd
  have B3 := Lib.hid (B2.out.trans (hb.mono B2.out.size))
  have OX := Lib.hid (pBB_ok (ep := ep) OL.out)
  have FX : Hid ((pBE L == 0) = true → bE (pBB ep L) = 0 ∧ bGe (pBB ep L) = ep ∧ bGl (pBB ep L) = L) := fun h => bPut_f HE.out OL.out h
  clear rc hb RT B2
  obtain ⟨C, hC⟩ : ∃ C, pBB ep L = C := ⟨_, rfl⟩
  obtain ⟨E, hE⟩ : ∃ E, pBE L = E := ⟨_, rfl⟩
  rw [hC] at RC OX FX ⊢
  rw [hE] at FX ⊢
  clear hC hE
  go_wp2_with fail
  refine (num9_any E _).mono ?_
  rintro e wz ⟨rfl, hwz⟩
  obtain rfl := hwz.symm
  clear hwz
  go_upto_if 83 with fail
  go_cut [] from 9 (fun W => Hid (Below w.heap.size w W))
  case first =>
    cases hz : (E == 0) with
    | false =>
      go_wp2_with fail
      go_meet
      case rel => exact B3
    | true =>
      obtain ⟨f1, f2, f3⟩ := FX.out hz
      have KG := Lib.hid (GetBatch_any RC.out OX.out.1 (by have := OX.out.2; omega))
      unfold GbP at KG
      rw [f1, f2, f3] at KG
      clear f1 f2 f3 FX
      go_wp2_with fail
      refine KG.out.mono ?_
      rintro e w5 ⟨q5, k5, rfl, ry, hb⟩
      have ba : Below w5.heap.size w5 (w5.alloc (.cells #[.int .u64 ep, .slice q5 L.length k5] 59)) := (Below.refl _ _).alloc (Nat.le_refl _) _
      have hb3 := hb.trans (ba.mono hb.size)
      have K6 := Lib.hid (heap_alloc_new w5 (.cells #[.int .u64 ep, .slice q5 L.length k5] 59))
      have RY6 := Lib.hid (ry.on ba)
      have B6 := Lib.hid (B3.out.trans (hb3.mono B3.out.size))
      clear ry hb ba hb3 B3 RC KG OX
      go_wp2_with fail
      obtain ⟨b1, hbe⟩ : ∃ b, w5.heap.size = b := ⟨_, rfl⟩
      rw [hbe] at K6 ⊢
      generalize w5.alloc (.cells #[.int .u64 ep, .slice q5 L.length k5] 59) = w6 at *
      clear hbe
      refine (num9_any 0 _).mono ?_
      rintro e wz ⟨rfl, hwz⟩
      obtain rfl := hwz.symm
      clear hwz
      have c0 := (Joins.cell_of_block K6.out 0).trans (rfl : _ = some _)
      have c1 := (Joins.cell_of_block K6.out 1).trans (rfl : _ = some _)
      have hne : (ep != ep) = false := by simp
      go_wp2_with fail
      clear c0 c1 hne
      refine (sameTxs_any RY6.out (HL.out _ B6.out) OL.out (by have := lL.out; omega)).mono ?_
      rintro e w9 ⟨rfl, hb⟩
      have B9 := Lib.hid (B6.out.trans (hb.mono B6.out.size))
      clear hb B6 RY6 K6
      go_wp2_with fail
      go_meet
      case rel => exact B9
  case rest =>
  have BA := hcut
  clear hcut FX OX B3 RC
  generalize wc = wa at *
  go_wp2_with fail
  have KG := Lib.hid (GetMessage_any (HV.out _ BA.out) BX.out (by have := lX.out; omega))
  unfold GmP at KG
  have OY := Lib.hid (And.intro (mG_ok BX.out) (mG_len xs))
  have FX : Hid ((mE xs == 0) = true → pMB (mG xs) = xs ∧ pME (mG xs) = 0) := fun h => mGet_f BX.out h
  obtain ⟨y, hy⟩ : ∃ y, mG xs = y := ⟨_, rfl⟩
  obtain ⟨E, hE⟩ : ∃ E, mE xs = E := ⟨_, rfl⟩
  rw [hy, hE] at KG FX
  rw [hy] at OY
  clear hy hE
  refine KG.out.mono ?_
  rintro e w3 ⟨q3, k3, rfl, hr3, hb3⟩
  have KA := MgAt.new w3 30 mg0 none 0 0
  have KP := KA.put y q3 y.data.length k3
  have hl9 := mgRow_len y q3 y.data.length k3
  have ba : Below w3.heap.size w3 (w3.alloc (.cells (mgRow mg0 none 0 0).toArray 30)) := (Below.refl _ _).alloc (Nat.le_refl _) _
  have th := KA.there
  have cs : Below w3.heap.size w3 ((w3.alloc (.cells (mgRow mg0 none 0 0).toArray 30)).setCells w3.heap.size 0 (mgRow y q3 y.data.length k3)) := below_setCells' _ (Nat.le_refl _) _ _ ba
  have hb4 := hb3.trans (cs.mono hb3.size)
  have B4 := Lib.hid (BA.out.trans (hb4.mono BA.out.size))
  have R4 := Lib.hid (hr3.on cs)
  have P4 := Lib.hid KP
  have szz : ((w3.alloc (.cells (mgRow mg0 none 0 0).toArray 30)).setCells w3.heap.size 0 (mgRow y q3 y.data.length k3)).heap.size = w3.heap.size + 1 := by rw [size_setCells]; simp
  clear hr3 hb3 KA KP ba cs hb4 BA KG
  go_wp2_with fail
  clear th szz
  obtain ⟨by_, hbe⟩ : ∃ b, w3.heap.size = b := ⟨_, rfl⟩
  rw [hbe] at B4 R4 P4 ⊢
  generalize (w3.alloc (.cells (mgRow mg0 none 0 0).toArray 30)).setCells by_ 0 (mgRow y q3 y.data.length k3) = w4 at *
  clear hbe
  refine (num9_any E _).mono ?_
  rintro e wz ⟨rfl, hwz⟩
  obtain rfl := hwz.symm
  clear hwz
  go_upto_if 112 with fail
  go_cut [] from 9 (fun W => Hid (Below w.heap.size w W))
  case first =>
    cases hz : (E == 0) with
    | false =>
      go_wp2_with fail
      go_meet
      case rel => exact B4
    | true =>
      obtain ⟨f1, f2⟩ := FX.out hz
      have KP := Lib.hid (PutMessage_any OY.out.1 R4.out (by have := OY.out.2; omega))
      rw [f1, f2] at KP
      have hrow := P4.out.row
      clear f1 f2 FX
      go_wp2_with fail
      clear hrow
      refine KP.out.mono ?_
      rintro e w7 ⟨q7, k7, rfl, rc9, hb7⟩
      have rc : Rd w7 (.slice q7 xs.length k7) xs := rc9
      have B7 := Lib.hid (B4.out.trans (hb7.mono B4.out.size))
      clear rc9 hb7 B4 R4 P4 KP
      go_wp2_with fail
      refine (num9_any 0 _).mono ?_
      rintro e wz ⟨rfl, hwz⟩
      obtain rfl := hwz.symm
      clear hwz
      obtain ⟨sX, hsX⟩ : ∃ sX, strOfNums xs = sX := ⟨_, rfl⟩
      have ds : (sX.toList == sX.toList) = true := by simp
      have dn : (sX.toList != sX.toList) = false := by simp
      have sc : (convert 25 9 (.slice q7 xs.length k7)).run Tryd.prog w7 = .ok (.string sX) w7 := by rw [← hsX]; exact rc.str Tryd.underlying25 Tryd.underlying5 Tryd.underlying9
      have sd : (convert 25 9 (.slice qv xs.length cv)).run Tryd.prog w7 = .ok (.string sX) w7 := by rw [← hsX]; exact (HV.out _ B7.out).str Tryd.underlying25 Tryd.underlying5 Tryd.underlying9
      clear rc hsX
      go_wp2_with fail
      go_meet
      case rel => exact B7
  case rest =>
  have BA := hcut
  clear hcut FX OY B4 R4 P4
  generalize wc = wa at *
  go_wp2_with fail
  have KG := Lib.hid (GetBatch_any (HV.out _ BA.out) BX.out (by have := lX.out; omega))
  unfold GbP at KG
  have OY := Lib.hid (bGl_oks BX.out)
  have FX : Hid ((bE xs == 0) = true → pBB (bGe xs) (bGl xs) = xs ∧ pBE (bGl xs) = 0) := fun h => bGet_f BX.out h
  obtain ⟨y, hy⟩ : ∃ y, bGl xs = y := ⟨_, rfl⟩
  obtain ⟨e0, he0⟩ : ∃ y, bGe xs = y := ⟨_, rfl⟩
  obtain ⟨E, hE⟩ : ∃ E, bE xs = E := ⟨_, rfl⟩
  rw [hy, hE, he0] at KG FX
  rw [hy] at OY
  clear hy hE he0
  refine KG.out.mono ?_
  rintro e w3 ⟨q3, k3, rfl, hr3, hb3⟩
  have ba : Below w3.heap.size w3 (w3.alloc (.cells #[.int .u64 e0, .slice q3 y.length k3] 59)) := (Below.refl _ _).alloc (Nat.le_refl _) _
  have hb4 := hb3.trans (ba.mono hb3.size)
  have P4 := Lib.hid (heap_alloc_new w3 (.cells #[.int .u64 e0, .slice q3 y.length k3] 59))
  have R4 := Lib.hid (hr3.on ba)
  have B4 := Lib.hid (BA.out.trans (hb4.mono BA.out.size))
  clear hr3 hb3 ba hb4 BA KG
  go_wp2_with fail
  obtain ⟨by_, hbe⟩ : ∃ b, w3.heap.size = b := ⟨_, rfl⟩
  rw [hbe] at P4 ⊢
  generalize w3.alloc (.cells #[.int .u64 e0, .slice q3 y.length k3] 59) = w4 at *
  clear hbe
  refine (num9_any E _).mono ?_
  rintro e wz ⟨rfl, hwz⟩
  obtain rfl := hwz.symm
  clear hwz
  go_upto_if 135 with fail
  go_cut [] from 9 (fun W => Hid (Below w.heap.size w W))
  case first =>
    cases hz : (E == 0) with
    | false =>
      go_wp2_with fail
      go_meet
      case rel => exact B4
    | true =>
      obtain ⟨f1, f2⟩ := FX.out hz
      have KP := Lib.hid (PutBatch_any (ep := e0) (c := k3) R4.out OY.out.1 (by have := OY.out.2; omega))
      rw [f1, f2] at KP
      have c0 := (Joins.cell_of_block P4.out 0).trans (rfl : _ = some _)
      have c1 := (Joins.cell_of_block P4.out 1).trans (rfl : _ = some _)
      clear f1 f2 FX
      go_wp2_with fail
      clear c0 c1
      refine KP.out.mono ?_
      rintro e w7 ⟨q7, k7, rfl, rc9, hb7⟩
      have rc : Rd w7 (.slice q7 xs.length k7) xs := rc9.rd
      have B7 := Lib.hid (B4.out.trans (hb7.mono B4.out.size))
      clear rc9 hb7 B4 R4 P4 KP
      go_wp2_with fail
      refine (num9_any 0 _).mono ?_
      rintro e wz ⟨rfl, hwz⟩
      obtain rfl := hwz.symm
      clear hwz
      obtain ⟨sX, hsX⟩ : ∃ sX, strOfNums xs = sX := ⟨_, rfl⟩
      have ds : (sX.toList == sX.toList) = true := by simp
      have dn : (sX.toList != sX.toList) = false := by simp
      have sc : (convert 25 9 (.slice q7 xs.length k7)).run Tryd.prog w7 = .ok (.string sX) w7 := by rw [← hsX]; exact rc.str Tryd.underlying25 Tryd.underlying5 Tryd.underlying9
      have sd : (convert 25 9 (.slice qv xs.length cv)).run Tryd.prog w7 = .ok (.string sX) w7 := by rw [← hsX]; exact (HV.out _ B7.out).str Tryd.underlying25 Tryd.underlying5 Tryd.underlying9
      clear rc hsX
      go_wp2_with fail
      go_meet
      case rel => exact B7
  case rest =>
  have BA := hcut
  clear hcut FX OY B4 R4 P4
  generalize wc = wa at *
  go_wp2_with fail
  have KG := Lib.hid (GetInput_any (HV.out _ BA.out) BX.out (by have := lX.out; omega))
  unfold GiP at KG
  have OY := Lib.hid (iG_ok BX.out)
  have FX : Hid ((iE xs == 0) = true → pIB (iG xs) = xs ∧ pIE (iG xs) = 0) := fun h => iGet_f BX.out h
  obtain ⟨y, hy⟩ : ∃ y, iG xs = y := ⟨_, rfl⟩
  obtain ⟨E, hE⟩ : ∃ E, iE xs = E := ⟨_, rfl⟩
  rw [hy, hE] at KG FX
  rw [hy] at OY
  clear hy hE
  refine KG.out.mono ?_
  rintro e w3 ⟨q3, k3, q4, k4, rfl, hr3, ht3, hb3⟩
  have KA := InAt.new w3 74 inp0 none 0 0 none 0 0
  have KP := KA.put y q3 y.m.data.length k3 q4 y.t.data.length k4
  have hl9 := inRow_len y q3 y.m.data.length k3 q4 y.t.data.length k4
  have ba : Below w3.heap.size w3 (w3.alloc (.cells (inRow inp0 none 0 0 none 0 0).toArray 74)) := (Below.refl _ _).alloc (Nat.le_refl _) _
  have th := KA.there
  have cs : Below w3.heap.size w3 ((w3.alloc (.cells (inRow inp0 none 0 0 none 0 0).toArray 74)).setCells w3.heap.size 0 (inRow y q3 y.m.data.length k3 q4 y.t.data.length k4)) := below_setCells' _ (Nat.le_refl _) _ _ ba
  have hb4 := hb3.trans (cs.mono hb3.size)
  have B4 := Lib.hid (BA.out.trans (hb4.mono BA.out.size))
  have R4 := Lib.hid (hr3.on cs)
  have T4 := Lib.hid (ht3.on cs)
  have P4 := Lib.hid KP
  have szz : ((w3.alloc (.cells (inRow inp0 none 0 0 none 0 0).toArray 74)).setCells w3.heap.size 0 (inRow y q3 y.m.data.length k3 q4 y.t.data.length k4)).heap.size = w3.heap.size + 1 := by rw [size_setCells]; simp
  clear hr3 hb3 ht3 KA KP ba cs hb4 BA KG
  go_wp2_with fail
  clear th szz
  obtain ⟨by_, hbe⟩ : ∃ b, w3.heap.size = b := ⟨_, rfl⟩
  rw [hbe] at B4 R4 T4 P4 ⊢
  generalize (w3.alloc (.cells (inRow inp0 none 0 0 none 0 0).toArray 74)).setCells by_ 0 (inRow y q3 y.m.data.length k3 q4 y.t.data.length k4) = w4 at *
  clear hbe
  refine (num9_any E _).mono ?_
  rintro e wz ⟨rfl, hwz⟩
  obtain rfl := hwz.symm
  clear hwz
  go_upto_if 158 with fail
  go_cut [] from 9 (fun W => Hid (Below w.heap.size w W))
  case first =>
    cases hz : (E == 0) with
    | false =>
      go_wp2_with fail
      go_meet
      case rel => exact B4
    | true =>
      obtain ⟨f1, f2⟩ := FX.out hz
      have KP := Lib.hid (PutInput_any OY.out.1 R4.out (by have := OY.out.2.1; omega) T4.out (by have := OY.out.2.2; omega))
      rw [f1, f2] at KP
      have hrow := P4.out.row
      clear f1 f2 FX
      go_wp2_with fail
      clear hrow
      refine KP.out.mono ?_
      rintro e w7 ⟨q7, k7, rfl, rc9, hb7⟩
      have rc : Rd w7 (.slice q7 xs.length k7) xs := rc9
      have B7 := Lib.hid (B4.out.trans (hb7.mono B4.out.size))
      clear rc9 hb7 B4 R4 P4 KP T4
      go_wp2_with fail
      refine (num9_any 0 _).mono ?_
      rintro e wz ⟨rfl, hwz⟩
      obtain rfl := hwz.symm
      clear hwz
      obtain ⟨sX, hsX⟩ : ∃ sX, strOfNums xs = sX := ⟨_, rfl⟩
      have ds : (sX.toList == sX.toList) = true := by simp
      have dn : (sX.toList != sX.toList) = false := by simp
      have sc : (convert 25 9 (.slice q7 xs.length k7)).run Tryd.prog w7 = .ok (.string sX) w7 := by rw [← hsX]; exact rc.str Tryd.underlying25 Tryd.underlying5 Tryd.underlying9
      have sd : (convert 25 9 (.slice qv xs.length cv)).run Tryd.prog w7 = .ok (.string sX) w7 := by rw [← hsX]; exact (HV.out _ B7.out).str Tryd.underlying25 Tryd.underlying5 Tryd.underlying9
      clear rc hsX
      go_wp2_with fail
      go_meet
      case rel => exact B7
  case rest =>
  have BA := hcut
  clear hcut FX OY B4 R4 P4 T4
  generalize wc = wa at *
  go_wp2_with fail
  refine (KN.out _ BA.out).mono ?_
  rintro e w2 ⟨rfl, hb2⟩
  have B2 := Lib.hid (BA.out.trans (hb2.mono BA.out.size))
  clear hb2
  go_wp2_with fail
  go_ret
  exact ⟨rfl, B2.out⟩
end Go.Proofs.YtcpoaalhpjipaaaDoor
