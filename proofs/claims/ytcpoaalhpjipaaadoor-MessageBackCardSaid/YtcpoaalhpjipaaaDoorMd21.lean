/-
  The law's copies of Txs for the document; whether Txs are the same.; RightTx, RightBatch of the document.; A Tx's bytes, of the document.
-/
import Derived.Test.YtcpoaalhpjipaaaDoorMd19
namespace Go.Proofs.YtcpoaalhpjipaaaDoor
set_option maxRecDepth 100000
open Go.RowKit

set_option maxHeartbeats 4000000 in
theorem RefTx_any {w : World} {m : Tg} {q : Option Addr} {k : Nat} (hr : Rd w (.slice q m.data.length k) m.data) (hl : m.data.length ≤ 140737488355328) :
    Calls Tryd.prog 53 #[.agg (txRow m q m.data.length k).toArray] w fun e w' => ∃ q' k', e = .returned (.agg (txRow m q' m.data.length k').toArray) ∧ BuS w w' (.slice q' m.data.length k') m.data := by
  obtain ⟨i0, hi, hz0, hz1, hz2⟩ := info_parts Tryd.infoU8
  replace hi := Lib.hid hi
  replace hz0 := Lib.hid hz0
  replace hz1 := Lib.hid hz1
  replace hz2 := Lib.hid hz2
  obtain ⟨D, hD⟩ : ∃ D, m.data = D := ⟨_, rfl⟩
  rw [hD] at hr hl ⊢
  obtain ⟨n, hn⟩ : ∃ n, D.length = n := ⟨_, rfl⟩
  have LN := Lib.hid hn
  rw [hn] at hr hl ⊢
  have b1 : Below w.heap.size w (w.alloc (.cells (txRow m q n k).toArray 72)) := (Below.refl _ _).alloc (Nat.le_refl _) _
  have b2 : Below (w.alloc (.cells (txRow m q n k).toArray 72)).heap.size (w.alloc (.cells (txRow m q n k).toArray 72)) ((w.alloc (.cells (txRow m q n k).toArray 72)).alloc (.cells (txRow tg0 none 0 0).toArray 54)) := (Below.refl _ _).alloc (Nat.le_refl _) _
  have b0 := b1.trans (b2.mono b1.size)
  have K0 := Lib.hid ((TxAt.new w 72 m q n k).on b2)
  have R0 := Lib.hid (TxAt.new (w.alloc (.cells (txRow m q n k).toArray 72)) 54 tg0 none 0 0)
  have hz : (w.alloc (.cells (txRow m q n k).toArray 72)).heap.size = w.heap.size + 1 := by simp
  rw [hz] at R0
  have V0 := Lib.hid (hr.on b0)
  have B0 := Lib.hid b0
  have SZ : Hid (((w.alloc (.cells (txRow m q n k).toArray 72)).alloc (.cells (txRow tg0 none 0 0).toArray 54)).heap.size = w.heap.size + 2) := by show _ = _; simp
  have RM := Lib.hid (fun (W : World) (q : Option Addr) (n k : Nat) => Tryd.run_txr W m q n k)
  clear hr hn hD b1 b2 b0 hz
  go_enter Tryd.func53, Tryd.ntmps53
  go_wp2_with fail
  generalize ((w.alloc (.cells (txRow m q n k).toArray 72)).alloc (.cells (txRow tg0 none 0 0).toArray 54)) = w0 at *
  refine wp_region_held_drew (S := fun W => TxAt W w.heap.size 72 m q n k) (by kernel_rfl) (show TxAt w0.drew w.heap.size 72 m q n k from K0.out) (fun h0 => ?_)
  replace R0 : Hid (TxAt w0.drew (w.heap.size + 1) 54 tg0 none 0 0) := R0.out
  replace V0 : Hid (Rd w0.drew (.slice q n k) D) := V0.out
  replace B0 : Hid (Below w.heap.size w w0.drew) := B0.out.drew
  replace SZ : Hid (w0.drew.heap.size = w.heap.size + 2) := SZ.out
  clear K0
  generalize w0.drew = w0 at *
  refine wpAnyH_take (i := 0) (v := ?_) (by rw [List.getElem?_toArray]; rfl) (by kernel_rfl) (by kernel_rfl) (by kernel_rfl) (by exact fun _ _ _ h => h) (Or.inl ⟨by rfl, ?_⟩) h0 ?_
  rotate_left
  · intro W hW
    obtain ⟨c0, c1, c2, c3, c4, c5, c6, c7, c8, c9⟩ := hW.cells
    go_simp
    all_goals with_reducible rfl
  try simp only [Act.put, List.setIfInBounds_toArray, List.set_cons_zero, List.set_cons_succ]
  refine wpAnyH_take (i := 1) (v := ?_) (by rw [List.getElem?_toArray]; rfl) (by kernel_rfl) (by kernel_rfl) (by kernel_rfl) (by exact fun _ _ _ h => h) (Or.inl ⟨by rfl, ?_⟩) h0 ?_
  rotate_left
  · intro W hW
    obtain ⟨c0, c1, c2, c3, c4, c5, c6, c7, c8, c9⟩ := hW.cells
    go_simp
    all_goals with_reducible rfl
  try simp only [Act.put, List.setIfInBounds_toArray, List.set_cons_zero, List.set_cons_succ]
  refine wpAnyH_take (i := 2) (v := ?_) (by rw [List.getElem?_toArray]; rfl) (by kernel_rfl) (by kernel_rfl) (by kernel_rfl) (by exact fun _ _ _ h => h) (Or.inl ⟨by rfl, ?_⟩) h0 ?_
  rotate_left
  · intro W hW
    obtain ⟨c0, c1, c2, c3, c4, c5, c6, c7, c8, c9⟩ := hW.cells
    go_simp
    all_goals with_reducible rfl
  try simp only [Act.put, List.setIfInBounds_toArray, List.set_cons_zero, List.set_cons_succ]
  refine wpAnyH_take (i := 3) (v := ?_) (by rw [List.getElem?_toArray]; rfl) (by kernel_rfl) (by kernel_rfl) (by kernel_rfl) (by exact fun _ _ _ h => h) (Or.inl ⟨by rfl, ?_⟩) h0 ?_
  rotate_left
  · intro W hW
    obtain ⟨c0, c1, c2, c3, c4, c5, c6, c7, c8, c9⟩ := hW.cells
    go_simp
    all_goals with_reducible rfl
  try simp only [Act.put, List.setIfInBounds_toArray, List.set_cons_zero, List.set_cons_succ]
  refine wpAnyH_take (i := 4) (v := ?_) (by rw [List.getElem?_toArray]; rfl) (by kernel_rfl) (by kernel_rfl) (by kernel_rfl) (by exact fun _ _ _ h => h) (Or.inl ⟨by rfl, ?_⟩) h0 ?_
  rotate_left
  · intro W hW
    obtain ⟨c0, c1, c2, c3, c4, c5, c6, c7, c8, c9⟩ := hW.cells
    go_simp
    all_goals with_reducible rfl
  try simp only [Act.put, List.setIfInBounds_toArray, List.set_cons_zero, List.set_cons_succ]
  refine wpAnyH_take (i := 5) (v := ?_) (by rw [List.getElem?_toArray]; rfl) (by kernel_rfl) (by kernel_rfl) (by kernel_rfl) (by exact fun _ _ _ h => h) (Or.inl ⟨by rfl, ?_⟩) h0 ?_
  rotate_left
  · intro W hW
    obtain ⟨c0, c1, c2, c3, c4, c5, c6, c7, c8, c9⟩ := hW.cells
    go_simp
    all_goals with_reducible rfl
  try simp only [Act.put, List.setIfInBounds_toArray, List.set_cons_zero, List.set_cons_succ]
  refine wpAnyH_take (i := 6) (v := ?_) (by rw [List.getElem?_toArray]; rfl) (by kernel_rfl) (by kernel_rfl) (by kernel_rfl) (by exact fun _ _ _ h => h) (Or.inl ⟨by rfl, ?_⟩) h0 ?_
  rotate_left
  · intro W hW
    obtain ⟨c0, c1, c2, c3, c4, c5, c6, c7, c8, c9⟩ := hW.cells
    go_simp
    all_goals with_reducible rfl
  try simp only [Act.put, List.setIfInBounds_toArray, List.set_cons_zero, List.set_cons_succ]
  refine wpAnyH_take (i := 7) (v := ?_) (by rw [List.getElem?_toArray]; rfl) (by kernel_rfl) (by kernel_rfl) (by kernel_rfl) (by exact fun _ _ _ h => h) (Or.inl ⟨by rfl, ?_⟩) h0 ?_
  rotate_left
  · intro W hW
    obtain ⟨c0, c1, c2, c3, c4, c5, c6, c7, c8, c9⟩ := hW.cells
    go_simp
    all_goals with_reducible rfl
  try simp only [Act.put, List.setIfInBounds_toArray, List.set_cons_zero, List.set_cons_succ]
  refine wpAnyH_take (i := 8) (v := ?_) (by rw [List.getElem?_toArray]; rfl) (by kernel_rfl) (by kernel_rfl) (by kernel_rfl) (by exact fun _ _ _ h => h) (Or.inl ⟨by rfl, ?_⟩) h0 ?_
  rotate_left
  · intro W hW
    obtain ⟨c0, c1, c2, c3, c4, c5, c6, c7, c8, c9⟩ := hW.cells
    go_simp
    all_goals with_reducible rfl
  try simp only [Act.put, List.setIfInBounds_toArray, List.set_cons_zero, List.set_cons_succ]
  refine wpAnyH_take (i := 9) (v := ?_) (by rw [List.getElem?_toArray]; rfl) (by kernel_rfl) (by kernel_rfl) (by kernel_rfl) (by exact fun _ _ _ h => h) (Or.inl ⟨by rfl, ?_⟩) h0 ?_
  rotate_left
  · intro W hW
    obtain ⟨c0, c1, c2, c3, c4, c5, c6, c7, c8, c9⟩ := hW.cells
    go_simp
    all_goals with_reducible rfl
  try simp only [Act.put, List.setIfInBounds_toArray, List.set_cons_zero, List.set_cons_succ]
  refine wpAnyH_take (i := 10) (v := ?_) (by rw [List.getElem?_toArray]; rfl) (by kernel_rfl) (by kernel_rfl) (by kernel_rfl) (by exact fun _ _ _ h => h) (Or.inl ⟨by rfl, ?_⟩) h0 ?_
  rotate_left
  · intro W hW
    obtain ⟨c0, c1, c2, c3, c4, c5, c6, c7, c8, c9⟩ := hW.cells
    go_simp
    all_goals with_reducible rfl
  try simp only [Act.put, List.setIfInBounds_toArray, List.set_cons_zero, List.set_cons_succ]
  refine wpAnyH_take (i := 11) (v := ?_) (by rw [List.getElem?_toArray]; rfl) (by kernel_rfl) (by kernel_rfl) (by kernel_rfl) (by exact fun _ _ _ h => h) (Or.inl ⟨by rfl, ?_⟩) h0 ?_
  rotate_left
  · intro W hW
    obtain ⟨c0, c1, c2, c3, c4, c5, c6, c7, c8, c9⟩ := hW.cells
    go_simp
    all_goals with_reducible rfl
  try simp only [Act.put, List.setIfInBounds_toArray, List.set_cons_zero, List.set_cons_succ]
  refine wpAnyH_take (i := 13) (v := ?_) (by rw [List.getElem?_toArray]; rfl) (by kernel_rfl) (by kernel_rfl) (by kernel_rfl) (by exact fun _ _ _ h => h) (Or.inl ⟨by rfl, ?_⟩) h0 ?_
  rotate_left
  · intro W hW
    obtain ⟨c0, c1, c2, c3, c4, c5, c6, c7, c8, c9⟩ := hW.cells
    go_simp
    all_goals with_reducible rfl
  try simp only [Act.put, List.setIfInBounds_toArray, List.set_cons_zero, List.set_cons_succ]
  refine wpAnyH_take (i := 14) (v := ?_) (by rw [List.getElem?_toArray]; rfl) (by kernel_rfl) (by kernel_rfl) (by kernel_rfl) (by exact fun _ _ _ h => h) (Or.inl ⟨by rfl, ?_⟩) h0 ?_
  rotate_left
  · intro W hW
    obtain ⟨c0, c1, c2, c3, c4, c5, c6, c7, c8, c9⟩ := hW.cells
    go_simp
    all_goals with_reducible rfl
  try simp only [Act.put, List.setIfInBounds_toArray, List.set_cons_zero, List.set_cons_succ]
  refine wpAnyH_ready (rs := [12]) (by kernel_rfl) (by simp) ?_
  refine AllReadyH.cons (by rw [List.getElem?_toArray]; rfl) (fun K hK => ?_) AllReadyH.nil
  rw [if_pos (by rfl)]
  have b3 : Below w0.heap.size w0 (w0.alloc (.cells #[] 5)) := (Below.refl _ _).alloc (Nat.le_refl _) _
  have B3 := Lib.hid b3
  have E3 := Lib.hid (own_empty w0 5 1)
  have V3 := Lib.hid (V0.out.on b3)
  have K3 : TxAt (w0.alloc (.cells #[] 5)) w.heap.size 72 m q n k := TxAt.on h0 b3
  clear b3
  go_wp2_with fail
  refine hK.out _ _ (K3) (fun h3 => ?_)
  clear hK K K3
  try simp only [Act.put, List.setIfInBounds_toArray, List.set_cons_zero, List.set_cons_succ]
  generalize hw3 : (w0.alloc (.cells #[] 5)) = w3 at *
  clear hw3
  refine wpAnyH_ready (rs := [15]) (by kernel_rfl) (by simp) ?_
  refine AllReadyH.cons (by rw [List.getElem?_toArray]; rfl) (fun K hK => ?_) AllReadyH.nil
  rw [if_pos (by rfl)]
  refine wp_append_row _ _ rfl Tryd.underlying25 hi.out hz0.out hz1.out hz2.out rfl E3.out (V3.out.src (P := Tryd.prog) Tryd.underlying25) (by rw [LN.out]; unfold maxLen; omega) (by rw [LN.out]; omega) ?_
  intro q6 k6 w6 own6' grow6' fr6'
  have grow6 : w3.grownBy w6 (Value.slice (some ⟨w0.heap.size, 0, none⟩) 0 0).ownBlock := grow6'
  have own6 : w6.ownsRow 0 5 1 (.slice q6 n k6) n (bc D) := by have := own6'; simp only [LN.out, Nat.zero_add, List.nil_append] at this; exact this
  have G6 : Below w0.heap.size w0 w6 := B3.out.grown grow6 B3.out.size (fun j hj => by simp [Value.ownBlock] at hj; omega)
  have K6 : TxAt w6 w.heap.size 72 m q n k := TxAt.on h0 G6
  have R6 := Lib.hid (R0.out.on G6)
  have B6 := Lib.hid (B0.out.trans (G6.mono B0.out.size))
  have S6 : Hid (BuS w w6 (.slice q6 n k6) D) := by
    refine ⟨by rw [LN.out]; exact own6, fun g hg => ?_, B6.out⟩
    rcases fr6' with e | e
    · have e' : (Value.slice q6 (0 + D.length) k6).ownBlock = (Value.slice (some ⟨w0.heap.size, 0, none⟩) 0 0).ownBlock := e
      have e2 : (Value.slice q6 n k6).ownBlock = (Value.slice q6 (0 + D.length) k6).ownBlock := by cases q6 <;> rfl
      rw [e2, e'] at hg
      have := SZ.out
      simp [Value.ownBlock] at hg; omega
    · have e' : (Value.slice q6 (0 + D.length) k6).ownBlock = some w3.heap.size := e
      have e2 : (Value.slice q6 n k6).ownBlock = (Value.slice q6 (0 + D.length) k6).ownBlock := by cases q6 <;> rfl
      rw [e2, e'] at hg
      have := B3.out.size
      have := SZ.out
      simp at hg; omega
  have N6 : Hid ((Value.slice q6 n k6).ownBlock ≠ some (w.heap.size + 1)) := own_ne own6 R6.out (by decide)
  simp only [LN.out, Nat.zero_add]
  clear own6' grow6' fr6' own6 grow6 G6
  refine hK.out _ _ (K6) (fun h6 => ?_)
  clear hK K K6
  try simp only [Act.put, List.setIfInBounds_toArray, List.set_cons_zero, List.set_cons_succ]
  have hrm := fun W => RM.out W q6 n k6
  refine wpAnyH_take (i := 16) (v := ?_) (by rw [List.getElem?_toArray]; rfl) (by kernel_rfl) (by kernel_rfl) (by kernel_rfl) (by exact fun _ _ _ h => h) (Or.inl ⟨by rfl, ?_⟩) h6 ?_
  rotate_left
  · intro W hW
    obtain ⟨c0, c1, c2, c3, c4, c5, c6, c7, c8, c9⟩ := hW.cells
    go_simp
    all_goals with_reducible rfl
  try simp only [Act.put, List.setIfInBounds_toArray, List.set_cons_zero, List.set_cons_succ]
  refine wpAnyH_ready (rs := [17]) (by kernel_rfl) (by simp) ?_
  refine AllReadyH.cons (by rw [List.getElem?_toArray]; rfl) (fun K hK => ?_) AllReadyH.nil
  rw [if_pos (by rfl)]
  have th := R6.out.there
  have hput := (R6.out.put m q6 n k6).row
  have cS : Chg w6 (w6.setCells (w.heap.size + 1) 0 (txRow m q6 n k6)) [w.heap.size + 1] := chg_setCells _ _ _ (Chg.refl _ _)
  have S7 : Hid (BuS w (w6.setCells (w.heap.size + 1) 0 (txRow m q6 n k6)) (.slice q6 n k6) D) :=
    ⟨own_keep S6.out.own (fun j hj => cS.block j (own_lt S6.out.own hj) (fun hm => by
      obtain rfl : j = w.heap.size + 1 := by simpa using hm
      exact N6.out hj)), S6.out.fresh, below_setCells' (w.heap.size + 1) (by omega) _ _ S6.out.below⟩
  have K7 : TxAt (w6.setCells (w.heap.size + 1) 0 (txRow m q6 n k6)) w.heap.size 72 m q n k := TxAt.chg h6 cS (by simp)
  clear S6 cS N6 hrm
  go_wp2_with fail
  refine hK.out _ _ (K7) (fun h7 => ?_)
  clear hK K K7
  try simp only [Act.put, List.setIfInBounds_toArray, List.set_cons_zero, List.set_cons_succ]
  refine wpAnyH_done (by kernel_rfl) ?_ _
  clear h0 h3 h6 h7
  go_wp2_with fail
  refine bodyPost_ret (v := .agg (txRow m q6 n k6).toArray) (by simp [results, Tryd.results53, go_sem, hput]) rfl ⟨q6, k6, rfl, by have := S7.out; rw [LN.out] at *; exact this⟩

set_option maxHeartbeats 4000000 in
theorem SameTx_any {w : World} {m : Tg} {q q' : Option Addr} {k k' : Nat} (hr : Rd w (.slice q m.data.length k) m.data) (hr' : Rd w (.slice q' m.data.length k') m.data) :
    Calls Tryd.prog 52 #[.agg (txRow m q m.data.length k).toArray, .agg (txRow m q' m.data.length k').toArray] w fun e w' => e = .returned (.bool true) ∧ Below w.heap.size w w' := by
  obtain ⟨D, hD⟩ : ∃ D, m.data = D := ⟨_, rfl⟩
  rw [hD] at hr hr' ⊢
  obtain ⟨n, hn⟩ : ∃ n, D.length = n := ⟨_, rfl⟩
  rw [hn] at hr hr' ⊢
  have b1 : Below w.heap.size w (w.alloc (.cells (txRow m q n k).toArray 54)) := (Below.refl _ _).alloc (Nat.le_refl _) _
  have b2 : Below (w.alloc (.cells (txRow m q n k).toArray 54)).heap.size (w.alloc (.cells (txRow m q n k).toArray 54)) ((w.alloc (.cells (txRow m q n k).toArray 54)).alloc (.cells (txRow m q' n k').toArray 54)) := (Below.refl _ _).alloc (Nat.le_refl _) _
  have b0 := b1.trans (b2.mono b1.size)
  have K0 := ((TxAt.new w 54 m q n k).on b2)
  have K1 := (TxAt.new (w.alloc (.cells (txRow m q n k).toArray 54)) 54 m q' n k')
  have hz : (w.alloc (.cells (txRow m q n k).toArray 54)).heap.size = w.heap.size + 1 := by simp
  rw [hz] at K1
  have V0 := hr.on b0
  have V1 := hr'.on b0
  have B0 := Lib.hid b0
  obtain ⟨sX, hsX⟩ : ∃ sX, strOfNums D = sX := ⟨_, rfl⟩
  obtain ⟨c0, c1, c2, c3, c4, c5, c6, c7, c8, c9⟩ := K0.cells
  obtain ⟨d0, d1, d2, d3, d4, d5, d6, d7, d8, d9⟩ := K1.cells
  have ds : (sX.toList == sX.toList) = true := by simp
  have sc : (convert 25 9 (.slice q n k)).run Tryd.prog ((w.alloc (.cells (txRow m q n k).toArray 54)).alloc (.cells (txRow m q' n k').toArray 54)) = .ok (.string sX) ((w.alloc (.cells (txRow m q n k).toArray 54)).alloc (.cells (txRow m q' n k').toArray 54)) := by rw [← hsX]; exact V0.str (P := Tryd.prog) Tryd.underlying25 Tryd.underlying5 Tryd.underlying9
  have sd : (convert 25 9 (.slice q' n k')).run Tryd.prog ((w.alloc (.cells (txRow m q n k).toArray 54)).alloc (.cells (txRow m q' n k').toArray 54)) = .ok (.string sX) ((w.alloc (.cells (txRow m q n k).toArray 54)).alloc (.cells (txRow m q' n k').toArray 54)) := by rw [← hsX]; exact V1.str (P := Tryd.prog) Tryd.underlying25 Tryd.underlying5 Tryd.underlying9
  clear hr hr' hn hD b1 b2 b0 K0 K1 hz V0 V1 hsX
  go_enter Tryd.func52, Tryd.ntmps52
  go_wp2_with fail
  go_ret
  exact ⟨rfl, B0.out⟩

set_option maxHeartbeats 4000000 in
theorem sameTxs_any {w : World} {q q' : Option Addr} {c c' : Nat} {L : List Tg} (hr : RdTx w q L) (hr' : RdTx w q' L) (ok : TgsOk L) (hn : L.length ≤ 1000000) :
    Calls Tryd.prog 27 #[.slice q L.length c, .slice q' L.length c'] w fun e w' => e = .returned (.bool true) ∧ Below w.heap.size w w' := by
  have HR : Hid (∀ W, Below w.heap.size w W → RdTx W q L) := fun W hb => hr.on hb
  have HR' : Hid (∀ W, Below w.heap.size w W → RdTx W q' L) := fun W hb => hr'.on hb
  have OK := Lib.hid ok
  have B0 : Hid (Below w.heap.size w w) := Below.refl _ _
  clear hr hr' ok
  go_enter Tryd.func27, Tryd.ntmps27
  go_wp2_with fail
  go_loopw [5] (fun iv wr => ∃ (i : Nat), iv = .int .i64 (i : Int) ∧ i ≤ L.length ∧ Hid (Below w.heap.size w wr)) (fun iv _ => L.length - (intOf iv).toNat)
  case atStart => exact ⟨0, rfl, by omega, B0⟩
  case round =>
    clear B0
    obtain ⟨i, rfl, hil, hB⟩ := hrel
    by_cases hlt : i < L.length
    · have hne : L ≠ [] := fun e => by rw [e] at hlt; simp at hlt
      obtain ⟨b, off, rfl, hx2⟩ := (HR.out _ hB.out).resolve_left hne
      obtain ⟨b', off', rfl, hx2'⟩ := (HR'.out _ hB.out).resolve_left hne
      obtain ⟨qi, ki, r10, rh⟩ := hx2 i hlt
      obtain ⟨qj, kj, r10', rh'⟩ := hx2' i hlt
      have oks := OK.out.get hlt
      obtain ⟨t, htx⟩ : ∃ t, L.getD i tg0 = t := ⟨_, rfl⟩
      rw [htx] at r10 rh oks r10' rh'
      have hlen := txRow_len t qi t.data.length ki
      have R1 := Lib.hid rh
      have R1' := Lib.hid (fun (W : World) (hb : Below wr.heap.size wr W) => rh'.on hb)
      have OT := Lib.hid oks
      have RW' : Hid (∀ W, Below wr.heap.size wr W → rowOf W b' (off' + i * 10) 10 = txRow t qj t.data.length kj) := fun W hb => by
        rw [rowOf_on9 (by rw [r10', txRow_len]; decide) hb]; exact r10'
      have i0 : (0 : Int) ≤ (i : Int) := by omega
      have i1 : (i : Int) < (L.length : Int) := by omega
      have hlen' := txRow_len t qj t.data.length kj
      clear hx2 hx2' hne rh rh' oks htx RW'
      go_wp2_with fail
      refine wp_region_held_drew (S := fun W => rowOf W b (off + i * 10) 10 = txRow t qi t.data.length ki ∧ rowOf W b' (off' + i * 10) 10 = txRow t qj t.data.length kj) (by kernel_rfl) (show rowOf wr.drew b (off + i * 10) 10 = _ ∧ rowOf wr.drew b' (off' + i * 10) 10 = _ from ⟨r10, r10'⟩) (fun h0 => ?_)
      replace R1 : Hid (Rd wr.drew (.slice qi t.data.length ki) t.data) := R1.out
      replace R1' : Hid (Rd wr.drew (.slice qj t.data.length kj) t.data) := (R1'.out wr (Below.refl _ _))
      replace hB : Hid (Below w.heap.size w wr.drew) := hB.out.drew
      clear r10 r10'
      generalize wr.drew = w1 at *
      refine wpAnyH_take (i := 0) (v := ?_) (by rw [List.getElem?_toArray]; rfl) (by kernel_rfl) (by kernel_rfl) (by kernel_rfl) (by exact fun _ _ _ h => h) (Or.inl ⟨by rfl, ?_⟩) h0 ?_
      rotate_left
      · intro W hW
        go_simp
        all_goals with_reducible rfl
      try simp only [Act.put, List.setIfInBounds_toArray, List.set_cons_zero, List.set_cons_succ]
      refine wpAnyH_take (i := 1) (v := ?_) (by rw [List.getElem?_toArray]; rfl) (by kernel_rfl) (by kernel_rfl) (by kernel_rfl) (by exact fun _ _ _ h => h) (Or.inl ⟨by rfl, ?_⟩) h0 ?_
      rotate_left
      · intro W hW
        go_simp
        all_goals with_reducible rfl
      try simp only [Act.put, List.setIfInBounds_toArray, List.set_cons_zero, List.set_cons_succ]
      refine wpAnyH_take (i := 2) (v := ?_) (by rw [List.getElem?_toArray]; rfl) (by kernel_rfl) (by kernel_rfl) (by kernel_rfl) (by exact fun _ _ _ h => h) (Or.inl ⟨by rfl, ?_⟩) h0 ?_
      rotate_left
      · intro W hW
        go_simp
        all_goals with_reducible rfl
      try simp only [Act.put, List.setIfInBounds_toArray, List.set_cons_zero, List.set_cons_succ]
      refine wpAnyH_take (i := 3) (v := ?_) (by rw [List.getElem?_toArray]; rfl) (by kernel_rfl) (by kernel_rfl) (by kernel_rfl) (by exact fun _ _ _ h => h) (Or.inl ⟨by rfl, ?_⟩) h0 ?_
      rotate_left
      · intro W hW
        obtain ⟨r1, r2⟩ := hW
        go_simp
        all_goals with_reducible rfl
      try simp only [Act.put, List.setIfInBounds_toArray, List.set_cons_zero, List.set_cons_succ]
      refine wpAnyH_take (i := 5) (v := ?_) (by rw [List.getElem?_toArray]; rfl) (by kernel_rfl) (by kernel_rfl) (by kernel_rfl) (by exact fun _ _ _ h => h) (Or.inl ⟨by rfl, ?_⟩) h0 ?_
      rotate_left
      · intro W hW
        go_simp
        all_goals with_reducible rfl
      try simp only [Act.put, List.setIfInBounds_toArray, List.set_cons_zero, List.set_cons_succ]
      refine wpAnyH_take (i := 6) (v := ?_) (by rw [List.getElem?_toArray]; rfl) (by kernel_rfl) (by kernel_rfl) (by kernel_rfl) (by exact fun _ _ _ h => h) (Or.inl ⟨by rfl, ?_⟩) h0 ?_
      rotate_left
      · intro W hW
        go_simp
        all_goals with_reducible rfl
      try simp only [Act.put, List.setIfInBounds_toArray, List.set_cons_zero, List.set_cons_succ]
      refine wpAnyH_take (i := 7) (v := ?_) (by rw [List.getElem?_toArray]; rfl) (by kernel_rfl) (by kernel_rfl) (by kernel_rfl) (by exact fun _ _ _ h => h) (Or.inl ⟨by rfl, ?_⟩) h0 ?_
      rotate_left
      · intro W hW
        go_simp
        all_goals with_reducible rfl
      try simp only [Act.put, List.setIfInBounds_toArray, List.set_cons_zero, List.set_cons_succ]
      refine wpAnyH_take (i := 8) (v := ?_) (by rw [List.getElem?_toArray]; rfl) (by kernel_rfl) (by kernel_rfl) (by kernel_rfl) (by exact fun _ _ _ h => h) (Or.inl ⟨by rfl, ?_⟩) h0 ?_
      rotate_left
      · intro W hW
        obtain ⟨r1, r2⟩ := hW
        go_simp
        all_goals with_reducible rfl
      try simp only [Act.put, List.setIfInBounds_toArray, List.set_cons_zero, List.set_cons_succ]
      refine wpAnyH_ready (rs := [4]) (by kernel_rfl) (by simp) ?_
      refine AllReadyH.cons (by rw [List.getElem?_toArray]; rfl) (fun K hK => ?_) AllReadyH.nil
      rw [if_pos (by rfl)]
      go_wp2_with fail
      refine (RefTx_any R1.out OT.out.2).mono ?_
      rintro e w2 ⟨q2, k2, rfl, hS⟩
      have hb := hS.below
      have M2 : rowOf w2 b (off + i * 10) 10 = txRow t qi t.data.length ki ∧ rowOf w2 b' (off' + i * 10) 10 = txRow t qj t.data.length kj := ⟨by rw [rowOf_on9 (by rw [h0.1, txRow_len]; decide) hb]; exact h0.1, by rw [rowOf_on9 (by rw [h0.2, txRow_len]; decide) hb]; exact h0.2⟩
      have D2 := Lib.hid hS.rd
      have V2 := Lib.hid (R1'.out.on hb)
      have B2 := Lib.hid (hB.out.trans (hb.mono hB.out.size))
      have hl2 := txRow_len t q2 t.data.length k2
      clear hS hB hb R1 R1'
      go_wp2_with fail
      refine hK.out _ _ (M2) (fun h2 => ?_)
      clear hK K M2
      try simp only [Act.put, List.setIfInBounds_toArray, List.set_cons_zero, List.set_cons_succ]
      refine wpAnyH_ready (rs := [9]) (by kernel_rfl) (by simp) ?_
      refine AllReadyH.cons (by rw [List.getElem?_toArray]; rfl) (fun K hK => ?_) AllReadyH.nil
      rw [if_pos (by rfl)]
      go_wp2_with fail
      refine (SameTx_any D2.out V2.out).mono ?_
      rintro e w3 ⟨rfl, hb⟩
      have M3 : rowOf w3 b (off + i * 10) 10 = txRow t qi t.data.length ki ∧ rowOf w3 b' (off' + i * 10) 10 = txRow t qj t.data.length kj := ⟨by rw [rowOf_on9 (by rw [h2.1, txRow_len]; decide) hb]; exact h2.1, by rw [rowOf_on9 (by rw [h2.2, txRow_len]; decide) hb]; exact h2.2⟩
      have B3 := Lib.hid (B2.out.trans (hb.mono B2.out.size))
      clear hb B2 D2 V2
      go_wp2_with fail
      refine hK.out _ _ (M3) (fun h3 => ?_)
      clear hK K M3
      try simp only [Act.put, List.setIfInBounds_toArray, List.set_cons_zero, List.set_cons_succ]
      refine wpAnyH_take (i := 10) (v := ?_) (by rw [List.getElem?_toArray]; rfl) (by kernel_rfl) (by kernel_rfl) (by kernel_rfl) (by exact fun _ _ _ h => h) (Or.inl ⟨by rfl, ?_⟩) h3 ?_
      rotate_left
      · intro W hW
        go_simp
        all_goals with_reducible rfl
      try simp only [Act.put, List.setIfInBounds_toArray, List.set_cons_zero, List.set_cons_succ]
      refine wpAnyH_done (by kernel_rfl) ?_ _
      clear h0 h2 h3
      go_wp2_with fail
      go_roundw
      case rel => exact ⟨i + 1, by go_num, by omega, B3⟩
      case measure => simp [intOf]; omega
    · obtain rfl : i = L.length := by omega
      go_wp2_with fail
      go_ret
      exact ⟨rfl, hB.out⟩
end Go.Proofs.YtcpoaalhpjipaaaDoor
namespace Go.Proofs.YtcpoaalhpjipaaaDoor
set_option maxRecDepth 100000
open Go.RowKit

set_option maxHeartbeats 400000 in
theorem refRightTx_g {w : World} {t : Tg} {q : Option Addr} {n k : Nat} (hg : ¬ t.gas ≤ 65536) :
    Calls Tryd.prog 72 #[.agg (txRow t q n k).toArray] w fun e w' => e = .returned (.bool false) ∧ Below w.heap.size w w' := by
  have HB := Lib.hid ((Below.refl w.heap.size w).alloc (Nat.le_refl _) (.cells (txRow t q n k).toArray 54))
  have K := TxAt.new w 54 t q n k
  obtain ⟨c0, c1, c2, c3, c4, c5, c6, c7, c8, c9⟩ := K.cells
  have hgI : (65536 : Int) < t.gas := by omega
  clear K
  go_enter Tryd.func72, Tryd.ntmps72
  go_wp2_with fail
  go_ret
  exact ⟨rfl, HB.out⟩
set_option maxHeartbeats 400000 in
theorem refRightTx_l {w : World} {t : Tg} {q : Option Addr} {n k : Nat} (hg : t.gas ≤ 65536) (hl : ¬ (n : Int) ≤ 256) :
    Calls Tryd.prog 72 #[.agg (txRow t q n k).toArray] w fun e w' => e = .returned (.bool false) ∧ Below w.heap.size w w' := by
  have HB := Lib.hid ((Below.refl w.heap.size w).alloc (Nat.le_refl _) (.cells (txRow t q n k).toArray 54))
  have K := TxAt.new w 54 t q n k
  obtain ⟨c0, c1, c2, c3, c4, c5, c6, c7, c8, c9⟩ := K.cells
  have hgI : ¬ (65536 : Int) < t.gas := by omega
  have dg : decide ((65536 : Int) < t.gas) = false := by rw [decide_eq_false_iff_not]; exact hgI
  have hlI : (256 : Int) < (n : Int) := by omega
  clear K
  go_enter Tryd.func72, Tryd.ntmps72
  go_wp2_with fail
  go_ret
  exact ⟨rfl, HB.out⟩
set_option maxHeartbeats 400000 in
theorem refRightTx_k0 {w : World} {t : Tg} {q : Option Addr} {n k : Nat} (hg : t.gas ≤ 65536) (hl : (n : Int) ≤ 256) (h1 : ¬ t.kd = 1) (h2 : ¬ t.kd = 2) (h3 : ¬ t.kd = 3) :
    Calls Tryd.prog 72 #[.agg (txRow t q n k).toArray] w fun e w' => e = .returned (.bool false) ∧ Below w.heap.size w w' := by
  have HB := Lib.hid ((Below.refl w.heap.size w).alloc (Nat.le_refl _) (.cells (txRow t q n k).toArray 54))
  have K := TxAt.new w 54 t q n k
  obtain ⟨c0, c1, c2, c3, c4, c5, c6, c7, c8, c9⟩ := K.cells
  have hgI : ¬ (65536 : Int) < t.gas := by omega
  have dg : decide ((65536 : Int) < t.gas) = false := by rw [decide_eq_false_iff_not]; exact hgI
  have hlI : ¬ (256 : Int) < (n : Int) := by omega
  have dl : decide ((256 : Int) < (n : Int)) = false := by rw [decide_eq_false_iff_not]; exact hlI
  have e1 : (t.kd == 1) = false := by simpa using h1
  have e2 : (t.kd == 2) = false := by simpa using h2
  have e3 : (t.kd == 3) = false := by simpa using h3
  clear K
  go_enter Tryd.func72, Tryd.ntmps72
  go_wp2_with fail
  (try rw [Exit.noGoto_ret])
  go_ret
  exact ⟨rfl, HB.out⟩
set_option maxHeartbeats 400000 in
theorem refRightTx_k1 {w : World} {t : Tg} {q : Option Addr} {n k : Nat} (hg : t.gas ≤ 65536) (hl : (n : Int) ≤ 256) (h1 : t.kd = 1) :
    Calls Tryd.prog 72 #[.agg (txRow t q n k).toArray] w fun e w' => e = .returned (.bool ((t.gas == 0) && ((n : Int) == 0))) ∧ Below w.heap.size w w' := by
  have HB := Lib.hid ((Below.refl w.heap.size w).alloc (Nat.le_refl _) (.cells (txRow t q n k).toArray 54))
  have K := TxAt.new w 54 t q n k
  obtain ⟨c0, c1, c2, c3, c4, c5, c6, c7, c8, c9⟩ := K.cells
  have hgI : ¬ (65536 : Int) < t.gas := by omega
  have dg : decide ((65536 : Int) < t.gas) = false := by rw [decide_eq_false_iff_not]; exact hgI
  have hlI : ¬ (256 : Int) < (n : Int) := by omega
  have dl : decide ((256 : Int) < (n : Int)) = false := by rw [decide_eq_false_iff_not]; exact hlI
  rw [h1] at c0
  clear K
  generalize t.gas = g at *
  cases h4 : (g == 0) <;> cases h5 : ((n : Int) == 0)
  all_goals
    go_enter Tryd.func72, Tryd.ntmps72
    go_wp2_with fail
    (try rw [Exit.noGoto_ret])
    go_ret
    exact ⟨by first | rfl | simp_all, HB.out⟩
set_option maxHeartbeats 400000 in
theorem refRightTx_k2 {w : World} {t : Tg} {q : Option Addr} {n k : Nat} (hg : t.gas ≤ 65536) (hl : (n : Int) ≤ 256) (h1 : t.kd = 2) :
    Calls Tryd.prog 72 #[.agg (txRow t q n k).toArray] w fun e w' => e = .returned (.bool (decide ((n : Int) ≤ 64))) ∧ Below w.heap.size w w' := by
  have HB := Lib.hid ((Below.refl w.heap.size w).alloc (Nat.le_refl _) (.cells (txRow t q n k).toArray 54))
  have K := TxAt.new w 54 t q n k
  obtain ⟨c0, c1, c2, c3, c4, c5, c6, c7, c8, c9⟩ := K.cells
  have hgI : ¬ (65536 : Int) < t.gas := by omega
  have dg : decide ((65536 : Int) < t.gas) = false := by rw [decide_eq_false_iff_not]; exact hgI
  have hlI : ¬ (256 : Int) < (n : Int) := by omega
  have dl : decide ((256 : Int) < (n : Int)) = false := by rw [decide_eq_false_iff_not]; exact hlI
  rw [h1] at c0
  clear K
  go_enter Tryd.func72, Tryd.ntmps72
  go_wp2_with fail
  (try rw [Exit.noGoto_ret])
  go_ret
  exact ⟨rfl, HB.out⟩
set_option maxHeartbeats 400000 in
theorem refRightTx_k3 {w : World} {t : Tg} {q : Option Addr} {n k : Nat} (hr : Rd w (.slice q n k) t.data) (hx : Bytes t.data) (hn : n ≤ 140737488355328) (hg : t.gas ≤ 65536) (hl : (n : Int) ≤ 256) (h1 : t.kd = 3) :
    Calls Tryd.prog 72 #[.agg (txRow t q n k).toArray] w fun e w' => e = .returned (.bool (((mE t.data == 0) && (t.to == 0)) && zW t.val)) ∧ Below w.heap.size w w' := by
  have HB := Lib.hid ((Below.refl w.heap.size w).alloc (Nat.le_refl _) (.cells (txRow t q n k).toArray 54))
  have K := TxAt.new w 54 t q n k
  obtain ⟨c0, c1, c2, c3, c4, c5, c6, c7, c8, c9⟩ := K.cells
  have hln : t.data.length ≤ 140737488355328 := by
    obtain ⟨_, _, e, _⟩ := hr
    simp only [Value.slice.injEq] at e
    omega
  have hgI : ¬ (65536 : Int) < t.gas := by omega
  have dg : decide ((65536 : Int) < t.gas) = false := by rw [decide_eq_false_iff_not]; exact hgI
  have hlI : ¬ (256 : Int) < (n : Int) := by omega
  have dl : decide ((256 : Int) < (n : Int)) = false := by rw [decide_eq_false_iff_not]; exact hlI
  rw [h1] at c0
  have KG := Lib.hid (refGetMessage_any (hr.on HB.out) hx hln)
  unfold GmP at KG
  have K0 := Lib.hid K
  obtain ⟨E, hE⟩ : ∃ E, mE t.data = E := ⟨_, rfl⟩
  obtain ⟨y, hy⟩ : ∃ y, mG t.data = y := ⟨_, rfl⟩
  rw [hE, hy] at KG
  rw [hE]
  have HWZ := fun W => Tryd.eq_wide0 W t.val
  obtain ⟨zw, hzw⟩ : ∃ zw, zW t.val = zw := ⟨_, rfl⟩
  rw [hzw] at HWZ ⊢
  clear hE hy hr hx hln K hzw
  go_enter Tryd.func72, Tryd.ntmps72
  go_wp2_with fail
  generalize w.alloc (.cells (txRow t q n k).toArray 54) = w0 at *
  refine KG.out.mono ?_
  rintro e w2 ⟨q2, k2, rfl, -, hb2⟩
  have KA := MgAt.new w2 27 mg0 none 0 0
  have th := KA.there
  have cs : Below w2.heap.size w2 ((w2.alloc (.cells (mgRow mg0 none 0 0).toArray 27)).setCells w2.heap.size 0 (mgRow y q2 y.data.length k2)) := below_setCells' _ (Nat.le_refl _) _ _ ((Below.refl _ _).alloc (Nat.le_refl _) _)
  have K3 := K0.out.on (hb2.trans (cs.mono hb2.size))
  have B3 := Lib.hid (HB.out.trans ((hb2.trans (cs.mono hb2.size)).mono HB.out.size))
  obtain ⟨d0, d1, d2, d3, d4, d5, d6, d7, d8, d9⟩ := K3.cells
  have szz : ((w2.alloc (.cells (mgRow mg0 none 0 0).toArray 27)).setCells w2.heap.size 0 (mgRow y q2 y.data.length k2)).heap.size = w2.heap.size + 1 := by rw [size_setCells]; simp
  clear KA cs hb2 K3 K0 c0 c1 c2 c3 c4 c5 c6 c7 c8 c9
  cases zw <;> cases h4 : (E == 0) <;> cases h2 : (t.to == 0)
  all_goals
    go_wp2_with fail
    (try rw [Exit.noGoto_ret])
    go_ret
    exact ⟨by first | rfl | (rw [h4, h2]; rfl) | (rw [h4]; rfl) | simp_all, B3.out⟩
theorem refRightTx_any {w : World} {t : Tg} {q : Option Addr} {n k : Nat} (hr : Rd w (.slice q n k) t.data) (hx : Bytes t.data) (hn : n ≤ 140737488355328) :
    Calls Tryd.prog 72 #[.agg (txRow t q n k).toArray] w fun e w' => e = .returned (.bool (okT t n)) ∧ Below w.heap.size w w' := by
  by_cases hg : t.gas ≤ 65536
  · by_cases hl : (n : Int) ≤ 256
    · have e0 : okT t n = okK t n := by unfold okT; rw [decide_eq_true hg, decide_eq_true hl]; rfl
      rw [e0]
      unfold okK
      by_cases h1 : t.kd = 1
      · rw [if_pos h1]; exact refRightTx_k1 hg hl h1
      · rw [if_neg h1]
        by_cases h2 : t.kd = 2
        · rw [if_pos h2]; exact refRightTx_k2 hg hl h2
        · rw [if_neg h2]
          by_cases h3 : t.kd = 3
          · rw [if_pos h3]; exact refRightTx_k3 hr hx hn hg hl h3
          · rw [if_neg h3]
            exact refRightTx_k0 hg hl h1 h2 h3
    · have e0 : okT t n = false := by unfold okT; rw [decide_eq_false hl]; simp
      rw [e0]; exact refRightTx_l hg hl
  · have e0 : okT t n = false := by unfold okT; rw [decide_eq_false hg]; simp
    rw [e0]; exact refRightTx_g hg
end Go.Proofs.YtcpoaalhpjipaaaDoor
namespace Go.Proofs.YtcpoaalhpjipaaaDoor
set_option maxRecDepth 100000
open Go.RowKit

theorem TxAt.grown9 {W W2 : World} {b : Nat} {m : Tg} {q : Option Addr} {n k : Nat} {u : Value} {l : Nat} {xs : List Value} (h : TxAt W b 54 m q n k) (ho : W.ownsRow 0 5 1 u l xs) (grow : W.grownBy W2 u.ownBlock) : TxAt W2 b 54 m q n k := by
  unfold TxAt at h ⊢
  rw [grow.block _ (Array.getElem?_eq_some_iff.1 h).1 (fun e => own_ne ho h (by decide) e.symm)]
  exact h

set_option maxHeartbeats 2000000 in
theorem refTxBytes_any {w : World} {m : Tg} {q : Option Addr} {k : Nat} (ok : m.ok) (hkd : 0 ≤ m.kd) (hr : Rd w (.slice q m.data.length k) m.data) (hl : m.data.length ≤ 1000000) :
    Calls Tryd.prog 48 #[.agg (txRow m q m.data.length k).toArray] w fun e w' => ∃ u, e = .returned u ∧ BuS w w' u (txB m) := by
  obtain ⟨i0, hi, hz0, hz1, hz2⟩ := info_parts Tryd.infoU8
  replace hi := Lib.hid hi
  replace hz0 := Lib.hid hz0
  replace hz1 := Lib.hid hz1
  replace hz2 := Lib.hid hz2
  have HD4 := Lib.hid ok.val
  have HU : Hid (IntKind.u64.wrap m.kd = m.kd) := by have := ok.kd; show _ = _; rw [IntKind.wrap_u64]; omega
  have HM : Hid (txB m = be8 m.kd ++ (be8 m.fr ++ (be8 m.no ++ (be8 m.to ++ (m.val.bytes ++ (be8 m.gas ++ (be8 m.data.length ++ m.data))))))) := rfl
  obtain ⟨MB, hMB⟩ : ∃ MB, txB m = MB := ⟨_, rfl⟩
  obtain ⟨D, hD⟩ : ∃ D, m.data = D := ⟨_, rfl⟩
  rw [hMB] at HM ⊢
  rw [hD] at hr hl HM ⊢
  obtain ⟨n, hn⟩ : ∃ n, D.length = n := ⟨_, rfl⟩
  have LN := Lib.hid hn
  rw [hn] at hr hl ⊢
  have b1 : Below w.heap.size w (w.alloc (.cells (txRow m q n k).toArray 54)) := (Below.refl _ _).alloc (Nat.le_refl _) _
  have K0 := Lib.hid (TxAt.new w 54 m q n k)
  have HV : Hid (∀ W, Below w.heap.size w W → Rd W (.slice q n k) D) := fun W hb => hr.on hb
  have B0 := Lib.hid b1
  clear hr hn hD hMB b1 ok
  go_enter Tryd.func48, Tryd.ntmps48
  go_wp2_with fail
  generalize w.alloc (.cells (txRow m q n k).toArray 54) = w0 at *
  refine wp_region_held_drew (S := fun W => TxAt W w.heap.size 54 m q n k) (by kernel_rfl) (show TxAt w0.drew w.heap.size 54 m q n k from K0.out) (fun h0 => ?_)
  have B1 : Hid (Below w.heap.size w w0.drew) := Lib.hid B0.out.drew
  clear K0 B0
  generalize w0.drew = w1 at *
  refine wpAnyH_take (i := 0) (v := ?_) (by rw [List.getElem?_toArray]; rfl) (by kernel_rfl) (by kernel_rfl) (by kernel_rfl) (by exact fun _ _ _ h => h) (Or.inl ⟨by rfl, ?_⟩) h0 ?_
  rotate_left
  · intro W hW
    obtain ⟨c0, c1, c2, c3, c4, c5, c6, c7, c8, c9⟩ := hW.cells
    go_simp
    all_goals with_reducible rfl
  try simp only [Act.put, List.setIfInBounds_toArray, List.set_cons_zero, List.set_cons_succ]
  refine wpAnyH_take (i := 1) (v := ?_) (by rw [List.getElem?_toArray]; rfl) (by kernel_rfl) (by kernel_rfl) (by kernel_rfl) (by exact fun _ _ _ h => h) (Or.inl ⟨by rfl, ?_⟩) h0 ?_
  rotate_left
  · intro W hW
    obtain ⟨c0, c1, c2, c3, c4, c5, c6, c7, c8, c9⟩ := hW.cells
    go_simp
    all_goals with_reducible rfl
  try simp only [Act.put, List.setIfInBounds_toArray, List.set_cons_zero, List.set_cons_succ]
  refine wpAnyH_take (i := 2) (v := ?_) (by rw [List.getElem?_toArray]; rfl) (by kernel_rfl) (by kernel_rfl) (by kernel_rfl) (by exact fun _ _ _ h => h) (Or.inl ⟨by rfl, ?_⟩) h0 ?_
  rotate_left
  · intro W hW
    obtain ⟨c0, c1, c2, c3, c4, c5, c6, c7, c8, c9⟩ := hW.cells
    have hu := HU.out
    go_simp
    all_goals with_reducible rfl
  try simp only [Act.put, List.setIfInBounds_toArray, List.set_cons_zero, List.set_cons_succ]
  refine wpAnyH_take (i := 4) (v := ?_) (by rw [List.getElem?_toArray]; rfl) (by kernel_rfl) (by kernel_rfl) (by kernel_rfl) (by exact fun _ _ _ h => h) (Or.inl ⟨by rfl, ?_⟩) h0 ?_
  rotate_left
  · intro W hW
    obtain ⟨c0, c1, c2, c3, c4, c5, c6, c7, c8, c9⟩ := hW.cells
    go_simp
    all_goals with_reducible rfl
  try simp only [Act.put, List.setIfInBounds_toArray, List.set_cons_zero, List.set_cons_succ]
  refine wpAnyH_take (i := 5) (v := ?_) (by rw [List.getElem?_toArray]; rfl) (by kernel_rfl) (by kernel_rfl) (by kernel_rfl) (by exact fun _ _ _ h => h) (Or.inl ⟨by rfl, ?_⟩) h0 ?_
  rotate_left
  · intro W hW
    obtain ⟨c0, c1, c2, c3, c4, c5, c6, c7, c8, c9⟩ := hW.cells
    go_simp
    all_goals with_reducible rfl
  try simp only [Act.put, List.setIfInBounds_toArray, List.set_cons_zero, List.set_cons_succ]
  refine wpAnyH_take (i := 8) (v := ?_) (by rw [List.getElem?_toArray]; rfl) (by kernel_rfl) (by kernel_rfl) (by kernel_rfl) (by exact fun _ _ _ h => h) (Or.inl ⟨by rfl, ?_⟩) h0 ?_
  rotate_left
  · intro W hW
    obtain ⟨c0, c1, c2, c3, c4, c5, c6, c7, c8, c9⟩ := hW.cells
    go_simp
    all_goals with_reducible rfl
  try simp only [Act.put, List.setIfInBounds_toArray, List.set_cons_zero, List.set_cons_succ]
  refine wpAnyH_take (i := 9) (v := ?_) (by rw [List.getElem?_toArray]; rfl) (by kernel_rfl) (by kernel_rfl) (by kernel_rfl) (by exact fun _ _ _ h => h) (Or.inl ⟨by rfl, ?_⟩) h0 ?_
  rotate_left
  · intro W hW
    obtain ⟨c0, c1, c2, c3, c4, c5, c6, c7, c8, c9⟩ := hW.cells
    go_simp
    all_goals with_reducible rfl
  try simp only [Act.put, List.setIfInBounds_toArray, List.set_cons_zero, List.set_cons_succ]
  refine wpAnyH_ready (rs := [3]) (by kernel_rfl) (by simp) ?_
  refine AllReadyH.cons (by rw [List.getElem?_toArray]; rfl) (fun K hK => ?_) AllReadyH.nil
  rw [if_pos (by rfl)]
  go_wp2_with fail
  refine (refUint_any m.kd w1).mono ?_
  rintro e v2 ⟨u2, rfl, hs2⟩
  obtain ⟨a2, o2, rfl⟩ := hs2.len
  have K2 : TxAt v2 w.heap.size 54 m q n k := TxAt.on h0 hs2.below
  have Sa2 := Lib.hid (hs2.base B1.out)
  have B2 := Lib.hid (Sa2.out.below)
  have LSa : Hid ((be8 m.kd : List Int).length = 8) := by show _ = _; simp [be8_len]
  rw [LSa.out]
  clear hs2
  go_wp2_with fail
  refine hK.out _ _ (K2) (fun k2x => ?_)
  clear K2
  clear hK K
  try simp only [Act.put, List.setIfInBounds_toArray, List.set_cons_zero, List.set_cons_succ]
  refine wpAnyH_ready (rs := [6]) (by kernel_rfl) (by simp) ?_
  refine AllReadyH.cons (by rw [List.getElem?_toArray]; rfl) (fun K hK => ?_) AllReadyH.nil
  rw [if_pos (by rfl)]
  go_wp2_with fail
  refine (refUint_any m.fr v2).mono ?_
  rintro e v3 ⟨u3, rfl, hs3⟩
  obtain ⟨a3, o3, rfl⟩ := hs3.len
  have K3 : TxAt v3 w.heap.size 54 m q n k := TxAt.on k2x hs3.below
  have Sa3 := Lib.hid (Sa2.out.on hs3.below)
  clear Sa2
  have Sb3 := Lib.hid (hs3.base B2.out)
  have B3 := Lib.hid (Sb3.out.below)
  have LSb : Hid ((be8 m.fr : List Int).length = 8) := by show _ = _; simp [be8_len]
  rw [LSb.out]
  clear hs3
  go_wp2_with fail
  refine hK.out _ _ (K3) (fun k3x => ?_)
  clear K3
  clear hK K
  try simp only [Act.put, List.setIfInBounds_toArray, List.set_cons_zero, List.set_cons_succ]
  refine wpAnyH_ready (rs := [7]) (by kernel_rfl) (by simp) ?_
  refine AllReadyH.cons (by rw [List.getElem?_toArray]; rfl) (fun K hK => ?_) AllReadyH.nil
  rw [if_pos (by rfl)]
  refine wp_append_row _ _ rfl Tryd.underlying25 hi.out hz0.out hz1.out hz2.out rfl (by have := Sa3.out.own; rw [LSa.out] at this; exact this) (by have := Sb3.out.rd.src (P := Tryd.prog) Tryd.underlying25; rw [LSb.out] at this; exact this) (by unfold maxLen; omega) (by omega) ?_
  intro a4 o4 v4 own4 grow4 fr4
  have K4 : TxAt v4 w.heap.size 54 m q n k := TxAt.grown9 k3x Sa3.out.own grow4
  have Sc4 := Lib.hid (Sa3.out.app LSa.out LSb.out own4 grow4 fr4)
  have B4 := Lib.hid (Sc4.out.below)
  have LSc : Hid (((be8 m.kd) ++ (be8 m.fr) : List Int).length = 8 + 8) := by show _ = _; simp [be8_len]
  clear own4 grow4 fr4 Sa3 Sb3
  refine hK.out _ _ (K4) (fun k4x => ?_)
  clear K4
  clear hK K
  try simp only [Act.put, List.setIfInBounds_toArray, List.set_cons_zero, List.set_cons_succ]
  refine wpAnyH_ready (rs := [10]) (by kernel_rfl) (by simp) ?_
  refine AllReadyH.cons (by rw [List.getElem?_toArray]; rfl) (fun K hK => ?_) AllReadyH.nil
  rw [if_pos (by rfl)]
  go_wp2_with fail
  refine (refUint_any m.no v4).mono ?_
  rintro e v5 ⟨u5, rfl, hs5⟩
  obtain ⟨a5, o5, rfl⟩ := hs5.len
  have K5 : TxAt v5 w.heap.size 54 m q n k := TxAt.on k4x hs5.below
  have Sc5 := Lib.hid (Sc4.out.on hs5.below)
  clear Sc4
  have Sd5 := Lib.hid (hs5.base B4.out)
  have B5 := Lib.hid (Sd5.out.below)
  have LSd : Hid ((be8 m.no : List Int).length = 8) := by show _ = _; simp [be8_len]
  rw [LSd.out]
  clear hs5
  go_wp2_with fail
  refine hK.out _ _ (K5) (fun k5x => ?_)
  clear K5
  clear hK K
  try simp only [Act.put, List.setIfInBounds_toArray, List.set_cons_zero, List.set_cons_succ]
  refine wpAnyH_ready (rs := [11]) (by kernel_rfl) (by simp) ?_
  refine AllReadyH.cons (by rw [List.getElem?_toArray]; rfl) (fun K hK => ?_) AllReadyH.nil
  rw [if_pos (by rfl)]
  refine wp_append_row _ _ rfl Tryd.underlying25 hi.out hz0.out hz1.out hz2.out rfl (by have := Sc5.out.own; rw [LSc.out] at this; exact this) (by have := Sd5.out.rd.src (P := Tryd.prog) Tryd.underlying25; rw [LSd.out] at this; exact this) (by unfold maxLen; omega) (by omega) ?_
  intro a6 o6 v6 own6 grow6 fr6
  have K6 : TxAt v6 w.heap.size 54 m q n k := TxAt.grown9 k5x Sc5.out.own grow6
  have Se6 := Lib.hid (Sc5.out.app LSc.out LSd.out own6 grow6 fr6)
  have B6 := Lib.hid (Se6.out.below)
  have LSe : Hid ((((be8 m.kd) ++ (be8 m.fr)) ++ (be8 m.no) : List Int).length = 8 + 8 + 8) := by show _ = _; simp [be8_len]
  clear own6 grow6 fr6 Sc5 Sd5
  refine hK.out _ _ (K6) (fun k6x => ?_)
  clear K6
  clear hK K
  try simp only [Act.put, List.setIfInBounds_toArray, List.set_cons_zero, List.set_cons_succ]
  refine wpAnyH_take (i := 12) (v := ?_) (by rw [List.getElem?_toArray]; rfl) (by kernel_rfl) (by kernel_rfl) (by kernel_rfl) (by exact fun _ _ _ h => h) (Or.inl ⟨by rfl, ?_⟩) k6x ?_
  rotate_left
  · intro W hW
    obtain ⟨c0, c1, c2, c3, c4, c5, c6, c7, c8, c9⟩ := hW.cells
    go_simp
    all_goals with_reducible rfl
  try simp only [Act.put, List.setIfInBounds_toArray, List.set_cons_zero, List.set_cons_succ]
  refine wpAnyH_done (by kernel_rfl) ?_ _
  have K1 := Lib.hid k6x
  have S1 : Hid (BuS w v6 (.slice a6 24 o6) (be8 m.kd ++ be8 m.fr ++ be8 m.no)) := Se6.out
  have LX : Hid ((be8 m.kd ++ be8 m.fr ++ be8 m.no).length = 24) := LSe.out
  try rw [show 8 + 8 + 8 = 24 from rfl]
  obtain ⟨Y1, hY1⟩ : ∃ Y1, be8 m.kd ++ be8 m.fr ++ be8 m.no = Y1 := ⟨_, rfl⟩
  rw [hY1] at S1 LX
  have HY1 := Lib.hid hY1
  clear hY1 Se6 LSe
  go_wp2_with fail
  refine wp_region_held_drew (S := fun W => TxAt W w.heap.size 54 m q n k) (by kernel_rfl) (show TxAt v6.drew w.heap.size 54 m q n k from K1.out) (fun h20 => ?_)
  have S20 : Hid (BuS w v6.drew (.slice a6 24 o6) Y1) := Lib.hid (S1.out.on ((Below.refl _ _).drew))
  have B20 : Hid (Below w.heap.size w v6.drew) := Lib.hid S20.out.below
  have LS := LX
  clear K1 S1 LX
  generalize v6.drew = w2 at *
  refine wpAnyH_take (i := 0) (v := ?_) (by rw [List.getElem?_toArray]; rfl) (by kernel_rfl) (by kernel_rfl) (by kernel_rfl) (by exact fun _ _ _ h => h) (Or.inl ⟨by rfl, ?_⟩) h20 ?_
  rotate_left
  · intro W hW
    obtain ⟨c0, c1, c2, c3, c4, c5, c6, c7, c8, c9⟩ := hW.cells
    go_simp
    all_goals with_reducible rfl
  try simp only [Act.put, List.setIfInBounds_toArray, List.set_cons_zero, List.set_cons_succ]
  refine wpAnyH_take (i := 1) (v := ?_) (by rw [List.getElem?_toArray]; rfl) (by kernel_rfl) (by kernel_rfl) (by kernel_rfl) (by exact fun _ _ _ h => h) (Or.inl ⟨by rfl, ?_⟩) h20 ?_
  rotate_left
  · intro W hW
    obtain ⟨c0, c1, c2, c3, c4, c5, c6, c7, c8, c9⟩ := hW.cells
    go_simp
    all_goals with_reducible rfl
  try simp only [Act.put, List.setIfInBounds_toArray, List.set_cons_zero, List.set_cons_succ]
  refine wpAnyH_take (i := 2) (v := ?_) (by rw [List.getElem?_toArray]; rfl) (by kernel_rfl) (by kernel_rfl) (by kernel_rfl) (by exact fun _ _ _ h => h) (Or.inl ⟨by rfl, ?_⟩) h20 ?_
  rotate_left
  · intro W hW
    obtain ⟨c0, c1, c2, c3, c4, c5, c6, c7, c8, c9⟩ := hW.cells
    go_simp
    all_goals with_reducible rfl
  try simp only [Act.put, List.setIfInBounds_toArray, List.set_cons_zero, List.set_cons_succ]
  refine wpAnyH_take (i := 5) (v := ?_) (by rw [List.getElem?_toArray]; rfl) (by kernel_rfl) (by kernel_rfl) (by kernel_rfl) (by exact fun _ _ _ h => h) (Or.inl ⟨by rfl, ?_⟩) h20 ?_
  rotate_left
  · intro W hW
    obtain ⟨c0, c1, c2, c3, c4, c5, c6, c7, c8, c9⟩ := hW.cells
    go_simp
    all_goals with_reducible rfl
  try simp only [Act.put, List.setIfInBounds_toArray, List.set_cons_zero, List.set_cons_succ]
  refine wpAnyH_take (i := 6) (v := ?_) (by rw [List.getElem?_toArray]; rfl) (by kernel_rfl) (by kernel_rfl) (by kernel_rfl) (by exact fun _ _ _ h => h) (Or.inl ⟨by rfl, ?_⟩) h20 ?_
  rotate_left
  · intro W hW
    obtain ⟨c0, c1, c2, c3, c4, c5, c6, c7, c8, c9⟩ := hW.cells
    go_simp
    all_goals with_reducible rfl
  try simp only [Act.put, List.setIfInBounds_toArray, List.set_cons_zero, List.set_cons_succ]
  refine wpAnyH_ready (rs := [3]) (by kernel_rfl) (by simp) ?_
  refine AllReadyH.cons (by rw [List.getElem?_toArray]; rfl) (fun K hK => ?_) AllReadyH.nil
  rw [if_pos (by rfl)]
  go_wp2_with fail
  refine (refUint_any m.to w2).mono ?_
  rintro e v21 ⟨u21, rfl, hs21⟩
  obtain ⟨a21, o21, rfl⟩ := hs21.len
  have K21 : TxAt v21 w.heap.size 54 m q n k := TxAt.on h20 hs21.below
  have S21 := Lib.hid (S20.out.on hs21.below)
  clear S20
  have Sf21 := Lib.hid (hs21.base B20.out)
  have B21 := Lib.hid (Sf21.out.below)
  have LSf : Hid ((be8 m.to : List Int).length = 8) := by show _ = _; simp [be8_len]
  rw [LSf.out]
  clear hs21
  go_wp2_with fail
  refine hK.out _ _ (K21) (fun k21x => ?_)
  clear K21
  clear hK K
  try simp only [Act.put, List.setIfInBounds_toArray, List.set_cons_zero, List.set_cons_succ]
  refine wpAnyH_ready (rs := [4]) (by kernel_rfl) (by simp) ?_
  refine AllReadyH.cons (by rw [List.getElem?_toArray]; rfl) (fun K hK => ?_) AllReadyH.nil
  rw [if_pos (by rfl)]
  refine wp_append_row _ _ rfl Tryd.underlying25 hi.out hz0.out hz1.out hz2.out rfl (by have := S21.out.own; rw [LS.out] at this; exact this) (by have := Sf21.out.rd.src (P := Tryd.prog) Tryd.underlying25; rw [LSf.out] at this; exact this) (by unfold maxLen; omega) (by omega) ?_
  intro a22 o22 v22 own22 grow22 fr22
  have K22 : TxAt v22 w.heap.size 54 m q n k := TxAt.grown9 k21x S21.out.own grow22
  have Sg22 := Lib.hid (S21.out.app LS.out LSf.out own22 grow22 fr22)
  have B22 := Lib.hid (Sg22.out.below)
  have LSg : Hid (((Y1) ++ (be8 m.to) : List Int).length = 24 + 8) := by show _ = _; rw [List.length_append, LS.out, be8_len]
  clear own22 grow22 fr22 S21 Sf21
  refine hK.out _ _ (K22) (fun k22x => ?_)
  clear K22
  clear hK K
  try simp only [Act.put, List.setIfInBounds_toArray, List.set_cons_zero, List.set_cons_succ]
  refine wpAnyH_ready (rs := [7]) (by kernel_rfl) (by simp) ?_
  refine AllReadyH.cons (by rw [List.getElem?_toArray]; rfl) (fun K hK => ?_) AllReadyH.nil
  rw [if_pos (by rfl)]
  go_wp2_with fail
  refine (refBytes_any HD4.out v22).mono ?_
  rintro e v23 ⟨u23, rfl, hs23⟩
  obtain ⟨a23, o23, rfl⟩ := hs23.len
  have K23 : TxAt v23 w.heap.size 54 m q n k := TxAt.on k22x hs23.below
  have Sg23 := Lib.hid (Sg22.out.on hs23.below)
  clear Sg22
  have Sh23 := Lib.hid (hs23.base B22.out)
  have B23 := Lib.hid (Sh23.out.below)
  have LSh : Hid ((m.val.bytes : List Int).length = 32) := by show _ = _; simp [W4.len]
  rw [LSh.out]
  clear hs23
  go_wp2_with fail
  refine hK.out _ _ (K23) (fun k23x => ?_)
  clear K23
  clear hK K
  try simp only [Act.put, List.setIfInBounds_toArray, List.set_cons_zero, List.set_cons_succ]
  refine wpAnyH_ready (rs := [8]) (by kernel_rfl) (by simp) ?_
  refine AllReadyH.cons (by rw [List.getElem?_toArray]; rfl) (fun K hK => ?_) AllReadyH.nil
  rw [if_pos (by rfl)]
  refine wp_append_row _ _ rfl Tryd.underlying25 hi.out hz0.out hz1.out hz2.out rfl (by have := Sg23.out.own; rw [LSg.out] at this; exact this) (by have := Sh23.out.rd.src (P := Tryd.prog) Tryd.underlying25; rw [LSh.out] at this; exact this) (by unfold maxLen; omega) (by omega) ?_
  intro a24 o24 v24 own24 grow24 fr24
  have K24 : TxAt v24 w.heap.size 54 m q n k := TxAt.grown9 k23x Sg23.out.own grow24
  have Si24 := Lib.hid (Sg23.out.app LSg.out LSh.out own24 grow24 fr24)
  have B24 := Lib.hid (Si24.out.below)
  have LSi : Hid ((((Y1) ++ (be8 m.to)) ++ (m.val.bytes) : List Int).length = 24 + 8 + 32) := by show _ = _; rw [List.length_append, LSg.out, W4.len]
  clear own24 grow24 fr24 Sg23 Sh23
  refine hK.out _ _ (K24) (fun k24x => ?_)
  clear K24
  clear hK K
  try simp only [Act.put, List.setIfInBounds_toArray, List.set_cons_zero, List.set_cons_succ]
  refine wpAnyH_take (i := 9) (v := ?_) (by rw [List.getElem?_toArray]; rfl) (by kernel_rfl) (by kernel_rfl) (by kernel_rfl) (by exact fun _ _ _ h => h) (Or.inl ⟨by rfl, ?_⟩) k24x ?_
  rotate_left
  · intro W hW
    obtain ⟨c0, c1, c2, c3, c4, c5, c6, c7, c8, c9⟩ := hW.cells
    go_simp
    all_goals with_reducible rfl
  try simp only [Act.put, List.setIfInBounds_toArray, List.set_cons_zero, List.set_cons_succ]
  refine wpAnyH_done (by kernel_rfl) ?_ _
  have K2 := Lib.hid k24x
  have S2 : Hid (BuS w v24 (.slice a24 64 o24) (Y1 ++ be8 m.to ++ m.val.bytes)) := Si24.out
  have LY : Hid ((Y1 ++ be8 m.to ++ m.val.bytes).length = 64) := LSi.out
  try rw [show 24 + 8 + 32 = 64 from rfl]
  have HY : Hid (Y1 ++ be8 m.to ++ m.val.bytes = be8 m.kd ++ be8 m.fr ++ be8 m.no ++ be8 m.to ++ m.val.bytes) := by show _ = _; rw [HY1.out]
  obtain ⟨Y2, hY2⟩ : ∃ Y2, Y1 ++ be8 m.to ++ m.val.bytes = Y2 := ⟨_, rfl⟩
  rw [hY2] at S2 LY HY
  clear hY2 Si24 LSi HY1 LS
  go_wp2_with fail
  refine wp_region_held_drew (S := fun W => TxAt W w.heap.size 54 m q n k) (by kernel_rfl) (show TxAt v24.drew w.heap.size 54 m q n k from K2.out) (fun h40 => ?_)
  have S40 : Hid (BuS w v24.drew (.slice a24 64 o24) Y2) := Lib.hid (S2.out.on ((Below.refl _ _).drew))
  have B40 : Hid (Below w.heap.size w v24.drew) := Lib.hid S40.out.below
  have LS := LY
  clear K2 S2 LY
  generalize v24.drew = w3 at *
  refine wpAnyH_take (i := 0) (v := ?_) (by rw [List.getElem?_toArray]; rfl) (by kernel_rfl) (by kernel_rfl) (by kernel_rfl) (by exact fun _ _ _ h => h) (Or.inl ⟨by rfl, ?_⟩) h40 ?_
  rotate_left
  · intro W hW
    obtain ⟨c0, c1, c2, c3, c4, c5, c6, c7, c8, c9⟩ := hW.cells
    go_simp
    all_goals with_reducible rfl
  try simp only [Act.put, List.setIfInBounds_toArray, List.set_cons_zero, List.set_cons_succ]
  refine wpAnyH_take (i := 1) (v := ?_) (by rw [List.getElem?_toArray]; rfl) (by kernel_rfl) (by kernel_rfl) (by kernel_rfl) (by exact fun _ _ _ h => h) (Or.inl ⟨by rfl, ?_⟩) h40 ?_
  rotate_left
  · intro W hW
    obtain ⟨c0, c1, c2, c3, c4, c5, c6, c7, c8, c9⟩ := hW.cells
    go_simp
    all_goals with_reducible rfl
  try simp only [Act.put, List.setIfInBounds_toArray, List.set_cons_zero, List.set_cons_succ]
  refine wpAnyH_take (i := 2) (v := ?_) (by rw [List.getElem?_toArray]; rfl) (by kernel_rfl) (by kernel_rfl) (by kernel_rfl) (by exact fun _ _ _ h => h) (Or.inl ⟨by rfl, ?_⟩) h40 ?_
  rotate_left
  · intro W hW
    obtain ⟨c0, c1, c2, c3, c4, c5, c6, c7, c8, c9⟩ := hW.cells
    go_simp
    all_goals with_reducible rfl
  try simp only [Act.put, List.setIfInBounds_toArray, List.set_cons_zero, List.set_cons_succ]
  refine wpAnyH_take (i := 5) (v := ?_) (by rw [List.getElem?_toArray]; rfl) (by kernel_rfl) (by kernel_rfl) (by kernel_rfl) (by exact fun _ _ _ h => h) (Or.inl ⟨by rfl, ?_⟩) h40 ?_
  rotate_left
  · intro W hW
    obtain ⟨c0, c1, c2, c3, c4, c5, c6, c7, c8, c9⟩ := hW.cells
    go_simp
    all_goals with_reducible rfl
  try simp only [Act.put, List.setIfInBounds_toArray, List.set_cons_zero, List.set_cons_succ]
  refine wpAnyH_take (i := 6) (v := ?_) (by rw [List.getElem?_toArray]; rfl) (by kernel_rfl) (by kernel_rfl) (by kernel_rfl) (by exact fun _ _ _ h => h) (Or.inl ⟨by rfl, ?_⟩) h40 ?_
  rotate_left
  · intro W hW
    obtain ⟨c0, c1, c2, c3, c4, c5, c6, c7, c8, c9⟩ := hW.cells
    go_simp
    all_goals with_reducible rfl
  try simp only [Act.put, List.setIfInBounds_toArray, List.set_cons_zero, List.set_cons_succ]
  refine wpAnyH_ready (rs := [3]) (by kernel_rfl) (by simp) ?_
  refine AllReadyH.cons (by rw [List.getElem?_toArray]; rfl) (fun K hK => ?_) AllReadyH.nil
  rw [if_pos (by rfl)]
  go_wp2_with fail
  refine (refUint_any m.gas w3).mono ?_
  rintro e v41 ⟨u41, rfl, hs41⟩
  obtain ⟨a41, o41, rfl⟩ := hs41.len
  have K41 : TxAt v41 w.heap.size 54 m q n k := TxAt.on h40 hs41.below
  have S41 := Lib.hid (S40.out.on hs41.below)
  clear S40
  have Sj41 := Lib.hid (hs41.base B40.out)
  have B41 := Lib.hid (Sj41.out.below)
  have LSj : Hid ((be8 m.gas : List Int).length = 8) := by show _ = _; simp [be8_len]
  rw [LSj.out]
  clear hs41
  go_wp2_with fail
  refine hK.out _ _ (K41) (fun k41x => ?_)
  clear K41
  clear hK K
  try simp only [Act.put, List.setIfInBounds_toArray, List.set_cons_zero, List.set_cons_succ]
  refine wpAnyH_ready (rs := [4]) (by kernel_rfl) (by simp) ?_
  refine AllReadyH.cons (by rw [List.getElem?_toArray]; rfl) (fun K hK => ?_) AllReadyH.nil
  rw [if_pos (by rfl)]
  refine wp_append_row _ _ rfl Tryd.underlying25 hi.out hz0.out hz1.out hz2.out rfl (by have := S41.out.own; rw [LS.out] at this; exact this) (by have := Sj41.out.rd.src (P := Tryd.prog) Tryd.underlying25; rw [LSj.out] at this; exact this) (by unfold maxLen; omega) (by omega) ?_
  intro a42 o42 v42 own42 grow42 fr42
  have K42 : TxAt v42 w.heap.size 54 m q n k := TxAt.grown9 k41x S41.out.own grow42
  have Sk42 := Lib.hid (S41.out.app LS.out LSj.out own42 grow42 fr42)
  have B42 := Lib.hid (Sk42.out.below)
  have LSk : Hid (((Y2) ++ (be8 m.gas) : List Int).length = 64 + 8) := by show _ = _; rw [List.length_append, LS.out, be8_len]
  clear own42 grow42 fr42 S41 Sj41
  refine hK.out _ _ (K42) (fun k42x => ?_)
  clear K42
  clear hK K
  try simp only [Act.put, List.setIfInBounds_toArray, List.set_cons_zero, List.set_cons_succ]
  refine wpAnyH_ready (rs := [7]) (by kernel_rfl) (by simp) ?_
  refine AllReadyH.cons (by rw [List.getElem?_toArray]; rfl) (fun K hK => ?_) AllReadyH.nil
  rw [if_pos (by rfl)]
  go_wp2_with fail
  refine (refBlob_any (HV.out _ B42.out) (by rw [LN.out]; omega)).mono ?_
  rintro e v43 ⟨u43, rfl, hs43⟩
  obtain ⟨a43, o43, rfl⟩ := hs43.len
  have K43 : TxAt v43 w.heap.size 54 m q n k := TxAt.on k42x hs43.below
  have Sk43 := Lib.hid (Sk42.out.on hs43.below)
  clear Sk42
  have Sl43 := Lib.hid (hs43.base B42.out)
  have B43 := Lib.hid (Sl43.out.below)
  have LSl : Hid ((be8 (D.length : Int) ++ D : List Int).length = (n + 8)) := by show _ = _; rw [List.length_append, be8_len, LN.out]; omega
  rw [LSl.out]
  clear hs43
  go_wp2_with fail
  refine hK.out _ _ (K43) (fun k43x => ?_)
  clear K43
  clear hK K
  try simp only [Act.put, List.setIfInBounds_toArray, List.set_cons_zero, List.set_cons_succ]
  refine wpAnyH_ready (rs := [8]) (by kernel_rfl) (by simp) ?_
  refine AllReadyH.cons (by rw [List.getElem?_toArray]; rfl) (fun K hK => ?_) AllReadyH.nil
  rw [if_pos (by rfl)]
  refine wp_append_row _ _ rfl Tryd.underlying25 hi.out hz0.out hz1.out hz2.out rfl (by have := Sk43.out.own; rw [LSk.out] at this; exact this) (by have := Sl43.out.rd.src (P := Tryd.prog) Tryd.underlying25; rw [LSl.out] at this; exact this) (by unfold maxLen; omega) (by omega) ?_
  intro a44 o44 v44 own44 grow44 fr44
  have K44 : TxAt v44 w.heap.size 54 m q n k := TxAt.grown9 k43x Sk43.out.own grow44
  have Sm44 := Lib.hid (Sk43.out.app LSk.out LSl.out own44 grow44 fr44)
  have B44 := Lib.hid (Sm44.out.below)
  have LSm : Hid ((((Y2) ++ (be8 m.gas)) ++ (be8 (D.length : Int) ++ D) : List Int).length = 64 + 8 + (n + 8)) := by show _ = _; rw [List.length_append, LSk.out, LSl.out]
  clear own44 grow44 fr44 Sk43 Sl43
  refine hK.out _ _ (K44) (fun k44x => ?_)
  clear K44
  clear hK K
  try simp only [Act.put, List.setIfInBounds_toArray, List.set_cons_zero, List.set_cons_succ]
  refine wpAnyH_take (i := 9) (v := ?_) (by rw [List.getElem?_toArray]; rfl) (by kernel_rfl) (by kernel_rfl) (by kernel_rfl) (by exact fun _ _ _ h => h) (Or.inl ⟨by rfl, ?_⟩) k44x ?_
  rotate_left
  · intro W hW
    obtain ⟨c0, c1, c2, c3, c4, c5, c6, c7, c8, c9⟩ := hW.cells
    go_simp
    all_goals with_reducible rfl
  try simp only [Act.put, List.setIfInBounds_toArray, List.set_cons_zero, List.set_cons_succ]
  refine wpAnyH_done (by kernel_rfl) ?_ _
  have SE : Hid (BuS w v44 (.slice a44 (64 + 8 + (n + 8)) o44) MB) := Sm44.out.of_eq (by rw [HM.out, HY.out]; simp)
  go_wp2_with fail
  go_ret
  exact ⟨_, rfl, SE.out⟩
end Go.Proofs.YtcpoaalhpjipaaaDoor
