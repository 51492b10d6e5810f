/-
  What the law of derive knows: a deposit, and a batch's transfer.; The law's copies of Txs for the document; whether Txs are the same.; Inputs, copied from the document's kind to the program's and back; the same ones.
-/
import Derived.Test.YtonjkhhihiigfaaDv13
import Derived.Test.YtonjkhhihiigfaaDv15
import Derived.Test.YtonjkhhihiigfaaDv16
namespace Go.Proofs.Ytonjkhhihiigfaa
set_option maxRecDepth 100000
open Go.RowKit

theorem num14_any (n : Int) (w : World) : Calls Try.prog 18 #[.int .i64 n] w fun e w' => e = .returned (.int .i64 n) ∧ w' = w := by
  go_enter Try.func18, Try.ntmps18
  go_wp2_with fail
  go_ret
  exact ⟨rfl, rfl⟩
theorem Find_any {w : World} {F : Fp} {Ls : List Bk} {q : Option Addr} {c : Nat} {n k : Int} (hr : RwF 2 bk0 PBk w F q Ls) (ok : BksOk Ls) (hl : Ls.length ≤ 3000000000000) :
    Calls Try.prog 11 #[.slice q Ls.length c, .int .i64 n, .int .i64 k] w fun e w' => e = .returned (.tuple #[.int .i64 (foB (fFind Ls n k)), .int .i64 (foI (fFind Ls n k)), .bool (fFind Ls n k).isSome]) ∧ Below w.heap.size w w' := by
  have KF := Lib.hid (find_any (c := c) (n := n) (k := k) hr ok hl)
  clear hr ok hl
  go_enter Try.func11, Try.ntmps11
  go_wp2_with fail
  refine KF.out.mono ?_
  rintro e w2 ⟨q5, c5, rfl, -, hb⟩
  have B2 := Lib.hid hb
  clear hb KF
  go_wp2_with fail
  refine bodyPost_ret (v := .tuple #[.int .i64 (foB (fFind Ls n k)), .int .i64 (foI (fFind Ls n k)), .bool (fFind Ls n k).isSome]) (by simp [results, Try.results11, go_sem]) rfl ⟨rfl, B2.out⟩
def kt1 : Tg := ⟨1, 1, 0, 2, ⟨0, 0, 0, 0⟩, 0, []⟩
def km5 : Mg := ⟨0, 0, 5, ⟨0, 0, 0, 0⟩, 0, []⟩
def kBB : List Int := baB 1 [kt1] 1
def kLs : List Bk := [⟨[km5], []⟩, ⟨[], [[1], kBB]⟩]
@[go_sem] theorem Try.run_kt1 (w : World) : (rowBuild 54 #[(0, .int .i64 1), (1, .int .u64 1), (3, .int .u64 2)]).run Try.prog w = .ok (.agg (txRow kt1 none 0 0).toArray) w := by unfold rowBuild; kernel_rfl
@[go_sem] theorem Try.run_km5 (w : World) : (rowBuild 52 #[(2, .int .u64 5)]).run Try.prog w = .ok (.agg (mgRow km5 none 0 0).toArray) w := by unfold rowBuild; kernel_rfl
theorem kt1_ok : kt1.ok := ⟨by decide, by decide, by decide, by decide, ⟨dg0, dg0, dg0, dg0⟩, by decide, fun x hx => by cases hx⟩
theorem km5_ok : km5.ok := ⟨by decide, by decide, by decide, ⟨dg0, dg0, dg0, dg0⟩, by decide, fun x hx => by cases hx⟩
theorem kz_pb : pBB 1 [kt1] = kBB ∧ pBE [kt1] = 0 ∧ kBB.length = 96 := by refine ⟨?_, ?_, ?_⟩ <;> kernel_rfl
theorem kz_in : fInL kLs 1 1 = [dIn km5, tIn kt1] := by kernel_rfl
theorem kz_ie : fInE kLs 1 1 = 0 := by kernel_rfl
theorem kz_fi : foB (fFind kLs 1 1) = 2 ∧ foI (fFind kLs 1 1) = 1 ∧ (fFind kLs 1 1).isSome = true := by refine ⟨?_, ?_, ?_⟩ <;> kernel_rfl
theorem kz_kn : kN 2 1 = 1 := by decide
theorem kBB_bytes : Bytes kBB := by
  have h : kBB.all (fun x => decide (0 ≤ x ∧ x < 256)) = true := by kernel_rfl
  intro x hx
  simpa using List.all_eq_true.1 h x hx
theorem kLs_sm : BksSm kLs := by
  intro x hx
  simp only [kLs, List.mem_cons, List.not_mem_nil, or_false] at hx
  rcases hx with rfl | rfl
  · exact ⟨⟨fun m hm => by obtain rfl : m = km5 := (by simpa using hm); exact ⟨km5_ok, by simp [km5]⟩, fun b hb => by simp at hb, by simp, by simp⟩, by simp, by simp, fun m hm => by obtain rfl : m = km5 := (by simpa using hm); simp [km5], fun b hb => by simp at hb⟩
  · refine ⟨⟨fun m hm => by simp at hm, fun b hb => ?_, by simp, by simp⟩, by simp, by simp, fun m hm => by simp at hm, fun b hb => ?_⟩
    · simp only [List.mem_cons, List.not_mem_nil, or_false] at hb
      rcases hb with rfl | rfl
      · exact ⟨fun x hx => by obtain rfl : x = 1 := (by simpa using hx); decide, by simp⟩
      · exact ⟨kBB_bytes, by rw [kz_pb.2.2]; decide⟩
    · simp only [List.mem_cons, List.not_mem_nil, or_false] at hb
      rcases hb with rfl | rfl
      · simp
      · rw [kz_pb.2.2]; decide

theorem kLs_rd {W : World} {b0 b1 b2 b3 : Nat} {q2 : Option Addr} {k2 : Nat} (H0 : W.heap[b0]? = some (.cells (mgRow km5 none 0 0).toArray 52 (0, 0))) (H1 : W.heap[b1]? = some (.cells #[.int .u8 1] 5 (0, 0))) (H2 : W.heap[b2]? = some (.cells #[.slice (some ⟨b1, 0, none⟩) 1 1, .slice q2 kBB.length k2] 50 (0, 0))) (H3 : W.heap[b3]? = some (.cells #[.slice (some ⟨b0, 0, none⟩) 1 1, .slice none 0 0, .slice none 0 0, .slice (some ⟨b2, 0, none⟩) 2 2] 72 (0, 0))) (hr : Rd W (.slice q2 kBB.length k2) kBB) : RwF 2 bk0 PBk W (fun _ => True) (some ⟨b3, 0, none⟩) kLs := by
  refine .inr ⟨b3, 0, rfl, trivial, fun i hi => ?_⟩
  have e : i = 0 ∨ i = 1 := by simp [kLs] at hi; omega
  rcases e with rfl | rfl
  · refine ⟨[.slice (some ⟨b0, 0, none⟩) 1 1, .slice none 0 0], rfl, by rw [rowOf_block H3]; rfl, some ⟨b0, 0, none⟩, 1, none, 0, rfl, ?_, .inl rfl⟩
    refine .inr ⟨b0, 0, rfl, trivial, fun j hj => ?_⟩
    obtain rfl : j = 0 := by simpa [kLs] using hj
    exact ⟨mgRow km5 none 0 0, rfl, by rw [rowOf_block H0]; rfl, none, 0, rfl, RdF.nil _ _⟩
  · refine ⟨[.slice none 0 0, .slice (some ⟨b2, 0, none⟩) 2 2], rfl, by rw [rowOf_block H3]; rfl, none, 0, some ⟨b2, 0, none⟩, 2, rfl, .inl rfl, ?_⟩
    refine .inr ⟨b2, 0, rfl, trivial, fun j hj => ?_⟩
    have e : j = 0 ∨ j = 1 := by simp [kLs] at hj; omega
    rcases e with rfl | rfl
    · refine ⟨[.slice (some ⟨b1, 0, none⟩) 1 1], rfl, by rw [rowOf_block H2]; rfl, some ⟨b1, 0, none⟩, 1, rfl, ⟨some ⟨b1, 0, none⟩, 1, rfl, .inr ⟨b1, 0, rfl, fun l hl => ?_⟩⟩, fun _ _ _ => trivial⟩
      obtain rfl : l = 0 := by simpa [kLs] using hl
      exact (Joins.cell_of_block H1 0).trans rfl
    · exact ⟨[.slice q2 kBB.length k2], rfl, by rw [rowOf_block H2]; rfl, q2, k2, rfl, hr, fun _ _ _ => trivial⟩
set_option maxHeartbeats 8000000 in
theorem knows14_any (w : World) : Calls Try.prog 9 #[] w fun e w' => e = .returned (.bool true) ∧ Below w.heap.size w w' := by
  have hl10 := txRow_len kt1 none 0 0
  have hsl := Try.run_slice_tx w (txRow kt1 none 0 0) hl10
  have b1 : Below w.heap.size w (w.alloc (.cells (txRow kt1 none 0 0).toArray 54)) := (Below.refl _ _).alloc (Nat.le_refl _) _
  have B1 := Lib.hid b1
  have RT : Hid (RdTx (w.alloc (.cells (txRow kt1 none 0 0).toArray 54)) (some ⟨w.heap.size, 0, none⟩) [kt1]) := by
    refine .inr ⟨w.heap.size, 0, rfl, fun i hi => ?_⟩
    obtain rfl : i = 0 := by simpa using hi
    have h3 := TxAt.new w 54 kt1 none 0 0
    exact ⟨none, 0, by have := h3.row; simpa [kt1] using this, Rd.nil _⟩
  clear b1
  go_enter Try.func9, Try.ntmps9
  go_wp2_with fail
  clear hsl hl10
  generalize w.alloc (.cells (txRow kt1 none 0 0).toArray 54) = w1 at *
  refine (PutBatch_any (L := [kt1]) (c := 1) RT.out (fun t ht => by obtain rfl : t = kt1 := (by simpa using ht); exact ⟨kt1_ok, by simp [kt1]⟩) (by simp)).mono ?_
  rintro e w2 ⟨q2, k2, rfl, rc, hb⟩
  rw [kz_pb.1] at rc ⊢
  rw [kz_pb.2.1]
  have B2 := Lib.hid (B1.out.trans (hb.mono B1.out.size))
  have RC := Lib.hid rc.rd
  clear rc hb B1 RT
  have h9 := mgRow_len km5 none 0 0
  have hsm := Try.run_slice_mgd w2 (mgRow km5 none 0 0) h9
  go_wp2_with fail
  clear hsm h9
  have b0 : Below w2.heap.size w2 (w2.alloc (.cells (mgRow km5 none 0 0).toArray 52)) := (Below.refl _ _).alloc (Nat.le_refl _) _
  have b1 : Below (w2.alloc (.cells (mgRow km5 none 0 0).toArray 52)).heap.size (w2.alloc (.cells (mgRow km5 none 0 0).toArray 52)) ((w2.alloc (.cells (mgRow km5 none 0 0).toArray 52)).alloc (.cells #[.int .u8 1] 5)) := (Below.refl _ _).alloc (Nat.le_refl _) _
  have b2 : Below ((w2.alloc (.cells (mgRow km5 none 0 0).toArray 52)).alloc (.cells #[.int .u8 1] 5)).heap.size ((w2.alloc (.cells (mgRow km5 none 0 0).toArray 52)).alloc (.cells #[.int .u8 1] 5)) (((w2.alloc (.cells (mgRow km5 none 0 0).toArray 52)).alloc (.cells #[.int .u8 1] 5)).alloc (.cells #[.slice (some ⟨w2.heap.size + 1, 0, none⟩) 1 1, .slice q2 kBB.length k2] 50)) := (Below.refl _ _).alloc (Nat.le_refl _) _
  have b3 : Below (((w2.alloc (.cells (mgRow km5 none 0 0).toArray 52)).alloc (.cells #[.int .u8 1] 5)).alloc (.cells #[.slice (some ⟨w2.heap.size + 1, 0, none⟩) 1 1, .slice q2 kBB.length k2] 50)).heap.size (((w2.alloc (.cells (mgRow km5 none 0 0).toArray 52)).alloc (.cells #[.int .u8 1] 5)).alloc (.cells #[.slice (some ⟨w2.heap.size + 1, 0, none⟩) 1 1, .slice q2 kBB.length k2] 50)) ((((w2.alloc (.cells (mgRow km5 none 0 0).toArray 52)).alloc (.cells #[.int .u8 1] 5)).alloc (.cells #[.slice (some ⟨w2.heap.size + 1, 0, none⟩) 1 1, .slice q2 kBB.length k2] 50)).alloc (.cells #[.slice (some ⟨w2.heap.size, 0, none⟩) 1 1, .slice none 0 0, .slice none 0 0, .slice (some ⟨w2.heap.size + 1 + 1, 0, none⟩) 2 2] 72)) := (Below.refl _ _).alloc (Nat.le_refl _) _
  have s0 : (w2.alloc (.cells (mgRow km5 none 0 0).toArray 52)).heap.size = w2.heap.size + 1 := by simp
  have s1 : ((w2.alloc (.cells (mgRow km5 none 0 0).toArray 52)).alloc (.cells #[.int .u8 1] 5)).heap.size = w2.heap.size + 1 + 1 := by simp
  have s2 : (((w2.alloc (.cells (mgRow km5 none 0 0).toArray 52)).alloc (.cells #[.int .u8 1] 5)).alloc (.cells #[.slice (some ⟨w2.heap.size + 1, 0, none⟩) 1 1, .slice q2 kBB.length k2] 50)).heap.size = w2.heap.size + 1 + 1 + 1 := by simp
  have H0 := heap_alloc_new w2 (.cells (mgRow km5 none 0 0).toArray 52)
  have H1 := heap_alloc_new (w2.alloc (.cells (mgRow km5 none 0 0).toArray 52)) (.cells #[.int .u8 1] 5)
  have H2 := heap_alloc_new ((w2.alloc (.cells (mgRow km5 none 0 0).toArray 52)).alloc (.cells #[.int .u8 1] 5)) (.cells #[.slice (some ⟨w2.heap.size + 1, 0, none⟩) 1 1, .slice q2 kBB.length k2] 50)
  have H3 := heap_alloc_new (((w2.alloc (.cells (mgRow km5 none 0 0).toArray 52)).alloc (.cells #[.int .u8 1] 5)).alloc (.cells #[.slice (some ⟨w2.heap.size + 1, 0, none⟩) 1 1, .slice q2 kBB.length k2] 50)) (.cells #[.slice (some ⟨w2.heap.size, 0, none⟩) 1 1, .slice none 0 0, .slice none 0 0, .slice (some ⟨w2.heap.size + 1 + 1, 0, none⟩) 2 2] 72)
  rw [s0] at H1
  rw [s1] at H2
  rw [s2] at H3
  have b23 := b2.trans (b3.mono b2.size)
  have b123 := b1.trans (b23.mono b1.size)
  have b0123 := b0.trans (b123.mono b0.size)
  have HRW := Lib.hid (kLs_rd (W := ((((w2.alloc (.cells (mgRow km5 none 0 0).toArray 52)).alloc (.cells #[.int .u8 1] 5)).alloc (.cells #[.slice (some ⟨w2.heap.size + 1, 0, none⟩) 1 1, .slice q2 kBB.length k2] 50)).alloc (.cells #[.slice (some ⟨w2.heap.size, 0, none⟩) 1 1, .slice none 0 0, .slice none 0 0, .slice (some ⟨w2.heap.size + 1 + 1, 0, none⟩) 2 2] 72))) (b0 := w2.heap.size) (b1 := w2.heap.size + 1) (b2 := w2.heap.size + 1 + 1) (b3 := w2.heap.size + 1 + 1 + 1) (by rw [b123.block _ (by rw [s0]; omega)]; exact H0) (by rw [b23.block _ (by rw [s1]; omega)]; exact H1) (by rw [b3.block _ (by rw [s2]; omega)]; exact H2) H3 (RC.out.on b0123))
  have B3 := Lib.hid (B2.out.trans (b0123.mono B2.out.size))
  clear b0 b1 b2 b3 s0 s1 s2 H0 H1 H2 H3 b23 b123 b0123 B2 RC
  obtain ⟨p3, hp3⟩ : ∃ p, w2.heap.size + 1 + 1 + 1 = p := ⟨_, rfl⟩
  rw [hp3] at HRW ⊢
  generalize ((((w2.alloc (.cells (mgRow km5 none 0 0).toArray 52)).alloc (.cells #[.int .u8 1] 5)).alloc (.cells #[.slice (some ⟨w2.heap.size + 1, 0, none⟩) 1 1, .slice q2 kBB.length k2] 50)).alloc (.cells #[.slice (some ⟨w2.heap.size, 0, none⟩) 1 1, .slice none 0 0, .slice none 0 0, .slice (some ⟨w2.heap.size + 1 + 1, 0, none⟩) 2 2] 72)) = w3 at *
  clear hp3
  have KI := Inputs_any (c := 2) (n := 1) (k := 1) HRW.out kLs_sm (by decide)
  rw [kz_in, kz_ie] at KI
  refine (show Calls Try.prog 13 #[.slice (some ⟨p3, 0, none⟩) 2 2, .int .i64 1, .int .i64 1] w3 _ from KI).mono ?_
  rintro e w4 ⟨q5, c5, rfl, ry, hb⟩
  have HR4 := Lib.hid (HRW.out.on PBk_ok (by decide) hb)
  have B4 := Lib.hid (B3.out.trans (hb.mono B3.out.size))
  have RY4 := Lib.hid ry
  clear ry hb HRW B3 KI
  go_wp2_with fail
  have KF := Find_any (c := 2) (n := 1) (k := 1) HR4.out kLs_sm.ok (by decide)
  rw [kz_fi.1, kz_fi.2.1, kz_fi.2.2] at KF
  refine (show Calls Try.prog 11 #[.slice (some ⟨p3, 0, none⟩) 2 2, .int .i64 1, .int .i64 1] w4 _ from KF).mono ?_
  rintro e w5 ⟨rfl, hb⟩
  have RY5 := Lib.hid (RY4.out.on PIn_ok (by decide) hb)
  have B5 := Lib.hid (B4.out.trans (hb.mono B4.out.size))
  clear hb HR4 B4 RY4 KF
  go_wp2_with fail
  refine (num14_any 0 _).mono ?_
  rintro e wz ⟨rfl, hwz⟩
  obtain rfl := hwz.symm
  clear hwz
  go_wp2_with fail
  refine (num14_any 0 _).mono ?_
  rintro e wz ⟨rfl, hwz⟩
  obtain rfl := hwz.symm
  clear hwz
  obtain ⟨b, off, r0, hq, _, hr0, hw0, qa, ka, qb, kb, e0, _⟩ := RY5.out.get (i := 0) (by decide)
  obtain ⟨b', off', r1, hq', _, hr1, hw1, qa', ka', qb', kb', e1, _⟩ := RY5.out.get (i := 1) (by decide)
  subst hq
  obtain ⟨rfl, rfl⟩ : b = b' ∧ off = off' := by simpa using hq'
  subst e0 e1
  have c0 := row_cell hw0 hr0 (j := 0) (v := .bool true) rfl
  have c7 := row_cell hw0 hr0 (j := 7) (v := .int .u64 5) rfl
  have c17 := row_cell hw1 hr1 (j := 17) (v := .int .u64 2) rfl
  have c0' : w5.cell? ⟨b, off, none⟩ = some (.bool true) := by simpa using c0
  have c7' : w5.cell? ⟨b, off + 7, none⟩ = some (.int .u64 5) := by simpa using c7
  have c7'' : w5.cell? ⟨b, off + 5 + 2, none⟩ = some (.int .u64 5) := c7'
  have c41 : w5.cell? ⟨b, off + 24 + 17, none⟩ = some (.int .u64 2) := by simpa using c17
  have c41' : w5.cell? ⟨b, off + 24 + 14 + 3, none⟩ = some (.int .u64 2) := c41
  have c41'' : w5.cell? ⟨b, off + 41, none⟩ = some (.int .u64 2) := c41
  clear RY5 hr0 hw0 hr1 hw1 hq' c0 c7 c17
  go_wp2_with fail
  have KK := Known_any (h := 2) (k := 1) (by decide) w5
  rw [kz_kn] at KK
  refine KK.mono ?_
  rintro e wz ⟨rfl, hwz⟩
  obtain rfl := hwz.symm
  clear hwz KK
  go_wp2_with fail
  go_ret
  exact ⟨rfl, B5.out⟩
end Go.Proofs.Ytonjkhhihiigfaa
namespace Go.Proofs.Ytonjkhhihiigfaa
set_option maxRecDepth 100000
open Go.RowKit

set_option maxHeartbeats 4000000 in
theorem RefTx_any {w : World} {m : Tg} {q : Option Addr} {k : Nat} (hr : Rd w (.slice q m.data.length k) m.data) (hl : m.data.length ≤ 140737488355328) :
    Calls Try.prog 46 #[.agg (txRow m q m.data.length k).toArray] w fun e w' => ∃ q' k', e = .returned (.agg (txRow m q' m.data.length k').toArray) ∧ BuS w w' (.slice q' m.data.length k') m.data := by
  obtain ⟨i0, hi, hz0, hz1, hz2⟩ := info_parts Try.infoU8
  replace hi := Lib.hid hi
  replace hz0 := Lib.hid hz0
  replace hz1 := Lib.hid hz1
  replace hz2 := Lib.hid hz2
  obtain ⟨D, hD⟩ : ∃ D, m.data = D := ⟨_, rfl⟩
  rw [hD] at hr hl ⊢
  obtain ⟨n, hn⟩ : ∃ n, D.length = n := ⟨_, rfl⟩
  have LN := Lib.hid hn
  rw [hn] at hr hl ⊢
  have b1 : Below w.heap.size w (w.alloc (.cells (txRow m q n k).toArray 54)) := (Below.refl _ _).alloc (Nat.le_refl _) _
  have b2 : Below (w.alloc (.cells (txRow m q n k).toArray 54)).heap.size (w.alloc (.cells (txRow m q n k).toArray 54)) ((w.alloc (.cells (txRow m q n k).toArray 54)).alloc (.cells (txRow tg0 none 0 0).toArray 84)) := (Below.refl _ _).alloc (Nat.le_refl _) _
  have b0 := b1.trans (b2.mono b1.size)
  have K0 := Lib.hid ((TxAt.new w 54 m q n k).on b2)
  have R0 := Lib.hid (TxAt.new (w.alloc (.cells (txRow m q n k).toArray 54)) 84 tg0 none 0 0)
  have hz : (w.alloc (.cells (txRow m q n k).toArray 54)).heap.size = w.heap.size + 1 := by simp
  rw [hz] at R0
  have V0 := Lib.hid (hr.on b0)
  have B0 := Lib.hid b0
  have SZ : Hid (((w.alloc (.cells (txRow m q n k).toArray 54)).alloc (.cells (txRow tg0 none 0 0).toArray 84)).heap.size = w.heap.size + 2) := by show _ = _; simp
  have RM := Lib.hid (fun (W : World) (q : Option Addr) (n k : Nat) => Try.run_txr W m q n k)
  clear hr hn hD b1 b2 b0 hz
  go_enter Try.func46, Try.ntmps46
  go_wp2_with fail
  generalize ((w.alloc (.cells (txRow m q n k).toArray 54)).alloc (.cells (txRow tg0 none 0 0).toArray 84)) = w0 at *
  refine wp_region_held_drew (S := fun W => TxAt W w.heap.size 54 m q n k) (by kernel_rfl) (show TxAt w0.drew w.heap.size 54 m q n k from K0.out) (fun h0 => ?_)
  replace R0 : Hid (TxAt w0.drew (w.heap.size + 1) 84 tg0 none 0 0) := R0.out
  replace V0 : Hid (Rd w0.drew (.slice q n k) D) := V0.out
  replace B0 : Hid (Below w.heap.size w w0.drew) := B0.out.drew
  replace SZ : Hid (w0.drew.heap.size = w.heap.size + 2) := SZ.out
  clear K0
  generalize w0.drew = w0 at *
  refine wpAnyH_take (i := 0) (v := ?_) (by rw [List.getElem?_toArray]; rfl) (by kernel_rfl) (by kernel_rfl) (by kernel_rfl) (by exact fun _ _ _ h => h) (Or.inl ⟨by rfl, ?_⟩) h0 ?_
  rotate_left
  · intro W hW
    obtain ⟨c0, c1, c2, c3, c4, c5, c6, c7, c8, c9⟩ := hW.cells
    go_simp
    all_goals with_reducible rfl
  try simp only [Act.put, List.setIfInBounds_toArray, List.set_cons_zero, List.set_cons_succ]
  refine wpAnyH_take (i := 1) (v := ?_) (by rw [List.getElem?_toArray]; rfl) (by kernel_rfl) (by kernel_rfl) (by kernel_rfl) (by exact fun _ _ _ h => h) (Or.inl ⟨by rfl, ?_⟩) h0 ?_
  rotate_left
  · intro W hW
    obtain ⟨c0, c1, c2, c3, c4, c5, c6, c7, c8, c9⟩ := hW.cells
    go_simp
    all_goals with_reducible rfl
  try simp only [Act.put, List.setIfInBounds_toArray, List.set_cons_zero, List.set_cons_succ]
  refine wpAnyH_take (i := 2) (v := ?_) (by rw [List.getElem?_toArray]; rfl) (by kernel_rfl) (by kernel_rfl) (by kernel_rfl) (by exact fun _ _ _ h => h) (Or.inl ⟨by rfl, ?_⟩) h0 ?_
  rotate_left
  · intro W hW
    obtain ⟨c0, c1, c2, c3, c4, c5, c6, c7, c8, c9⟩ := hW.cells
    go_simp
    all_goals with_reducible rfl
  try simp only [Act.put, List.setIfInBounds_toArray, List.set_cons_zero, List.set_cons_succ]
  refine wpAnyH_take (i := 3) (v := ?_) (by rw [List.getElem?_toArray]; rfl) (by kernel_rfl) (by kernel_rfl) (by kernel_rfl) (by exact fun _ _ _ h => h) (Or.inl ⟨by rfl, ?_⟩) h0 ?_
  rotate_left
  · intro W hW
    obtain ⟨c0, c1, c2, c3, c4, c5, c6, c7, c8, c9⟩ := hW.cells
    go_simp
    all_goals with_reducible rfl
  try simp only [Act.put, List.setIfInBounds_toArray, List.set_cons_zero, List.set_cons_succ]
  refine wpAnyH_take (i := 4) (v := ?_) (by rw [List.getElem?_toArray]; rfl) (by kernel_rfl) (by kernel_rfl) (by kernel_rfl) (by exact fun _ _ _ h => h) (Or.inl ⟨by rfl, ?_⟩) h0 ?_
  rotate_left
  · intro W hW
    obtain ⟨c0, c1, c2, c3, c4, c5, c6, c7, c8, c9⟩ := hW.cells
    go_simp
    all_goals with_reducible rfl
  try simp only [Act.put, List.setIfInBounds_toArray, List.set_cons_zero, List.set_cons_succ]
  refine wpAnyH_take (i := 5) (v := ?_) (by rw [List.getElem?_toArray]; rfl) (by kernel_rfl) (by kernel_rfl) (by kernel_rfl) (by exact fun _ _ _ h => h) (Or.inl ⟨by rfl, ?_⟩) h0 ?_
  rotate_left
  · intro W hW
    obtain ⟨c0, c1, c2, c3, c4, c5, c6, c7, c8, c9⟩ := hW.cells
    go_simp
    all_goals with_reducible rfl
  try simp only [Act.put, List.setIfInBounds_toArray, List.set_cons_zero, List.set_cons_succ]
  refine wpAnyH_take (i := 6) (v := ?_) (by rw [List.getElem?_toArray]; rfl) (by kernel_rfl) (by kernel_rfl) (by kernel_rfl) (by exact fun _ _ _ h => h) (Or.inl ⟨by rfl, ?_⟩) h0 ?_
  rotate_left
  · intro W hW
    obtain ⟨c0, c1, c2, c3, c4, c5, c6, c7, c8, c9⟩ := hW.cells
    go_simp
    all_goals with_reducible rfl
  try simp only [Act.put, List.setIfInBounds_toArray, List.set_cons_zero, List.set_cons_succ]
  refine wpAnyH_take (i := 7) (v := ?_) (by rw [List.getElem?_toArray]; rfl) (by kernel_rfl) (by kernel_rfl) (by kernel_rfl) (by exact fun _ _ _ h => h) (Or.inl ⟨by rfl, ?_⟩) h0 ?_
  rotate_left
  · intro W hW
    obtain ⟨c0, c1, c2, c3, c4, c5, c6, c7, c8, c9⟩ := hW.cells
    go_simp
    all_goals with_reducible rfl
  try simp only [Act.put, List.setIfInBounds_toArray, List.set_cons_zero, List.set_cons_succ]
  refine wpAnyH_take (i := 8) (v := ?_) (by rw [List.getElem?_toArray]; rfl) (by kernel_rfl) (by kernel_rfl) (by kernel_rfl) (by exact fun _ _ _ h => h) (Or.inl ⟨by rfl, ?_⟩) h0 ?_
  rotate_left
  · intro W hW
    obtain ⟨c0, c1, c2, c3, c4, c5, c6, c7, c8, c9⟩ := hW.cells
    go_simp
    all_goals with_reducible rfl
  try simp only [Act.put, List.setIfInBounds_toArray, List.set_cons_zero, List.set_cons_succ]
  refine wpAnyH_take (i := 9) (v := ?_) (by rw [List.getElem?_toArray]; rfl) (by kernel_rfl) (by kernel_rfl) (by kernel_rfl) (by exact fun _ _ _ h => h) (Or.inl ⟨by rfl, ?_⟩) h0 ?_
  rotate_left
  · intro W hW
    obtain ⟨c0, c1, c2, c3, c4, c5, c6, c7, c8, c9⟩ := hW.cells
    go_simp
    all_goals with_reducible rfl
  try simp only [Act.put, List.setIfInBounds_toArray, List.set_cons_zero, List.set_cons_succ]
  refine wpAnyH_take (i := 10) (v := ?_) (by rw [List.getElem?_toArray]; rfl) (by kernel_rfl) (by kernel_rfl) (by kernel_rfl) (by exact fun _ _ _ h => h) (Or.inl ⟨by rfl, ?_⟩) h0 ?_
  rotate_left
  · intro W hW
    obtain ⟨c0, c1, c2, c3, c4, c5, c6, c7, c8, c9⟩ := hW.cells
    go_simp
    all_goals with_reducible rfl
  try simp only [Act.put, List.setIfInBounds_toArray, List.set_cons_zero, List.set_cons_succ]
  refine wpAnyH_take (i := 11) (v := ?_) (by rw [List.getElem?_toArray]; rfl) (by kernel_rfl) (by kernel_rfl) (by kernel_rfl) (by exact fun _ _ _ h => h) (Or.inl ⟨by rfl, ?_⟩) h0 ?_
  rotate_left
  · intro W hW
    obtain ⟨c0, c1, c2, c3, c4, c5, c6, c7, c8, c9⟩ := hW.cells
    go_simp
    all_goals with_reducible rfl
  try simp only [Act.put, List.setIfInBounds_toArray, List.set_cons_zero, List.set_cons_succ]
  refine wpAnyH_take (i := 13) (v := ?_) (by rw [List.getElem?_toArray]; rfl) (by kernel_rfl) (by kernel_rfl) (by kernel_rfl) (by exact fun _ _ _ h => h) (Or.inl ⟨by rfl, ?_⟩) h0 ?_
  rotate_left
  · intro W hW
    obtain ⟨c0, c1, c2, c3, c4, c5, c6, c7, c8, c9⟩ := hW.cells
    go_simp
    all_goals with_reducible rfl
  try simp only [Act.put, List.setIfInBounds_toArray, List.set_cons_zero, List.set_cons_succ]
  refine wpAnyH_take (i := 14) (v := ?_) (by rw [List.getElem?_toArray]; rfl) (by kernel_rfl) (by kernel_rfl) (by kernel_rfl) (by exact fun _ _ _ h => h) (Or.inl ⟨by rfl, ?_⟩) h0 ?_
  rotate_left
  · intro W hW
    obtain ⟨c0, c1, c2, c3, c4, c5, c6, c7, c8, c9⟩ := hW.cells
    go_simp
    all_goals with_reducible rfl
  try simp only [Act.put, List.setIfInBounds_toArray, List.set_cons_zero, List.set_cons_succ]
  refine wpAnyH_ready (rs := [12]) (by kernel_rfl) (by simp) ?_
  refine AllReadyH.cons (by rw [List.getElem?_toArray]; rfl) (fun K hK => ?_) AllReadyH.nil
  rw [if_pos (by rfl)]
  have b3 : Below w0.heap.size w0 (w0.alloc (.cells #[] 5)) := (Below.refl _ _).alloc (Nat.le_refl _) _
  have B3 := Lib.hid b3
  have E3 := Lib.hid (own_empty w0 5 1)
  have V3 := Lib.hid (V0.out.on b3)
  have K3 : TxAt (w0.alloc (.cells #[] 5)) w.heap.size 54 m q n k := TxAt.on h0 b3
  clear b3
  go_wp2_with fail
  refine hK.out _ _ (K3) (fun h3 => ?_)
  clear hK K K3
  try simp only [Act.put, List.setIfInBounds_toArray, List.set_cons_zero, List.set_cons_succ]
  generalize hw3 : (w0.alloc (.cells #[] 5)) = w3 at *
  clear hw3
  refine wpAnyH_ready (rs := [15]) (by kernel_rfl) (by simp) ?_
  refine AllReadyH.cons (by rw [List.getElem?_toArray]; rfl) (fun K hK => ?_) AllReadyH.nil
  rw [if_pos (by rfl)]
  refine wp_append_row _ _ rfl Try.underlying50 hi.out hz0.out hz1.out hz2.out rfl E3.out (V3.out.src (P := Try.prog) Try.underlying50) (by rw [LN.out]; unfold maxLen; omega) (by rw [LN.out]; omega) ?_
  intro q6 k6 w6 own6' grow6' fr6'
  have grow6 : w3.grownBy w6 (Value.slice (some ⟨w0.heap.size, 0, none⟩) 0 0).ownBlock := grow6'
  have own6 : w6.ownsRow 0 5 1 (.slice q6 n k6) n (bc D) := by have := own6'; simp only [LN.out, Nat.zero_add, List.nil_append] at this; exact this
  have G6 : Below w0.heap.size w0 w6 := B3.out.grown grow6 B3.out.size (fun j hj => by simp [Value.ownBlock] at hj; omega)
  have K6 : TxAt w6 w.heap.size 54 m q n k := TxAt.on h0 G6
  have R6 := Lib.hid (R0.out.on G6)
  have B6 := Lib.hid (B0.out.trans (G6.mono B0.out.size))
  have S6 : Hid (BuS w w6 (.slice q6 n k6) D) := by
    refine ⟨by rw [LN.out]; exact own6, fun g hg => ?_, B6.out⟩
    rcases fr6' with e | e
    · have e' : (Value.slice q6 (0 + D.length) k6).ownBlock = (Value.slice (some ⟨w0.heap.size, 0, none⟩) 0 0).ownBlock := e
      have e2 : (Value.slice q6 n k6).ownBlock = (Value.slice q6 (0 + D.length) k6).ownBlock := by cases q6 <;> rfl
      rw [e2, e'] at hg
      have := SZ.out
      simp [Value.ownBlock] at hg; omega
    · have e' : (Value.slice q6 (0 + D.length) k6).ownBlock = some w3.heap.size := e
      have e2 : (Value.slice q6 n k6).ownBlock = (Value.slice q6 (0 + D.length) k6).ownBlock := by cases q6 <;> rfl
      rw [e2, e'] at hg
      have := B3.out.size
      have := SZ.out
      simp at hg; omega
  have N6 : Hid ((Value.slice q6 n k6).ownBlock ≠ some (w.heap.size + 1)) := own_ne own6 R6.out (by decide)
  simp only [LN.out, Nat.zero_add]
  clear own6' grow6' fr6' own6 grow6 G6
  refine hK.out _ _ (K6) (fun h6 => ?_)
  clear hK K K6
  try simp only [Act.put, List.setIfInBounds_toArray, List.set_cons_zero, List.set_cons_succ]
  have hrm := fun W => RM.out W q6 n k6
  refine wpAnyH_take (i := 16) (v := ?_) (by rw [List.getElem?_toArray]; rfl) (by kernel_rfl) (by kernel_rfl) (by kernel_rfl) (by exact fun _ _ _ h => h) (Or.inl ⟨by rfl, ?_⟩) h6 ?_
  rotate_left
  · intro W hW
    obtain ⟨c0, c1, c2, c3, c4, c5, c6, c7, c8, c9⟩ := hW.cells
    go_simp
    all_goals with_reducible rfl
  try simp only [Act.put, List.setIfInBounds_toArray, List.set_cons_zero, List.set_cons_succ]
  refine wpAnyH_ready (rs := [17]) (by kernel_rfl) (by simp) ?_
  refine AllReadyH.cons (by rw [List.getElem?_toArray]; rfl) (fun K hK => ?_) AllReadyH.nil
  rw [if_pos (by rfl)]
  have th := R6.out.there
  have hput := (R6.out.put m q6 n k6).row
  have cS : Chg w6 (w6.setCells (w.heap.size + 1) 0 (txRow m q6 n k6)) [w.heap.size + 1] := chg_setCells _ _ _ (Chg.refl _ _)
  have S7 : Hid (BuS w (w6.setCells (w.heap.size + 1) 0 (txRow m q6 n k6)) (.slice q6 n k6) D) :=
    ⟨own_keep S6.out.own (fun j hj => cS.block j (own_lt S6.out.own hj) (fun hm => by
      obtain rfl : j = w.heap.size + 1 := by simpa using hm
      exact N6.out hj)), S6.out.fresh, below_setCells' (w.heap.size + 1) (by omega) _ _ S6.out.below⟩
  have K7 : TxAt (w6.setCells (w.heap.size + 1) 0 (txRow m q6 n k6)) w.heap.size 54 m q n k := TxAt.chg h6 cS (by simp)
  clear S6 cS N6 hrm
  go_wp2_with fail
  refine hK.out _ _ (K7) (fun h7 => ?_)
  clear hK K K7
  try simp only [Act.put, List.setIfInBounds_toArray, List.set_cons_zero, List.set_cons_succ]
  refine wpAnyH_done (by kernel_rfl) ?_ _
  clear h0 h3 h6 h7
  go_wp2_with fail
  refine bodyPost_ret (v := .agg (txRow m q6 n k6).toArray) (by simp [results, Try.results46, go_sem, hput]) rfl ⟨q6, k6, rfl, by have := S7.out; rw [LN.out] at *; exact this⟩

set_option maxHeartbeats 4000000 in
theorem SameTx_any {w : World} {m : Tg} {q q' : Option Addr} {k k' : Nat} (hr : Rd w (.slice q m.data.length k) m.data) (hr' : Rd w (.slice q' m.data.length k') m.data) :
    Calls Try.prog 45 #[.agg (txRow m q m.data.length k).toArray, .agg (txRow m q' m.data.length k').toArray] w fun e w' => e = .returned (.bool true) ∧ Below w.heap.size w w' := by
  obtain ⟨D, hD⟩ : ∃ D, m.data = D := ⟨_, rfl⟩
  rw [hD] at hr hr' ⊢
  obtain ⟨n, hn⟩ : ∃ n, D.length = n := ⟨_, rfl⟩
  rw [hn] at hr hr' ⊢
  have b1 : Below w.heap.size w (w.alloc (.cells (txRow m q n k).toArray 84)) := (Below.refl _ _).alloc (Nat.le_refl _) _
  have b2 : Below (w.alloc (.cells (txRow m q n k).toArray 84)).heap.size (w.alloc (.cells (txRow m q n k).toArray 84)) ((w.alloc (.cells (txRow m q n k).toArray 84)).alloc (.cells (txRow m q' n k').toArray 84)) := (Below.refl _ _).alloc (Nat.le_refl _) _
  have b0 := b1.trans (b2.mono b1.size)
  have K0 := ((TxAt.new w 84 m q n k).on b2)
  have K1 := (TxAt.new (w.alloc (.cells (txRow m q n k).toArray 84)) 84 m q' n k')
  have hz : (w.alloc (.cells (txRow m q n k).toArray 84)).heap.size = w.heap.size + 1 := by simp
  rw [hz] at K1
  have V0 := hr.on b0
  have V1 := hr'.on b0
  have B0 := Lib.hid b0
  obtain ⟨sX, hsX⟩ : ∃ sX, strOfNums D = sX := ⟨_, rfl⟩
  obtain ⟨c0, c1, c2, c3, c4, c5, c6, c7, c8, c9⟩ := K0.cells
  obtain ⟨d0, d1, d2, d3, d4, d5, d6, d7, d8, d9⟩ := K1.cells
  have ds : (sX.toList == sX.toList) = true := by simp
  have sc : (convert 50 9 (.slice q n k)).run Try.prog ((w.alloc (.cells (txRow m q n k).toArray 84)).alloc (.cells (txRow m q' n k').toArray 84)) = .ok (.string sX) ((w.alloc (.cells (txRow m q n k).toArray 84)).alloc (.cells (txRow m q' n k').toArray 84)) := by rw [← hsX]; exact V0.str (P := Try.prog) Try.underlying50 Try.underlying5 Try.underlying9
  have sd : (convert 50 9 (.slice q' n k')).run Try.prog ((w.alloc (.cells (txRow m q n k).toArray 84)).alloc (.cells (txRow m q' n k').toArray 84)) = .ok (.string sX) ((w.alloc (.cells (txRow m q n k).toArray 84)).alloc (.cells (txRow m q' n k').toArray 84)) := by rw [← hsX]; exact V1.str (P := Try.prog) Try.underlying50 Try.underlying5 Try.underlying9
  clear hr hr' hn hD b1 b2 b0 K0 K1 hz V0 V1 hsX
  go_enter Try.func45, Try.ntmps45
  go_wp2_with fail
  go_ret
  exact ⟨rfl, B0.out⟩

end Go.Proofs.Ytonjkhhihiigfaa
namespace Go.Proofs.Ytonjkhhihiigfaa
set_option maxRecDepth 100000
open Go.RowKit



set_option maxHeartbeats 8000000 in
theorem Ref9_any {w : World} {x : Inp} {qm qt : Option Addr} {km kt : Nat} (hr : Rd w (.slice qm x.m.data.length km) x.m.data) (hm : x.m.data.length ≤ 140737488355328) (ht : Rd w (.slice qt x.t.data.length kt) x.t.data) (hn : x.t.data.length ≤ 140737488355328) :
    Calls Try.prog 32 #[.agg (inRow x qm x.m.data.length km qt x.t.data.length kt).toArray] w fun e w' => ∃ qm' km' qt' kt', e = .returned (.agg (inRow x qm' x.m.data.length km' qt' x.t.data.length kt').toArray) ∧ Rd w' (.slice qm' x.m.data.length km') x.m.data ∧ Rd w' (.slice qt' x.t.data.length kt') x.t.data ∧ Below w.heap.size w w' := by
  have HM : Hid (∀ W, Below w.heap.size w W → Rd W (.slice qm x.m.data.length km) x.m.data) := fun W hb => hr.on hb
  have HT : Hid (∀ W, Below w.heap.size w W → Rd W (.slice qt x.t.data.length kt) x.t.data) := fun W hb => ht.on hb
  have b1 : Below w.heap.size w (w.alloc (.cells (inRow x qm x.m.data.length km qt x.t.data.length kt).toArray 56)) := (Below.refl _ _).alloc (Nat.le_refl _) _
  have b2 : Below (w.alloc (.cells (inRow x qm x.m.data.length km qt x.t.data.length kt).toArray 56)).heap.size (w.alloc (.cells (inRow x qm x.m.data.length km qt x.t.data.length kt).toArray 56)) ((w.alloc (.cells (inRow x qm x.m.data.length km qt x.t.data.length kt).toArray 56)).alloc (.cells (inRow inp0 none 0 0 none 0 0).toArray 86)) := (Below.refl _ _).alloc (Nat.le_refl _) _
  have hz : (w.alloc (.cells (inRow x qm x.m.data.length km qt x.t.data.length kt).toArray 56)).heap.size = w.heap.size + 1 := by simp
  have K0 := Lib.hid ((InAt.new w 56 x qm x.m.data.length km qt x.t.data.length kt).on b2)
  have R0 := InAt.new (w.alloc (.cells (inRow x qm x.m.data.length km qt x.t.data.length kt).toArray 56)) 86 inp0 none 0 0 none 0 0
  rw [hz] at R0
  have R0 := Lib.hid R0
  have B0 := Lib.hid (b1.trans (b2.mono b1.size))
  have SZ : Hid (((w.alloc (.cells (inRow x qm x.m.data.length km qt x.t.data.length kt).toArray 56)).alloc (.cells (inRow inp0 none 0 0 none 0 0).toArray 86)).heap.size = w.heap.size + 2) := by show _ = _; simp
  have RM := Lib.hid (fun (W : World) (q1 q2 : Option Addr) (k1 k2 : Nat) => Try.run_inr W x q1 x.m.data.length k1 q2 x.t.data.length k2)
  have h24 := inRow_len x qm x.m.data.length km qt x.t.data.length kt
  clear hr ht b1 b2 hz
  go_enter Try.func32, Try.ntmps32
  go_wp2_with fail
  generalize ((w.alloc (.cells (inRow x qm x.m.data.length km qt x.t.data.length kt).toArray 56)).alloc (.cells (inRow inp0 none 0 0 none 0 0).toArray 86)) = wa at *
  have B1 : Hid (Below w.heap.size w wa.drew) := Lib.hid B0.out.drew
  have R1 := Lib.hid (R0.out.on (Below.refl _ _).drew)
  have SZ1 : Hid (wa.drew.heap.size = w.heap.size + 2) := SZ.out
  have K1 : InAt wa.drew w.heap.size 56 x qm x.m.data.length km qt x.t.data.length kt := K0.out.on (Below.refl _ _).drew
  clear K0 R0 B0 SZ
  refine wp_region_held_drew (S := fun W => InAt W w.heap.size 56 x qm x.m.data.length km qt x.t.data.length kt) (by kernel_rfl) (K1) (fun h0 => ?_)
  generalize wa.drew = w1 at *
  refine wpAnyH_take (i := 0) (v := ?_) (by rw [List.getElem?_toArray]; rfl) (by kernel_rfl) (by kernel_rfl) (by kernel_rfl) (by exact fun _ _ _ h => h) (Or.inl ⟨by rfl, ?_⟩) h0 ?_
  rotate_left
  · intro W hW
    obtain ⟨c0, c1, c2, c3, c4⟩ := hW.cells
    have rm := hW.rowm
    have rt := hW.rowt
    go_simp
    all_goals with_reducible rfl
  try simp only [Act.put, List.setIfInBounds_toArray, List.set_cons_zero, List.set_cons_succ]
  refine wpAnyH_take (i := 1) (v := ?_) (by rw [List.getElem?_toArray]; rfl) (by kernel_rfl) (by kernel_rfl) (by kernel_rfl) (by exact fun _ _ _ h => h) (Or.inl ⟨by rfl, ?_⟩) h0 ?_
  rotate_left
  · intro W hW
    obtain ⟨c0, c1, c2, c3, c4⟩ := hW.cells
    have rm := hW.rowm
    have rt := hW.rowt
    go_simp
    all_goals with_reducible rfl
  try simp only [Act.put, List.setIfInBounds_toArray, List.set_cons_zero, List.set_cons_succ]
  refine wpAnyH_take (i := 2) (v := ?_) (by rw [List.getElem?_toArray]; rfl) (by kernel_rfl) (by kernel_rfl) (by kernel_rfl) (by exact fun _ _ _ h => h) (Or.inl ⟨by rfl, ?_⟩) h0 ?_
  rotate_left
  · intro W hW
    obtain ⟨c0, c1, c2, c3, c4⟩ := hW.cells
    have rm := hW.rowm
    have rt := hW.rowt
    go_simp
    all_goals with_reducible rfl
  try simp only [Act.put, List.setIfInBounds_toArray, List.set_cons_zero, List.set_cons_succ]
  refine wpAnyH_take (i := 3) (v := ?_) (by rw [List.getElem?_toArray]; rfl) (by kernel_rfl) (by kernel_rfl) (by kernel_rfl) (by exact fun _ _ _ h => h) (Or.inl ⟨by rfl, ?_⟩) h0 ?_
  rotate_left
  · intro W hW
    obtain ⟨c0, c1, c2, c3, c4⟩ := hW.cells
    have rm := hW.rowm
    have rt := hW.rowt
    go_simp
    all_goals with_reducible rfl
  try simp only [Act.put, List.setIfInBounds_toArray, List.set_cons_zero, List.set_cons_succ]
  refine wpAnyH_take (i := 4) (v := ?_) (by rw [List.getElem?_toArray]; rfl) (by kernel_rfl) (by kernel_rfl) (by kernel_rfl) (by exact fun _ _ _ h => h) (Or.inl ⟨by rfl, ?_⟩) h0 ?_
  rotate_left
  · intro W hW
    obtain ⟨c0, c1, c2, c3, c4⟩ := hW.cells
    have rm := hW.rowm
    have rt := hW.rowt
    go_simp
    all_goals with_reducible rfl
  try simp only [Act.put, List.setIfInBounds_toArray, List.set_cons_zero, List.set_cons_succ]
  refine wpAnyH_take (i := 5) (v := ?_) (by rw [List.getElem?_toArray]; rfl) (by kernel_rfl) (by kernel_rfl) (by kernel_rfl) (by exact fun _ _ _ h => h) (Or.inl ⟨by rfl, ?_⟩) h0 ?_
  rotate_left
  · intro W hW
    obtain ⟨c0, c1, c2, c3, c4⟩ := hW.cells
    have rm := hW.rowm
    have rt := hW.rowt
    go_simp
    all_goals with_reducible rfl
  try simp only [Act.put, List.setIfInBounds_toArray, List.set_cons_zero, List.set_cons_succ]
  refine wpAnyH_take (i := 7) (v := ?_) (by rw [List.getElem?_toArray]; rfl) (by kernel_rfl) (by kernel_rfl) (by kernel_rfl) (by exact fun _ _ _ h => h) (Or.inl ⟨by rfl, ?_⟩) h0 ?_
  rotate_left
  · intro W hW
    obtain ⟨c0, c1, c2, c3, c4⟩ := hW.cells
    have rm := hW.rowm
    have rt := hW.rowt
    go_simp
    all_goals with_reducible rfl
  try simp only [Act.put, List.setIfInBounds_toArray, List.set_cons_zero, List.set_cons_succ]
  refine wpAnyH_take (i := 8) (v := ?_) (by rw [List.getElem?_toArray]; rfl) (by kernel_rfl) (by kernel_rfl) (by kernel_rfl) (by exact fun _ _ _ h => h) (Or.inl ⟨by rfl, ?_⟩) h0 ?_
  rotate_left
  · intro W hW
    obtain ⟨c0, c1, c2, c3, c4⟩ := hW.cells
    have rm := hW.rowm
    have rt := hW.rowt
    go_simp
    all_goals with_reducible rfl
  try simp only [Act.put, List.setIfInBounds_toArray, List.set_cons_zero, List.set_cons_succ]
  refine wpAnyH_ready (rs := [6]) (by kernel_rfl) (by simp) ?_
  refine AllReadyH.cons (by rw [List.getElem?_toArray]; rfl) (fun K hK => ?_) AllReadyH.nil
  rw [if_pos (by rfl)]
  go_wp2_with fail
  refine (RefMessage_any (HM.out _ B1.out) hm).mono ?_
  rintro e w2 ⟨q2, k2, rfl, hs⟩
  have K2 := h0.on hs.below
  have R2 := Lib.hid (R1.out.on hs.below)
  have M2 := Lib.hid hs.rd
  have F2 : Hid (∀ g, (Value.slice q2 x.m.data.length k2).ownBlock = some g → w1.heap.size ≤ g) := hs.fresh
  have B2 := Lib.hid (B1.out.trans (hs.below.mono B1.out.size))
  have Z2 : Hid (w1.heap.size ≤ w2.heap.size) := hs.below.size
  clear hs R1 B1
  go_wp2_with fail
  refine hK.out _ _ (K2) (fun h2 => ?_)
  clear hK K
  try simp only [Act.put, List.setIfInBounds_toArray, List.set_cons_zero, List.set_cons_succ]
  clear K2
  refine wpAnyH_ready (rs := [9]) (by kernel_rfl) (by simp) ?_
  refine AllReadyH.cons (by rw [List.getElem?_toArray]; rfl) (fun K hK => ?_) AllReadyH.nil
  rw [if_pos (by rfl)]
  go_wp2_with fail
  refine (RefTx_any (HT.out _ B2.out) hn).mono ?_
  rintro e w3 ⟨q3, k3, rfl, hs⟩
  have K3 := h2.on hs.below
  have R3 := Lib.hid (R2.out.on hs.below)
  have M3 := Lib.hid (M2.out.on hs.below)
  have T3 := Lib.hid hs.rd
  have F3 : Hid (∀ g, (Value.slice q3 x.t.data.length k3).ownBlock = some g → w1.heap.size ≤ g) := fun g hg => Nat.le_trans Z2.out (hs.fresh g hg)
  have B3 := Lib.hid (B2.out.trans (hs.below.mono B2.out.size))
  clear hs R2 B2 M2 Z2
  go_wp2_with fail
  refine hK.out _ _ (K3) (fun h3 => ?_)
  clear hK K
  try simp only [Act.put, List.setIfInBounds_toArray, List.set_cons_zero, List.set_cons_succ]
  clear K3
  have hrm := fun W => RM.out W q2 q3 k2 k3
  refine wpAnyH_take (i := 10) (v := ?_) (by rw [List.getElem?_toArray]; rfl) (by kernel_rfl) (by kernel_rfl) (by kernel_rfl) (by exact fun _ _ _ h => h) (Or.inl ⟨by rfl, ?_⟩) h3 ?_
  rotate_left
  · intro W hW
    have hrm1 := hrm W
    go_simp
    all_goals with_reducible rfl
  try simp only [Act.put, List.setIfInBounds_toArray, List.set_cons_zero, List.set_cons_succ]
  refine wpAnyH_ready (rs := [11]) (by kernel_rfl) (by simp) ?_
  refine AllReadyH.cons (by rw [List.getElem?_toArray]; rfl) (fun K hK => ?_) AllReadyH.nil
  rw [if_pos (by rfl)]
  have th := R3.out.there
  have hput := (R3.out.put x q2 x.m.data.length k2 q3 x.t.data.length k3).row
  have cS : Chg w3 (w3.setCells (w.heap.size + 1) 0 (inRow x q2 x.m.data.length k2 q3 x.t.data.length k3)) [w.heap.size + 1] := chg_setCells _ _ _ (Chg.refl _ _)
  have M4 : Hid (Rd (w3.setCells (w.heap.size + 1) 0 (inRow x q2 x.m.data.length k2 q3 x.t.data.length k3)) (.slice q2 x.m.data.length k2) x.m.data) := M3.out.chg cS (fun _ g hg _ hm => by
    obtain rfl : g = w.heap.size + 1 := by simpa using hm
    have := F2.out _ hg
    have := SZ1.out
    omega)
  have T4 : Hid (Rd (w3.setCells (w.heap.size + 1) 0 (inRow x q2 x.m.data.length k2 q3 x.t.data.length k3)) (.slice q3 x.t.data.length k3) x.t.data) := T3.out.chg cS (fun _ g hg _ hm => by
    obtain rfl : g = w.heap.size + 1 := by simpa using hm
    have := F3.out _ hg
    have := SZ1.out
    omega)
  have B4 : Hid (Below w.heap.size w (w3.setCells (w.heap.size + 1) 0 (inRow x q2 x.m.data.length k2 q3 x.t.data.length k3))) := below_setCells' (w.heap.size + 1) (by omega) _ _ B3.out
  have K4 : InAt (w3.setCells (w.heap.size + 1) 0 (inRow x q2 x.m.data.length k2 q3 x.t.data.length k3)) w.heap.size 56 x qm x.m.data.length km qt x.t.data.length kt := InAt.chg h3 cS (by simp)
  have h24' := inRow_len x q2 x.m.data.length k2 q3 x.t.data.length k3
  clear cS hrm
  go_wp2_with fail
  refine hK.out _ _ (K4) (fun h4 => ?_)
  clear hK K
  try simp only [Act.put, List.setIfInBounds_toArray, List.set_cons_zero, List.set_cons_succ]
  clear K4
  refine wpAnyH_done (by kernel_rfl) ?_ _
  clear h0 h2 h3 h4
  go_wp2_with fail
  refine bodyPost_ret (v := .agg (inRow x q2 x.m.data.length k2 q3 x.t.data.length k3).toArray) (by simp [results, Try.results32, go_sem, hput]) rfl ⟨q2, k2, q3, k3, rfl, M4.out, T4.out, B4.out⟩

set_option maxHeartbeats 8000000 in
theorem Same9_any {w : World} {x : Inp} {qm qt qm2 qt2 : Option Addr} {km kt km2 kt2 : Nat} (hr : Rd w (.slice qm x.m.data.length km) x.m.data) (ht : Rd w (.slice qt x.t.data.length kt) x.t.data) (hr2 : Rd w (.slice qm2 x.m.data.length km2) x.m.data) (ht2 : Rd w (.slice qt2 x.t.data.length kt2) x.t.data) :
    Calls Try.prog 31 #[.agg (inRow x qm x.m.data.length km qt x.t.data.length kt).toArray, .agg (inRow x qm2 x.m.data.length km2 qt2 x.t.data.length kt2).toArray] w fun e w' => e = .returned (.bool true) ∧ Below w.heap.size w w' := by
  have b1 : Below w.heap.size w (w.alloc (.cells (inRow x qm x.m.data.length km qt x.t.data.length kt).toArray 86)) := (Below.refl _ _).alloc (Nat.le_refl _) _
  have b2 : Below (w.alloc (.cells (inRow x qm x.m.data.length km qt x.t.data.length kt).toArray 86)).heap.size (w.alloc (.cells (inRow x qm x.m.data.length km qt x.t.data.length kt).toArray 86)) ((w.alloc (.cells (inRow x qm x.m.data.length km qt x.t.data.length kt).toArray 86)).alloc (.cells (inRow x qm2 x.m.data.length km2 qt2 x.t.data.length kt2).toArray 86)) := (Below.refl _ _).alloc (Nat.le_refl _) _
  have b0 := b1.trans (b2.mono b1.size)
  have K0 := Lib.hid ((InAt.new w 86 x qm x.m.data.length km qt x.t.data.length kt).on b2)
  have K1 := InAt.new (w.alloc (.cells (inRow x qm x.m.data.length km qt x.t.data.length kt).toArray 86)) 86 x qm2 x.m.data.length km2 qt2 x.t.data.length kt2
  have hz : (w.alloc (.cells (inRow x qm x.m.data.length km qt x.t.data.length kt).toArray 86)).heap.size = w.heap.size + 1 := by simp
  rw [hz] at K1
  have K1 := Lib.hid K1
  have SM := Lib.hid (SameMessage_any (hr.on b0) (hr2.on b0))
  have ST := Lib.hid (fun (W : World) (hb : Below w.heap.size w W) => SameTx_any (ht.on hb) (ht2.on hb))
  have B0 := Lib.hid b0
  obtain ⟨c0, c1, c2, c3, c4⟩ := K0.out.cells
  obtain ⟨d0, d1, d2, d3, d4⟩ := K1.out.cells
  have rm := K0.out.rowm
  have rm2 := K1.out.rowm
  have lm := mgRow_len x.m qm x.m.data.length km
  have lm2 := mgRow_len x.m qm2 x.m.data.length km2
  have lt := txRow_len x.t qt x.t.data.length kt
  have lt2 := txRow_len x.t qt2 x.t.data.length kt2
  have db : (x.dep == x.dep) = true := by simp
  clear hr ht hr2 ht2 b1 b2 b0 hz
  go_enter Try.func31, Try.ntmps31
  go_wp2_with fail
  generalize ((w.alloc (.cells (inRow x qm x.m.data.length km qt x.t.data.length kt).toArray 86)).alloc (.cells (inRow x qm2 x.m.data.length km2 qt2 x.t.data.length kt2).toArray 86)) = w0 at *
  refine SM.out.mono ?_
  rintro e w1 ⟨rfl, hb⟩
  have B1 := Lib.hid (B0.out.trans (hb.mono B0.out.size))
  have rt := (K0.out.on hb).rowt
  have rt2 := (K1.out.on hb).rowt
  clear hb K0 K1 B0 SM c0 c1 c2 c3 c4 d0 d1 d2 d3 d4 rm rm2
  go_wp2_with fail
  refine (ST.out _ B1.out).mono ?_
  rintro e w2 ⟨rfl, hb⟩
  have B2 := Lib.hid (B1.out.trans (hb.mono B1.out.size))
  clear hb B1
  go_wp2_with fail
  go_ret
  exact ⟨rfl, B2.out⟩
end Go.Proofs.Ytonjkhhihiigfaa
