/-
  OracleNil: the walk. No oracle, and one that nobody made: each call tells so.
-/
import Derived.Test.YtppaallnanodhaaGreatDoorOrLight
import Derived.Test.YtppaallnanodhaaGreatDoorOrKnows
namespace Go.Proofs.YtppaallnanodhaaGreatDoor
set_option maxRecDepth 100000
open Go.RowKit

def act0 : List Value := [.int .i64 0, .int .i64 0, .int .i64 0, .int .i64 0, .int .u64 0] ++ (hc zero32 ++ ([.bool false] ++ (in0 ++ wi0)))
@[go_sem ↓] theorem Tryz.slice_act (ps : Array (Nat × Value)) : Instr.buildSlice 42 1 ps = rowNew 42 ps := rfl
@[go_sem] theorem Tryz.run_slice_act (w : World) (xs : List Value) (hx : xs.length = 65) :
    (rowNew 42 #[(0, .agg xs.toArray)]).run Tryz.prog w = .ok (.slice (some ⟨w.heap.size, 0, none⟩) 1 1) (w.alloc (.cells xs.toArray 40)) :=
  run_buildSlice_one w Tryz.underlying42 (by kernel_rfl) (show (zeroValue 40).run Tryz.prog w = .ok (.agg act0.toArray) w by kernel_rfl) (n := 65) (by decide) (by decide) hx
def orz : List Value := [.int .i64 0, .int .i64 0, .int .i64 0] ++ (hc zero32 ++ [.slice none 0 0, .slice none 0 0, .slice none 0 0, .int .i64 0])
theorem Tryz.run_orz (w : World) : (rowBuild 86 #[]).run Tryz.prog w = .ok (.agg orz.toArray) w := by
  unfold rowBuild; kernel_rfl
structure NSt (w W : World) (b : Nat) (cs : List Value) (v : Value) : Prop where
  below : Below w.heap.size w W
  blk : W.heap[b]? = some (.cells cs.toArray 40 (0, 0))
  nil : NilO W v
theorem NSt.on {w W W' : World} {b : Nat} {cs : List Value} {v : Value} (h : NSt w W b cs v) (hb : Below W.heap.size W W') : NSt w W' b cs v :=
  ⟨h.below.trans (hb.mono h.below.size), blk_on h.blk hb, h.nil.on hb⟩
theorem NSt.who {w W : World} {b : Nat} {cs : List Value} {v : Value} (h : NSt w W b cs v) {x : Int} (e : cs[4]? = some (.int .u64 x)) : W.cell? ⟨b, 4, none⟩ = some (.int .u64 x) := at_row h.blk e
theorem NSt.row {w W : World} {b : Nat} {cs : List Value} {v : Value} {F : List Int} (h : NSt w W b cs v) (hx : AcV cs F) : rowOf W b 5 32 = hc F := (part_row h.blk 5 32).trans hx.h
theorem z_row {W : World} {b : Nat} (h : W.heap[b]? = some (.cells (hc zero32).toArray 24 (0, 0))) : rowOf W b 0 32 = hc zero32 := by
  rw [rowOf_block h]
  simp [List.take_of_length_le (show (hc zero32).length ≤ 32 by rw [hcz_len]; exact Nat.le_refl _)]

set_option maxHeartbeats 8000000 in
theorem OrNil_walk {w : World} {cs : List Value} {F : List Int} (hx : AcV cs F) :
    Calls Tryz.prog 3 #[.agg cs.toArray] w fun e w' => e = .returned (.bool true) ∧ Below w.heap.size w w' := by
  have HX := Lib.hid hx
  obtain ⟨who, hwho⟩ := hx.who
  have Hw := Lib.hid hwho
  have hF := hx.hl
  have hl := hx.len
  have HB := Lib.hid (heap_alloc_last w (.cells cs.toArray 40))
  have cr : rowOf (w.alloc (.cells cs.toArray 40)) w.heap.size 0 65 = cs := new_row hl
  have hpr := pr0_ok
  have B0 := Lib.hid ((Below.refl w.heap.size w).alloc (Nat.le_refl _) (.cells cs.toArray 40))
  have HL : Hid (((w.alloc (.cells cs.toArray 40)).alloc (.cells cs.toArray 40)).heap[w.heap.size + 1]? = some (.cells cs.toArray 40 (0, 0))) := by
    have h := heap_alloc_last (w.alloc (.cells cs.toArray 40)) (.cells cs.toArray 40)
    rw [show (w.alloc (.cells cs.toArray 40)).heap.size = w.heap.size + 1 by simp] at h
    exact h
  clear hx hwho
  go_enter Tryz.func3, Tryz.ntmps3
  go_wp2_with fail
  refine (Light18_any HX.out HL.out).mono ?_
  rintro e w1 ⟨b, rfl, hb1⟩
  have hb2 : Below (w.alloc (.cells cs.toArray 40)).heap.size (w.alloc (.cells cs.toArray 40)) w1 := ((Below.refl _ _).alloc (Nat.le_refl _) (.cells cs.toArray 40)).trans (hb1.mono (by simp))
  have B1 := Lib.hid (B0.out.trans (hb2.mono B0.out.size))
  have HB1 := Lib.hid (blk_on HB.out hb2)
  clear hb1 hb2 HB cr B0
  generalize w.heap.size = b0 at HB1 ⊢
  cases b
  · go_wp2_with fail
    refine (knows_any _).mono ?_
    rintro e w2 ⟨rfl, hb2⟩
    go_wp2_with fail
    go_ret
    exact ⟨rfl, B1.out.trans (hb2.mono B1.out.size)⟩
  have S0 : Hid (NSt w w1 b0 cs (.pointer none)) := ⟨B1.out, HB1.out, .inl rfl⟩
  clear B1 HB1
  have c4 := S0.out.who Hw.out
  have cr := S0.out.row HX.out
  have hor := Tryz.run_orz
  go_wp2_with fail
  refine wp_loop_rounds 3 ?_
  rw [rounds_succ]
  go_wp2_with fail
  refine (Propose_nil S0.out.nil (n := 1) (k := 1) (who := who) (F := F)).mono ?_
  rintro e w1_1 ⟨rfl, hb⟩
  have S1_1 := Lib.hid (S0.out.on hb)
  clear S0 hb c4 cr
  have c4 := S1_1.out.who Hw.out
  have cr := S1_1.out.row HX.out
  go_wp2_with fail
  refine (Challenge_nil S1_1.out.nil (n := 1) (k := 0) (d := 1) (who := who)).mono ?_
  rintro e w1_2 ⟨rfl, hb⟩
  have S1_2 := Lib.hid (S1_1.out.on hb)
  clear S1_1 hb c4 cr
  have c4 := S1_2.out.who Hw.out
  have cr := S1_2.out.row HX.out
  go_wp2_with fail
  refine (Final_nil S1_2.out.nil).mono ?_
  rintro e w1_3 ⟨rfl, hb⟩
  have S1_3 := Lib.hid (S1_2.out.on hb)
  clear S1_2 hb c4 cr
  have c4 := S1_3.out.who Hw.out
  have cr := S1_3.out.row HX.out
  have ct := there_new (w := w1_3) (R := hc zero32) (T := 24) (n := 32) hcz_len
  have hb := set_below (w := w1_3) (R := hc zero32) (S := hc zero32) (T := 24)
  have HZ := Lib.hid (set_block (w := w1_3) (R := hc zero32) (S := hc zero32) (T := 24) rfl)
  have S1_4 := Lib.hid (S1_3.out.on hb)
  clear S1_3 hb c4 cr
  go_wp2_with fail
  generalize (w1_3.alloc (.cells (hc zero32).toArray 24)).setCells w1_3.heap.size 0 (hc zero32) = w1_4 at *
  generalize w1_3.heap.size = bz at *
  clear ct
  have cz : rowOf w1_4 bz 0 32 = hc zero32 := z_row HZ.out
  have c4 := S1_4.out.who Hw.out
  have cr := S1_4.out.row HX.out
  go_wp2_with fail
  refine (Counts_nil S1_4.out.nil).mono ?_
  rintro e w1_5 ⟨rfl, hb⟩
  have HZ2 := Lib.hid (blk_on HZ.out hb)
  clear HZ
  have HZ := HZ2
  clear HZ2 cz
  have cz : rowOf w1_5 bz 0 32 = hc zero32 := z_row HZ.out
  have S1_5 := Lib.hid (S1_4.out.on hb)
  clear S1_4 hb c4 cr
  have c4 := S1_5.out.who Hw.out
  have cr := S1_5.out.row HX.out
  go_wp2_with fail
  refine (Proposal_nil S1_5.out.nil (n := 0)).mono ?_
  rintro e w1_6 ⟨rfl, hb⟩
  have HZ2 := Lib.hid (blk_on HZ.out hb)
  clear HZ
  have HZ := HZ2
  clear HZ2 cz
  have cz : rowOf w1_6 bz 0 32 = hc zero32 := z_row HZ.out
  have S1_6 := Lib.hid (S1_5.out.on hb)
  clear S1_5 hb c4 cr
  have c4 := S1_6.out.who Hw.out
  have cr := S1_6.out.row HX.out
  have ct := there_new (w := w1_6) (R := pr0.row) (T := 54) (n := 69) pr0_ok.len
  have hb := set_below (w := w1_6) (R := pr0.row) (S := pr0.row) (T := 54)
  have HZ2 := Lib.hid (blk_on HZ.out hb)
  clear HZ cz
  have HZ := HZ2
  clear HZ2
  have S1_7 := Lib.hid (S1_6.out.on hb)
  clear S1_6 hb c4 cr
  go_wp2_with fail
  generalize (w1_6.alloc (.cells (pr0.row).toArray 54)).setCells w1_6.heap.size 0 (pr0.row) = w1_7 at *
  clear ct
  have cz : rowOf w1_7 bz 0 32 = hc zero32 := z_row HZ.out
  have c4 := S1_7.out.who Hw.out
  have cr := S1_7.out.row HX.out
  go_wp2_with fail
  refine (Dispute_nil S1_7.out.nil (n := 0)).mono ?_
  rintro e w1_8 ⟨rfl, hb⟩
  have HZ2 := Lib.hid (blk_on HZ.out hb)
  clear HZ
  have HZ := HZ2
  clear HZ2 cz
  have cz : rowOf w1_8 bz 0 32 = hc zero32 := z_row HZ.out
  have S1_8 := Lib.hid (S1_7.out.on hb)
  clear S1_7 hb c4 cr
  have c4 := S1_8.out.who Hw.out
  have cr := S1_8.out.row HX.out
  have ct := there_new (w := w1_8) (R := dis0) (T := 63) (n := 106) dis0_len
  have hb := set_below (w := w1_8) (R := dis0) (S := dis0) (T := 63)
  have HZ2 := Lib.hid (blk_on HZ.out hb)
  clear HZ cz
  have HZ := HZ2
  clear HZ2
  have S1_9 := Lib.hid (S1_8.out.on hb)
  clear S1_8 hb c4 cr
  go_wp2_with fail
  generalize (w1_8.alloc (.cells (dis0).toArray 63)).setCells w1_8.heap.size 0 (dis0) = w1_9 at *
  clear ct
  have cz : rowOf w1_9 bz 0 32 = hc zero32 := z_row HZ.out
  have c4 := S1_9.out.who Hw.out
  have cr := S1_9.out.row HX.out
  go_wp2_with fail
  refine (num_any w1_9 1).mono ?_
  rintro e wn ⟨rfl, hwn⟩
  obtain rfl := hwn.symm
  go_wp2_with fail
  refine (num_any w1_9 1).mono ?_
  rintro e wn ⟨rfl, hwn⟩
  obtain rfl := hwn.symm
  go_wp2_with fail
  refine (Post_nil S1_9.out.nil (n := 1) (d := 0) (who := who) (F := F)).mono ?_
  rintro e w1_10 ⟨rfl, hb⟩
  have HZ2 := Lib.hid (blk_on HZ.out hb)
  clear HZ
  have HZ := HZ2
  clear HZ2 cz
  have cz : rowOf w1_10 bz 0 32 = hc zero32 := z_row HZ.out
  have S1_10 := Lib.hid (S1_9.out.on hb)
  clear S1_9 hb c4 cr
  have c4 := S1_10.out.who Hw.out
  have cr := S1_10.out.row HX.out
  go_wp2_with fail
  refine (num_any w1_10 1).mono ?_
  rintro e wn ⟨rfl, hwn⟩
  obtain rfl := hwn.symm
  go_wp2_with fail
  refine (Choose_nil S1_10.out.nil (n := 1) (d := 0) (who := who) (y := true)).mono ?_
  rintro e w1_11 ⟨rfl, hb⟩
  have HZ2 := Lib.hid (blk_on HZ.out hb)
  clear HZ
  have HZ := HZ2
  clear HZ2 cz
  have cz : rowOf w1_11 bz 0 32 = hc zero32 := z_row HZ.out
  have S1_11 := Lib.hid (S1_10.out.on hb)
  clear S1_10 hb c4 cr
  have c4 := S1_11.out.who Hw.out
  have cr := S1_11.out.row HX.out
  go_wp2_with fail
  refine (num_any w1_11 1).mono ?_
  rintro e wn ⟨rfl, hwn⟩
  obtain rfl := hwn.symm
  go_wp2_with fail
  refine (Prove_nil S1_11.out.nil (n := 1) (d := 0) (who := who)).mono ?_
  rintro e w1_12 ⟨rfl, hb⟩
  have HZ2 := Lib.hid (blk_on HZ.out hb)
  clear HZ
  have HZ := HZ2
  clear HZ2 cz
  have cz : rowOf w1_12 bz 0 32 = hc zero32 := z_row HZ.out
  have S1_12 := Lib.hid (S1_11.out.on hb)
  clear S1_11 hb c4 cr
  have c4 := S1_12.out.who Hw.out
  have cr := S1_12.out.row HX.out
  go_wp2_with fail
  refine (num_any w1_12 1).mono ?_
  rintro e wn ⟨rfl, hwn⟩
  obtain rfl := hwn.symm
  go_wp2_with fail
  refine (Timeout_nil S1_12.out.nil (n := 1) (d := 0)).mono ?_
  rintro e w1_13 ⟨rfl, hb⟩
  have HZ2 := Lib.hid (blk_on HZ.out hb)
  clear HZ
  have HZ := HZ2
  clear HZ2 cz
  have cz : rowOf w1_13 bz 0 32 = hc zero32 := z_row HZ.out
  have S1_13 := Lib.hid (S1_12.out.on hb)
  clear S1_12 hb c4 cr
  have c4 := S1_13.out.who Hw.out
  have cr := S1_13.out.row HX.out
  go_wp2_with fail
  refine (num_any w1_13 1).mono ?_
  rintro e wn ⟨rfl, hwn⟩
  obtain rfl := hwn.symm
  go_wp2_with fail
  refine (Finalise_nil S1_13.out.nil (n := 1) (d := 0)).mono ?_
  rintro e w1_14 ⟨rfl, hb⟩
  have HZ2 := Lib.hid (blk_on HZ.out hb)
  clear HZ
  have HZ := HZ2
  clear HZ2 cz
  have cz : rowOf w1_14 bz 0 32 = hc zero32 := z_row HZ.out
  have S1_14 := Lib.hid (S1_13.out.on hb)
  clear S1_13 hb c4 cr
  have c4 := S1_14.out.who Hw.out
  have cr := S1_14.out.row HX.out
  go_wp2_with fail
  refine (num_any w1_14 1).mono ?_
  rintro e wn ⟨rfl, hwn⟩
  obtain rfl := hwn.symm
  go_wp2_with fail
  refine (Bonds_nil S1_14.out.nil).mono ?_
  rintro e w1_15 ⟨rfl, hb⟩
  have HZ2 := Lib.hid (blk_on HZ.out hb)
  clear HZ
  have HZ := HZ2
  clear HZ2 cz
  have cz : rowOf w1_15 bz 0 32 = hc zero32 := z_row HZ.out
  have S1_15 := Lib.hid (S1_14.out.on hb)
  clear S1_14 hb c4 cr
  have c4 := S1_15.out.who Hw.out
  have cr := S1_15.out.row HX.out
  go_wp2_with fail
  refine (Pays_nil S1_15.out.nil).mono ?_
  rintro e w1_16 ⟨rfl, hb⟩
  have HZ2 := Lib.hid (blk_on HZ.out hb)
  clear HZ
  have HZ := HZ2
  clear HZ2 cz
  have cz : rowOf w1_16 bz 0 32 = hc zero32 := z_row HZ.out
  have S1_16 := Lib.hid (S1_15.out.on hb)
  clear S1_15 hb c4 cr
  have c4 := S1_16.out.who Hw.out
  have cr := S1_16.out.row HX.out
  go_wp2_with fail
  refine (Clone_nil S1_16.out.nil).mono ?_
  rintro e w1_17 ⟨rfl, hb⟩
  have HZ2 := Lib.hid (blk_on HZ.out hb)
  clear HZ
  have HZ := HZ2
  clear HZ2 cz
  have cz : rowOf w1_17 bz 0 32 = hc zero32 := z_row HZ.out
  have S1_17 := Lib.hid (S1_16.out.on hb)
  clear S1_16 hb c4 cr
  have c4 := S1_17.out.who Hw.out
  have cr := S1_17.out.row HX.out
  have hb := (Below.refl w1_17.heap.size w1_17).alloc (Nat.le_refl _) (.cells orz.toArray 86)
  have T0 : Hid (NSt w (w1_17.alloc (.cells orz.toArray 86)) b0 cs (.pointer (some ⟨w1_17.heap.size, 0, none⟩))) := ⟨(S1_17.out.on hb).below, (S1_17.out.on hb).blk, .inr ⟨_, rfl, at_row (heap_alloc_last _ _) rfl⟩⟩
  clear S1_17 hb c4 cr cz HZ
  have c4 := T0.out.who Hw.out
  have cr := T0.out.row HX.out
  go_wp2_with fail
  rw [rounds_succ]
  generalize w1_17.alloc (.cells orz.toArray 86) = x0 at *
  generalize Value.pointer (some ⟨w1_17.heap.size, 0, none⟩) = v0 at *
  go_wp2_with fail
  refine (Propose_nil T0.out.nil (n := 1) (k := 1) (who := who) (F := F)).mono ?_
  rintro e w2_1 ⟨rfl, hb⟩
  have S2_1 := Lib.hid (T0.out.on hb)
  clear T0 hb c4 cr
  have c4 := S2_1.out.who Hw.out
  have cr := S2_1.out.row HX.out
  go_wp2_with fail
  refine (Challenge_nil S2_1.out.nil (n := 1) (k := 0) (d := 1) (who := who)).mono ?_
  rintro e w2_2 ⟨rfl, hb⟩
  have S2_2 := Lib.hid (S2_1.out.on hb)
  clear S2_1 hb c4 cr
  have c4 := S2_2.out.who Hw.out
  have cr := S2_2.out.row HX.out
  go_wp2_with fail
  refine (Final_nil S2_2.out.nil).mono ?_
  rintro e w2_3 ⟨rfl, hb⟩
  have S2_3 := Lib.hid (S2_2.out.on hb)
  clear S2_2 hb c4 cr
  have c4 := S2_3.out.who Hw.out
  have cr := S2_3.out.row HX.out
  have ct := there_new (w := w2_3) (R := hc zero32) (T := 24) (n := 32) hcz_len
  have hb := set_below (w := w2_3) (R := hc zero32) (S := hc zero32) (T := 24)
  have HZ := Lib.hid (set_block (w := w2_3) (R := hc zero32) (S := hc zero32) (T := 24) rfl)
  have S2_4 := Lib.hid (S2_3.out.on hb)
  clear S2_3 hb c4 cr
  go_wp2_with fail
  generalize (w2_3.alloc (.cells (hc zero32).toArray 24)).setCells w2_3.heap.size 0 (hc zero32) = w2_4 at *
  generalize w2_3.heap.size = bz at *
  clear ct
  have cz : rowOf w2_4 bz 0 32 = hc zero32 := z_row HZ.out
  have c4 := S2_4.out.who Hw.out
  have cr := S2_4.out.row HX.out
  go_wp2_with fail
  refine (Counts_nil S2_4.out.nil).mono ?_
  rintro e w2_5 ⟨rfl, hb⟩
  have HZ2 := Lib.hid (blk_on HZ.out hb)
  clear HZ
  have HZ := HZ2
  clear HZ2 cz
  have cz : rowOf w2_5 bz 0 32 = hc zero32 := z_row HZ.out
  have S2_5 := Lib.hid (S2_4.out.on hb)
  clear S2_4 hb c4 cr
  have c4 := S2_5.out.who Hw.out
  have cr := S2_5.out.row HX.out
  go_wp2_with fail
  refine (Proposal_nil S2_5.out.nil (n := 0)).mono ?_
  rintro e w2_6 ⟨rfl, hb⟩
  have HZ2 := Lib.hid (blk_on HZ.out hb)
  clear HZ
  have HZ := HZ2
  clear HZ2 cz
  have cz : rowOf w2_6 bz 0 32 = hc zero32 := z_row HZ.out
  have S2_6 := Lib.hid (S2_5.out.on hb)
  clear S2_5 hb c4 cr
  have c4 := S2_6.out.who Hw.out
  have cr := S2_6.out.row HX.out
  have ct := there_new (w := w2_6) (R := pr0.row) (T := 54) (n := 69) pr0_ok.len
  have hb := set_below (w := w2_6) (R := pr0.row) (S := pr0.row) (T := 54)
  have HZ2 := Lib.hid (blk_on HZ.out hb)
  clear HZ cz
  have HZ := HZ2
  clear HZ2
  have S2_7 := Lib.hid (S2_6.out.on hb)
  clear S2_6 hb c4 cr
  go_wp2_with fail
  generalize (w2_6.alloc (.cells (pr0.row).toArray 54)).setCells w2_6.heap.size 0 (pr0.row) = w2_7 at *
  clear ct
  have cz : rowOf w2_7 bz 0 32 = hc zero32 := z_row HZ.out
  have c4 := S2_7.out.who Hw.out
  have cr := S2_7.out.row HX.out
  go_wp2_with fail
  refine (Dispute_nil S2_7.out.nil (n := 0)).mono ?_
  rintro e w2_8 ⟨rfl, hb⟩
  have HZ2 := Lib.hid (blk_on HZ.out hb)
  clear HZ
  have HZ := HZ2
  clear HZ2 cz
  have cz : rowOf w2_8 bz 0 32 = hc zero32 := z_row HZ.out
  have S2_8 := Lib.hid (S2_7.out.on hb)
  clear S2_7 hb c4 cr
  have c4 := S2_8.out.who Hw.out
  have cr := S2_8.out.row HX.out
  have ct := there_new (w := w2_8) (R := dis0) (T := 63) (n := 106) dis0_len
  have hb := set_below (w := w2_8) (R := dis0) (S := dis0) (T := 63)
  have HZ2 := Lib.hid (blk_on HZ.out hb)
  clear HZ cz
  have HZ := HZ2
  clear HZ2
  have S2_9 := Lib.hid (S2_8.out.on hb)
  clear S2_8 hb c4 cr
  go_wp2_with fail
  generalize (w2_8.alloc (.cells (dis0).toArray 63)).setCells w2_8.heap.size 0 (dis0) = w2_9 at *
  clear ct
  have cz : rowOf w2_9 bz 0 32 = hc zero32 := z_row HZ.out
  have c4 := S2_9.out.who Hw.out
  have cr := S2_9.out.row HX.out
  go_wp2_with fail
  refine (num_any w2_9 1).mono ?_
  rintro e wn ⟨rfl, hwn⟩
  obtain rfl := hwn.symm
  go_wp2_with fail
  refine (num_any w2_9 1).mono ?_
  rintro e wn ⟨rfl, hwn⟩
  obtain rfl := hwn.symm
  go_wp2_with fail
  refine (Post_nil S2_9.out.nil (n := 1) (d := 0) (who := who) (F := F)).mono ?_
  rintro e w2_10 ⟨rfl, hb⟩
  have HZ2 := Lib.hid (blk_on HZ.out hb)
  clear HZ
  have HZ := HZ2
  clear HZ2 cz
  have cz : rowOf w2_10 bz 0 32 = hc zero32 := z_row HZ.out
  have S2_10 := Lib.hid (S2_9.out.on hb)
  clear S2_9 hb c4 cr
  have c4 := S2_10.out.who Hw.out
  have cr := S2_10.out.row HX.out
  go_wp2_with fail
  refine (num_any w2_10 1).mono ?_
  rintro e wn ⟨rfl, hwn⟩
  obtain rfl := hwn.symm
  go_wp2_with fail
  refine (Choose_nil S2_10.out.nil (n := 1) (d := 0) (who := who) (y := true)).mono ?_
  rintro e w2_11 ⟨rfl, hb⟩
  have HZ2 := Lib.hid (blk_on HZ.out hb)
  clear HZ
  have HZ := HZ2
  clear HZ2 cz
  have cz : rowOf w2_11 bz 0 32 = hc zero32 := z_row HZ.out
  have S2_11 := Lib.hid (S2_10.out.on hb)
  clear S2_10 hb c4 cr
  have c4 := S2_11.out.who Hw.out
  have cr := S2_11.out.row HX.out
  go_wp2_with fail
  refine (num_any w2_11 1).mono ?_
  rintro e wn ⟨rfl, hwn⟩
  obtain rfl := hwn.symm
  go_wp2_with fail
  refine (Prove_nil S2_11.out.nil (n := 1) (d := 0) (who := who)).mono ?_
  rintro e w2_12 ⟨rfl, hb⟩
  have HZ2 := Lib.hid (blk_on HZ.out hb)
  clear HZ
  have HZ := HZ2
  clear HZ2 cz
  have cz : rowOf w2_12 bz 0 32 = hc zero32 := z_row HZ.out
  have S2_12 := Lib.hid (S2_11.out.on hb)
  clear S2_11 hb c4 cr
  have c4 := S2_12.out.who Hw.out
  have cr := S2_12.out.row HX.out
  go_wp2_with fail
  refine (num_any w2_12 1).mono ?_
  rintro e wn ⟨rfl, hwn⟩
  obtain rfl := hwn.symm
  go_wp2_with fail
  refine (Timeout_nil S2_12.out.nil (n := 1) (d := 0)).mono ?_
  rintro e w2_13 ⟨rfl, hb⟩
  have HZ2 := Lib.hid (blk_on HZ.out hb)
  clear HZ
  have HZ := HZ2
  clear HZ2 cz
  have cz : rowOf w2_13 bz 0 32 = hc zero32 := z_row HZ.out
  have S2_13 := Lib.hid (S2_12.out.on hb)
  clear S2_12 hb c4 cr
  have c4 := S2_13.out.who Hw.out
  have cr := S2_13.out.row HX.out
  go_wp2_with fail
  refine (num_any w2_13 1).mono ?_
  rintro e wn ⟨rfl, hwn⟩
  obtain rfl := hwn.symm
  go_wp2_with fail
  refine (Finalise_nil S2_13.out.nil (n := 1) (d := 0)).mono ?_
  rintro e w2_14 ⟨rfl, hb⟩
  have HZ2 := Lib.hid (blk_on HZ.out hb)
  clear HZ
  have HZ := HZ2
  clear HZ2 cz
  have cz : rowOf w2_14 bz 0 32 = hc zero32 := z_row HZ.out
  have S2_14 := Lib.hid (S2_13.out.on hb)
  clear S2_13 hb c4 cr
  have c4 := S2_14.out.who Hw.out
  have cr := S2_14.out.row HX.out
  go_wp2_with fail
  refine (num_any w2_14 1).mono ?_
  rintro e wn ⟨rfl, hwn⟩
  obtain rfl := hwn.symm
  go_wp2_with fail
  refine (Bonds_nil S2_14.out.nil).mono ?_
  rintro e w2_15 ⟨rfl, hb⟩
  have HZ2 := Lib.hid (blk_on HZ.out hb)
  clear HZ
  have HZ := HZ2
  clear HZ2 cz
  have cz : rowOf w2_15 bz 0 32 = hc zero32 := z_row HZ.out
  have S2_15 := Lib.hid (S2_14.out.on hb)
  clear S2_14 hb c4 cr
  have c4 := S2_15.out.who Hw.out
  have cr := S2_15.out.row HX.out
  go_wp2_with fail
  refine (Pays_nil S2_15.out.nil).mono ?_
  rintro e w2_16 ⟨rfl, hb⟩
  have HZ2 := Lib.hid (blk_on HZ.out hb)
  clear HZ
  have HZ := HZ2
  clear HZ2 cz
  have cz : rowOf w2_16 bz 0 32 = hc zero32 := z_row HZ.out
  have S2_16 := Lib.hid (S2_15.out.on hb)
  clear S2_15 hb c4 cr
  have c4 := S2_16.out.who Hw.out
  have cr := S2_16.out.row HX.out
  go_wp2_with fail
  refine (Clone_nil S2_16.out.nil).mono ?_
  rintro e w2_17 ⟨rfl, hb⟩
  have HZ2 := Lib.hid (blk_on HZ.out hb)
  clear HZ
  have HZ := HZ2
  clear HZ2 cz
  have cz : rowOf w2_17 bz 0 32 = hc zero32 := z_row HZ.out
  have S2_17 := Lib.hid (S2_16.out.on hb)
  clear S2_16 hb c4 cr
  have c4 := S2_17.out.who Hw.out
  have cr := S2_17.out.row HX.out
  have hb := (Below.refl w2_17.heap.size w2_17).alloc (Nat.le_refl _) (.cells orz.toArray 86)
  have U0 : Hid (NSt w (w2_17.alloc (.cells orz.toArray 86)) b0 cs (.pointer (some ⟨w2_17.heap.size, 0, none⟩))) := ⟨(S2_17.out.on hb).below, (S2_17.out.on hb).blk, .inr ⟨_, rfl, at_row (heap_alloc_last _ _) rfl⟩⟩
  clear S2_17 hb c4 cr cz HZ
  have c4 := U0.out.who Hw.out
  have cr := U0.out.row HX.out
  go_wp2_with fail
  rw [rounds_succ]
  generalize w2_17.alloc (.cells orz.toArray 86) = x1 at *
  go_wp2_with fail
  refine (knows_any _).mono ?_
  rintro e w9 ⟨rfl, hb9⟩
  go_wp2_with fail
  go_ret
  exact ⟨rfl, U0.out.below.trans (hb9.mono U0.out.below.size)⟩
end Go.Proofs.YtppaallnanodhaaGreatDoor
