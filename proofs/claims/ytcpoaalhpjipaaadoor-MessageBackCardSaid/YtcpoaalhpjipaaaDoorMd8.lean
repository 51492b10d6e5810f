/-
  Messages: rows of nine cells; which may be; the law's copies.; The walk of digest.Sum.; Rows of bytes, read with their room; a hash's cells.; The walks of basculeref02: eight, pad.
-/
import Derived.Test.YtcpoaalhpjipaaaDoorMd1
import Derived.Test.YtcpoaalhpjipaaaDoorMd2
import Derived.Test.YtcpoaalhpjipaaaDoorMd3
import Derived.Test.YtcpoaalhpjipaaaDoorMd4
import Derived.Test.YtcpoaalhpjipaaaDoorMd5
namespace Go.Proofs.YtcpoaalhpjipaaaDoor
set_option maxRecDepth 100000
open Go.RowKit

structure Mg where
  no : Int
  se : Int
  ta : Int
  val : W4
  gas : Int
  data : List Int
structure Mg.ok (m : Mg) : Prop where
  no : 0 ≤ m.no ∧ m.no < 18446744073709551616
  se : 0 ≤ m.se ∧ m.se < 18446744073709551616
  ta : 0 ≤ m.ta ∧ m.ta < 18446744073709551616
  val : D4 m.val.a m.val.b m.val.c m.val.d
  gas : 0 ≤ m.gas ∧ m.gas < 18446744073709551616
  data : Bytes m.data
def mg0 : Mg := ⟨0, 0, 0, ⟨0, 0, 0, 0⟩, 0, []⟩
theorem dg0 : Dg 0 := by unfold Dg B; decide
theorem mg0_ok : mg0.ok := ⟨by decide, by decide, by decide, ⟨dg0, dg0, dg0, dg0⟩, by decide, fun x hx => by cases hx⟩
def mgRow (m : Mg) (q : Option Addr) (n k : Nat) : List Value := [.int .u64 m.no, .int .u64 m.se, .int .u64 m.ta, .int .u64 m.val.a, .int .u64 m.val.b, .int .u64 m.val.c, .int .u64 m.val.d, .int .u64 m.gas, .slice q n k]
@[go_sem] theorem mgRow_len (m : Mg) (q : Option Addr) (n k : Nat) : (mgRow m q n k).length = 9 := rfl
theorem mgRow_one (m : Mg) (q : Option Addr) (n k : Nat) : ∀ u ∈ mgRow m q n k, u.oneCell' = true := by
  intro u hu
  simp only [mgRow, List.mem_cons, List.not_mem_nil, or_false] at hu
  rcases hu with rfl | rfl | rfl | rfl | rfl | rfl | rfl | rfl | rfl <;> rfl
/-- The block b holds a message. -/
def MgAt (w : World) (b : Nat) (t : TypeId) (m : Mg) (q : Option Addr) (n k : Nat) : Prop := w.heap[b]? = some (.cells (mgRow m q n k).toArray t (0, 0))
section
variable {w w' : World} {b : Nat} {t : TypeId} {m : Mg} {q : Option Addr} {n k : Nat}
theorem MgAt.lt (h : MgAt w b t m q n k) : b < w.heap.size := (Array.getElem?_eq_some_iff.1 h).1
theorem MgAt.new (w : World) (t : TypeId) (m : Mg) (q : Option Addr) (n k : Nat) : MgAt (w.alloc (.cells (mgRow m q n k).toArray t)) w.heap.size t m q n k := heap_alloc_new w _
theorem MgAt.on (h : MgAt w b t m q n k) (hb : Below w.heap.size w w') : MgAt w' b t m q n k := by
  unfold MgAt at h ⊢
  rw [hb.block _ (Array.getElem?_eq_some_iff.1 h).1]; exact h
theorem MgAt.chg {K : List Nat} (h : MgAt w b t m q n k) (hc : Chg w w' K) (hb : b ∉ K) : MgAt w' b t m q n k := by
  unfold MgAt at h ⊢
  rw [hc.block _ (Array.getElem?_eq_some_iff.1 h).1 hb]; exact h
theorem MgAt.row (h : MgAt w b t m q n k) : rowOf w b 0 9 = mgRow m q n k := by
  rw [rowOf_block h]; rfl
theorem MgAt.there (h : MgAt w b t m q n k) : w.there b 0 9 := fun j hj => by
  refine ⟨?_, Joins.unfrozen_of_block h _⟩
  rw [cell_of_row _ _ _ _ _ _ h]
  simp only [List.getElem?_toArray]
  rw [List.getElem?_eq_getElem (by rw [mgRow_len]; omega)]
  rfl
theorem MgAt.put {m' : Mg} {q' : Option Addr} {n' k' : Nat} (h : MgAt w b t m' q' n' k') (m : Mg) (q : Option Addr) (n k : Nat) : MgAt (w.setCells b 0 (mgRow m q n k)) b t m q n k := by
  unfold MgAt at h ⊢
  have := setCells_block (b := b) (t := t) (fr := (0, 0)) (mgRow m q n k) (o := 0) (w := w) (pre := []) (mid := mgRow m' q' n' k') (post := []) (by simpa using h) rfl rfl
  simpa using this
theorem MgAt.frees (h : MgAt w b t m q n k) (i : Nat) : w.frozen? ⟨b, i, none⟩ = false := Joins.unfrozen_of_block h i
theorem MgAt.cells (h : MgAt w b t m q n k) : w.cell? ⟨b, 0, none⟩ = some (.int .u64 m.no) ∧ w.cell? ⟨b, 1, none⟩ = some (.int .u64 m.se) ∧ w.cell? ⟨b, 2, none⟩ = some (.int .u64 m.ta) ∧ w.cell? ⟨b, 3, none⟩ = some (.int .u64 m.val.a) ∧ w.cell? ⟨b, 4, none⟩ = some (.int .u64 m.val.b) ∧ w.cell? ⟨b, 5, none⟩ = some (.int .u64 m.val.c) ∧ w.cell? ⟨b, 6, none⟩ = some (.int .u64 m.val.d) ∧ w.cell? ⟨b, 7, none⟩ = some (.int .u64 m.gas) ∧ w.cell? ⟨b, 8, none⟩ = some (.slice q n k) :=
  ⟨(Joins.cell_of_block h 0).trans rfl, (Joins.cell_of_block h 1).trans rfl, (Joins.cell_of_block h 2).trans rfl, (Joins.cell_of_block h 3).trans rfl, (Joins.cell_of_block h 4).trans rfl, (Joins.cell_of_block h 5).trans rfl, (Joins.cell_of_block h 6).trans rfl, (Joins.cell_of_block h 7).trans rfl, (Joins.cell_of_block h 8).trans rfl⟩
end
@[go_sem ↓] theorem load9 (a : Addr) : loadCellsFrom a 0 9 #[] = rowLoad a 9 := rfl
@[go_sem] theorem run_storeCells_mg {P : Program} (w : World) (b : Nat) (m : Mg) (q : Option Addr) (n k : Nat) (hw : w.there b 0 9) : (storeCells ⟨b, 0, none⟩ (mgRow m q n k) 0).run P w = .ok () (w.setCells b 0 (mgRow m q n k)) := by
  have := run_storeCells_cells (P := P) b 0 (mgRow m q n k) 0 w (fun j hj => by rw [mgRow_len] at hj; simpa using (hw j hj).1) (fun j hj => by rw [mgRow_len] at hj; simpa using (hw j hj).2) (mgRow_one m q n k)
  simpa using this
@[go_sem ↓] theorem Tryd.zero_mgp (w : World) : (zeroValue 30).run Tryd.prog w = .ok (.agg (mgRow mg0 none 0 0).toArray) w := by kernel_rfl
@[go_sem ↓] theorem Tryd.build_mgp (ps : Array (Nat × Value)) : Instr.build 30 ps = rowBuild 30 ps := rfl
@[go_sem] theorem Tryd.run_mg0p (w : World) : (rowBuild 30 #[]).run Tryd.prog w = .ok (.agg (mgRow mg0 none 0 0).toArray) w := by unfold rowBuild; kernel_rfl
theorem Tryd.run_mgp (w : World) (m : Mg) (q : Option Addr) (n k : Nat) : (rowBuild 30 #[(0, .int .u64 m.no), (1, .int .u64 m.se), (2, .int .u64 m.ta), (3, .agg #[.int .u64 m.val.a, .int .u64 m.val.b, .int .u64 m.val.c, .int .u64 m.val.d]), (4, .int .u64 m.gas), (5, .slice q n k)]).run Tryd.prog w = .ok (.agg (mgRow m q n k).toArray) w := by unfold rowBuild; kernel_rfl
theorem Tryd.run_mg1p (w : World) (z : Int) : (rowBuild 30 #[(0, .int .u64 z)]).run Tryd.prog w = .ok (.agg (mgRow ⟨z, 0, 0, ⟨0, 0, 0, 0⟩, 0, []⟩ none 0 0).toArray) w := by unfold rowBuild; kernel_rfl
@[go_sem ↓] theorem Tryd.zero_mgr (w : World) : (zeroValue 27).run Tryd.prog w = .ok (.agg (mgRow mg0 none 0 0).toArray) w := by kernel_rfl
@[go_sem ↓] theorem Tryd.build_mgr (ps : Array (Nat × Value)) : Instr.build 27 ps = rowBuild 27 ps := rfl
@[go_sem] theorem Tryd.run_mg0r (w : World) : (rowBuild 27 #[]).run Tryd.prog w = .ok (.agg (mgRow mg0 none 0 0).toArray) w := by unfold rowBuild; kernel_rfl
theorem Tryd.run_mgr (w : World) (m : Mg) (q : Option Addr) (n k : Nat) : (rowBuild 27 #[(0, .int .u64 m.no), (1, .int .u64 m.se), (2, .int .u64 m.ta), (3, .agg #[.int .u64 m.val.a, .int .u64 m.val.b, .int .u64 m.val.c, .int .u64 m.val.d]), (4, .int .u64 m.gas), (5, .slice q n k)]).run Tryd.prog w = .ok (.agg (mgRow m q n k).toArray) w := by unfold rowBuild; kernel_rfl
theorem Tryd.run_mg1r (w : World) (z : Int) : (rowBuild 27 #[(0, .int .u64 z)]).run Tryd.prog w = .ok (.agg (mgRow ⟨z, 0, 0, ⟨0, 0, 0, 0⟩, 0, []⟩ none 0 0).toArray) w := by unfold rowBuild; kernel_rfl

set_option maxHeartbeats 1000000 in
theorem RightMessage_any {w : World} {m : Mg} {q : Option Addr} {n k : Nat} (hg : 0 ≤ m.gas ∧ m.gas < 18446744073709551616) (_hn : n ≤ maxLen) :
    Calls Tryd.prog 14 #[.agg (mgRow m q n k).toArray] w fun e w' => e = .returned (.bool (decide (m.gas ≤ 65536 ∧ n ≤ 64))) ∧ Below w.heap.size w w' := by
  have HB := Lib.hid ((Below.refl w.heap.size w).alloc (Nat.le_refl _) (.cells (mgRow m q n k).toArray 30))
  have K := MgAt.new w 30 m q n k
  obtain ⟨-, -, -, -, -, -, -, c7, c8⟩ := K.cells
  clear K
  obtain ⟨hg0, hg1⟩ := hg
  have HE : Hid (∀ x : Bool, decide (m.gas ≤ 65536 ∧ n ≤ 64) = x → (Ending.returned (.bool x) = .returned (.bool (decide (m.gas ≤ 65536 ∧ n ≤ 64))))) := fun x h => by rw [h]
  by_cases h1 : m.gas ≤ 65536
  · by_cases h2 : (n : Int) ≤ 64
    · replace HE := Lib.hid (HE.out true (decide_eq_true ⟨h1, by omega⟩))
      generalize decide (m.gas ≤ 65536 ∧ n ≤ 64) = res at *
      generalize m.gas = gas at *
      go_enter Tryd.func14, Tryd.ntmps14
      go_wp2_with fail
      go_ret
      exact ⟨HE.out, HB.out⟩
    · replace HE := Lib.hid (HE.out false (decide_eq_false (fun h => h2 (by omega))))
      generalize decide (m.gas ≤ 65536 ∧ n ≤ 64) = res at *
      have d2 : decide ((n : Int) ≤ 64) = false := by rw [decide_eq_false_iff_not]; exact h2
      go_enter Tryd.func14, Tryd.ntmps14
      go_wp2_with fail
      go_ret
      exact ⟨HE.out, HB.out⟩
  · replace HE := Lib.hid (HE.out false (decide_eq_false (fun h => h1 h.1)))
    generalize decide (m.gas ≤ 65536 ∧ n ≤ 64) = res at *
    have d1 : decide (m.gas ≤ 65536) = false := by rw [decide_eq_false_iff_not]; exact h1
    go_enter Tryd.func14, Tryd.ntmps14
    go_wp2_with fail
    go_ret
    exact ⟨HE.out, HB.out⟩

set_option maxHeartbeats 1000000 in
theorem refRightMessage_any {w : World} {m : Mg} {q : Option Addr} {n k : Nat} (hg : 0 ≤ m.gas ∧ m.gas < 18446744073709551616) (_hn : n ≤ maxLen) :
    Calls Tryd.prog 15 #[.agg (mgRow m q n k).toArray] w fun e w' => e = .returned (.bool (decide (m.gas ≤ 65536 ∧ n ≤ 64))) ∧ Below w.heap.size w w' := by
  have HB := Lib.hid ((Below.refl w.heap.size w).alloc (Nat.le_refl _) (.cells (mgRow m q n k).toArray 27))
  have K := MgAt.new w 27 m q n k
  obtain ⟨-, -, -, -, -, -, -, c7, c8⟩ := K.cells
  clear K
  obtain ⟨hg0, hg1⟩ := hg
  have HE : Hid (∀ x : Bool, decide (m.gas ≤ 65536 ∧ n ≤ 64) = x → (Ending.returned (.bool x) = .returned (.bool (decide (m.gas ≤ 65536 ∧ n ≤ 64))))) := fun x h => by rw [h]
  by_cases h1 : m.gas ≤ 65536
  · by_cases h2 : (n : Int) ≤ 64
    · replace HE := Lib.hid (HE.out true (decide_eq_true ⟨h1, by omega⟩))
      generalize decide (m.gas ≤ 65536 ∧ n ≤ 64) = res at *
      generalize m.gas = gas at *
      go_enter Tryd.func15, Tryd.ntmps15
      go_wp2_with fail
      go_ret
      exact ⟨HE.out, HB.out⟩
    · replace HE := Lib.hid (HE.out false (decide_eq_false (fun h => h2 (by omega))))
      generalize decide (m.gas ≤ 65536 ∧ n ≤ 64) = res at *
      have d2 : decide ((n : Int) ≤ 64) = false := by rw [decide_eq_false_iff_not]; exact h2
      go_enter Tryd.func15, Tryd.ntmps15
      go_wp2_with fail
      go_ret
      exact ⟨HE.out, HB.out⟩
  · replace HE := Lib.hid (HE.out false (decide_eq_false (fun h => h1 h.1)))
    generalize decide (m.gas ≤ 65536 ∧ n ≤ 64) = res at *
    have d1 : decide (m.gas ≤ 65536) = false := by rw [decide_eq_false_iff_not]; exact h1
    go_enter Tryd.func15, Tryd.ntmps15
    go_wp2_with fail
    go_ret
    exact ⟨HE.out, HB.out⟩
end Go.Proofs.YtcpoaalhpjipaaaDoor
namespace Go.Proofs.YtcpoaalhpjipaaaDoor
open Go.RowKit
set_option maxRecDepth 100000

theorem zero128 (w : World) : (zeroValue 150).run Tryd.prog w = .ok (.agg (Array.replicate 128 (.int .u8 0))) w := by kernel_rfl
@[go_sem] theorem Tryd.idx8_0 (w : World) (a b c d e f g h : Int) : (Instr.index 149 (.agg #[.int .u32 a, .int .u32 b, .int .u32 c, .int .u32 d, .int .u32 e, .int .u32 f, .int .u32 g, .int .u32 h]) (.int .i64 0)).run Tryd.prog w = .ok (.int .u32 a) w := by kernel_rfl
@[go_sem] theorem Tryd.idx8_1 (w : World) (a b c d e f g h : Int) : (Instr.index 149 (.agg #[.int .u32 a, .int .u32 b, .int .u32 c, .int .u32 d, .int .u32 e, .int .u32 f, .int .u32 g, .int .u32 h]) (.int .i64 1)).run Tryd.prog w = .ok (.int .u32 b) w := by kernel_rfl
@[go_sem] theorem Tryd.idx8_2 (w : World) (a b c d e f g h : Int) : (Instr.index 149 (.agg #[.int .u32 a, .int .u32 b, .int .u32 c, .int .u32 d, .int .u32 e, .int .u32 f, .int .u32 g, .int .u32 h]) (.int .i64 2)).run Tryd.prog w = .ok (.int .u32 c) w := by kernel_rfl
@[go_sem] theorem Tryd.idx8_3 (w : World) (a b c d e f g h : Int) : (Instr.index 149 (.agg #[.int .u32 a, .int .u32 b, .int .u32 c, .int .u32 d, .int .u32 e, .int .u32 f, .int .u32 g, .int .u32 h]) (.int .i64 3)).run Tryd.prog w = .ok (.int .u32 d) w := by kernel_rfl
@[go_sem] theorem Tryd.idx8_4 (w : World) (a b c d e f g h : Int) : (Instr.index 149 (.agg #[.int .u32 a, .int .u32 b, .int .u32 c, .int .u32 d, .int .u32 e, .int .u32 f, .int .u32 g, .int .u32 h]) (.int .i64 4)).run Tryd.prog w = .ok (.int .u32 e) w := by kernel_rfl
@[go_sem] theorem Tryd.idx8_5 (w : World) (a b c d e f g h : Int) : (Instr.index 149 (.agg #[.int .u32 a, .int .u32 b, .int .u32 c, .int .u32 d, .int .u32 e, .int .u32 f, .int .u32 g, .int .u32 h]) (.int .i64 5)).run Tryd.prog w = .ok (.int .u32 f) w := by kernel_rfl
@[go_sem] theorem Tryd.idx8_6 (w : World) (a b c d e f g h : Int) : (Instr.index 149 (.agg #[.int .u32 a, .int .u32 b, .int .u32 c, .int .u32 d, .int .u32 e, .int .u32 f, .int .u32 g, .int .u32 h]) (.int .i64 6)).run Tryd.prog w = .ok (.int .u32 g) w := by kernel_rfl
@[go_sem] theorem Tryd.idx8_7 (w : World) (a b c d e f g h : Int) : (Instr.index 149 (.agg #[.int .u32 a, .int .u32 b, .int .u32 c, .int .u32 d, .int .u32 e, .int .u32 f, .int .u32 g, .int .u32 h]) (.int .i64 7)).run Tryd.prog w = .ok (.int .u32 h) w := by kernel_rfl
def msr : Value → Value → Nat
  | .slice _ n _, .bool true => n
  | .slice _ n _, _ => n + 1000
  | _, _ => 0

set_option maxHeartbeats 4000000 in
theorem Sum_any {w : World} {v : Value} {xs : List Int} (hr : RdC w v xs) (hx : Bytes xs) (hT : Tbl w) :
    Calls Tryd.prog 67 #[v] w fun e w' => e = .returned (.agg (hc (sha xs)).toArray) ∧ Below w.heap.size w w' := by
  obtain ⟨q, c, rfl, hlc, hq⟩ := hr
  obtain ⟨b, off, hqb, hcell⟩ : ∃ b off, (xs.length = 0 ∨ q = some ⟨b, off, none⟩) ∧ ∀ i, i < xs.length → w.cell? ⟨b, off + i, none⟩ = some (.int .u8 (xs.getD i 0)) := by
    rcases hq with rfl | ⟨b, off, h1, h2⟩
    · exact ⟨0, 0, .inl rfl, fun i hi => by simp at hi⟩
    · exact ⟨b, off, .inr h1, h2⟩
  have HC := Lib.hid hcell
  have HT := Lib.hid hT
  have HX := Lib.hid hx
  have HQ := Lib.hid hqb
  clear hcell hT hx hqb hq
  have hz := zero128
  have h0 : Hid (SmSt w (((w.alloc (.cells (hc zero32).toArray 44)).alloc (.cells #[.int .u32 1779033703, .int .u32 3144134277, .int .u32 1013904242, .int .u32 2773480762, .int .u32 1359893119, .int .u32 2600822924, .int .u32 528734635, .int .u32 1541459225] 149)).alloc (.cells (Array.replicate 128 (.int .u8 0)) 150)) iv (fun _ => 0)) := by
    refine ⟨?_, ?_, ?_, ?_⟩
    · exact (((Below.refl _ _).alloc (Nat.le_refl _) _).alloc (by simp) _).alloc (by simp; omega) _
    · exact ((HashAt.new w zero32).alloc _).alloc _
    · have := (RwK.newL .u32 (w.alloc (.cells (hc zero32).toArray 44)) iv.lst 149).alloc (.cells (Array.replicate 128 (.int .u8 0)) 150)
      simp only [World.size_alloc] at this
      exact this
    · have := RwK.new .u8 ((w.alloc (.cells (hc zero32).toArray 44)).alloc (.cells #[.int .u32 1779033703, .int .u32 3144134277, .int .u32 1013904242, .int .u32 2773480762, .int .u32 1359893119, .int .u32 2600822924, .int .u32 528734635, .int .u32 1541459225] 149)) 128 150
      simp only [World.size_alloc] at this
      exact this
  have hI : Hid (Inv xs b off w false 0 xs.length q (((w.alloc (.cells (hc zero32).toArray 44)).alloc (.cells #[.int .u32 1779033703, .int .u32 3144134277, .int .u32 1013904242, .int .u32 2773480762, .int .u32 1359893119, .int .u32 2600822924, .int .u32 528734635, .int .u32 1541459225] 149)).alloc (.cells (Array.replicate 128 (.int .u8 0)) 150))) :=
    ⟨_, _, h0.out, fun _ => ⟨by omega, by simpa using HQ.out, rfl, rfl⟩, fun e => Bool.noConfusion e⟩
  clear h0 HQ
  go_enter Tryd.func67, Tryd.ntmps67
  go_wp2_with fail
  go_step3
  go_wp2_with fail
  go_step3
  go_wp2_with fail
  clear hz
  go_loopw [5, 6] (fun lv ev wr => ∃ (e : Bool) (i n k : Nat) (q : Option Addr), ev = .bool e ∧ lv = .slice q n k ∧ n ≤ k ∧ Hid (Inv xs b off w e i n q wr)) (fun lv ev _ => msr lv ev)
  case atStart => exact ⟨false, 0, _, _, _, rfl, rfl, hlc, hI⟩
  case round =>
    clear hI
    obtain ⟨e, i, n, k, q, rfl, rfl, hnk, hI⟩ := hrel
    by_cases hn : 64 ≤ n
    · obtain ⟨bb, oo, Bf, S, F, rfl, hc, hb8, hm, hstep⟩ := hI.out.block hn HX.out HC.out
      have hTr := hm.tab HT.out
      have KM := Lib.hid (mix_any S hn hnk hc hb8 hTr)
      have HM := Lib.hid hm
      have HS := Lib.hid hstep
      clear hstep hI hTr hc hb8
      have s0 := hm.rs.cell 0 (by omega)
      have s1 := hm.rs.cell 1 (by omega)
      have s2 := hm.rs.cell 2 (by omega)
      have s3 := hm.rs.cell 3 (by omega)
      have s4 := hm.rs.cell 4 (by omega)
      have s5 := hm.rs.cell 5 (by omega)
      have s6 := hm.rs.cell 6 (by omega)
      have s7 := hm.rs.cell 7 (by omega)
      simp only [St8.lst, List.getD_cons_zero, List.getD_cons_succ] at s0 s1 s2 s3 s4 s5 s6 s7
      clear hm
      go_wp2_with fail
      refine KM.out.mono ?_
      rintro e1 w1 ⟨rfl, hb1⟩
      have hm1 := HM.out.on hb1
      generalize hT8 : S.mix Bf = T at HS ⊢
      clear hT8
      have HP := Lib.hid (hm1.put T)
      clear s0 s1 s2 s3 s4 s5 s6 s7 HM KM hb1
      have s0 := hm1.rs.cell 0 (by omega)
      have s1 := hm1.rs.cell 1 (by omega)
      have s2 := hm1.rs.cell 2 (by omega)
      have s3 := hm1.rs.cell 3 (by omega)
      have s4 := hm1.rs.cell 4 (by omega)
      have s5 := hm1.rs.cell 5 (by omega)
      have s6 := hm1.rs.cell 6 (by omega)
      have s7 := hm1.rs.cell 7 (by omega)
      have f0 := hm1.rs.free 0
      have f1 := hm1.rs.free 1
      have f2 := hm1.rs.free 2
      have f3 := hm1.rs.free 3
      have f4 := hm1.rs.free 4
      have f5 := hm1.rs.free 5
      have f6 := hm1.rs.free 6
      have f7 := hm1.rs.free 7
      clear hm1
      by_cases hk : k = 64
      · go_wp2_with fail
        exact ⟨⟨e, i + 1, _, _, _, rfl, rfl, by omega, Lib.hid (HS.out _ _ HP.out (.inl (by omega)))⟩, by cases e <;> simp [msr] <;> omega⟩
      · go_wp2_with fail
        exact ⟨⟨e, i + 1, _, _, _, rfl, rfl, by omega, Lib.hid (HS.out _ _ HP.out (.inr rfl))⟩, by cases e <;> simp [msr] <;> omega⟩
    · cases e with
      | false =>
        obtain ⟨hi, hl, hm64, hm, hrd⟩ := hI.out.rest (k := k) (by omega) HC.out
        by_cases h2 : 64 < n + 9
        · have KE := Lib.hid (end_two hm.rt hrd (by omega) xs.length (by omega))
          have HM := Lib.hid hm
          have HI := Lib.hid hi
          have H64 := Lib.hid hm64
          clear hI hl hrd hm hi hm64
          go_wp2_with fail
          refine KE.out.mono ?_
          rintro e1 w1 ⟨rfl, ht, hk⟩
          have hm1 := HM.out.chgT ht hk
          rw [HI.out] at hm1
          have hm64 := H64.out
          have HN : Hid (Inv xs b off w true 0 128 (some ⟨w.heap.size + 1 + 1, 0, none⟩) w1) := Inv.tail (by rw [if_pos (by omega)]; exact hm1) (by rw [if_pos (by omega)])
          clear ht hk hm1 KE HM HI hm64 H64
          go_wp2_with fail
          exact ⟨⟨true, 0, _, _, _, rfl, rfl, by omega, HN⟩, by simp [msr] <;> omega⟩
        · have KE := Lib.hid (end_one hm.rt hrd (by omega) xs.length (by omega))
          have HM := Lib.hid hm
          have HI := Lib.hid hi
          have H64 := Lib.hid hm64
          clear hI hl hrd hm hi hm64
          go_wp2_with fail
          refine KE.out.mono ?_
          rintro e1 w1 ⟨rfl, ht, hk⟩
          have hm1 := HM.out.chgT ht hk
          rw [HI.out] at hm1
          have hm64 := H64.out
          have HN : Hid (Inv xs b off w true 0 64 (some ⟨w.heap.size + 1 + 1, 0, none⟩) w1) := Inv.tail (by rw [if_neg (by omega)]; exact hm1) (by rw [if_neg (by omega)])
          clear ht hk hm1 KE HM HI hm64 H64
          go_wp2_with fail
          exact ⟨⟨true, 0, _, _, _, rfl, rfl, by omega, HN⟩, by simp [msr] <;> omega⟩
      | true =>
        obtain ⟨F, hm⟩ := hI.out.done (by omega)
        have HM := Lib.hid hm
        have s0 := hm.rs.cell 0 (by omega)
        have s1 := hm.rs.cell 1 (by omega)
        have s2 := hm.rs.cell 2 (by omega)
        have s3 := hm.rs.cell 3 (by omega)
        have s4 := hm.rs.cell 4 (by omega)
        have s5 := hm.rs.cell 5 (by omega)
        have s6 := hm.rs.cell 6 (by omega)
        have s7 := hm.rs.cell 7 (by omega)
        simp only [St8.lst, List.getD_cons_zero, List.getD_cons_succ] at s0 s1 s2 s3 s4 s5 s6 s7
        have hsz := hm.rt.lt
        have hsz1 := hm.rs.lt
        have hsz0 := hm.rr.lt
        clear hm hI
        generalize hS : shaSt xs (nbk xs.length) = S at *
        have HSS : Hid (sha xs = S.out) := by unfold sha; rw [hS]; exact rfl
        clear hS
        go_wp2_with fail
        have hr0 : RwK .u8 (wr.alloc (.cells (hc zero32).toArray 44)) wr.heap.size 32 44 (fun i => zero32.getD i 0) := RwK.newL .u8 wr zero32 44
        have R0 := Lib.hid hr0
        have K0 := Lib.hid (Chg.refl (wr.alloc (.cells (hc zero32).toArray 44)) [wr.heap.size])
        clear hr0 s0 s1 s2 s3 s4 s5 s6 s7
        refine wp_loop_rounds 9 ?_
        rw [rounds_succ]
        go_wp2_with fail
        refine (put32_any R0.out (off := 0) (len := 32) (cap := 32) (by omega) (by omega) _).mono ?_
        rintro e1 x0 ⟨rfl, hr, hk⟩
        have R1 := Lib.hid hr
        have K1 := Lib.hid (K0.out.trans hk (fun _ h _ => h))
        clear hr hk R0 K0
        go_wp2_with fail
        rw [rounds_succ]
        go_wp2_with fail
        refine (put32_any R1.out (off := 4) (len := 28) (cap := 28) (by omega) (by omega) _).mono ?_
        rintro e1 x1 ⟨rfl, hr, hk⟩
        have R2 := Lib.hid hr
        have K2 := Lib.hid (K1.out.trans hk (fun _ h _ => h))
        clear hr hk R1 K1
        go_wp2_with fail
        rw [rounds_succ]
        go_wp2_with fail
        refine (put32_any R2.out (off := 8) (len := 24) (cap := 24) (by omega) (by omega) _).mono ?_
        rintro e1 x2 ⟨rfl, hr, hk⟩
        have R3 := Lib.hid hr
        have K3 := Lib.hid (K2.out.trans hk (fun _ h _ => h))
        clear hr hk R2 K2
        go_wp2_with fail
        rw [rounds_succ]
        go_wp2_with fail
        refine (put32_any R3.out (off := 12) (len := 20) (cap := 20) (by omega) (by omega) _).mono ?_
        rintro e1 x3 ⟨rfl, hr, hk⟩
        have R4 := Lib.hid hr
        have K4 := Lib.hid (K3.out.trans hk (fun _ h _ => h))
        clear hr hk R3 K3
        go_wp2_with fail
        rw [rounds_succ]
        go_wp2_with fail
        refine (put32_any R4.out (off := 16) (len := 16) (cap := 16) (by omega) (by omega) _).mono ?_
        rintro e1 x4 ⟨rfl, hr, hk⟩
        have R5 := Lib.hid hr
        have K5 := Lib.hid (K4.out.trans hk (fun _ h _ => h))
        clear hr hk R4 K4
        go_wp2_with fail
        rw [rounds_succ]
        go_wp2_with fail
        refine (put32_any R5.out (off := 20) (len := 12) (cap := 12) (by omega) (by omega) _).mono ?_
        rintro e1 x5 ⟨rfl, hr, hk⟩
        have R6 := Lib.hid hr
        have K6 := Lib.hid (K5.out.trans hk (fun _ h _ => h))
        clear hr hk R5 K5
        go_wp2_with fail
        rw [rounds_succ]
        go_wp2_with fail
        refine (put32_any R6.out (off := 24) (len := 8) (cap := 8) (by omega) (by omega) _).mono ?_
        rintro e1 x6 ⟨rfl, hr, hk⟩
        have R7 := Lib.hid hr
        have K7 := Lib.hid (K6.out.trans hk (fun _ h _ => h))
        clear hr hk R6 K6
        go_wp2_with fail
        rw [rounds_succ]
        go_wp2_with fail
        refine (put32_any R7.out (off := 28) (len := 4) (cap := 4) (by omega) (by omega) _).mono ?_
        rintro e1 x7 ⟨rfl, hr, hk⟩
        have R8 := Lib.hid hr
        have K8 := Lib.hid (K7.out.trans hk (fun _ h _ => h))
        clear hr hk R7 K7
        go_wp2_with fail
        have hF : HashAt x7 wr.heap.size S.out := RwK.hash R8.out
        have hS32 : S.out.length = 32 := rfl
        have hrow := hF.row hS32
        have hm8 := HM.out.on (((Below.refl _ _).alloc (Nat.le_refl _) (.cells (hc zero32).toArray 44)).trans (K8.out.toBelow (B := wr.heap.size) (by simp) (by intro k hk; simp at hk; omega)))
        have hth := hm8.rr.there zero32_len
        have hput := (hm8.rr.put zero32_len hS32).row hS32
        have HB := Lib.hid (below_setCells' (B := w.heap.size) w.heap.size (Nat.le_refl _) (hc S.out) 0 hm8.below)
        clear hF hm8 R8 K8 HM
        rw [rounds_succ]
        go_wp2_with fail
        rw [Exit.noGoto_ret]
        refine bodyPost_ret (v := .agg (hc S.out).toArray) (by simp [results, Tryd.results67, go_sem, hput, hS32]) rfl ⟨by rw [HSS.out], HB.out⟩
end Go.Proofs.YtcpoaalhpjipaaaDoor
namespace Go.Proofs.YtcpoaalhpjipaaaDoor
open Go.RowKit
set_option maxRecDepth 100000

theorem HashAt.cell {w : World} {b : Nat} {F : List Int} (h : HashAt w b F) {i : Nat} (hi : i < F.length) : w.cell? ⟨b, i, none⟩ = some (.int .u8 (F.getD i 0)) := by
  rw [cell_of_row _ _ _ _ _ _ h]
  simp [hc, List.getD, hi]
theorem rdc_of_rw {w : World} {b : Nat} {T : TypeId} {xs : List Int} (h : RwK .u8 w b xs.length T (fun i => xs.getD i 0)) : RdC w (.slice (some ⟨b, 0, none⟩) xs.length xs.length) xs :=
  ⟨_, _, rfl, Nat.le_refl _, .inr ⟨b, 0, rfl, fun i hi => by rw [Nat.zero_add]; exact h.cell i hi⟩⟩
end Go.Proofs.YtcpoaalhpjipaaaDoor
namespace Go.Proofs.YtcpoaalhpjipaaaDoor
open Go.RowKit
set_option maxRecDepth 100000

theorem eight_any (w : World) (n : Int) : Calls Tryd.prog 90 #[.int .u64 n] w fun e w' => e = .returned (.slice (some ⟨w.heap.size, 0, none⟩) 8 8) ∧ w'.heap[w.heap.size]? = some (.cells (bc (be8 n)).toArray 5 (0, 0)) ∧ Below w.heap.size w w' := by
  go_enter Tryd.func90, Tryd.ntmps90
  go_wp2_with fail
  go_ret
  exact ⟨rfl, heap_alloc_new w _, (Below.refl _ _).alloc (Nat.le_refl _) _⟩
/-- How long the padded string is. -/
theorem padlen (L : Nat) : L + 9 + (64 - (L + 9) % 64) % 64 = 64 * nbk L := by
  unfold nbk
  split <;> omega

set_option maxHeartbeats 4000000 in
theorem pad_any {w : World} {v : Value} {xs : List Int} (hr : Rd w v xs) (hl : xs.length ≤ 100000000000000) :
    Calls Tryd.prog 92 #[v] w fun e w' => e = .returned (.slice (some ⟨w.heap.size, 0, none⟩) (64 * nbk xs.length) (64 * nbk xs.length)) ∧ RwK .u8 w' w.heap.size (64 * nbk xs.length) 5 (padF xs) ∧ Below w.heap.size w w' := by
  obtain ⟨i0, hi, hz0, hz1, hz2⟩ := info_parts Tryd.infoU8
  replace hi := Lib.hid hi
  replace hz0 := Lib.hid hz0
  replace hz1 := Lib.hid hz1
  replace hz2 := Lib.hid hz2
  have HR := Lib.hid hr
  obtain ⟨q, c, rfl⟩ := hr.len
  clear hr
  have hp := padlen xs.length
  have HP : Hid ((xs.length : Int) + 9 + (64 - ((xs.length : Int) + 9) % 64) % 64 = ((64 * nbk xs.length : Nat) : Int)) := by rw [← hp]; show _ = _; omega
  have hN9 : xs.length + 9 ≤ 64 * nbk xs.length := by omega
  have hNle : 64 * nbk xs.length ≤ 100000000000073 := by omega
  have HPF : Hid (∀ j, j < 64 * nbk xs.length → cpf (updK (cpf (fun _ => 0) 0 xs) xs.length 128) (64 * nbk xs.length - 8) (be8 (8 * (xs.length : Int))) j = padF xs j) := by
    intro j hj
    unfold padF
    by_cases h8 : 64 * nbk xs.length - 8 ≤ j
    · rw [cpf_in h8 (by simp; omega), if_neg (by omega), if_neg (by omega), if_neg (by omega)]
      congr 1
      omega
    · rw [cpf_out (Or.inl (by omega))]
      by_cases e : j = xs.length
      · subst e; rw [updK_same, if_neg (by omega), if_pos rfl]
      · rw [updK_ne _ _ e]
        by_cases hlt : j < xs.length
        · rw [cpf_in (by omega) (by omega), if_pos hlt]; rfl
        · rw [cpf_out (Or.inr (by omega)), if_neg hlt, if_neg e, if_pos (by omega)]
  clear hp
  have hQ : ((xs.length : Int) + 9 + -(((xs.length : Int) + 9) % 64) % 64) = ((64 * nbk xs.length : Nat) : Int) := by have := HP.out; omega
  generalize 64 * nbk xs.length = N at *
  go_enter Tryd.func92, Tryd.ntmps92
  go_wp2_with (refine wpList_make_full _ rfl _ _ _ rfl 0 _ _ _ _ Tryd.underlying25 hi.out hz0.out hz1.out _ _ _ _ N rfl rfl rfl rfl ?b1 ?b2 ?b3 ?_)
  case b1 => rw [hz2.out]; omega
  case b2 => unfold maxLen; omega
  case b3 => omega
  clear hQ
  intro w1 own1 grow1
  have hr1 : RwK .u8 w1 w.heap.size N 5 (fun _ => 0) := rw_of_made own1
  have B1 := Lib.hid (show Below w.heap.size w w1 from (Below.refl _ _).grown grow1 (Nat.le_refl _) (by intro k hk; simp at hk))
  have HR1 := Lib.hid (HR.out.on B1.out)
  have HPos : Hid (0 < xs.length → (some ⟨w.heap.size, 0, none⟩ : Option Addr) = some ⟨w.heap.size, 0, none⟩ ∧ ∃ ad, q = some ad ∧ ∀ j, j < xs.length → w1.cell? (ad.add j) = some (.int .u8 (xs.getD j 0))) := by
    intro h0
    obtain ⟨q', c', e, rfl | ⟨b', o', rfl, hcc⟩⟩ := HR1.out
    · simp at h0
    · simp only [Value.slice.injEq] at e
      exact ⟨rfl, _, e.1, fun j hj => by rw [addr_add]; exact hcc j hj⟩
  have R1 := Lib.hid hr1
  clear own1 grow1 hr1 HR HR1
  go_wp2_with (with_reducible refine wpList_copy_rw rfl _ _ _ _ rfl 5 Tryd.underlying25 Tryd.size_u8 _ _ _ _ _ _ rfl rfl R1.out 0 xs (Nat.min_eq_left (by omega)).symm HPos.out (by omega) ?_)
  intro w2 h2 k2
  have c2 := h2.cell xs.length (by omega)
  have f2 := h2.free xs.length
  have H2 := Lib.hid (h2.store (j := xs.length) (by omega) 128)
  have B2 := Lib.hid ((B1.out.trans (k2.toBelow (B := w.heap.size) B1.out.size (by intro k hk; simp at hk; omega))).setCell (p := ⟨w.heap.size, xs.length, none⟩) (Nat.le_refl _) (.int .u8 128))
  clear h2 k2 B1 R1 HPos
  have hn8 : (8 : Int) ≤ (N : Int) := by omega
  have kn8 : IntKind.i64.wrap ((N : Int) - 8) = (N : Int) - 8 := IntWalk.i64_in _ (by omega)
  have en8 : ((N : Int) - 8).toNat = N - 8 := by omega
  have hle8 : (N : Int) - 8 ≤ (N : Int) := by omega
  have hne8 : ¬ N = N - 8 := by omega
  have hsb8 : N - (N - 8) = 8 := by omega
  go_wp2_with fail
  generalize w2.setCell ⟨w.heap.size, xs.length, none⟩ (.int .u8 128) = wg at H2 B2 ⊢
  refine wp_region_held_drew (S := fun W => Below w.heap.size w W) (by kernel_rfl) (B2.out.drew) (fun h0 => ?_)
  refine wpAnyH_take (i := 0) (v := ?_) (by rw [List.getElem?_toArray]; rfl) (by kernel_rfl) (by kernel_rfl) (by kernel_rfl) (by exact fun _ _ _ h => h) (Or.inl ⟨by rfl, ?_⟩) h0 ?_
  rotate_left
  · intro W hW
    go_simp
    all_goals with_reducible rfl
  try simp only [Act.put, List.setIfInBounds_toArray, List.set_cons_zero, List.set_cons_succ]
  refine wpAnyH_take (i := 1) (v := ?_) (by rw [List.getElem?_toArray]; rfl) (by kernel_rfl) (by kernel_rfl) (by kernel_rfl) (by exact fun _ _ _ h => h) (Or.inl ⟨by rfl, ?_⟩) h0 ?_
  rotate_left
  · intro W hW
    go_simp
    all_goals with_reducible rfl
  try simp only [Act.put, List.setIfInBounds_toArray, List.set_cons_zero, List.set_cons_succ]
  refine wpAnyH_take (i := 2) (v := ?_) (by rw [List.getElem?_toArray]; rfl) (by kernel_rfl) (by kernel_rfl) (by kernel_rfl) (by exact fun _ _ _ h => h) (Or.inl ⟨by rfl, ?_⟩) h0 ?_
  rotate_left
  · intro W hW
    go_simp
    all_goals with_reducible rfl
  try simp only [Act.put, List.setIfInBounds_toArray, List.set_cons_zero, List.set_cons_succ]
  refine wpAnyH_take (i := 3) (v := ?_) (by rw [List.getElem?_toArray]; rfl) (by kernel_rfl) (by kernel_rfl) (by kernel_rfl) (by exact fun _ _ _ h => h) (Or.inl ⟨by rfl, ?_⟩) h0 ?_
  rotate_left
  · intro W hW
    go_simp
    all_goals with_reducible rfl
  try simp only [Act.put, List.setIfInBounds_toArray, List.set_cons_zero, List.set_cons_succ]
  refine wpAnyH_take (i := 4) (v := ?_) (by rw [List.getElem?_toArray]; rfl) (by kernel_rfl) (by kernel_rfl) (by kernel_rfl) (by exact fun _ _ _ h => h) (Or.inl ⟨by rfl, ?_⟩) h0 ?_
  rotate_left
  · intro W hW
    go_simp
    all_goals with_reducible rfl
  try simp only [Act.put, List.setIfInBounds_toArray, List.set_cons_zero, List.set_cons_succ]
  refine wpAnyH_take (i := 5) (v := ?_) (by rw [List.getElem?_toArray]; rfl) (by kernel_rfl) (by kernel_rfl) (by kernel_rfl) (by exact fun _ _ _ h => h) (Or.inl ⟨by rfl, ?_⟩) h0 ?_
  rotate_left
  · intro W hW
    go_simp
    all_goals with_reducible rfl
  try simp only [Act.put, List.setIfInBounds_toArray, List.set_cons_zero, List.set_cons_succ]
  refine wpAnyH_take (i := 6) (v := ?_) (by rw [List.getElem?_toArray]; rfl) (by kernel_rfl) (by kernel_rfl) (by kernel_rfl) (by exact fun _ _ _ h => h) (Or.inl ⟨by rfl, ?_⟩) h0 ?_
  rotate_left
  · intro W hW
    go_simp
    all_goals with_reducible rfl
  try simp only [Act.put, List.setIfInBounds_toArray, List.set_cons_zero, List.set_cons_succ]
  refine wpAnyH_take (i := 7) (v := ?_) (by rw [List.getElem?_toArray]; rfl) (by kernel_rfl) (by kernel_rfl) (by kernel_rfl) (by exact fun _ _ _ h => h) (Or.inl ⟨by rfl, ?_⟩) h0 ?_
  rotate_left
  · intro W hW
    go_simp
    all_goals with_reducible rfl
  try simp only [Act.put, List.setIfInBounds_toArray, List.set_cons_zero, List.set_cons_succ]
  refine wpAnyH_ready (rs := [8]) (by kernel_rfl) (by simp) ?_
  refine AllReadyH.cons (by rw [List.getElem?_toArray]; rfl) (fun K hK => ?_) AllReadyH.nil
  rw [if_pos (by rfl)]
  go_wp2_with fail
  refine (eight_any _ _).mono ?_
  rintro e w8 ⟨rfl, hb8, hbl8⟩
  have R8 := Lib.hid ((H2.out.drew).on hbl8)
  have HB8 : Hid (w8.heap[wg.heap.size]? = some (.cells (bc (be8 (8 * (xs.length : Int)))).toArray 5 (0, 0))) := hb8
  go_wp2_with fail
  refine hK.out _ _ (h0.trans (hbl8.mono h0.size)) (fun h8 => ?_)
  clear hK K
  try simp only [Act.put, List.setIfInBounds_toArray, List.set_cons_zero, List.set_cons_succ]
  refine wpAnyH_ready (rs := [9]) (by kernel_rfl) (by simp) ?_
  refine AllReadyH.cons (by rw [List.getElem?_toArray]; rfl) (fun K hK => ?_) AllReadyH.nil
  rw [if_pos (by rfl)]
  refine wp_copy_rw _ _ _ _ rfl 5 Tryd.underlying25 Tryd.size_u8 _ _ _ _ _ _ rfl rfl R8.out (N - 8) (be8 (8 * (xs.length : Int))) rfl (fun _ => ⟨rfl, _, rfl, fun j hj => by rw [addr_add, Nat.zero_add, Joins.cell_of_block HB8.out]; simp only [be8_len] at hj; rcases (by omega : j = 0 ∨ j = 1 ∨ j = 2 ∨ j = 3 ∨ j = 4 ∨ j = 5 ∨ j = 6 ∨ j = 7) with e | e | e | e | e | e | e | e <;> subst e <;> rfl⟩) (by rw [be8_len]; omega) ?_
  intro w9 h9 k9
  have H9 := Lib.hid h9
  have B9 := Lib.hid (h8.trans (k9.toBelow (B := w.heap.size) h8.size (by intro k hk; simp at hk; omega)))
  refine hK.out _ _ (B9.out) (fun h9x => ?_)
  clear hK K
  try simp only [Act.put, List.setIfInBounds_toArray, List.set_cons_zero, List.set_cons_succ]
  refine wpAnyH_done (by kernel_rfl) ?_ _
  go_wp2_with fail
  go_ret
  exact ⟨rfl, H9.out.same (fun j hj => HPF.out j hj), B9.out⟩
end Go.Proofs.YtcpoaalhpjipaaaDoor
