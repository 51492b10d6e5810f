/-
  Txs: rows of ten cells; which may be.; What the program reads of bytes as a Tx.
-/
import Derived.Test.YtonjkhhihiigfaaDv9
namespace Go.Proofs.Ytonjkhhihiigfaa
set_option maxRecDepth 100000
open Go.RowKit

structure Tg where
  kd : Int
  fr : Int
  no : Int
  to : Int
  val : W4
  gas : Int
  data : List Int
structure Tg.ok (t : Tg) : Prop where
  kd : -9223372036854775808 ≤ t.kd ∧ t.kd < 9223372036854775808
  fr : 0 ≤ t.fr ∧ t.fr < 18446744073709551616
  no : 0 ≤ t.no ∧ t.no < 18446744073709551616
  to : 0 ≤ t.to ∧ t.to < 18446744073709551616
  val : D4 t.val.a t.val.b t.val.c t.val.d
  gas : 0 ≤ t.gas ∧ t.gas < 18446744073709551616
  data : Bytes t.data
def tg0 : Tg := ⟨0, 0, 0, 0, ⟨0, 0, 0, 0⟩, 0, []⟩
theorem tg0_ok : tg0.ok := ⟨by decide, by decide, by decide, by decide, ⟨dg0, dg0, dg0, dg0⟩, by decide, fun x hx => by cases hx⟩
def txRow (m : Tg) (q : Option Addr) (n k : Nat) : List Value := [.int .i64 m.kd, .int .u64 m.fr, .int .u64 m.no, .int .u64 m.to, .int .u64 m.val.a, .int .u64 m.val.b, .int .u64 m.val.c, .int .u64 m.val.d, .int .u64 m.gas, .slice q n k]
@[go_sem] theorem txRow_len (m : Tg) (q : Option Addr) (n k : Nat) : (txRow m q n k).length = 10 := rfl
theorem txRow_one (m : Tg) (q : Option Addr) (n k : Nat) : ∀ u ∈ txRow m q n k, u.oneCell' = true := by
  intro u hu
  simp only [txRow, List.mem_cons, List.not_mem_nil, or_false] at hu
  rcases hu with rfl | rfl | rfl | rfl | rfl | rfl | rfl | rfl | rfl | rfl <;> rfl
/-- The block b holds a Tx. -/
def TxAt (w : World) (b : Nat) (t : TypeId) (m : Tg) (q : Option Addr) (n k : Nat) : Prop := w.heap[b]? = some (.cells (txRow m q n k).toArray t (0, 0))
section
variable {w w' : World} {b : Nat} {t : TypeId} {m : Tg} {q : Option Addr} {n k : Nat}
theorem TxAt.lt (h : TxAt w b t m q n k) : b < w.heap.size := (Array.getElem?_eq_some_iff.1 h).1
theorem TxAt.new (w : World) (t : TypeId) (m : Tg) (q : Option Addr) (n k : Nat) : TxAt (w.alloc (.cells (txRow m q n k).toArray t)) w.heap.size t m q n k := heap_alloc_new w _
theorem TxAt.on (h : TxAt w b t m q n k) (hb : Below w.heap.size w w') : TxAt w' b t m q n k := by
  unfold TxAt at h ⊢
  rw [hb.block _ (Array.getElem?_eq_some_iff.1 h).1]; exact h
theorem TxAt.chg {K : List Nat} (h : TxAt w b t m q n k) (hc : Chg w w' K) (hb : b ∉ K) : TxAt w' b t m q n k := by
  unfold TxAt at h ⊢
  rw [hc.block _ (Array.getElem?_eq_some_iff.1 h).1 hb]; exact h
theorem TxAt.row (h : TxAt w b t m q n k) : rowOf w b 0 10 = txRow m q n k := by
  rw [rowOf_block h]; rfl
theorem TxAt.there (h : TxAt w b t m q n k) : w.there b 0 10 := fun j hj => by
  refine ⟨?_, Joins.unfrozen_of_block h _⟩
  rw [cell_of_row _ _ _ _ _ _ h]
  simp only [List.getElem?_toArray]
  rw [List.getElem?_eq_getElem (by rw [txRow_len]; omega)]
  rfl
theorem TxAt.put {m' : Tg} {q' : Option Addr} {n' k' : Nat} (h : TxAt w b t m' q' n' k') (m : Tg) (q : Option Addr) (n k : Nat) : TxAt (w.setCells b 0 (txRow m q n k)) b t m q n k := by
  unfold TxAt at h ⊢
  have := setCells_block (b := b) (t := t) (fr := (0, 0)) (txRow m q n k) (o := 0) (w := w) (pre := []) (mid := txRow m' q' n' k') (post := []) (by simpa using h) rfl rfl
  simpa using this
theorem TxAt.frees (h : TxAt w b t m q n k) (i : Nat) : w.frozen? ⟨b, i, none⟩ = false := Joins.unfrozen_of_block h i
theorem TxAt.cells (h : TxAt w b t m q n k) : w.cell? ⟨b, 0, none⟩ = some (.int .i64 m.kd) ∧ w.cell? ⟨b, 1, none⟩ = some (.int .u64 m.fr) ∧ w.cell? ⟨b, 2, none⟩ = some (.int .u64 m.no) ∧ w.cell? ⟨b, 3, none⟩ = some (.int .u64 m.to) ∧ w.cell? ⟨b, 4, none⟩ = some (.int .u64 m.val.a) ∧ w.cell? ⟨b, 5, none⟩ = some (.int .u64 m.val.b) ∧ w.cell? ⟨b, 6, none⟩ = some (.int .u64 m.val.c) ∧ w.cell? ⟨b, 7, none⟩ = some (.int .u64 m.val.d) ∧ w.cell? ⟨b, 8, none⟩ = some (.int .u64 m.gas) ∧ w.cell? ⟨b, 9, none⟩ = some (.slice q n k) :=
  ⟨(Joins.cell_of_block h 0).trans rfl, (Joins.cell_of_block h 1).trans rfl, (Joins.cell_of_block h 2).trans rfl, (Joins.cell_of_block h 3).trans rfl, (Joins.cell_of_block h 4).trans rfl, (Joins.cell_of_block h 5).trans rfl, (Joins.cell_of_block h 6).trans rfl, (Joins.cell_of_block h 7).trans rfl, (Joins.cell_of_block h 8).trans rfl, (Joins.cell_of_block h 9).trans rfl⟩
end
@[go_sem ↓] theorem load10 (a : Addr) : loadCellsFrom a 0 10 #[] = rowLoad a 10 := rfl
@[go_sem] theorem run_storeCells_tx {P : Program} (w : World) (b : Nat) (m : Tg) (q : Option Addr) (n k : Nat) (hw : w.there b 0 10) : (storeCells ⟨b, 0, none⟩ (txRow m q n k) 0).run P w = .ok () (w.setCells b 0 (txRow m q n k)) := by
  have := run_storeCells_cells (P := P) b 0 (txRow m q n k) 0 w (fun j hj => by rw [txRow_len] at hj; simpa using (hw j hj).1) (fun j hj => by rw [txRow_len] at hj; simpa using (hw j hj).2) (txRow_one m q n k)
  simpa using this
@[go_sem ↓] theorem Try.zero_txp (w : World) : (zeroValue 54).run Try.prog w = .ok (.agg (txRow tg0 none 0 0).toArray) w := by kernel_rfl
@[go_sem ↓] theorem Try.build_txp (ps : Array (Nat × Value)) : Instr.build 54 ps = rowBuild 54 ps := rfl
theorem Try.run_txp (w : World) (m : Tg) (q : Option Addr) (n k : Nat) : (rowBuild 54 #[(0, .int .i64 m.kd), (1, .int .u64 m.fr), (2, .int .u64 m.no), (3, .int .u64 m.to), (4, .agg #[.int .u64 m.val.a, .int .u64 m.val.b, .int .u64 m.val.c, .int .u64 m.val.d]), (5, .int .u64 m.gas), (6, .slice q n k)]).run Try.prog w = .ok (.agg (txRow m q n k).toArray) w := by unfold rowBuild; kernel_rfl
@[go_sem ↓] theorem Try.zero_txr (w : World) : (zeroValue 84).run Try.prog w = .ok (.agg (txRow tg0 none 0 0).toArray) w := by kernel_rfl
@[go_sem ↓] theorem Try.build_txr (ps : Array (Nat × Value)) : Instr.build 84 ps = rowBuild 84 ps := rfl
theorem Try.run_txr (w : World) (m : Tg) (q : Option Addr) (n k : Nat) : (rowBuild 84 #[(0, .int .i64 m.kd), (1, .int .u64 m.fr), (2, .int .u64 m.no), (3, .int .u64 m.to), (4, .agg #[.int .u64 m.val.a, .int .u64 m.val.b, .int .u64 m.val.c, .int .u64 m.val.d]), (5, .int .u64 m.gas), (6, .slice q n k)]).run Try.prog w = .ok (.agg (txRow m q n k).toArray) w := by unfold rowBuild; kernel_rfl

def zW (x : W4) : Bool := [x.a, x.b, x.c, x.d] == [0, 0, 0, 0]
theorem Try.eq_wide0 (w : World) (x : W4) : (Op.equalIn 10000 49 (.agg #[.int .u64 x.a, .int .u64 x.b, .int .u64 x.c, .int .u64 x.d]) (.agg #[.int .u64 0, .int .u64 0, .int .u64 0, .int .u64 0])).run Try.prog w = .ok (zW x) w :=
  run_equalIn_ints (P := Try.prog) w 9998 Try.underlying49 Try.underlying47 (by kernel_rfl) [x.a, x.b, x.c, x.d] [0, 0, 0, 0] rfl rfl
/-- What each kind asks. -/
def okK (t : Tg) (n : Nat) : Bool := if t.kd = 1 then (t.gas == 0) && ((n : Int) == 0) else if t.kd = 2 then decide ((n : Int) ≤ 64) else if t.kd = 3 then ((mE t.data == 0) && (t.to == 0)) && zW t.val else false
def okT (t : Tg) (n : Nat) : Bool := (decide (t.gas ≤ 65536) && decide ((n : Int) ≤ 256)) && okK t n

theorem kind1_any {w : World} {t : Tg} {q : Option Addr} {n k : Nat} (_hn : n ≤ 140737488355328) :
    Calls Try.prog 69 #[.agg (txRow t q n k).toArray] w fun e w' => e = .returned (.bool ((t.gas == 0) && ((n : Int) == 0))) ∧ Below w.heap.size w w' := by
  have HB := Lib.hid ((Below.refl w.heap.size w).alloc (Nat.le_refl _) (.cells (txRow t q n k).toArray 54))
  have K := TxAt.new w 54 t q n k
  obtain ⟨c0, c1, c2, c3, c4, c5, c6, c7, c8, c9⟩ := K.cells
  clear K
  generalize t.gas = g at *
  cases h1 : (g == 0) <;> cases h2 : ((n : Int) == 0)
  all_goals
    go_enter Try.func69, Try.ntmps69
    go_wp2_with fail
    go_ret
    exact ⟨rfl, HB.out⟩
theorem kind2_any {w : World} {t : Tg} {q : Option Addr} {n k : Nat} (_hn : n ≤ 140737488355328) :
    Calls Try.prog 70 #[.agg (txRow t q n k).toArray] w fun e w' => e = .returned (.bool (decide ((n : Int) ≤ 64))) ∧ Below w.heap.size w w' := by
  have HB := Lib.hid ((Below.refl w.heap.size w).alloc (Nat.le_refl _) (.cells (txRow t q n k).toArray 54))
  have K := TxAt.new w 54 t q n k
  obtain ⟨c0, c1, c2, c3, c4, c5, c6, c7, c8, c9⟩ := K.cells
  clear K
  go_enter Try.func70, Try.ntmps70
  go_wp2_with fail
  go_ret
  exact ⟨rfl, HB.out⟩
set_option maxHeartbeats 4000000 in
theorem kind3_any {w : World} {t : Tg} {q : Option Addr} {n k : Nat} (hr : Rd w (.slice q n k) t.data) (hx : Bytes t.data) (hn : n ≤ 140737488355328) :
    Calls Try.prog 71 #[.agg (txRow t q n k).toArray] w fun e w' => e = .returned (.bool (((mE t.data == 0) && (t.to == 0)) && zW t.val)) ∧ Below w.heap.size w w' := by
  have hl : t.data.length ≤ 140737488355328 := by
    obtain ⟨_, _, e, _⟩ := hr
    simp only [Value.slice.injEq] at e
    omega
  have HB := Lib.hid ((Below.refl w.heap.size w).alloc (Nat.le_refl _) (.cells (txRow t q n k).toArray 54))
  have K := TxAt.new w 54 t q n k
  obtain ⟨c0, c1, c2, c3, c4, c5, c6, c7, c8, c9⟩ := K.cells
  have KG := Lib.hid (GetMessage_any (hr.on HB.out) hx hl)
  unfold GmP at KG
  have K0 := Lib.hid K
  obtain ⟨E, hE⟩ : ∃ E, mE t.data = E := ⟨_, rfl⟩
  obtain ⟨y, hy⟩ : ∃ y, mG t.data = y := ⟨_, rfl⟩
  rw [hE, hy] at KG
  rw [hE]
  have HWZ := fun W => Try.eq_wide0 W t.val
  obtain ⟨zw, hzw⟩ : ∃ zw, zW t.val = zw := ⟨_, rfl⟩
  rw [hzw] at HWZ ⊢
  clear hE hy hr hx hl K hzw
  go_enter Try.func71, Try.ntmps71
  go_wp2_with fail
  generalize w.alloc (.cells (txRow t q n k).toArray 54) = w0 at *
  refine KG.out.mono ?_
  rintro e w2 ⟨q2, k2, rfl, -, hb2⟩
  have KA := MgAt.new w2 52 mg0 none 0 0
  have th := KA.there
  have cs : Below w2.heap.size w2 ((w2.alloc (.cells (mgRow mg0 none 0 0).toArray 52)).setCells w2.heap.size 0 (mgRow y q2 y.data.length k2)) := below_setCells' _ (Nat.le_refl _) _ _ ((Below.refl _ _).alloc (Nat.le_refl _) _)
  have K3 := K0.out.on (hb2.trans (cs.mono hb2.size))
  have B3 := Lib.hid (HB.out.trans ((hb2.trans (cs.mono hb2.size)).mono HB.out.size))
  obtain ⟨d0, d1, d2, d3, d4, d5, d6, d7, d8, d9⟩ := K3.cells
  have szz : ((w2.alloc (.cells (mgRow mg0 none 0 0).toArray 52)).setCells w2.heap.size 0 (mgRow y q2 y.data.length k2)).heap.size = w2.heap.size + 1 := by rw [size_setCells]; simp
  clear KA cs hb2 K3 K0 c0 c1 c2 c3 c4 c5 c6 c7 c8 c9
  cases h1 : (E == 0) <;> cases h2 : (t.to == 0)
  all_goals
    go_wp2_with fail
    go_ret
    exact ⟨by first | rfl | (rw [h1, h2]; rfl) | (rw [h1]; rfl) | simp_all, B3.out⟩
set_option maxHeartbeats 8000000 in
theorem RightTx_k1 {w : World} {t : Tg} {q : Option Addr} {n k : Nat} (hr : Rd w (.slice q n k) t.data) (hx : Bytes t.data) (hn : n ≤ 140737488355328) (hg : t.gas ≤ 65536) (hl : (n : Int) ≤ 256) (hk : t.kd = 1) :
    Calls Try.prog 52 #[.agg (txRow t q n k).toArray] w fun e w' => e = .returned (.bool ((t.gas == 0) && ((n : Int) == 0))) ∧ Below w.heap.size w w' := by
  have b0 : Below w.heap.size w (w.alloc (.cells (txRow t q n k).toArray 54)) := (Below.refl _ _).alloc (Nat.le_refl _) _
  have K := TxAt.new w 54 t q n k
  obtain ⟨c0, c1, c2, c3, c4, c5, c6, c7, c8, c9⟩ := K.cells
  have hgI : ¬ (65536 : Int) < t.gas := by omega
  have hlI : ¬ (256 : Int) < (n : Int) := by omega
  have dg : decide ((65536 : Int) < t.gas) = false := by rw [decide_eq_false_iff_not]; exact hgI
  have dl : decide ((256 : Int) < (n : Int)) = false := by rw [decide_eq_false_iff_not]; exact hlI
  have HX := Lib.hid hx
  have HR : Hid (∀ W, Below w.heap.size w W → Rd W (.slice q n k) t.data) := fun W hb => hr.on hb
  have h10 := txRow_len t q n k
  clear hr hx
  go_enter Try.func52, Try.ntmps52
  go_wp2_with fail
  go_step3
  go_wp2_with fail
  go_step3
  go_wp2_with fail
  refine conditions_any.mono ?_
  rintro e w1 ⟨rfl, rfl⟩
  have b1 : Below (w.alloc (.cells (txRow t q n k).toArray 54)).heap.size (w.alloc (.cells (txRow t q n k).toArray 54)) ((w.alloc (.cells (txRow t q n k).toArray 54)).alloc (.cells #[.int .i64 1, .func (.func 69) #[] #[], .int .i64 2, .func (.func 70) #[] #[], .int .i64 3, .func (.func 71) #[] #[]] 126)) := (Below.refl _ _).alloc (Nat.le_refl _) _
  have T0 := K.on b1
  have D0 := heap_alloc_new (w.alloc (.cells (txRow t q n k).toArray 54)) (.cells #[.int .i64 1, .func (.func 69) #[] #[], .int .i64 2, .func (.func 70) #[] #[], .int .i64 3, .func (.func 71) #[] #[]] 126)
  have hz : (w.alloc (.cells (txRow t q n k).toArray 54)).heap.size = w.heap.size + 1 := by simp
  rw [hz] at D0
  have B0 := Lib.hid (b0.trans (b1.mono b0.size))
  clear b0 b1 hz K c0 c1 c2 c3 c4 c5 c6 c7 c8 c9
  go_wp2_with fail
  generalize ((w.alloc (.cells (txRow t q n k).toArray 54)).alloc (.cells #[.int .i64 1, .func (.func 69) #[] #[], .int .i64 2, .func (.func 70) #[] #[], .int .i64 3, .func (.func 71) #[] #[]] 126)) = w2 at *
  obtain ⟨c0, -, -, -, -, -, -, -, -, -⟩ := T0.cells
  have hrow := T0.row
  have d0 : w2.cell? ⟨w.heap.size + 1, 0, none⟩ = some (.int .i64 1) := (Joins.cell_of_block D0 0).trans rfl
  have d1 : w2.cell? ⟨w.heap.size + 1, 1, none⟩ = some (.func (.func 69) #[] #[]) := (Joins.cell_of_block D0 1).trans rfl
  have d2 : w2.cell? ⟨w.heap.size + 1, 2, none⟩ = some (.int .i64 2) := (Joins.cell_of_block D0 2).trans rfl
  have d3 : w2.cell? ⟨w.heap.size + 1, 3, none⟩ = some (.func (.func 70) #[] #[]) := (Joins.cell_of_block D0 3).trans rfl
  have d4 : w2.cell? ⟨w.heap.size + 1, 4, none⟩ = some (.int .i64 3) := (Joins.cell_of_block D0 4).trans rfl
  have d5 : w2.cell? ⟨w.heap.size + 1, 5, none⟩ = some (.func (.func 71) #[] #[]) := (Joins.cell_of_block D0 5).trans rfl
  have hl0 : w.heap.size < w2.heap.size := T0.lt
  have hl1 : w.heap.size + 1 < w2.heap.size := (Array.getElem?_eq_some_iff.1 D0).1
  have T2 := Lib.hid T0
  have hm0 : w.heap.size < w2.heap.size + 1 := by omega
  have hm1 : w.heap.size + 1 < w2.heap.size + 1 := by omega
  have hm2 : w.heap.size < w2.heap.size + 1 + 1 := by omega
  have hm3 : w.heap.size + 1 < w2.heap.size + 1 + 1 := by omega
  have hn0 : ¬ w.heap.size = w2.heap.size + 1 := by omega
  have hn1 : ¬ w.heap.size = w2.heap.size + 1 + 1 := by omega
  clear D0 T0
  refine wp_loop_rounds 1 ?_
  rw [rounds_succ]
  have bA : Below w2.heap.size w2 (w2.alloc (.cells #[.int .i64 1, .func (.func 69) #[] #[]] 126)) := ((Below.refl _ _).alloc (Nat.le_refl _) _)
  have KA := T2.out.on bA
  have hrow := KA.row
  have BA := Lib.hid (B0.out.trans (bA.mono B0.out.size))
  clear bA
  go_wp2_with fail
  refine (kind1_any hn).mono ?_
  rintro e w5 ⟨rfl, hb5⟩
  have B6 := Lib.hid (BA.out.trans (hb5.mono BA.out.size))
  clear hb5
  go_wp2_with fail
  rw [Exit.noGoto_ret]
  go_ret
  exact ⟨rfl, B6.out⟩
set_option maxHeartbeats 8000000 in
theorem RightTx_k2 {w : World} {t : Tg} {q : Option Addr} {n k : Nat} (hr : Rd w (.slice q n k) t.data) (hx : Bytes t.data) (hn : n ≤ 140737488355328) (hg : t.gas ≤ 65536) (hl : (n : Int) ≤ 256) (hk : t.kd = 2) :
    Calls Try.prog 52 #[.agg (txRow t q n k).toArray] w fun e w' => e = .returned (.bool (decide ((n : Int) ≤ 64))) ∧ Below w.heap.size w w' := by
  have b0 : Below w.heap.size w (w.alloc (.cells (txRow t q n k).toArray 54)) := (Below.refl _ _).alloc (Nat.le_refl _) _
  have K := TxAt.new w 54 t q n k
  obtain ⟨c0, c1, c2, c3, c4, c5, c6, c7, c8, c9⟩ := K.cells
  have hgI : ¬ (65536 : Int) < t.gas := by omega
  have hlI : ¬ (256 : Int) < (n : Int) := by omega
  have dg : decide ((65536 : Int) < t.gas) = false := by rw [decide_eq_false_iff_not]; exact hgI
  have dl : decide ((256 : Int) < (n : Int)) = false := by rw [decide_eq_false_iff_not]; exact hlI
  have HX := Lib.hid hx
  have HR : Hid (∀ W, Below w.heap.size w W → Rd W (.slice q n k) t.data) := fun W hb => hr.on hb
  have h10 := txRow_len t q n k
  clear hr hx
  go_enter Try.func52, Try.ntmps52
  go_wp2_with fail
  go_step3
  go_wp2_with fail
  go_step3
  go_wp2_with fail
  refine conditions_any.mono ?_
  rintro e w1 ⟨rfl, rfl⟩
  have b1 : Below (w.alloc (.cells (txRow t q n k).toArray 54)).heap.size (w.alloc (.cells (txRow t q n k).toArray 54)) ((w.alloc (.cells (txRow t q n k).toArray 54)).alloc (.cells #[.int .i64 1, .func (.func 69) #[] #[], .int .i64 2, .func (.func 70) #[] #[], .int .i64 3, .func (.func 71) #[] #[]] 126)) := (Below.refl _ _).alloc (Nat.le_refl _) _
  have T0 := K.on b1
  have D0 := heap_alloc_new (w.alloc (.cells (txRow t q n k).toArray 54)) (.cells #[.int .i64 1, .func (.func 69) #[] #[], .int .i64 2, .func (.func 70) #[] #[], .int .i64 3, .func (.func 71) #[] #[]] 126)
  have hz : (w.alloc (.cells (txRow t q n k).toArray 54)).heap.size = w.heap.size + 1 := by simp
  rw [hz] at D0
  have B0 := Lib.hid (b0.trans (b1.mono b0.size))
  clear b0 b1 hz K c0 c1 c2 c3 c4 c5 c6 c7 c8 c9
  go_wp2_with fail
  generalize ((w.alloc (.cells (txRow t q n k).toArray 54)).alloc (.cells #[.int .i64 1, .func (.func 69) #[] #[], .int .i64 2, .func (.func 70) #[] #[], .int .i64 3, .func (.func 71) #[] #[]] 126)) = w2 at *
  obtain ⟨c0, -, -, -, -, -, -, -, -, -⟩ := T0.cells
  have hrow := T0.row
  have d0 : w2.cell? ⟨w.heap.size + 1, 0, none⟩ = some (.int .i64 1) := (Joins.cell_of_block D0 0).trans rfl
  have d1 : w2.cell? ⟨w.heap.size + 1, 1, none⟩ = some (.func (.func 69) #[] #[]) := (Joins.cell_of_block D0 1).trans rfl
  have d2 : w2.cell? ⟨w.heap.size + 1, 2, none⟩ = some (.int .i64 2) := (Joins.cell_of_block D0 2).trans rfl
  have d3 : w2.cell? ⟨w.heap.size + 1, 3, none⟩ = some (.func (.func 70) #[] #[]) := (Joins.cell_of_block D0 3).trans rfl
  have d4 : w2.cell? ⟨w.heap.size + 1, 4, none⟩ = some (.int .i64 3) := (Joins.cell_of_block D0 4).trans rfl
  have d5 : w2.cell? ⟨w.heap.size + 1, 5, none⟩ = some (.func (.func 71) #[] #[]) := (Joins.cell_of_block D0 5).trans rfl
  have hl0 : w.heap.size < w2.heap.size := T0.lt
  have hl1 : w.heap.size + 1 < w2.heap.size := (Array.getElem?_eq_some_iff.1 D0).1
  have T2 := Lib.hid T0
  have hm0 : w.heap.size < w2.heap.size + 1 := by omega
  have hm1 : w.heap.size + 1 < w2.heap.size + 1 := by omega
  have hm2 : w.heap.size < w2.heap.size + 1 + 1 := by omega
  have hm3 : w.heap.size + 1 < w2.heap.size + 1 + 1 := by omega
  have hn0 : ¬ w.heap.size = w2.heap.size + 1 := by omega
  have hn1 : ¬ w.heap.size = w2.heap.size + 1 + 1 := by omega
  clear D0 T0
  refine wp_loop_rounds 2 ?_
  rw [rounds_succ]
  go_wp2_with fail
  rw [rounds_succ]
  have bA : Below w2.heap.size w2 ((w2.alloc (.cells #[.int .i64 1, .func (.func 69) #[] #[]] 126)).alloc (.cells #[.int .i64 2, .func (.func 70) #[] #[]] 126)) := (((Below.refl _ _).alloc (Nat.le_refl _) _).alloc (by simp only [World.size_alloc]; omega) _)
  have KA := T2.out.on bA
  have hrow := KA.row
  have BA := Lib.hid (B0.out.trans (bA.mono B0.out.size))
  clear bA
  go_wp2_with fail
  refine (kind2_any hn).mono ?_
  rintro e w5 ⟨rfl, hb5⟩
  have B6 := Lib.hid (BA.out.trans (hb5.mono BA.out.size))
  clear hb5
  go_wp2_with fail
  rw [Exit.noGoto_ret]
  go_ret
  exact ⟨rfl, B6.out⟩
set_option maxHeartbeats 8000000 in
theorem RightTx_k3 {w : World} {t : Tg} {q : Option Addr} {n k : Nat} (hr : Rd w (.slice q n k) t.data) (hx : Bytes t.data) (hn : n ≤ 140737488355328) (hg : t.gas ≤ 65536) (hl : (n : Int) ≤ 256) (hk : t.kd = 3) :
    Calls Try.prog 52 #[.agg (txRow t q n k).toArray] w fun e w' => e = .returned (.bool (((mE t.data == 0) && (t.to == 0)) && zW t.val)) ∧ Below w.heap.size w w' := by
  have b0 : Below w.heap.size w (w.alloc (.cells (txRow t q n k).toArray 54)) := (Below.refl _ _).alloc (Nat.le_refl _) _
  have K := TxAt.new w 54 t q n k
  obtain ⟨c0, c1, c2, c3, c4, c5, c6, c7, c8, c9⟩ := K.cells
  have hgI : ¬ (65536 : Int) < t.gas := by omega
  have hlI : ¬ (256 : Int) < (n : Int) := by omega
  have dg : decide ((65536 : Int) < t.gas) = false := by rw [decide_eq_false_iff_not]; exact hgI
  have dl : decide ((256 : Int) < (n : Int)) = false := by rw [decide_eq_false_iff_not]; exact hlI
  have HX := Lib.hid hx
  have HR : Hid (∀ W, Below w.heap.size w W → Rd W (.slice q n k) t.data) := fun W hb => hr.on hb
  have h10 := txRow_len t q n k
  clear hr hx
  go_enter Try.func52, Try.ntmps52
  go_wp2_with fail
  go_step3
  go_wp2_with fail
  go_step3
  go_wp2_with fail
  refine conditions_any.mono ?_
  rintro e w1 ⟨rfl, rfl⟩
  have b1 : Below (w.alloc (.cells (txRow t q n k).toArray 54)).heap.size (w.alloc (.cells (txRow t q n k).toArray 54)) ((w.alloc (.cells (txRow t q n k).toArray 54)).alloc (.cells #[.int .i64 1, .func (.func 69) #[] #[], .int .i64 2, .func (.func 70) #[] #[], .int .i64 3, .func (.func 71) #[] #[]] 126)) := (Below.refl _ _).alloc (Nat.le_refl _) _
  have T0 := K.on b1
  have D0 := heap_alloc_new (w.alloc (.cells (txRow t q n k).toArray 54)) (.cells #[.int .i64 1, .func (.func 69) #[] #[], .int .i64 2, .func (.func 70) #[] #[], .int .i64 3, .func (.func 71) #[] #[]] 126)
  have hz : (w.alloc (.cells (txRow t q n k).toArray 54)).heap.size = w.heap.size + 1 := by simp
  rw [hz] at D0
  have B0 := Lib.hid (b0.trans (b1.mono b0.size))
  clear b0 b1 hz K c0 c1 c2 c3 c4 c5 c6 c7 c8 c9
  go_wp2_with fail
  generalize ((w.alloc (.cells (txRow t q n k).toArray 54)).alloc (.cells #[.int .i64 1, .func (.func 69) #[] #[], .int .i64 2, .func (.func 70) #[] #[], .int .i64 3, .func (.func 71) #[] #[]] 126)) = w2 at *
  obtain ⟨c0, -, -, -, -, -, -, -, -, -⟩ := T0.cells
  have hrow := T0.row
  have d0 : w2.cell? ⟨w.heap.size + 1, 0, none⟩ = some (.int .i64 1) := (Joins.cell_of_block D0 0).trans rfl
  have d1 : w2.cell? ⟨w.heap.size + 1, 1, none⟩ = some (.func (.func 69) #[] #[]) := (Joins.cell_of_block D0 1).trans rfl
  have d2 : w2.cell? ⟨w.heap.size + 1, 2, none⟩ = some (.int .i64 2) := (Joins.cell_of_block D0 2).trans rfl
  have d3 : w2.cell? ⟨w.heap.size + 1, 3, none⟩ = some (.func (.func 70) #[] #[]) := (Joins.cell_of_block D0 3).trans rfl
  have d4 : w2.cell? ⟨w.heap.size + 1, 4, none⟩ = some (.int .i64 3) := (Joins.cell_of_block D0 4).trans rfl
  have d5 : w2.cell? ⟨w.heap.size + 1, 5, none⟩ = some (.func (.func 71) #[] #[]) := (Joins.cell_of_block D0 5).trans rfl
  have hl0 : w.heap.size < w2.heap.size := T0.lt
  have hl1 : w.heap.size + 1 < w2.heap.size := (Array.getElem?_eq_some_iff.1 D0).1
  have T2 := Lib.hid T0
  have hm0 : w.heap.size < w2.heap.size + 1 := by omega
  have hm1 : w.heap.size + 1 < w2.heap.size + 1 := by omega
  have hm2 : w.heap.size < w2.heap.size + 1 + 1 := by omega
  have hm3 : w.heap.size + 1 < w2.heap.size + 1 + 1 := by omega
  have hn0 : ¬ w.heap.size = w2.heap.size + 1 := by omega
  have hn1 : ¬ w.heap.size = w2.heap.size + 1 + 1 := by omega
  clear D0 T0
  refine wp_loop_rounds 3 ?_
  rw [rounds_succ]
  go_wp2_with fail
  rw [rounds_succ]
  go_wp2_with fail
  rw [rounds_succ]
  have bA : Below w2.heap.size w2 (((w2.alloc (.cells #[.int .i64 1, .func (.func 69) #[] #[]] 126)).alloc (.cells #[.int .i64 2, .func (.func 70) #[] #[]] 126)).alloc (.cells #[.int .i64 3, .func (.func 71) #[] #[]] 126)) := ((((Below.refl _ _).alloc (Nat.le_refl _) _).alloc (by simp only [World.size_alloc]; omega) _).alloc (by simp only [World.size_alloc]; omega) _)
  have KA := T2.out.on bA
  have hrow := KA.row
  have BA := Lib.hid (B0.out.trans (bA.mono B0.out.size))
  clear bA
  go_wp2_with fail
  refine (kind3_any (HR.out _ BA.out) HX.out hn).mono ?_
  rintro e w5 ⟨rfl, hb5⟩
  have B6 := Lib.hid (BA.out.trans (hb5.mono BA.out.size))
  clear hb5
  go_wp2_with fail
  rw [Exit.noGoto_ret]
  go_ret
  exact ⟨rfl, B6.out⟩
set_option maxHeartbeats 8000000 in
theorem RightTx_k0 {w : World} {t : Tg} {q : Option Addr} {n k : Nat} (hr : Rd w (.slice q n k) t.data) (hx : Bytes t.data) (hn : n ≤ 140737488355328) (hg : t.gas ≤ 65536) (hl : (n : Int) ≤ 256) (hk1 : (1 != t.kd) = true) (hk2 : (2 != t.kd) = true) (hk3 : (3 != t.kd) = true) :
    Calls Try.prog 52 #[.agg (txRow t q n k).toArray] w fun e w' => e = .returned (.bool (false)) ∧ Below w.heap.size w w' := by
  have b0 : Below w.heap.size w (w.alloc (.cells (txRow t q n k).toArray 54)) := (Below.refl _ _).alloc (Nat.le_refl _) _
  have K := TxAt.new w 54 t q n k
  obtain ⟨c0, c1, c2, c3, c4, c5, c6, c7, c8, c9⟩ := K.cells
  have hgI : ¬ (65536 : Int) < t.gas := by omega
  have hlI : ¬ (256 : Int) < (n : Int) := by omega
  have dg : decide ((65536 : Int) < t.gas) = false := by rw [decide_eq_false_iff_not]; exact hgI
  have dl : decide ((256 : Int) < (n : Int)) = false := by rw [decide_eq_false_iff_not]; exact hlI
  have HX := Lib.hid hx
  have HR : Hid (∀ W, Below w.heap.size w W → Rd W (.slice q n k) t.data) := fun W hb => hr.on hb
  have h10 := txRow_len t q n k
  clear hr hx
  go_enter Try.func52, Try.ntmps52
  go_wp2_with fail
  go_step3
  go_wp2_with fail
  go_step3
  go_wp2_with fail
  refine conditions_any.mono ?_
  rintro e w1 ⟨rfl, rfl⟩
  have b1 : Below (w.alloc (.cells (txRow t q n k).toArray 54)).heap.size (w.alloc (.cells (txRow t q n k).toArray 54)) ((w.alloc (.cells (txRow t q n k).toArray 54)).alloc (.cells #[.int .i64 1, .func (.func 69) #[] #[], .int .i64 2, .func (.func 70) #[] #[], .int .i64 3, .func (.func 71) #[] #[]] 126)) := (Below.refl _ _).alloc (Nat.le_refl _) _
  have T0 := K.on b1
  have D0 := heap_alloc_new (w.alloc (.cells (txRow t q n k).toArray 54)) (.cells #[.int .i64 1, .func (.func 69) #[] #[], .int .i64 2, .func (.func 70) #[] #[], .int .i64 3, .func (.func 71) #[] #[]] 126)
  have hz : (w.alloc (.cells (txRow t q n k).toArray 54)).heap.size = w.heap.size + 1 := by simp
  rw [hz] at D0
  have B0 := Lib.hid (b0.trans (b1.mono b0.size))
  clear b0 b1 hz K c0 c1 c2 c3 c4 c5 c6 c7 c8 c9
  go_wp2_with fail
  generalize ((w.alloc (.cells (txRow t q n k).toArray 54)).alloc (.cells #[.int .i64 1, .func (.func 69) #[] #[], .int .i64 2, .func (.func 70) #[] #[], .int .i64 3, .func (.func 71) #[] #[]] 126)) = w2 at *
  obtain ⟨c0, -, -, -, -, -, -, -, -, -⟩ := T0.cells
  have hrow := T0.row
  have d0 : w2.cell? ⟨w.heap.size + 1, 0, none⟩ = some (.int .i64 1) := (Joins.cell_of_block D0 0).trans rfl
  have d1 : w2.cell? ⟨w.heap.size + 1, 1, none⟩ = some (.func (.func 69) #[] #[]) := (Joins.cell_of_block D0 1).trans rfl
  have d2 : w2.cell? ⟨w.heap.size + 1, 2, none⟩ = some (.int .i64 2) := (Joins.cell_of_block D0 2).trans rfl
  have d3 : w2.cell? ⟨w.heap.size + 1, 3, none⟩ = some (.func (.func 70) #[] #[]) := (Joins.cell_of_block D0 3).trans rfl
  have d4 : w2.cell? ⟨w.heap.size + 1, 4, none⟩ = some (.int .i64 3) := (Joins.cell_of_block D0 4).trans rfl
  have d5 : w2.cell? ⟨w.heap.size + 1, 5, none⟩ = some (.func (.func 71) #[] #[]) := (Joins.cell_of_block D0 5).trans rfl
  have hl0 : w.heap.size < w2.heap.size := T0.lt
  have hl1 : w.heap.size + 1 < w2.heap.size := (Array.getElem?_eq_some_iff.1 D0).1
  have T2 := Lib.hid T0
  have hm0 : w.heap.size < w2.heap.size + 1 := by omega
  have hm1 : w.heap.size + 1 < w2.heap.size + 1 := by omega
  have hm2 : w.heap.size < w2.heap.size + 1 + 1 := by omega
  have hm3 : w.heap.size + 1 < w2.heap.size + 1 + 1 := by omega
  have hn0 : ¬ w.heap.size = w2.heap.size + 1 := by omega
  have hn1 : ¬ w.heap.size = w2.heap.size + 1 + 1 := by omega
  clear D0 T0
  refine wp_loop_rounds 4 ?_
  rw [rounds_succ]
  go_wp2_with fail
  rw [rounds_succ]
  go_wp2_with fail
  rw [rounds_succ]
  go_wp2_with fail
  rw [rounds_succ]
  go_wp2_with fail
  rw [Exit.noGoto_ret]
  go_ret
  have bA : Below w2.heap.size w2 (((w2.alloc (.cells #[.int .i64 1, .func (.func 69) #[] #[]] 126)).alloc (.cells #[.int .i64 2, .func (.func 70) #[] #[]] 126)).alloc (.cells #[.int .i64 3, .func (.func 71) #[] #[]] 126)) := ((((Below.refl _ _).alloc (Nat.le_refl _) _).alloc (by simp only [World.size_alloc]; omega) _).alloc (by simp only [World.size_alloc]; omega) _)
  exact ⟨rfl, B0.out.trans (bA.mono B0.out.size)⟩
end Go.Proofs.Ytonjkhhihiigfaa
namespace Go.Proofs.Ytonjkhhihiigfaa
set_option maxRecDepth 100000
open Go.RowKit

/-- Behind a count: the flag and the value. -/
def fC (f : Bool) (xs : List Int) (pos : Nat) (most : Nat) : Bool := f || decide (xs.length < pos + 8) || decide ((most : Int) < nAt xs pos)
theorem Count_det {w : World} {p : Nat} {v : Value} {xs : List Int} {pos : Nat} {f : Bool} {most : Nat} (h : RSt w p v xs pos f) (hx : Bytes xs) (hm : most ≤ 1000000) :
    Calls Try.prog 92 #[.pointer (some ⟨p, 0, none⟩), .int .i64 (most : Int)] w fun e w' => e = .returned (.int .i64 (uV (fC f xs pos most) xs pos)) ∧ RSt w' p v xs (pos + 8) (fC f xs pos most) ∧ Chg w w' [p] := by
  have BAD : ∀ (f' : Bool) (w' : World), f' = true → RrF w' p → Chg w w' [p] → (Ending.returned (.int .i64 0) = .returned (.int .i64 (uV f' xs pos)) ∧ RSt w' p v xs (pos + 8) f' ∧ Chg w w' [p]) := fun f' w' e h1 h2 => by
    subst e
    exact ⟨rfl, RSt.mk1 h1, h2⟩
  cases f with
  | true =>
    refine (Count_bad (most := (most : Int)) (h.bad rfl)).mono ?_
    rintro e w' ⟨rfl, h1, h2⟩
    exact BAD _ _ (by simp [fC]) h1 h2
  | false =>
    have h0 := h.ok rfl
    by_cases hf : pos + 8 ≤ xs.length
    · have hn := nAt_bd hx pos
      obtain ⟨z, hz⟩ : ∃ z : Nat, nAt xs pos = z := ⟨(nAt xs pos).toNat, by omega⟩
      by_cases hzm : z ≤ most
      · refine (Count_ok h0 hx hm hf hz hzm).mono ?_
        rintro e w' ⟨rfl, h1, h2⟩
        have e1 : fC false xs pos most = false := by
          simp only [fC, Bool.false_or, Bool.or_eq_false_iff, decide_eq_false_iff_not]
          exact ⟨by omega, by omega⟩
        rw [e1]
        exact ⟨by rw [← hz]; rfl, RSt.mk0 h1, h2⟩
      · refine (Count_big h0 hx hm hf (by show (most : Int) < nAt xs pos; omega)).mono ?_
        rintro e w' ⟨rfl, h1, h2⟩
        exact BAD _ _ (by simp only [fC, Bool.or_eq_true, decide_eq_true_eq]; exact .inr (by omega)) h1 h2
    · refine (Count_end (most := (most : Int)) h0 (by omega)).mono ?_
      rintro e w' ⟨rfl, h1, h2⟩
      exact BAD _ _ (by simp only [fC, Bool.or_eq_true, decide_eq_true_eq]; exact .inl (.inr (by omega))) h1 h2
/-- A row of a Tx in a block of more. -/
def TxIn (w : World) (b : Nat) (pre row post : List Value) : Prop := w.heap[b]? = some (.cells (pre ++ (row ++ post)).toArray 54 (0, 0))
section
variable {w w' : World} {b : Nat} {pre row post : List Value}
theorem TxIn.lt (h : TxIn w b pre row post) : b < w.heap.size := (Array.getElem?_eq_some_iff.1 h).1
theorem TxIn.on (h : TxIn w b pre row post) (hb : Below w.heap.size w w') : TxIn w' b pre row post := by
  unfold TxIn at h ⊢
  rw [hb.block _ (Array.getElem?_eq_some_iff.1 h).1]; exact h
theorem TxIn.chg {K : List Nat} (h : TxIn w b pre row post) (hc : Chg w w' K) (hb : b ∉ K) : TxIn w' b pre row post := by
  unfold TxIn at h ⊢
  rw [hc.block _ (Array.getElem?_eq_some_iff.1 h).1 hb]; exact h
theorem TxIn.cell (h : TxIn w b pre row post) {i : Nat} {u : Value} (hu : row[i]? = some u) {o : Nat} (ho : o = pre.length) : w.cell? ⟨b, o + i, none⟩ = some u := by
  subst ho
  rw [Joins.cell_of_block h]
  have hi := (List.getElem?_eq_some_iff.1 hu).1
  simp only [List.getElem?_toArray]
  rw [List.getElem?_append_right (by omega), Nat.add_sub_cancel_left, List.getElem?_append_left hi]
  exact hu
theorem TxIn.free (h : TxIn w b pre row post) (i : Nat) : w.frozen? ⟨b, i, none⟩ = false := Joins.unfrozen_of_block h i
theorem TxIn.st (h : TxIn w b pre row post) {i : Nat} (hi : i < row.length) (v : Value) {o : Nat} (ho : o = pre.length) : TxIn (w.setCell ⟨b, o + i, none⟩ v) b pre (row.set i v) post := by
  subst ho
  unfold TxIn at h ⊢
  rw [Joins.block_setCell (i := pre.length + i) h]
  congr 2
  apply Array.ext'
  simp only [Array.toList_setIfInBounds]
  rw [List.set_append_right _ _ (by omega), Nat.add_sub_cancel_left, List.set_append_left _ _ hi]
theorem TxIn.off {e : TypeId} {l : Nat} {v : Value} {ys : List Value} (h : TxIn w b pre row post) (ho : w.ownsRow 0 e 1 v l ys) (ht : 54 ≠ e) : ∀ g, v.ownBlock = some g → g ∉ [b] := fun g hg hm => by
  obtain rfl : g = b := by simpa using hm
  exact own_ne ho h ht hg
end
/-- What bytes tell as a Tx, from a place on. -/
def t1 (xs : List Int) (p : Nat) (f : Bool) : Bool := fC f xs p 3
def t2 (xs : List Int) (p : Nat) (f : Bool) : Bool := fU (t1 xs p f) xs (p + 8) 8
def t3 (xs : List Int) (p : Nat) (f : Bool) : Bool := fU (t2 xs p f) xs (p + 8 + 8) 8
def t4 (xs : List Int) (p : Nat) (f : Bool) : Bool := fU (t3 xs p f) xs (p + 8 + 8 + 8) 8
def t5 (xs : List Int) (p : Nat) (f : Bool) : Bool := fU (t4 xs p f) xs (p + 8 + 8 + 8 + 8) 32
def t6 (xs : List Int) (p : Nat) (f : Bool) : Bool := fU (t5 xs p f) xs (p + 8 + 8 + 8 + 8 + 32) 8
def t7 (xs : List Int) (p : Nat) (f : Bool) : Bool := fB (t6 xs p f) xs (p + 8 + 8 + 8 + 8 + 32 + 8)
def tM (xs : List Int) (p : Nat) (f : Bool) : Tg := ⟨uV (t1 xs p f) xs p, uV (t2 xs p f) xs (p + 8), uV (t3 xs p f) xs (p + 8 + 8), uV (t4 xs p f) xs (p + 8 + 8 + 8), wV (t5 xs p f) xs (p + 8 + 8 + 8 + 8), uV (t6 xs p f) xs (p + 8 + 8 + 8 + 8 + 32), bD (t7 xs p f) xs (p + 8 + 8 + 8 + 8 + 32 + 8)⟩
def tE (xs : List Int) (p : Nat) (f : Bool) : Nat := p + 8 + 8 + 8 + 8 + 32 + 8 + 8 + (tM xs p f).data.length
theorem tM_kd {xs : List Int} (hx : Bytes xs) (p : Nat) (f : Bool) : 0 ≤ (tM xs p f).kd ∧ (tM xs p f).kd ≤ 3 := by
  show 0 ≤ uV (t1 xs p f) xs p ∧ uV (t1 xs p f) xs p ≤ 3
  unfold uV
  split
  · decide
  · rename_i h
    have h2 : ¬ 3 < nAt xs p := fun h3 => h (by simp [t1, fC, h3])
    have := nAt_bd hx p
    omega
theorem tM_ok {xs : List Int} (hx : Bytes xs) (p : Nat) (f : Bool) : (tM xs p f).ok := ⟨by have := tM_kd hx p f; omega, uV_bd hx _ _, uV_bd hx _ _, uV_bd hx _ _, wV_ok hx _ _, uV_bd hx _ _, bD_bytes hx _ _⟩
theorem tM_len (xs : List Int) (p : Nat) (f : Bool) : (tM xs p f).data.length ≤ 65536 := bD_len (t6 xs p f) xs _ (.inr trivial)

set_option maxHeartbeats 8000000 in
theorem Txparse_any {w : World} {b p o pos : Nat} {v : Value} {xs : List Int} {f : Bool} {pre post : List Value} (hK : TxIn w b pre (txRow tg0 none 0 0) post) (ho : o = pre.length) (hS : RSt w p v xs pos f) (hx : Bytes xs) (hbp : b ≠ p) :
    Calls Try.prog 93 #[.pointer (some ⟨b, o, none⟩), .pointer (some ⟨p, 0, none⟩)] w fun e w' => ∃ q k, e = .returned (.tuple #[]) ∧ TxIn w' b pre (txRow (tM xs pos f) q (tM xs pos f).data.length k) post ∧ RSt w' p v xs (tE xs pos f) (t7 xs pos f) ∧ Rd w' (.slice q (tM xs pos f).data.length k) (tM xs pos f).data ∧ (∀ g, (Value.slice q (tM xs pos f).data.length k).ownBlock = some g → w.heap.size ≤ g) ∧ Chg w w' [b, p] := by
  have BX := Lib.hid hx
  have HO := Lib.hid ho
  have K0 := Lib.hid hK
  have S0 := Lib.hid hS
  have MM : Hid (tM xs pos f = ⟨uV (t1 xs pos f) xs pos, uV (t2 xs pos f) xs (pos + 8), uV (t3 xs pos f) xs (pos + 8 + 8), uV (t4 xs pos f) xs (pos + 8 + 8 + 8), wV (t5 xs pos f) xs (pos + 8 + 8 + 8 + 8), uV (t6 xs pos f) xs (pos + 8 + 8 + 8 + 8 + 32), bD (t7 xs pos f) xs (pos + 8 + 8 + 8 + 8 + 32 + 8)⟩) := rfl
  have ME : Hid (tE xs pos f = pos + 8 + 8 + 8 + 8 + 32 + 8 + 8 + (tM xs pos f).data.length) := rfl
  obtain ⟨f1, e1⟩ : ∃ f', t1 xs pos f = f' := ⟨_, rfl⟩
  obtain ⟨f2, e2⟩ : ∃ f', t2 xs pos f = f' := ⟨_, rfl⟩
  obtain ⟨f3, e3⟩ : ∃ f', t3 xs pos f = f' := ⟨_, rfl⟩
  obtain ⟨f4, e4⟩ : ∃ f', t4 xs pos f = f' := ⟨_, rfl⟩
  obtain ⟨f5, e5⟩ : ∃ f', t5 xs pos f = f' := ⟨_, rfl⟩
  obtain ⟨f6, e6⟩ : ∃ f', t6 xs pos f = f' := ⟨_, rfl⟩
  obtain ⟨f7, e7⟩ : ∃ f', t7 xs pos f = f' := ⟨_, rfl⟩
  rw [e1, e2, e3, e4, e5, e6, e7] at MM
  have d1 := Lib.hid (show fC f xs pos 3 = f1 from e1)
  have d2 := Lib.hid (show fU f1 xs (pos + 8) 8 = f2 by rw [← e1]; exact e2)
  have d3 := Lib.hid (show fU f2 xs (pos + 8 + 8) 8 = f3 by rw [← e2]; exact e3)
  have d4 := Lib.hid (show fU f3 xs (pos + 8 + 8 + 8) 8 = f4 by rw [← e3]; exact e4)
  have d5 := Lib.hid (show fU f4 xs (pos + 8 + 8 + 8 + 8) 32 = f5 by rw [← e4]; exact e5)
  have d6 := Lib.hid (show fU f5 xs (pos + 8 + 8 + 8 + 8 + 32) 8 = f6 by rw [← e5]; exact e6)
  have d7 := Lib.hid (show fB f6 xs (pos + 8 + 8 + 8 + 8 + 32 + 8) = f7 by rw [← e6]; exact e7)
  have E7 := Lib.hid e7
  obtain ⟨z1, h1⟩ : ∃ z, uV f1 xs (pos) = z := ⟨_, rfl⟩
  obtain ⟨z2, h2⟩ : ∃ z, uV f2 xs (pos + 8) = z := ⟨_, rfl⟩
  obtain ⟨z3, h3⟩ : ∃ z, uV f3 xs (pos + 8 + 8) = z := ⟨_, rfl⟩
  obtain ⟨z4, h4⟩ : ∃ z, uV f4 xs (pos + 8 + 8 + 8) = z := ⟨_, rfl⟩
  obtain ⟨x5, h5⟩ : ∃ z, wV f5 xs (pos + 8 + 8 + 8 + 8) = z := ⟨_, rfl⟩
  obtain ⟨z6, h6⟩ : ∃ z, uV f6 xs (pos + 8 + 8 + 8 + 8 + 32) = z := ⟨_, rfl⟩
  obtain ⟨D7, h7⟩ : ∃ z, bD f7 xs (pos + 8 + 8 + 8 + 8 + 32 + 8) = z := ⟨_, rfl⟩
  rw [h1, h2, h3, h4, h5, h6, h7] at MM
  have Z1 := Lib.hid h1
  have Z2 := Lib.hid h2
  have Z3 := Lib.hid h3
  have Z4 := Lib.hid h4
  have Z5 := Lib.hid h5
  have Z6 := Lib.hid h6
  have Z7 := Lib.hid h7
  clear hK hS hx ho e1 e2 e3 e4 e5 e6 e7 h1 h2 h3 h4 h5 h6 h7
  go_enter Try.func93, Try.ntmps93
  go_wp2_with fail
  refine (Count_det S0.out BX.out (most := 3) (by omega)).mono ?_
  rintro e w1 ⟨rfl, hs, hc⟩
  rw [d1.out] at hs ⊢
  rw [Z1.out]
  have S1 := Lib.hid hs
  have K1 := Lib.hid (K0.out.chg hc (by simpa using hbp))
  have C1 : Hid (Chg w w1 [b, p]) := (hc.more (by simp))
  clear hs hc S0 K0
  have c0 : w1.cell? ⟨b, o, none⟩ = some (.int .i64 0) := K1.out.cell (i := 0) rfl HO.out
  have y0 := K1.out.free (o)
  have cs : Chg w1 (w1.setCell ⟨b, o, none⟩ (.int .i64 z1)) [b] := ((Chg.refl _ [b]).setCell (p := ⟨b, o, none⟩) (.inl (by simp)) _)
  have K2 : Hid (TxIn (w1.setCell ⟨b, o, none⟩ (.int .i64 z1)) b pre (txRow ⟨z1, 0, 0, 0, ⟨0, 0, 0, 0⟩, 0, []⟩ none 0 0) post) := (TxIn.st (i := 0) K1.out (by simp [txRow]) (.int .i64 z1) HO.out)
  have S2 := Lib.hid (S1.out.chg2 cs (by simpa using Ne.symm hbp) (fun ho => K1.out.off ho (by decide)))
  have C2 : Hid (Chg w (w1.setCell ⟨b, o, none⟩ (.int .i64 z1)) [b, p]) := C1.out.trans (cs.more (by simp)) (fun x hx _ => hx)
  clear cs S1 C1 K1
  go_wp2_with fail
  clear c0 y0
  generalize (w1.setCell ⟨b, o, none⟩ (.int .i64 z1)) = w2 at *
  refine (Uint_st S2.out BX.out).mono ?_
  rintro e w3 ⟨rfl, hs, hc⟩
  rw [d2.out] at hs ⊢
  rw [Z2.out]
  have S3 := Lib.hid hs
  have K3 := Lib.hid (K2.out.chg hc (by simpa using hbp))
  have C3 : Hid (Chg w w3 [b, p]) := C2.out.trans (hc.more (by simp)) (fun x hx _ => hx)
  clear hs hc S2 K2 C2
  go_wp2_with fail
  refine (Uint_st S3.out BX.out).mono ?_
  rintro e w4 ⟨rfl, hs, hc⟩
  rw [d3.out] at hs ⊢
  rw [Z3.out]
  have S4 := Lib.hid hs
  have K4 := Lib.hid (K3.out.chg hc (by simpa using hbp))
  have C4 : Hid (Chg w w4 [b, p]) := C3.out.trans (hc.more (by simp)) (fun x hx _ => hx)
  clear hs hc S3 K3 C3
  go_wp2_with fail
  refine (Uint_st S4.out BX.out).mono ?_
  rintro e w5 ⟨rfl, hs, hc⟩
  rw [d4.out] at hs ⊢
  rw [Z4.out]
  have S5 := Lib.hid hs
  have K5 := Lib.hid (K4.out.chg hc (by simpa using hbp))
  have C5 : Hid (Chg w w5 [b, p]) := C4.out.trans (hc.more (by simp)) (fun x hx _ => hx)
  clear hs hc S4 K4 C4
  have c1 : w5.cell? ⟨b, o + 1, none⟩ = some (.int .u64 0) := K5.out.cell (i := 1) rfl HO.out
  have y1 := K5.out.free (o + 1)
  have c2 : w5.cell? ⟨b, o + 2, none⟩ = some (.int .u64 0) := K5.out.cell (i := 2) rfl HO.out
  have y2 := K5.out.free (o + 2)
  have c3 : w5.cell? ⟨b, o + 3, none⟩ = some (.int .u64 0) := K5.out.cell (i := 3) rfl HO.out
  have y3 := K5.out.free (o + 3)
  have cs : Chg w5 (((w5.setCell ⟨b, o + 1, none⟩ (.int .u64 z2)).setCell ⟨b, o + 2, none⟩ (.int .u64 z3)).setCell ⟨b, o + 3, none⟩ (.int .u64 z4)) [b] := ((((Chg.refl _ [b]).setCell (p := ⟨b, o + 1, none⟩) (.inl (by simp)) _).setCell (p := ⟨b, o + 2, none⟩) (.inl (by simp)) _).setCell (p := ⟨b, o + 3, none⟩) (.inl (by simp)) _)
  have K6 : Hid (TxIn (((w5.setCell ⟨b, o + 1, none⟩ (.int .u64 z2)).setCell ⟨b, o + 2, none⟩ (.int .u64 z3)).setCell ⟨b, o + 3, none⟩ (.int .u64 z4)) b pre (txRow ⟨z1, z2, z3, z4, ⟨0, 0, 0, 0⟩, 0, []⟩ none 0 0) post) := (TxIn.st (i := 3) (TxIn.st (i := 2) (TxIn.st (i := 1) K5.out (by simp [txRow]) (.int .u64 z2) HO.out) (by simp [txRow]) (.int .u64 z3) HO.out) (by simp [txRow]) (.int .u64 z4) HO.out)
  have S6 := Lib.hid (S5.out.chg2 cs (by simpa using Ne.symm hbp) (fun ho => K5.out.off ho (by decide)))
  have C6 : Hid (Chg w (((w5.setCell ⟨b, o + 1, none⟩ (.int .u64 z2)).setCell ⟨b, o + 2, none⟩ (.int .u64 z3)).setCell ⟨b, o + 3, none⟩ (.int .u64 z4)) [b, p]) := C5.out.trans (cs.more (by simp)) (fun x hx _ => hx)
  clear cs S5 C5 K5
  go_wp2_with fail
  clear c1 y1 c2 y2 c3 y3
  generalize (((w5.setCell ⟨b, o + 1, none⟩ (.int .u64 z2)).setCell ⟨b, o + 2, none⟩ (.int .u64 z3)).setCell ⟨b, o + 3, none⟩ (.int .u64 z4)) = w6 at *
  refine (Wide_st S6.out BX.out).mono ?_
  rintro e w7 ⟨rfl, hs, hc⟩
  rw [d5.out] at hs ⊢
  rw [Z5.out]
  unfold w4v
  have S7 := Lib.hid hs
  have K7 := Lib.hid (K6.out.chg hc (by simpa using hbp))
  have C7 : Hid (Chg w w7 [b, p]) := C6.out.trans (hc.more (by simp)) (fun x hx _ => hx)
  clear hs hc S6 K6 C6
  have c4 : w7.cell? ⟨b, o + 4, none⟩ = some (.int .u64 0) := K7.out.cell (i := 4) rfl HO.out
  have y4 := K7.out.free (o + 4)
  have c5 : w7.cell? ⟨b, o + 5, none⟩ = some (.int .u64 0) := K7.out.cell (i := 5) rfl HO.out
  have y5 := K7.out.free (o + 5)
  have c6 : w7.cell? ⟨b, o + 6, none⟩ = some (.int .u64 0) := K7.out.cell (i := 6) rfl HO.out
  have y6 := K7.out.free (o + 6)
  have c7 : w7.cell? ⟨b, o + 7, none⟩ = some (.int .u64 0) := K7.out.cell (i := 7) rfl HO.out
  have y7 := K7.out.free (o + 7)
  have cs : Chg w7 ((((w7.setCell ⟨b, o + 4, none⟩ (.int .u64 x5.a)).setCell ⟨b, o + 5, none⟩ (.int .u64 x5.b)).setCell ⟨b, o + 6, none⟩ (.int .u64 x5.c)).setCell ⟨b, o + 7, none⟩ (.int .u64 x5.d)) [b] := (((((Chg.refl _ [b]).setCell (p := ⟨b, o + 4, none⟩) (.inl (by simp)) _).setCell (p := ⟨b, o + 5, none⟩) (.inl (by simp)) _).setCell (p := ⟨b, o + 6, none⟩) (.inl (by simp)) _).setCell (p := ⟨b, o + 7, none⟩) (.inl (by simp)) _)
  have K8 : Hid (TxIn ((((w7.setCell ⟨b, o + 4, none⟩ (.int .u64 x5.a)).setCell ⟨b, o + 5, none⟩ (.int .u64 x5.b)).setCell ⟨b, o + 6, none⟩ (.int .u64 x5.c)).setCell ⟨b, o + 7, none⟩ (.int .u64 x5.d)) b pre (txRow ⟨z1, z2, z3, z4, x5, 0, []⟩ none 0 0) post) := (TxIn.st (i := 7) (TxIn.st (i := 6) (TxIn.st (i := 5) (TxIn.st (i := 4) K7.out (by simp [txRow]) (.int .u64 x5.a) HO.out) (by simp [txRow]) (.int .u64 x5.b) HO.out) (by simp [txRow]) (.int .u64 x5.c) HO.out) (by simp [txRow]) (.int .u64 x5.d) HO.out)
  have S8 := Lib.hid (S7.out.chg2 cs (by simpa using Ne.symm hbp) (fun ho => K7.out.off ho (by decide)))
  have C8 : Hid (Chg w ((((w7.setCell ⟨b, o + 4, none⟩ (.int .u64 x5.a)).setCell ⟨b, o + 5, none⟩ (.int .u64 x5.b)).setCell ⟨b, o + 6, none⟩ (.int .u64 x5.c)).setCell ⟨b, o + 7, none⟩ (.int .u64 x5.d)) [b, p]) := C7.out.trans (cs.more (by simp)) (fun x hx _ => hx)
  clear cs S7 C7 K7
  go_wp2_with fail
  clear c4 y4 c5 y5 c6 y6 c7 y7
  generalize ((((w7.setCell ⟨b, o + 4, none⟩ (.int .u64 x5.a)).setCell ⟨b, o + 5, none⟩ (.int .u64 x5.b)).setCell ⟨b, o + 6, none⟩ (.int .u64 x5.c)).setCell ⟨b, o + 7, none⟩ (.int .u64 x5.d)) = w8 at *
  refine (Uint_st S8.out BX.out).mono ?_
  rintro e w9 ⟨rfl, hs, hc⟩
  rw [d6.out] at hs ⊢
  rw [Z6.out]
  have S9 := Lib.hid hs
  have K9 := Lib.hid (K8.out.chg hc (by simpa using hbp))
  have C9 : Hid (Chg w w9 [b, p]) := C8.out.trans (hc.more (by simp)) (fun x hx _ => hx)
  clear hs hc S8 K8 C8
  have c8 : w9.cell? ⟨b, o + 8, none⟩ = some (.int .u64 0) := K9.out.cell (i := 8) rfl HO.out
  have y8 := K9.out.free (o + 8)
  have cs : Chg w9 (w9.setCell ⟨b, o + 8, none⟩ (.int .u64 z6)) [b] := ((Chg.refl _ [b]).setCell (p := ⟨b, o + 8, none⟩) (.inl (by simp)) _)
  have K10 : Hid (TxIn (w9.setCell ⟨b, o + 8, none⟩ (.int .u64 z6)) b pre (txRow ⟨z1, z2, z3, z4, x5, z6, []⟩ none 0 0) post) := (TxIn.st (i := 8) K9.out (by simp [txRow]) (.int .u64 z6) HO.out)
  have S10 := Lib.hid (S9.out.chg2 cs (by simpa using Ne.symm hbp) (fun ho => K9.out.off ho (by decide)))
  have C10 : Hid (Chg w (w9.setCell ⟨b, o + 8, none⟩ (.int .u64 z6)) [b, p]) := C9.out.trans (cs.more (by simp)) (fun x hx _ => hx)
  clear cs S9 C9 K9
  go_wp2_with fail
  clear c8 y8
  generalize (w9.setCell ⟨b, o + 8, none⟩ (.int .u64 z6)) = w10 at *
  refine (Blob_st S10.out BX.out).mono ?_
  rintro e w11 ⟨q11, k11, rfl, hr, hf, hs, hc⟩
  rw [d7.out] at hr hf hs ⊢
  rw [Z7.out] at hr hf hs ⊢
  have hb10 := K10.out.lt
  have S11 := Lib.hid hs
  have K11 := Lib.hid (K10.out.chg hc (by simpa using hbp))
  have C11 : Hid (Chg w w11 [b, p]) := C10.out.trans (hc.more (by simp)) (fun x hx _ => hx)
  have R11 : Hid (Rd (w11.setCell ⟨b, o + 9, none⟩ (.slice q11 D7.length k11)) (.slice q11 D7.length k11) D7) := hr.setCell (a := ⟨b, o + 9, none⟩) (fun e => by have h9 : w10.heap.size ≤ b := hf _ e; omega) _
  have F11 : Hid (∀ g, (Value.slice q11 D7.length k11).ownBlock = some g → w.heap.size ≤ g) := fun g hg => Nat.le_trans C10.out.size (hf g hg)
  clear hs hc S10 C10 K10 hr hf hb10
  have c9 : w11.cell? ⟨b, o + 9, none⟩ = some (.slice none 0 0) := K11.out.cell (i := 9) rfl HO.out
  have y9 := K11.out.free (o + 9)
  have cs : Chg w11 (w11.setCell ⟨b, o + 9, none⟩ (.slice q11 D7.length k11)) [b] := ((Chg.refl _ [b]).setCell (p := ⟨b, o + 9, none⟩) (.inl (by simp)) _)
  have K12 : Hid (TxIn (w11.setCell ⟨b, o + 9, none⟩ (.slice q11 D7.length k11)) b pre (txRow ⟨z1, z2, z3, z4, x5, z6, D7⟩ q11 D7.length k11) post) := (TxIn.st (i := 9) K11.out (by simp [txRow]) (.slice q11 D7.length k11) HO.out)
  have S12 := Lib.hid (S11.out.chg2 cs (by simpa using Ne.symm hbp) (fun ho => K11.out.off ho (by decide)))
  have C12 : Hid (Chg w (w11.setCell ⟨b, o + 9, none⟩ (.slice q11 D7.length k11)) [b, p]) := C11.out.trans (cs.more (by simp)) (fun x hx _ => hx)
  clear cs S11 C11 K11
  go_wp2_with fail
  go_end0
  have MD : (tM xs pos f).data = D7 := by rw [MM.out]
  rw [ME.out, MD, E7.out]
  exact ⟨q11, k11, rfl, by rw [MM.out]; exact K12.out, S12.out, R11.out, F11.out, C12.out⟩
end Go.Proofs.Ytonjkhhihiigfaa
