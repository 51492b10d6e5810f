/-
  A machine's state as a value; Start, Right.; The machine's Run.; The walks of package codec: a writer that was made, and what is written.; The walks of package codec: NewWriter, Bytes, Blob.; The writer's Uint, where there is room.; Package machine: numbers as bytes.; The walk of digest.Sum.; Rows of bytes, read with their room; a hash's cells.; What a region's held predicate may become on the way: a stronger one.
-/
import Derived.Deep.RegionHeld3
import Derived.BigQuiet
import Derived.Deep.QuietTactic
import Derived.StillTailTactics
import Derived.Test.YtnllcmcahfkmaaaDoorRows
import Derived.OrdersHeld
import Derived.Test.YtnllcmcahfkmaaaDoorMp2
import Derived.Test.YtnllcmcahfkmaaaDoorMp3
import Derived.Test.YtnllcmcahfkmaaaDoorMp4
namespace Go.Proofs.YtnllcmcahfkmaaaDoor
set_option maxRecDepth 100000
open Go.RowKit

def ws0 : List Int := [0, 0, 0, 0, 0, 0, 0, 0, 0, 0, 0, 0, 0, 0, 0, 0]
def ms0 : Ms := ⟨0, 0, 0, 0, [], ws0⟩
@[go_sem] theorem stRow_len {s : Ms} {q : Option Addr} {c : Nat} (h : s.wds.length = 16) : (stRow s q c).length = 21 := by simp [stRow, h]
theorem stRow_one (s : Ms) (q : Option Addr) (c : Nat) : ∀ u ∈ stRow s q c, u.oneCell' = true := by
  intro u hu
  simp only [stRow, List.mem_cons] at hu
  rcases hu with rfl | rfl | rfl | rfl | rfl | h
  · rfl
  · rfl
  · rfl
  · rfl
  · rfl
  · exact wcs_one _ u h
@[go_sem ↓] theorem load21 (a : Addr) : loadCellsFrom a 0 21 #[] = rowLoad a 21 := rfl
@[go_sem ↓] theorem load16 (a : Addr) : loadCellsFrom a 0 16 #[] = rowLoad a 16 := rfl
@[go_sem] theorem run_storeCells_st {P : Program} (w : World) (b : Nat) (s : Ms) (q : Option Addr) (c : Nat) (h : s.wds.length = 16) (hw : w.there b 0 21) : (storeCells ⟨b, 0, none⟩ (stRow s q c) 0).run P w = .ok () (w.setCells b 0 (stRow s q c)) := by
  have e := stRow_len (q := q) (c := c) h
  have := run_storeCells_cells (P := P) b 0 (stRow s q c) 0 w (fun j hj => by rw [e] at hj; simpa using (hw j hj).1) (fun j hj => by rw [e] at hj; simpa using (hw j hj).2) (stRow_one s q c)
  simpa using this
@[go_sem ↓] theorem Tryd.zero_st (w : World) : (zeroValue 34).run Tryd.prog w = .ok (.agg (stRow ms0 none 0).toArray) w := by kernel_rfl
@[go_sem ↓] theorem Tryd.build_st (ps : Array (Nat × Value)) : Instr.build 34 ps = rowBuild 34 ps := rfl
@[go_sem ↓] theorem Tryd.build_ws (ps : Array (Nat × Value)) : Instr.build 27 ps = rowBuild 27 ps := rfl
@[go_sem] theorem Tryd.run_ws0 (w : World) : (rowBuild 27 #[]).run Tryd.prog w = .ok (.agg (wcs ws0).toArray) w := by unfold rowBuild; kernel_rfl
theorem len16 {W : List Int} (h : W.length = 16) : ∃ a_ b_ c_ d_ e_ f_ g_ h_ i_ j_ k_ l_ m_ n_ o_ p_, W = [a_, b_, c_, d_, e_, f_, g_, h_, i_, j_, k_, l_, m_, n_, o_, p_] := by
  match W, h with
  | [a_, b_, c_, d_, e_, f_, g_, h_, i_, j_, k_, l_, m_, n_, o_, p_], _ => exact ⟨a_, b_, c_, d_, e_, f_, g_, h_, i_, j_, k_, l_, m_, n_, o_, p_, rfl⟩
theorem Tryd.run_start (w : World) (g : Int) {W : List Int} (h : W.length = 16) : (rowBuild 34 #[(1, .int .u64 g), (5, .agg (wcs W).toArray)]).run Tryd.prog w = .ok (.agg (stRow (startM g W) none 0).toArray) w := by
  obtain ⟨a_, b_, c_, d_, e_, f_, g_, h_, i_, j_, k_, l_, m_, n_, o_, p_, rfl⟩ := len16 h
  unfold rowBuild
  kernel_rfl
theorem all_snocG {L : List Ins} {i : Nat} {f : Ins → Bool} (hlt : i < L.length) (h : (L.take i).all f = true) : (L.take (i + 1)).all f = f (L.getD i ins0) := by
  have e : L.getD i ins0 = L[i] := by simp [List.getD, hlt]
  rw [List.take_succ_eq_append_getElem hlt, List.all_append, h, e]
  simp
/-- Block b holds a state. -/
def StAt (w : World) (b : Nat) (s : Ms) (q : Option Addr) (c : Nat) : Prop := w.heap[b]? = some (.cells (stRow s q c).toArray 34 (0, 0))
section
variable {w w' : World} {b : Nat} {s : Ms} {q : Option Addr} {c : Nat}
theorem StAt.row (h : StAt w b s q c) (hs : s.wds.length = 16) : rowOf w b 0 21 = stRow s q c := by
  rw [rowOf_block h]
  have e := stRow_len (q := q) (c := c) hs
  simp [List.take_of_length_le (Nat.le_of_eq e)]
theorem StAt.there (h : StAt w b s q c) (hs : s.wds.length = 16) : w.there b 0 21 := fun j hj => by
  refine ⟨?_, Joins.unfrozen_of_block h _⟩
  rw [cell_of_row _ _ _ _ _ _ h]
  simp only [List.getElem?_toArray]
  rw [List.getElem?_eq_getElem (by rw [stRow_len hs]; omega)]
  rfl
theorem StAt.put {s' : Ms} {q' : Option Addr} {c' : Nat} (h : StAt w b s q c) (hs : s.wds.length = 16) (hs' : s'.wds.length = 16) : StAt (w.setCells b 0 (stRow s' q' c')) b s' q' c' := by
  unfold StAt at h ⊢
  have := setCells_block (b := b) (t := 34) (fr := (0, 0)) (stRow s' q' c') (o := 0) (w := w) (pre := []) (mid := stRow s q c) (post := []) (by simpa using h) rfl (by rw [stRow_len hs, stRow_len hs'])
  simpa using this
end
theorem wsRow {w : World} {b : Nat} {W : List Int} {T : TypeId} {fr : Nat × Nat} (h : w.heap[b]? = some (.cells (wcs W).toArray T fr)) (hW : W.length = 16) : rowOf w b 0 16 = wcs W := by
  rw [rowOf_block h]
  have e : (wcs W).length = 16 := by rw [wcs_len, hW]
  simp [List.take_of_length_le (Nat.le_of_eq e)]
@[go_sem] theorem wcs_l16 {W : List Int} (h : W.length = 16) : (wcs W).length = 16 := by rw [wcs_len, h]
theorem ws0_len : ws0.length = 16 := by simp [ws0]
set_option maxHeartbeats 2000000 in
theorem Start_any (w : World) (g : Int) {W : List Int} (hW : W.length = 16) : Calls Tryd.prog 11 #[.int .u64 g, .agg (wcs W).toArray] w fun e w' => e = .returned (.agg (stRow (startM g W) none 0).toArray) ∧ Below w.heap.size w w' := by
  have b1 : Below w.heap.size w (w.alloc (.cells (wcs W).toArray 27)) := (Below.refl _ _).alloc (Nat.le_refl _) _
  have b2 : Below w.heap.size w ((w.alloc (.cells (wcs W).toArray 27)).alloc (.cells (stRow ms0 none 0).toArray 34)) := b1.alloc b1.size _
  have hz : (w.alloc (.cells (wcs W).toArray 27)).heap.size = w.heap.size + 1 := by simp
  have K1 : ((w.alloc (.cells (wcs W).toArray 27)).alloc (.cells (stRow ms0 none 0).toArray 34)).heap[w.heap.size]? = some (.cells (wcs W).toArray 27 (0, 0)) := by
    rw [Below.heap_alloc _ _ _ (by rw [hz]; omega)]
    exact heap_alloc_new w _
  have cr := wsRow K1 hW
  have K2 : StAt ((w.alloc (.cells (wcs W).toArray 27)).alloc (.cells (stRow ms0 none 0).toArray 34)) (w.heap.size + 1) ms0 none 0 := by
    have := heap_alloc_new (w.alloc (.cells (wcs W).toArray 27)) (.cells (stRow ms0 none 0).toArray 34)
    rw [hz] at this
    exact this
  have ct := K2.there ws0_len
  have hw2 : (startM g W).wds.length = 16 := hW
  have K3 := Lib.hid (K2.put (s' := startM g W) (q' := none) (c' := 0) ws0_len hw2)
  have HB := Lib.hid (below_setCells' (w.heap.size + 1) (by omega) (stRow (startM g W) none 0) 0 b2)
  have hrs := fun W' => Tryd.run_start W' g hW
  clear K1 K2 hz
  go_enter Tryd.func11, Tryd.ntmps11
  go_upto_region 1 with fail
  generalize (w.alloc (.cells (wcs W).toArray 27)).alloc (.cells (stRow ms0 none 0).toArray 34) = w2 at *
  go_wp2_with fail
  have cf := K3.out.row hw2
  refine bodyPost_ret (v := .agg (stRow (startM g W) none 0).toArray) (by simp [results, Tryd.results11, go_sem, cf, hw2]) rfl ⟨rfl, HB.out⟩
set_option maxHeartbeats 4000000 in
theorem Right_any {w : World} {F : Fp} {L : List Ins} {q : Option Addr} {c : Nat} (hr : RwF 2 ins0 PIs w F q L) (hl : L.length ≤ 3000000000000) : Calls Tryd.prog 12 #[.slice q L.length c] w fun e w' => e = .returned (.bool (codeOk L)) ∧ Below w.heap.size w w' := by
  by_cases h128 : L.length ≤ 128
  rotate_left
  · have E : codeOk L = false := by unfold codeOk; rw [decide_eq_false h128]; rfl
    rw [E]
    have d : decide ((L.length : Int) > 128) = true := decide_eq_true (by omega)
    have d2 : decide (128 < L.length) = true := decide_eq_true (by omega)
    clear E h128 hr hl
    go_enter Tryd.func12, Tryd.ntmps12
    go_wp2_with fail
    go_ret
    exact ⟨rfl, Below.refl _ _⟩
  have E : codeOk L = L.all insOk := by unfold codeOk; rw [decide_eq_true h128]; rfl
  rw [E]
  have d : decide ((L.length : Int) > 128) = false := decide_eq_false (by omega)
  have d2 : decide (128 < L.length) = false := decide_eq_false (by omega)
  have HR := Lib.hid (fun (W : World) (hb : Below w.heap.size w W) => hr.on PIs_ok (by decide) hb)
  obtain ⟨B, hB⟩ : ∃ B, L.all insOk = B := ⟨_, rfl⟩
  rw [hB]
  have HBe := Lib.hid hB
  have B0 := Lib.hid (Below.refl w.heap.size w)
  clear E hr hl hB
  go_enter Tryd.func12, Tryd.ntmps12
  go_wp2_with fail
  go_loopw [4, 10] (fun pv iv wr => ∃ (i : Nat), iv = .int .i64 (i : Int) ∧ i ≤ L.length ∧ Hid (Below w.heap.size w wr) ∧ Hid ((L.take i).all insOk = true)) (fun _ iv _ => L.length - (intOf iv).toNat)
  case atStart => exact ⟨0, rfl, by omega, B0, by show _ = _; rfl⟩
  case round =>
    clear B0
    obtain ⟨i, rfl, hil, hb, hok⟩ := hrel
    by_cases hlt : i < L.length
    · obtain ⟨b, off, r, rfl, _, hr2, hrow, hp⟩ := (HR.out _ hb.out).get hlt
      subst hp
      obtain ⟨y, hy⟩ : ∃ y, L.getD i ins0 = y := ⟨_, rfl⟩
      have HY := Lib.hid hy
      rw [hy] at hrow
      obtain ⟨op, x⟩ := y
      have g0 := row_cellG hrow rfl (j := 0) (v := .int .i64 op) rfl
      have g1 := row_cellG hrow rfl (j := 1) (v := .int .u64 x) rfl
      rw [Nat.add_zero] at g0
      have KR := Lib.hid (fun (W : World) => rightInstr_any W op x)
      have HLT := Lib.hid hlt
      have HS : Hid ((L.take (i + 1)).all insOk = insOk ⟨op, x⟩) := by
        show _ = _
        rw [all_snocG hlt hok.out, hy]
      have HF : Hid (insOk ⟨op, x⟩ = false → B = false) := fun h => by
        rw [← HBe.out, ← List.take_append_drop (i + 1) L, List.all_append, HS.out, h]
        rfl
      obtain ⟨z, hz⟩ : ∃ z, insOk ⟨op, x⟩ = z := ⟨_, rfl⟩
      rw [hz] at KR HS HF
      have ba : Below wr.heap.size wr (wr.alloc (.cells #[.int .i64 op, .int .u64 x] 47)) := (Below.refl _ _).alloc (Nat.le_refl _) _
      have BA := Lib.hid (hb.out.trans (ba.mono hb.out.size))
      clear hz hy hrow hr2 ba hb hok
      go_wp2_with fail
      clear g0 g1
      refine (KR.out _).mono ?_
      rintro e w2 ⟨rfl, b2⟩
      have B2 := Lib.hid (BA.out.trans (b2.mono BA.out.size))
      clear b2 KR BA
      cases z with
      | false =>
        go_wp2_with fail
        go_ret
        rw [show B = false from by first | exact HF.out rfl | exact HF.out trivial]
        exact ⟨rfl, B2.out⟩
      | true =>
        go_wp2_with fail
        go_roundw
        case rel => exact ⟨i + 1, by go_num, by have := HLT.out; omega, B2, HS⟩
        case measure => have := HLT.out; simp [intOf]; omega
    · have HT : Hid (B = true) := by
        show _ = _
        rw [← HBe.out]
        have := hok.out
        rw [List.take_of_length_le (by omega)] at this
        exact this
      clear hok
      go_wp2_with fail
      go_ret
      rw [HT.out]
      exact ⟨rfl, hb.out⟩
end Go.Proofs.YtnllcmcahfkmaaaDoor
namespace Go.Proofs.YtnllcmcahfkmaaaDoor
set_option maxRecDepth 100000
open Go.RowKit

theorem RdU.src {P : Program} {tx e' : TypeId} {w : World} {v : Value} {xs : List Int} (hk : P.underlying tx = some (.slice e')) (h : RdU w v xs) : Src P 1 tx v xs.length (wcs xs) w := by
  obtain ⟨q, c, rfl, rfl | ⟨b, off, rfl, hx⟩⟩ := h
  · cases q with
    | none => exact Src.ofNil w hk c
    | some a => exact Src.ofSlice w hk a 0 c [] (by simp) (fun j u hu => by simp at hu) (by simp)
  · refine Src.ofSlice w hk _ _ _ _ (by simp) (fun j u hu => ?_) (wcs_one xs)
    have hl : j < xs.length := by
      have := (List.getElem?_eq_some_iff.1 hu).1
      rwa [wcs_len] at this
    rw [wcs_get hl] at hu
    rw [addr_add, hx j hl]
    exact hu
theorem rdU_of_own {w : World} {e : TypeId} {q : Option Addr} {c : Nat} {xs : List Int} (h : w.ownsRow 0 e 1 (.slice q xs.length c) xs.length (wcs xs)) : RdU w (.slice q xs.length c) xs := by
  refine ⟨q, c, rfl, ?_⟩
  by_cases h0 : xs = []
  · exact .inl h0
  · obtain ⟨g, cap, e1⟩ := Joins.ownsRow_form h (List.length_pos_iff.2 h0)
    simp only [Value.slice.injEq] at e1
    obtain ⟨rfl, -, rfl⟩ := e1
    refine .inr ⟨g, 0, rfl, fun i hi => ?_⟩
    rw [Nat.zero_add, h.cellAt i (by omega)]
    exact wcs_get hi
/-- What Run answers. -/
theorem own_room {w : World} {e : TypeId} {q : Option Addr} {n c : Nat} {xs : List Value} (h : w.ownsRow 0 e 1 (.slice q n c) n xs) : n ≤ c ∧ c ≤ maxLen := by
  rcases h.2 with ⟨e1, h0⟩ | ⟨g, cap, cur, e1, _, hg, hnc, hcm, _⟩
  · simp only [Value.slice.injEq] at e1
    obtain ⟨-, h1, rfl⟩ := e1
    unfold maxLen
    omega
  · simp only [Value.slice.injEq] at e1
    obtain ⟨-, -, rfl⟩ := e1
    exact ⟨hnc, hcm⟩
def RunP (r : Ms × Nat) (w : World) (e : Ending) (w' : World) : Prop := ∃ q k, e = .returned (.tuple #[.agg (stRow r.1 q k).toArray, .int .i64 (r.2 : Int)]) ∧ w'.ownsRow 0 23 1 (.slice q r.1.stk.length k) r.1.stk.length (wcs r.1.stk) ∧ Below w.heap.size w w'
set_option maxHeartbeats 8000000 in
theorem Run_any {w : World} {F : Fp} {L : List Ins} {qL : Option Addr} {cL : Nat} (hr : RwF 2 ins0 PIs w F qL L) (hl : L.length ≤ 1000) (lu : ∀ i ∈ L, i.ok) {c : Cx} {qi : Option Addr} {ki : Nat} (hc : c.ok) (hi : RdU w (.slice qi c.inp.length ki) c.inp)
    {s : Ms} {qs : Option Addr} {ks : Nat} (ok : s.ok) (hs : RdU w (.slice qs s.stk.length ks) s.stk) {M : Int} (hm : M ≤ 1000000000000) :
    Calls Tryd.prog 6 #[.slice qL L.length cL, cxV c qi ki, .agg (stRow s qs ks).toArray, .int .i64 M] w (RunP (runM L c s M) w) := by
  obtain ⟨i0, hi0, hz0, hz1, hz2⟩ := info_parts Tryd.infoU64
  replace hi0 := Lib.hid hi0
  replace hz0 := Lib.hid hz0
  replace hz1 := Lib.hid hz1
  replace hz2 := Lib.hid hz2
  have OK := Lib.hid ok
  have HC := Lib.hid hc
  have LU := Lib.hid lu
  have HL3 : Hid (L.length ≤ 3000000000000) := Nat.le_trans hl (by decide)
  have HL1 := Lib.hid hl
  have HMX := Lib.hid hm
  -- the four blocks
  have z1 : (w.alloc (.cells #[.slice qL L.length cL] 37)).heap.size = w.heap.size + 1 := by simp
  have z2 : ((w.alloc (.cells #[.slice qL L.length cL] 37)).alloc (.cells #[.int .u64 c.who, .int .u64 c.val, .slice qi c.inp.length ki] 39)).heap.size = w.heap.size + 2 := by simp
  have b1 : Below w.heap.size w (w.alloc (.cells #[.slice qL L.length cL] 37)) := (Below.refl _ _).alloc (Nat.le_refl _) _
  have b2 : Below w.heap.size w ((w.alloc (.cells #[.slice qL L.length cL] 37)).alloc (.cells #[.int .u64 c.who, .int .u64 c.val, .slice qi c.inp.length ki] 39)) := b1.alloc b1.size _
  have K0 : ((w.alloc (.cells #[.slice qL L.length cL] 37)).alloc (.cells #[.int .u64 c.who, .int .u64 c.val, .slice qi c.inp.length ki] 39)).heap[w.heap.size]? = some (.cells #[.slice qL L.length cL] 37 (0, 0)) := by
    rw [Below.heap_alloc _ _ _ (by rw [z1]; omega)]
    exact heap_alloc_new w _
  have K1 : ((w.alloc (.cells #[.slice qL L.length cL] 37)).alloc (.cells #[.int .u64 c.who, .int .u64 c.val, .slice qi c.inp.length ki] 39)).heap[w.heap.size + 1]? = some (.cells #[.int .u64 c.who, .int .u64 c.val, .slice qi c.inp.length ki] 39 (0, 0)) := by
    have := heap_alloc_new (w.alloc (.cells #[.slice qL L.length cL] 37)) (.cells #[.int .u64 c.who, .int .u64 c.val, .slice qi c.inp.length ki] 39)
    rw [z1] at this
    exact this
  obtain ⟨a, ha⟩ : ∃ a, (w.alloc (.cells #[.slice qL L.length cL] 37)).alloc (.cells #[.int .u64 c.who, .int .u64 c.val, .slice qi c.inp.length ki] 39) = a := ⟨_, rfl⟩
  rw [ha] at b2 z2 K0 K1
  have za : a.heap.size = w.heap.size + 2 := z2
  have BA := Lib.hid b2
  have hra := hr.on PIs_ok (by decide) b2
  have KA : Hid (∀ W pc, Below a.heap.size a W → Calls Tryd.prog 15 #[.int .i64 pc, .pointer (some ⟨w.heap.size, 0, none⟩)] W fun e w' => e = .returned (atV L pc) ∧ Below W.heap.size W w') := fun W pc hb =>
    At_any (by rw [hb.block _ (Array.getElem?_eq_some_iff.1 K0).1]; exact K0) (hra.on PIs_ok (by decide) hb) hl pc
  have RI := Lib.hid (hi.on b2)
  have b3 : Below a.heap.size a (a.alloc (.cells (stRow s qs ks).toArray 34)) := (Below.refl _ _).alloc (Nat.le_refl _) _
  have b4 : Below a.heap.size a ((a.alloc (.cells (stRow s qs ks).toArray 34)).alloc (.cells (stRow ms0 none 0).toArray 34)) := b3.alloc b3.size _
  have z3 : (a.alloc (.cells (stRow s qs ks).toArray 34)).heap.size = w.heap.size + 2 + 1 := by simp [za]
  have z4 : ((a.alloc (.cells (stRow s qs ks).toArray 34)).alloc (.cells (stRow ms0 none 0).toArray 34)).heap.size = w.heap.size + 2 + 1 + 1 := by simp [za]
  have KP : ((a.alloc (.cells (stRow s qs ks).toArray 34)).alloc (.cells (stRow ms0 none 0).toArray 34)).heap[w.heap.size + 2]? = some (.cells (stRow s qs ks).toArray 34 (0, 0)) := by
    rw [Below.heap_alloc _ _ _ (by rw [z3]; omega)]
    have := heap_alloc_new a (.cells (stRow s qs ks).toArray 34)
    rw [za] at this
    exact this
  have KR : StAt ((a.alloc (.cells (stRow s qs ks).toArray 34)).alloc (.cells (stRow ms0 none 0).toArray 34)) (w.heap.size + 2 + 1) ms0 none 0 := by
    have := heap_alloc_new (a.alloc (.cells (stRow s qs ks).toArray 34)) (.cells (stRow ms0 none 0).toArray 34)
    rw [z3] at this
    exact this
  have KBL := Lib.hid (show ((a.alloc (.cells (stRow s qs ks).toArray 34)).alloc (.cells (stRow ms0 none 0).toArray 34)).heap[w.heap.size]? = some (.cells #[.slice qL L.length cL] 37 (0, 0)) by rw [b4.block _ (by omega)]; exact K0)
  have KBC := Lib.hid (show ((a.alloc (.cells (stRow s qs ks).toArray 34)).alloc (.cells (stRow ms0 none 0).toArray 34)).heap[w.heap.size + 1]? = some (.cells #[.int .u64 c.who, .int .u64 c.val, .slice qi c.inp.length ki] 39 (0, 0)) by rw [b4.block _ (by omega)]; exact K1)
  have HRA := Lib.hid hra
  have RS := Lib.hid ((hs.on b2).on b4)
  have B4 := Lib.hid b4
  clear hr hi hs hra b1 b2 b3 b4 z1 z2 z3 z4 K0 K1 lu hc ok
  unfold cxV
  obtain ⟨R, hR⟩ : ∃ R, runM L c s M = R := ⟨_, rfl⟩
  rw [hR]
  have HRR := Lib.hid hR
  clear hR
  go_enter Tryd.func6, Tryd.ntmps6
  go_upto_region 1 with fail
  clear ha
  obtain ⟨w4, hw4⟩ : ∃ x, (a.alloc (.cells (stRow s qs ks).toArray 34)).alloc (.cells (stRow ms0 none 0).toArray 34) = x := ⟨_, rfl⟩
  rw [hw4] at KP KR KBL KBC RS B4 ⊢
  clear hw4
  have RBA : Hid (w.heap.size ≤ w.heap.size + 2 + 1) := by show _ ≤ _; omega
  have PLA : Hid (a.heap.size ≤ w.heap.size + 2) := by show _ ≤ _; omega
  have NE1 : Hid (w.heap.size + 2 + 1 ≠ w.heap.size + 2) := by show _ ≠ _; omega
  have NE2 : Hid (w.heap.size ≠ w.heap.size + 2) := by show _ ≠ _; omega
  have NE3 : Hid (w.heap.size + 1 ≠ w.heap.size + 2) := by show _ ≠ _; omega
  have HP := Lib.hid KP
  obtain ⟨rb, hrb⟩ : ∃ x, w.heap.size + 2 + 1 = x := ⟨_, rfl⟩
  rw [hrb] at KR RBA NE1 ⊢
  obtain ⟨p, hp⟩ : ∃ x, w.heap.size + 2 = x := ⟨_, rfl⟩
  have HPz := Lib.hid hp
  rw [hp] at HP PLA NE1 NE2 NE3 ⊢
  obtain ⟨bc, hbc⟩ : ∃ x, w.heap.size + 1 = x := ⟨_, rfl⟩
  rw [hbc] at KBC NE3 ⊢
  obtain ⟨bl, hbl⟩ : ∃ x, w.heap.size = x := ⟨_, rfl⟩
  have HBL := Lib.hid hbl
  have KA2 : Hid (∀ W pc, Below a.heap.size a W → Calls Tryd.prog 15 #[.int .i64 pc, .pointer (some ⟨bl, 0, none⟩)] W fun e w' => e = .returned (atV L pc) ∧ Below W.heap.size W w') := by rw [← hbl]; exact KA
  have KBL2 : Hid (w4.heap[bl]? = some (.cells #[.slice qL L.length cL] 37 (0, 0))) := by rw [← hbl]; exact KBL
  have NE2' : Hid (bl ≠ p) := by rw [← hbl]; exact NE2
  obtain ⟨ws, hws⟩ : ∃ x, x = w.heap.size := ⟨_, rfl⟩
  have KR := Lib.hid KR
  have c4 : w4.cell? ⟨p, 4, none⟩ = some (Value.slice qs s.stk.length ks) := (Joins.cell_of_block HP.out 4).trans rfl
  have SR := Lib.hid (RS.out.src (P := Tryd.prog) Tryd.underlying24)
  have ON := Lib.hid (World.ownsRow_nil w4 0 23 1)
  have LS := Lib.hid OK.out.len
  clear hbl hbc hp hrb hws KP KBL KA NE2 hl hm
  obtain ⟨n, hn⟩ : ∃ n, s.stk.length = n := ⟨_, rfl⟩
  have HN := Lib.hid hn
  rw [hn] at c4 SR LS
  clear hn
  have ln := LS.out
  rw [HBL.out]
  go_wp2_with (at_builtin; refine wpList_append_row rfl _ _ rfl Tryd.underlying24 hi0.out hz0.out hz1.out hz2.out rfl ON.out SR.out ?b1 ?b2 ?_)
  case b1 => unfold maxLen; omega
  case b2 => omega
  intro q8 k8 w8 own8 grow8 fr8
  try simp only [Nat.zero_add, List.nil_append] at own8
  try simp only [Nat.zero_add] at fr8
  try simp only [Nat.zero_add]
  have K48 : Kept p w4 w8 := Kept.grown (v := .slice none 0 0) grow8 ON.out
  have H8 : w8.heap[p]? = some (.cells (stRow s qs ks).toArray 34 (0, 0)) := by
    rw [grow8.block p (Array.getElem?_eq_some_iff.1 HP.out).1 (by simp [Value.ownBlock])]; exact HP.out
  have B8 : Below a.heap.size a w8 := B4.out.grown grow8 B4.out.size (fun j hj => by simp [Value.ownBlock] at hj)
  have u4 := Joins.unfrozen_of_block H8 4
  have c48 : w8.cell? ⟨p, 4, none⟩ = some (Value.slice qs n ks) := (Joins.cell_of_block H8 4).trans (by rw [← HN.out]; rfl)
  have S9 := McS.stack (xs := s.stk) (q' := q8) (c' := k8) H8 PLA.out B8 (by rw [HN.out]; exact own8) (by
    rw [HN.out]
    intro g hg
    rcases fr8 with e | e
    · rw [e] at hg; simp [Value.ownBlock] at hg
    · rw [e] at hg
      have h9 : w4.heap.size = g := by simpa using hg
      have := B4.out.size
      omega)
  rw [HN.out] at S9
  have S9 : Hid (McS a (w8.setCell ⟨p, 4, none⟩ (.slice q8 n k8)) p s) := S9
  have KX := K48.trans (Kept.setCell p w8 4 (.slice q8 n k8))
  have BL9 := Lib.hid (KX _ _ _ _ KBL2.out NE2'.out (by decide))
  have BC9 := Lib.hid (KX _ _ _ _ KBC.out NE3.out (by decide))
  have RB9 : Hid (StAt (w8.setCell ⟨p, 4, none⟩ (.slice q8 n k8)) rb ms0 none 0) := KX _ _ _ _ KR.out NE1.out (by decide)
  clear own8 grow8 fr8 K48 H8 B8 KX KBL2 KBC KR c4 SR ON HP B4 RS
  go_upto_region 2 with fail
  generalize w8.setCell ⟨p, 4, none⟩ (.slice q8 n k8) = w9 at *
  clear u4 c48
  obtain ⟨q9, k9, h91, h92, -⟩ := S9.out.ex
  have c2 := (McC.mk h91 h92).c2
  clear h91 h92
  by_cases hst : s.st = 0
  rotate_left
  · have e1 : (s.st != 0) = true := by simp [hst]
    have HX : runM L c s M = (s, 0) := by unfold runM; rw [if_pos (.inl hst)]
    have HX := Lib.hid HX
    clear hst
    obtain ⟨q8, k8, h81, h82, h83⟩ := S9.out.ex
    have W16 : (s).wds.length = 16 := OK.out.w16
    have P8 : StAt w9 p (s) q8 k8 := h81
    have cp := P8.row W16
    have ct := RB9.out.there ws0_len
    have K9 := Lib.hid (RB9.out.put (s' := s) (q' := q8) (c' := k8) ws0_len W16)
    have BE := Lib.hid (below_setCells' rb RBA.out (stRow (s) q8 k8) 0 (BA.out.trans (S9.out.below.mono BA.out.size)))
    have OW := Lib.hid (own_keep h82 (fun g hg => setCells_other (show g ≠ rb from fun e => own_ne h82 RB9.out (by decide) (by rw [← e]; exact hg)) (stRow (s) q8 k8) 0 _))
    clear h81 h82 h83 P8
    go_wp2_with fail
    clear cp ct
    have cf := K9.out.row W16
    refine bodyPost_ret (v := .tuple #[.agg (stRow (s) q8 k8).toArray, .int .i64 0]) (by simp [results, Tryd.results6, go_sem, cf, W16]) rfl ?_
    have hR2 := HRR.out
    rw [HX.out] at hR2
    subst hR2
    exact ⟨q8, k8, rfl, OW.out, BE.out⟩
  have e1 : (s.st != 0) = false := by simp [hst]
  rw [hst] at c2
  have e1' : ((0 : Int) != 0) = false := rfl
  by_cases hm1 : M < 1
  · have e2 : decide (M < 1) = true := decide_eq_true hm1
    have HX : runM L c s M = (s, 0) := by unfold runM; rw [if_pos (.inr hm1)]
    have HX := Lib.hid HX
    clear hst hm1
    obtain ⟨q8, k8, h81, h82, h83⟩ := S9.out.ex
    have W16 : (s).wds.length = 16 := OK.out.w16
    have P8 : StAt w9 p (s) q8 k8 := h81
    have cp := P8.row W16
    have ct := RB9.out.there ws0_len
    have K9 := Lib.hid (RB9.out.put (s' := s) (q' := q8) (c' := k8) ws0_len W16)
    have BE := Lib.hid (below_setCells' rb RBA.out (stRow (s) q8 k8) 0 (BA.out.trans (S9.out.below.mono BA.out.size)))
    have OW := Lib.hid (own_keep h82 (fun g hg => setCells_other (show g ≠ rb from fun e => own_ne h82 RB9.out (by decide) (by rw [← e]; exact hg)) (stRow (s) q8 k8) 0 _))
    clear h81 h82 h83 P8
    go_wp2_with fail
    clear cp ct
    have cf := K9.out.row W16
    refine bodyPost_ret (v := .tuple #[.agg (stRow (s) q8 k8).toArray, .int .i64 0]) (by simp [results, Tryd.results6, go_sem, cf, W16]) rfl ?_
    have hR2 := HRR.out
    rw [HX.out] at hR2
    subst hR2
    exact ⟨q8, k8, rfl, OW.out, BE.out⟩
  have e2 : decide (M < 1) = false := decide_eq_false hm1
  obtain ⟨m, rfl⟩ : ∃ m : Nat, M = m := ⟨M.toNat, by omega⟩
  have HX0 : Hid (runM L c s (m : Int) = if codeOk L = true then goM L c m s else (s.fail 37, 1)) := by
    show _ = _
    unfold runM
    rw [if_neg (by omega)]
    rfl
  have HMM : Hid (m ≤ 1000000000000) := by have := HMX.out; show _ ≤ _; omega
  have RT := Lib.hid (Right_any (c := cL) (HRA.out.on PIs_ok (by decide) S9.out.below) HL3.out)
  obtain ⟨B, hB⟩ : ∃ B, codeOk L = B := ⟨_, rfl⟩
  have HB := Lib.hid hB
  rw [hB] at RT HX0
  have j0 := (Joins.cell_of_block BL9.out 0).trans (rfl : _ = some _)
  clear hst hm1 hB
  go_wp2_with fail
  clear j0 c2
  refine RT.out.mono ?_
  rintro e w10 ⟨rfl, b10⟩
  have S10 := Lib.hid (S9.out.on b10)
  have K10 := Kept.below (p := p) b10
  have BC10 := Lib.hid (K10 _ _ _ _ BC9.out NE3.out (by decide))
  have RB10 : Hid (StAt w10 rb ms0 none 0) := K10 _ _ _ _ RB9.out NE1.out (by decide)
  clear b10 K10 S9 BC9 RB9 RT BL9
  cases B with
  | false =>
    have HX : Hid (runM L c s (m : Int) = (s.fail 37, 1)) := by show _ = _; rw [HX0.out]; rfl
    go_wp2_with fail
    refine (fail_any S10.out 37).mono ?_
    rintro e w11 ⟨rfl, S11, K11⟩
    have S11 := Lib.hid S11
    have RB11 : Hid (StAt w11 rb ms0 none 0) := K11 _ _ _ _ RB10.out NE1.out (by decide)
    clear K11 S10 BC10 RB10
    obtain ⟨q8, k8, h81, h82, h83⟩ := S11.out.ex
    have W16 : (s.fail 37).wds.length = 16 := OK.out.w16
    have P8 : StAt w11 p (s.fail 37) q8 k8 := h81
    have cp := P8.row W16
    have ct := RB11.out.there ws0_len
    have K9 := Lib.hid (RB11.out.put (s' := s.fail 37) (q' := q8) (c' := k8) ws0_len W16)
    have BE := Lib.hid (below_setCells' rb RBA.out (stRow (s.fail 37) q8 k8) 0 (BA.out.trans (S11.out.below.mono BA.out.size)))
    have OW := Lib.hid (own_keep h82 (fun g hg => setCells_other (show g ≠ rb from fun e => own_ne h82 RB11.out (by decide) (by rw [← e]; exact hg)) (stRow (s.fail 37) q8 k8) 0 _))
    clear h81 h82 h83 P8
    go_wp2_with fail
    clear cp ct
    have cf := K9.out.row W16
    refine bodyPost_ret (v := .tuple #[.agg (stRow (s.fail 37) q8 k8).toArray, .int .i64 1]) (by simp [results, Tryd.results6, go_sem, cf, W16]) rfl ?_
    have hR2 := HRR.out
    rw [HX.out] at hR2
    subst hR2
    exact ⟨q8, k8, rfl, OW.out, BE.out⟩
  | true =>
    have HX : Hid (runM L c s (m : Int) = goM L c m s) := by show _ = _; rw [HX0.out]; rfl
    have GOK := Lib.hid (goM_ok (L := L) (k := m) HC.out LU.out OK.out)
    have KR := Lib.hid (run_any S10.out OK.out HB.out LU.out HC.out KA2.out RI.out (M := m) HMM.out)
    unfold cxV at KR
    obtain ⟨G, hG⟩ : ∃ G, goM L c m s = G := ⟨_, rfl⟩
    rw [hG] at HX GOK KR
    obtain ⟨u, k⟩ := G
    have j0 := (Joins.cell_of_block BC10.out 0).trans (rfl : _ = some _)
    have j1 := (Joins.cell_of_block BC10.out 1).trans (rfl : _ = some _)
    have j2 := (Joins.cell_of_block BC10.out 2).trans (rfl : _ = some _)
    clear hG HX0
    go_wp2_with fail
    clear j0 j1 j2
    refine KR.out.mono ?_
    rintro e w11 ⟨rfl, S11, K11⟩
    have S11 := Lib.hid S11
    have RB11 : Hid (StAt w11 rb ms0 none 0) := K11 _ _ _ _ RB10.out NE1.out (by decide)
    clear K11 S10 BC10 RB10 KR
    obtain ⟨q8, k8, h81, h82, h83⟩ := S11.out.ex
    have W16 : (u).wds.length = 16 := GOK.out.w16
    have P8 : StAt w11 p (u) q8 k8 := h81
    have cp := P8.row W16
    have ct := RB11.out.there ws0_len
    have K9 := Lib.hid (RB11.out.put (s' := u) (q' := q8) (c' := k8) ws0_len W16)
    have BE := Lib.hid (below_setCells' rb RBA.out (stRow (u) q8 k8) 0 (BA.out.trans (S11.out.below.mono BA.out.size)))
    have OW := Lib.hid (own_keep h82 (fun g hg => setCells_other (show g ≠ rb from fun e => own_ne h82 RB11.out (by decide) (by rw [← e]; exact hg)) (stRow (u) q8 k8) 0 _))
    clear h81 h82 h83 P8
    go_wp2_with fail
    clear cp ct
    have cf := K9.out.row W16
    refine bodyPost_ret (v := .tuple #[.agg (stRow (u) q8 k8).toArray, .int .i64 (k : Int)]) (by simp [results, Tryd.results6, go_sem, cf, W16]) rfl ?_
    have hR2 := HRR.out
    rw [HX.out] at hR2
    subst hR2
    exact ⟨q8, k8, rfl, OW.out, BE.out⟩
end Go.Proofs.YtnllcmcahfkmaaaDoor
namespace Go.Proofs.YtnllcmcahfkmaaaDoor
set_option maxRecDepth 100000
open Go.RowKit

/-- Block p holds a Writer that was made; v is its slice, of the bytes xs. -/
structure WrV (w : World) (p : Nat) (v : Value) (xs : List Int) : Prop where
  blk : w.heap[p]? = some (.cells #[.bool true, v] 104 (0, 0))
  own : w.ownsRow 0 5 1 v xs.length (bc xs)
section
variable {w w' : World} {p : Nat} {v : Value} {xs : List Int}
theorem WrV.lt (h : WrV w p v xs) : p < w.heap.size := (Array.getElem?_eq_some_iff.1 h.blk).1
theorem WrV.ne (h : WrV w p v xs) : v.ownBlock ≠ some p := by
  rcases h.own.2 with ⟨rfl, _⟩ | ⟨g, cap, cur, rfl, _, hg, _⟩
  · simp [Value.ownBlock]
  · intro e
    obtain rfl : g = p := by simpa [Value.ownBlock] using e
    rw [h.blk] at hg
    simp at hg
theorem WrV.chg {S : List Nat} (h : WrV w p v xs) (hc : Chg w w' S) (hp : p ∉ S) (hv : ∀ g, v.ownBlock = some g → g ∉ S) : WrV w' p v xs := by
  refine ⟨by rw [hc.block p h.lt hp]; exact h.blk, h.own.1, ?_⟩
  rcases h.own.2 with hn | ⟨g, cap, cur, rfl, hb, hg, r⟩
  · exact .inl hn
  · exact .inr ⟨g, cap, cur, rfl, hb, by rw [hc.block g (Array.getElem?_eq_some_iff.1 hg).1 (hv g rfl)]; exact hg, r⟩
theorem WrV.on (h : WrV w p v xs) (hb : Below w.heap.size w w') : WrV w' p v xs := h.chg (S := []) (Chg.below hb (Nat.le_refl _) []) (by simp) (fun _ _ => by simp)
theorem WrV.alloc (h : WrV w p v xs) (o : Obj) : WrV (w.alloc o) p v xs := h.on ((Below.refl _ _).alloc (Nat.le_refl _) o)
theorem WrV.drew (h : WrV w p v xs) : WrV w.drew p v xs := ⟨h.blk, h.own⟩
theorem WrV.cells (h : WrV w p v xs) : w.cell? ⟨p, 0, none⟩ = some (.bool true) ∧ w.cell? ⟨p, 1, none⟩ = some v ∧ w.frozen? ⟨p, 1, none⟩ = false :=
  ⟨by rw [Joins.cell_of_block h.blk]; rfl, by rw [Joins.cell_of_block h.blk]; rfl, Joins.unfrozen_of_block h.blk 1⟩
theorem WrV.rd (h : WrV w p v xs) : Rd w v xs := rd_of_row h.own
end

/-- A Writer behind some writing: of what there was in w its own block and its row alone may have changed. -/
def WSt (w : World) (p : Nat) (v : Value) (wr : World) (xs : List Int) : Prop :=
  ∃ v', WrV wr p v' xs ∧ Chg w wr (p :: v.ownBlock.toList) ∧ (v'.ownBlock = v.ownBlock ∨ ∀ g, v'.ownBlock = some g → w.heap.size ≤ g)
section
variable {w wr w1 : World} {p : Nat} {v v' v'' : Value} {xs ys : List Int}
theorem WSt.start (h : WrV w p v xs) : WSt w p v w xs := ⟨v, h, Chg.refl w _, .inl rfl⟩
theorem WSt.trans {a b c : World} {zs : List Int} (h : WSt a p v b ys) (k : ∀ u, WrV b p u ys → WSt b p u c zs) : WSt a p v c zs := by
  obtain ⟨v', h1, h2, h3⟩ := h
  obtain ⟨v'', k1, k2, k3⟩ := k v' h1
  refine ⟨v'', k1, h2.trans k2 ?_, ?_⟩
  · intro x hx hl
    rcases List.mem_cons.1 hx with rfl | hx
    · simp
    · rcases h3 with e | e
      · rw [e] at hx; exact List.mem_cons.2 (.inr hx)
      · have := e x (by simpa using hx); omega
  · rcases k3 with e | e
    · rw [e]
      rcases h3 with e' | e'
      · exact .inl e'
      · exact .inr e'
    · exact .inr fun g hg => Nat.le_trans h2.size (e g hg)
/-- Behind an append, and the store of the longer slice. -/
theorem WSt.step (h : WrV wr p v' xs) (hc : Chg w wr (p :: v.ownBlock.toList)) (hf : v'.ownBlock = v.ownBlock ∨ ∀ g, v'.ownBlock = some g → w.heap.size ≤ g)
    {m : Nat} (hm : ys.length = m) (own : w1.ownsRow 0 5 1 v'' (xs.length + m) (bc xs ++ bc ys)) (hg : wr.grownBy w1 v'.ownBlock) (hv : v''.ownBlock = v'.ownBlock ∨ v''.ownBlock = some wr.heap.size) :
    WSt w p v (w1.setCell ⟨p, 1, none⟩ v'') (xs ++ ys) := by
  subst hm
  have hp : p < w1.heap.size := Nat.lt_of_lt_of_le h.lt hg.size
  have hblk : w1.heap[p]? = some (.cells #[.bool true, v'] 104 (0, 0)) := by
    rw [hg.block p h.lt (fun e => h.ne e.symm)]; exact h.blk
  have hnp : v''.ownBlock ≠ some p := by
    rcases hv with e | e
    · rw [e]; exact h.ne
    · rw [e]; intro e'; have := h.lt; simp at e'; omega
  refine ⟨v'', ⟨?_, ?_⟩, ?_, ?_⟩
  · rw [Joins.block_setCell (i := 1) hblk v'']; rfl
  · rw [List.length_append, bc_append]
    refine ⟨own.1, ?_⟩
    rcases own.2 with hn | ⟨g, cap, cur, rfl, hb, hgg, r⟩
    · exact .inl hn
    · exact .inr ⟨g, cap, cur, rfl, hb, by rw [Below.heap_setCell _ _ _ _ (fun e => hnp (by simp only [Value.ownBlock]; rw [show g = p from e]))]; exact hgg, r⟩
  · refine (hc.trans (T := v'.ownBlock.toList) (Chg.grown hg (fun k hk => by simp [hk])) ?_).setCell (.inl (by simp)) v''
    intro x hx hl
    rcases hf with e | e
    · rw [e] at hx; exact List.mem_cons.2 (.inr hx)
    · have := e x (by simpa using hx); omega
  · rcases hv with e | e
    · rw [e]; exact hf
    · refine .inr fun g hg' => ?_
      rw [e] at hg'
      have := hc.size
      simp at hg'
      omega
end

theorem be8_get (n : Int) {k : Nat} (hk : k < 8) : (be8 n).take (k + 1) = (be8 n).take k ++ [n / 2 ^ (56 - 8 * k) % 256] := by
  have e : k = 0 ∨ k = 1 ∨ k = 2 ∨ k = 3 ∨ k = 4 ∨ k = 5 ∨ k = 6 ∨ k = 7 := by omega
  rcases e with rfl | rfl | rfl | rfl | rfl | rfl | rfl | rfl <;> simp [be8]

set_option maxHeartbeats 2000000 in
theorem putUint_any {w : World} {p : Nat} {v : Value} {xs : List Int} (h : WrV w p v xs) (hl : xs.length ≤ 65536) (n : Int) :
    Calls Tryd.prog 46 #[.pointer (some ⟨p, 0, none⟩), .int .u64 n] w fun e w' => e = .returned (.tuple #[]) ∧ WSt w p v w' (xs ++ be8 n) := by
  obtain ⟨i0, hi, hz0, hz1, hz2⟩ := info_parts Tryd.infoU8
  have H0 : Hid (WSt w p v w (xs ++ (be8 n).take 0)) := by
    show WSt w p v w _
    simpa using WSt.start h
  clear h
  replace hi := Lib.hid hi
  replace hz0 := Lib.hid hz0
  replace hz1 := Lib.hid hz1
  replace hz2 := Lib.hid hz2
  go_enter Tryd.func46, Tryd.ntmps46
  go_wp2_with fail
  go_loopw [4] (fun sv wr => ∃ k : Nat, sv = .int .i64 (56 - 8 * (k : Int)) ∧ k ≤ 8 ∧ Hid (WSt w p v wr (xs ++ (be8 n).take k))) (fun sv _ => (intOf sv + 8).toNat)
  case atStart => exact ⟨0, by simp, by omega, H0⟩
  case round =>
    clear H0
    obtain ⟨k, rfl, hk, hS⟩ := hrel
    by_cases hlt : k < 8
    · have hd : (0 : Int) ≤ 56 - 8 * (k : Int) := by omega
      obtain ⟨v', h1, h2, h3⟩ := hS.out
      have H1 := Lib.hid h1
      have H2 := Lib.hid (And.intro h2 h3)
      clear h2 h3 hS h1
      obtain ⟨-, c1, f1⟩ := H1.out.cells
      have hpl := H1.out.lt
      go_wp2_with fail
      refine wp_region_held_drew (S := fun _ => True) (by kernel_rfl) (trivial) (fun h0 => ?_)
      refine wpAnyH_take (i := 0) (v := ?_) (by rw [List.getElem?_toArray]; rfl) (by kernel_rfl) (by kernel_rfl) (by kernel_rfl) (by exact fun _ _ _ h => h) (Or.inl ⟨by rfl, ?_⟩) h0 ?_
      rotate_left
      · intro W hW
        go_simp
        all_goals with_reducible rfl
      try simp only [Act.put, List.setIfInBounds_toArray, List.set_cons_zero, List.set_cons_succ]
      refine wpAnyH_take (i := 1) (v := ?_) (by rw [List.getElem?_toArray]; rfl) (by kernel_rfl) (by kernel_rfl) (by kernel_rfl) (by exact fun _ _ _ h => h) (Or.inl ⟨by rfl, ?_⟩) h0 ?_
      rotate_left
      · intro W hW
        go_simp
        all_goals with_reducible rfl
      try simp only [Act.put, List.setIfInBounds_toArray, List.set_cons_zero, List.set_cons_succ]
      refine wpAnyH_take (i := 2) (v := ?_) (by rw [List.getElem?_toArray]; rfl) (by kernel_rfl) (by kernel_rfl) (by kernel_rfl) (by exact fun _ _ _ h => h) (Or.inl ⟨by rfl, ?_⟩) h0 ?_
      rotate_left
      · intro W hW
        go_simp
        all_goals with_reducible rfl
      try simp only [Act.put, List.setIfInBounds_toArray, List.set_cons_zero, List.set_cons_succ]
      refine wpAnyH_take (i := 3) (v := ?_) (by rw [List.getElem?_toArray]; rfl) (by kernel_rfl) (by kernel_rfl) (by kernel_rfl) (by exact fun _ _ _ h => h) (Or.inl ⟨by rfl, ?_⟩) h0 ?_
      rotate_left
      · intro W hW
        go_simp
        all_goals with_reducible rfl
      try simp only [Act.put, List.setIfInBounds_toArray, List.set_cons_zero, List.set_cons_succ]
      refine wpAnyH_take (i := 5) (v := ?_) (by rw [List.getElem?_toArray]; rfl) (by kernel_rfl) (by kernel_rfl) (by kernel_rfl) (by exact fun _ _ _ h => h) (Or.inl ⟨by rfl, ?_⟩) h0 ?_
      rotate_left
      · intro W hW
        go_simp
        all_goals with_reducible rfl
      try simp only [Act.put, List.setIfInBounds_toArray, List.set_cons_zero, List.set_cons_succ]
      refine wpAnyH_take (i := 6) (v := ?_) (by rw [List.getElem?_toArray]; rfl) (by kernel_rfl) (by kernel_rfl) (by kernel_rfl) (by exact fun _ _ _ h => h) (Or.inl ⟨by rfl, ?_⟩) h0 ?_
      rotate_left
      · intro W hW
        go_simp
        all_goals with_reducible rfl
      try simp only [Act.put, List.setIfInBounds_toArray, List.set_cons_zero, List.set_cons_succ]
      refine wpAnyH_take (i := 7) (v := ?_) (by rw [List.getElem?_toArray]; rfl) (by kernel_rfl) (by kernel_rfl) (by kernel_rfl) (by exact fun _ _ _ h => h) (Or.inl ⟨by rfl, ?_⟩) h0 ?_
      rotate_left
      · intro W hW
        go_simp
        all_goals with_reducible rfl
      try simp only [Act.put, List.setIfInBounds_toArray, List.set_cons_zero, List.set_cons_succ]
      refine wpAnyH_take (i := 8) (v := ?_) (by rw [List.getElem?_toArray]; rfl) (by kernel_rfl) (by kernel_rfl) (by kernel_rfl) (by exact fun _ _ _ h => h) (Or.inl ⟨by rfl, ?_⟩) h0 ?_
      rotate_left
      · intro W hW
        go_simp
        all_goals with_reducible rfl
      try simp only [Act.put, List.setIfInBounds_toArray, List.set_cons_zero, List.set_cons_succ]
      refine wpAnyH_ready (rs := [4, 9]) (by kernel_rfl) (by simp) ?_
      refine AllReadyH.cons (by rw [List.getElem?_toArray]; rfl) (fun K hK => ?_) (AllReadyH.cons (by rw [List.getElem?_toArray]; rfl) (fun K hK => ?_) AllReadyH.nil)
      · rw [if_pos (by rfl)]
        go_wp2_with fail
        refine hK.out _ _ (trivial) (fun _ => ?_)
        clear hK K
        try simp only [Act.put, List.setIfInBounds_toArray, List.set_cons_zero, List.set_cons_succ]
        refine wpAnyH_ready (rs := [9]) (by kernel_rfl) (by simp) ?_
        refine AllReadyH.cons (by rw [List.getElem?_toArray]; rfl) (fun K hK => ?_) AllReadyH.nil
        rw [if_pos (by rfl)]
        go_wp2_with fail
        refine hK.out _ _ (trivial) (fun _ => ?_)
        clear hK K
        try simp only [Act.put, List.setIfInBounds_toArray, List.set_cons_zero, List.set_cons_succ]
        refine wpAnyH_ready (rs := [10]) (by kernel_rfl) (by simp) ?_
        refine AllReadyH.cons (by rw [List.getElem?_toArray]; rfl) (fun K hK => ?_) AllReadyH.nil
        rw [if_pos (by rfl)]
        refine wp_append_row _ _ rfl Tryd.underlying67 hi.out hz0.out hz1.out hz2.out rfl (H1.out.alloc _).drew.own (Rd.src (xs := [n / 2 ^ (56 - 8 * k) % 256]) Tryd.underlying67 ?rd) ?b1 ?b2 ?_
        case rd => exact ⟨_, 1, rfl, .inr ⟨wr.heap.size, 0, rfl, fun j hj => by obtain rfl : j = 0 := (by simpa using hj); exact (Joins.cell_of_block (heap_alloc_new wr _) 0).trans rfl⟩⟩
        case b1 => simp; unfold maxLen; omega
        case b2 => simp; omega
        intro q2 k2 w2 own2 grow2 fr2
        have HN := Lib.hid (WSt.step (H1.out.alloc _).drew (H2.out.1.alloc _).drew (by exact H2.out.2) rfl own2 grow2 fr2)
        have c2 : w2.cell? ⟨p, 1, none⟩ = some v' := by
          rw [World.cell?_of_block (grow2.block p (by simp; omega) (fun e => H1.out.ne e.symm))]; exact (H1.out.alloc _).drew.cells.2.1
        have f2 : w2.frozen? ⟨p, 1, none⟩ = false := by
          rw [World.frozen?_of_block (grow2.block p (by simp; omega) (fun e => H1.out.ne e.symm))]; exact (H1.out.alloc _).drew.cells.2.2
        clear own2 grow2 fr2 c1 f1
        refine hK.out _ _ (trivial) (fun _ => ?_)
        clear hK K
        try simp only [Act.put, List.setIfInBounds_toArray, List.set_cons_zero, List.set_cons_succ]
        refine wpAnyH_take (i := 11) (v := ?_) (by rw [List.getElem?_toArray]; rfl) (by kernel_rfl) (by kernel_rfl) (by kernel_rfl) (by exact fun _ _ _ h => h) (Or.inl ⟨by rfl, ?_⟩) h0 ?_
        rotate_left
        · intro W hW
          go_simp
          all_goals with_reducible rfl
        try simp only [Act.put, List.setIfInBounds_toArray, List.set_cons_zero, List.set_cons_succ]
        refine wpAnyH_take (i := 12) (v := ?_) (by rw [List.getElem?_toArray]; rfl) (by kernel_rfl) (by kernel_rfl) (by kernel_rfl) (by exact fun _ _ _ h => h) (Or.inl ⟨by rfl, ?_⟩) h0 ?_
        rotate_left
        · intro W hW
          go_simp
          all_goals with_reducible rfl
        try simp only [Act.put, List.setIfInBounds_toArray, List.set_cons_zero, List.set_cons_succ]
        refine wpAnyH_ready (rs := [13]) (by kernel_rfl) (by simp) ?_
        refine AllReadyH.cons (by rw [List.getElem?_toArray]; rfl) (fun K hK => ?_) AllReadyH.nil
        rw [if_pos (by rfl)]
        go_wp2_with fail
        refine hK.out _ _ (trivial) (fun _ => ?_)
        clear hK K
        try simp only [Act.put, List.setIfInBounds_toArray, List.set_cons_zero, List.set_cons_succ]
        refine wpAnyH_done (by kernel_rfl) ?_ _
        go_wp2_with fail
        go_roundw
        case rel =>
          refine ⟨k + 1, by go_num, by omega, ?_⟩
          show WSt w p v _ _
          rw [be8_get n hlt, ← List.append_assoc]
          have L : (xs ++ List.take k (be8 n)).length + [n / 2 ^ (56 - 8 * k) % 256].length = xs.length + k + 1 := by simp; omega
          have := HN.out
          rw [L] at this
          exact this
        case measure => simp [intOf]; omega
      · rw [if_pos (by rfl)]
        go_wp2_with fail
        refine hK.out _ _ (trivial) (fun _ => ?_)
        clear hK K
        try simp only [Act.put, List.setIfInBounds_toArray, List.set_cons_zero, List.set_cons_succ]
        refine wpAnyH_ready (rs := [4]) (by kernel_rfl) (by simp) ?_
        refine AllReadyH.cons (by rw [List.getElem?_toArray]; rfl) (fun K hK => ?_) AllReadyH.nil
        rw [if_pos (by rfl)]
        go_wp2_with fail
        refine hK.out _ _ (trivial) (fun _ => ?_)
        clear hK K
        try simp only [Act.put, List.setIfInBounds_toArray, List.set_cons_zero, List.set_cons_succ]
        refine wpAnyH_ready (rs := [10]) (by kernel_rfl) (by simp) ?_
        refine AllReadyH.cons (by rw [List.getElem?_toArray]; rfl) (fun K hK => ?_) AllReadyH.nil
        rw [if_pos (by rfl)]
        refine wp_append_row _ _ rfl Tryd.underlying67 hi.out hz0.out hz1.out hz2.out rfl (H1.out.alloc _).drew.own (Rd.src (xs := [n / 2 ^ (56 - 8 * k) % 256]) Tryd.underlying67 ?rd) ?b1 ?b2 ?_
        case rd => exact ⟨_, 1, rfl, .inr ⟨wr.heap.size, 0, rfl, fun j hj => by obtain rfl : j = 0 := (by simpa using hj); exact (Joins.cell_of_block (heap_alloc_new wr _) 0).trans rfl⟩⟩
        case b1 => simp; unfold maxLen; omega
        case b2 => simp; omega
        intro q2 k2 w2 own2 grow2 fr2
        have HN := Lib.hid (WSt.step (H1.out.alloc _).drew (H2.out.1.alloc _).drew (by exact H2.out.2) rfl own2 grow2 fr2)
        have c2 : w2.cell? ⟨p, 1, none⟩ = some v' := by
          rw [World.cell?_of_block (grow2.block p (by simp; omega) (fun e => H1.out.ne e.symm))]; exact (H1.out.alloc _).drew.cells.2.1
        have f2 : w2.frozen? ⟨p, 1, none⟩ = false := by
          rw [World.frozen?_of_block (grow2.block p (by simp; omega) (fun e => H1.out.ne e.symm))]; exact (H1.out.alloc _).drew.cells.2.2
        clear own2 grow2 fr2 c1 f1
        refine hK.out _ _ (trivial) (fun _ => ?_)
        clear hK K
        try simp only [Act.put, List.setIfInBounds_toArray, List.set_cons_zero, List.set_cons_succ]
        refine wpAnyH_take (i := 11) (v := ?_) (by rw [List.getElem?_toArray]; rfl) (by kernel_rfl) (by kernel_rfl) (by kernel_rfl) (by exact fun _ _ _ h => h) (Or.inl ⟨by rfl, ?_⟩) h0 ?_
        rotate_left
        · intro W hW
          go_simp
          all_goals with_reducible rfl
        try simp only [Act.put, List.setIfInBounds_toArray, List.set_cons_zero, List.set_cons_succ]
        refine wpAnyH_take (i := 12) (v := ?_) (by rw [List.getElem?_toArray]; rfl) (by kernel_rfl) (by kernel_rfl) (by kernel_rfl) (by exact fun _ _ _ h => h) (Or.inl ⟨by rfl, ?_⟩) h0 ?_
        rotate_left
        · intro W hW
          go_simp
          all_goals with_reducible rfl
        try simp only [Act.put, List.setIfInBounds_toArray, List.set_cons_zero, List.set_cons_succ]
        refine wpAnyH_ready (rs := [13]) (by kernel_rfl) (by simp) ?_
        refine AllReadyH.cons (by rw [List.getElem?_toArray]; rfl) (fun K hK => ?_) AllReadyH.nil
        rw [if_pos (by rfl)]
        go_wp2_with fail
        refine hK.out _ _ (trivial) (fun _ => ?_)
        clear hK K
        try simp only [Act.put, List.setIfInBounds_toArray, List.set_cons_zero, List.set_cons_succ]
        refine wpAnyH_done (by kernel_rfl) ?_ _
        go_wp2_with fail
        go_roundw
        case rel =>
          refine ⟨k + 1, by go_num, by omega, ?_⟩
          show WSt w p v _ _
          rw [be8_get n hlt, ← List.append_assoc]
          have L : (xs ++ List.take k (be8 n)).length + [n / 2 ^ (56 - 8 * k) % 256].length = xs.length + k + 1 := by simp; omega
          have := HN.out
          rw [L] at this
          exact this
        case measure => simp [intOf]; omega
    · obtain rfl : k = 8 := by omega
      have hb := hS.out
      rw [show (be8 n).take 8 = be8 n from rfl] at hb
      replace hS := Lib.hid hb
      clear hb
      go_wp2_with fail
      go_end0
      exact ⟨rfl, hS.out⟩
end Go.Proofs.YtnllcmcahfkmaaaDoor
namespace Go.Proofs.YtnllcmcahfkmaaaDoor
set_option maxRecDepth 100000
open Go.RowKit

theorem NewWriter_any (w : World) : Calls Tryd.prog 36 #[] w fun e w' => e = .returned (.pointer (some ⟨w.heap.size, 0, none⟩)) ∧ w' = w.alloc (.cells #[.bool true, .slice none 0 0] 104) := by
  go_enter Tryd.func36, Tryd.ntmps36
  go_wp2_with fail
  go_ret
  exact ⟨rfl, rfl⟩
theorem WrV.new (w : World) : WrV (w.alloc (.cells #[.bool true, .slice none 0 0] 104)) w.heap.size (.slice none 0 0) [] :=
  ⟨heap_alloc_new w _, World.ownsRow_nil _ 0 _ 1⟩

/-- A new slice of the bytes xs, in memory of its own. -/
def NewRow (w : World) (xs : List Int) (v : Value) (w' : World) : Prop :=
  (∃ q c, v = .slice q xs.length c) ∧ w'.ownsRow 0 5 1 v xs.length (bc xs) ∧ Below w.heap.size w w' ∧ ∀ k, v.ownBlock = some k → w.heap.size ≤ k
theorem NewRow.rd {w w' : World} {xs : List Int} {v : Value} (h : NewRow w xs v w') : Rd w' v xs := rd_of_row h.2.1

set_option maxHeartbeats 1000000 in
theorem WBytes_any {w : World} {p : Nat} {v : Value} {xs : List Int} (h : WrV w p v xs) (hl : xs.length ≤ 65536) :
    Calls Tryd.prog 38 #[.pointer (some ⟨p, 0, none⟩)] w fun e w' => ∃ u, e = .returned u ∧ NewRow w xs u w' := by
  obtain ⟨i0, hi, hz0, hz1, hz2⟩ := info_parts Tryd.infoU8
  obtain ⟨qv, kv, rfl⟩ := h.rd.len
  obtain ⟨c0, c1, -⟩ := h.cells
  have hs := Lib.hid (h.rd.src (P := Tryd.prog) Tryd.underlying67)
  clear h
  replace hi := Lib.hid hi
  replace hz0 := Lib.hid hz0
  replace hz1 := Lib.hid hz1
  replace hz2 := Lib.hid hz2
  go_enter Tryd.func38, Tryd.ntmps38
  go_wp2_with (at_builtin; refine wpList_append_row rfl _ _ rfl Tryd.underlying67 hi.out hz0.out hz1.out hz2.out rfl (World.ownsRow_nil w 0 _ 1) hs.out ?b1 ?b2 ?_)
  case b1 => unfold maxLen; omega
  case b2 => omega
  intro q2 k2 w2 own2 grow2 fr2
  try simp only [Nat.zero_add, List.nil_append] at own2
  try simp only [Nat.zero_add, List.nil_append] at fr2
  try simp only [Nat.zero_add]
  have H2 := Lib.hid own2
  have HB := Lib.hid ((Below.refl w.heap.size w).grown grow2 (Nat.le_refl _) (by intro k hk; simp [Value.ownBlock] at hk))
  have HF : Hid (∀ k, (Value.slice q2 xs.length k2).ownBlock = some k → w.heap.size ≤ k) := fun k hk => by
    rcases fr2 with e | e
    · rw [e] at hk; simp [Value.ownBlock] at hk
    · rw [e] at hk; simp at hk; omega
  clear own2 grow2 fr2 c0 c1 hs
  go_wp2_with fail
  go_ret
  exact ⟨_, rfl, ⟨_, _, rfl⟩, H2.out, HB.out, HF.out⟩

/-! ### Lists of slices -/
theorem WSt.of_eq {w wr : World} {p : Nat} {v : Value} {xs ys : List Int} (h : WSt w p v wr xs) (e : xs = ys) : WSt w p v wr ys := e ▸ h
theorem WSt.own {w wr : World} {p : Nat} {v : Value} {xs : List Int} (h : WSt w p v wr xs) : ∃ q c, WrV wr p (.slice q xs.length c) xs ∧ Chg w wr (p :: v.ownBlock.toList) ∧ ((Value.slice q xs.length c).ownBlock = v.ownBlock ∨ ∀ g, (Value.slice q xs.length c).ownBlock = some g → w.heap.size ≤ g) := by
  obtain ⟨v', h1, h2, h3⟩ := h
  obtain ⟨q, c, rfl⟩ := h1.rd.len
  exact ⟨q, c, h1, h2, h3⟩
end Go.Proofs.YtnllcmcahfkmaaaDoor
namespace Go.Proofs.YtnllcmcahfkmaaaDoor
set_option maxRecDepth 100000
open Go.RowKit

/-- The slice v holds these numbers, and lies in no block of S. -/
def RdN (w : World) (v : Value) (ns : List Int) (S : List Nat) : Prop := ∃ q c, v = .slice q ns.length c ∧ (ns = [] ∨ ∃ b off, q = some ⟨b, off, none⟩ ∧ b ∉ S ∧ ∀ i, i < ns.length → w.cell? ⟨b, off + i, none⟩ = some (.int .u64 (ns.getD i 0)))
theorem RdN.at {w : World} {q : Option Addr} {n c : Nat} {ns : List Int} {S : List Nat} (h : RdN w (.slice q n c) ns S) {i : Nat} (hi : i < ns.length) :
    ∃ b off, n = ns.length ∧ q = some ⟨b, off, none⟩ ∧ b ∉ S ∧ w.cell? ⟨b, off + i, none⟩ = some (.int .u64 (ns.getD i 0)) := by
  obtain ⟨q', c', e, rfl | ⟨b, off, rfl, hb, hx⟩⟩ := h
  · simp at hi
  · simp only [Value.slice.injEq] at e
    exact ⟨b, off, e.2.1, e.1, hb, hx i hi⟩
/-- The bytes of numbers. -/
def nums (ns : List Int) : List Int := ns.flatMap be8
theorem nums_take {ns : List Int} {i : Nat} (hi : i < ns.length) : nums (ns.take (i + 1)) = nums (ns.take i) ++ be8 (ns.getD i 0) := by
  have e : ns.take (i + 1) = ns.take i ++ [ns.getD i 0] := by
    rw [List.take_add_one]
    simp [List.getD, hi]
  rw [e, nums, List.flatMap_append]
  simp [nums]
theorem nums_len : ∀ ns : List Int, (nums ns).length = 8 * ns.length
  | [] => rfl
  | n :: ns => by
    have := nums_len ns
    simp only [nums, List.flatMap_cons, List.length_append, be8_len, List.length_cons] at this ⊢
    omega

theorem room_yes {w : World} {p : Nat} {v : Value} {xs : List Int} (h : WrV w p v xs) {n s : Nat} (hs : 0 < s) (hl : xs.length + n * s ≤ 65536) :
    Calls Tryd.prog 45 #[.pointer (some ⟨p, 0, none⟩), .int .i64 n, .int .i64 s] w fun e w' => e = .returned (.bool true) ∧ w' = w := by
  obtain ⟨c0, c1, -⟩ := h.cells
  obtain ⟨qv, kv, rfl⟩ := h.rd.len
  go_enter Tryd.func45, Tryd.ntmps45
  have hd : decide ((n : Int) ≤ (65536 - (xs.length : Int)) / (s : Int)) = true := by
    refine decide_eq_true (Int.le_ediv_of_mul_le (by omega) ?_)
    have : ((n * s : Nat) : Int) ≤ 65536 - (xs.length : Int) := by omega
    rw [Int.natCast_mul] at this
    exact this
  go_wp2_with fail
  go_ret
  exact ⟨rfl, rfl⟩

set_option maxHeartbeats 4000000 in
theorem WUint_fits {w : World} {p : Nat} {v : Value} {xs : List Int} (h : WrV w p v xs) {a : Value} {ns : List Int} (hN : RdN w a ns (p :: v.ownBlock.toList)) (hl : xs.length + 8 * ns.length ≤ 65536) :
    Calls Tryd.prog 37 #[.pointer (some ⟨p, 0, none⟩), a] w fun e w' => e = .returned (.int .i64 0) ∧ WSt w p v w' (xs ++ nums ns) := by
  have H0 : Hid (WSt w p v w (xs ++ nums (ns.take 0))) := by
    show WSt w p v w _
    exact (WSt.start h).of_eq (by simp [nums])
  obtain ⟨c0, c1, -⟩ := h.cells
  have hroom := Lib.hid (room_yes h (n := ns.length) (s := 8) (by omega) (by omega))
  obtain ⟨qv, kv, rfl⟩ := h.rd.len
  obtain ⟨q, c, rfl⟩ : ∃ q c, a = .slice q ns.length c := by obtain ⟨q, c, e, _⟩ := hN; exact ⟨q, c, e⟩
  have HN := Lib.hid hN
  have hn : ns.length ≤ 65536 := by omega
  clear h hN
  go_enter Tryd.func37, Tryd.ntmps37
  go_wp2_with fail
  refine (hroom.out).mono ?_
  rintro e wx ⟨rfl, rfl⟩
  go_wp2_with fail
  obtain ⟨w0, rfl⟩ : ∃ w0 : World, w0 = wx := ⟨_, rfl⟩
  clear c0 c1 hroom
  go_loopw [6, 26] (fun _ iv wr => ∃ i : Nat, iv = .int .i64 i ∧ i ≤ ns.length ∧ Hid (WSt w0 p (.slice qv xs.length kv) wr (xs ++ nums (ns.take i)))) (fun _ iv _ => ns.length - (intOf iv).toNat)
  case atStart => exact ⟨0, rfl, by omega, H0⟩
  case round =>
    clear H0
    obtain ⟨i, rfl, hil, hS⟩ := hrel
    by_cases hlt : i < ns.length
    · obtain ⟨q1, k1, h1, h2, h3⟩ := hS.out.own
      obtain ⟨b, off, -, rfl, hbS, hcw⟩ := HN.out.at hlt
      have hc : wr.cell? ⟨b, off + i, none⟩ = some (.int .u64 (ns.getD i 0)) := by
        rw [World.cell?_of_block (w := w0) (h2.block b (lt_of_cell hcw) hbS)]; exact hcw
      have hlen : (xs ++ nums (ns.take i)).length ≤ 65536 := by
        rw [List.length_append, nums_len, List.length_take]; omega
      have H1 := Lib.hid h1
      have H23 := Lib.hid (And.intro h2 h3)
      have HB := Lib.hid (nums_take hlt)
      clear h1 h2 h3 hS hcw hbS
      generalize hbb : ns.getD i 0 = x at hc HB
      go_wp2_with fail
      refine (putUint_any H1.out hlen _).mono ?_
      rintro e w3 ⟨rfl, hw3⟩
      have HS3 : Hid (WSt w0 p (.slice qv xs.length kv) w3 (xs ++ nums (ns.take i) ++ be8 x)) :=
        WSt.trans ⟨_, H1.out, H23.out.1, H23.out.2⟩ (fun u hu => by
          have e1 : u = .slice q1 (xs ++ nums (ns.take i)).length k1 := by
            have := hu.cells.2.1
            rw [H1.out.cells.2.1] at this
            exact (Option.some.inj this).symm
          rw [e1]
          exact hw3)
      clear hw3 H1 H23 hc
      go_wp2_with fail
      go_roundw
      case rel =>
        refine ⟨i + 1, by go_num, by omega, ?_⟩
        show WSt w0 p _ _ _
        rw [HB.out, ← List.append_assoc]
        exact HS3.out
      case measure => simp [intOf]; omega
    · obtain rfl : i = ns.length := by omega
      have hb := hS.out
      rw [List.take_length] at hb
      replace hS := Lib.hid hb
      clear hb
      go_wp2_with fail
      go_ret
      exact ⟨rfl, hS.out⟩
end Go.Proofs.YtnllcmcahfkmaaaDoor
namespace Go.Proofs.YtnllcmcahfkmaaaDoor
open Go.RowKit
set_option maxRecDepth 100000

theorem RdU.rdN {w : World} {v : Value} {xs : List Int} {S : List Nat} (h : RdU w v xs) (hS : ∀ b, b < w.heap.size → b ∉ S) : RdN w v xs S := by
  obtain ⟨q, c, rfl, hq | ⟨b, off, rfl, hx⟩⟩ := h
  · exact ⟨q, c, rfl, .inl hq⟩
  · by_cases h0 : xs = []
    · exact ⟨_, c, rfl, .inl h0⟩
    · exact ⟨_, c, rfl, .inr ⟨b, off, rfl, hS b (lt_of_cell (hx 0 (List.length_pos_iff.2 h0))), hx⟩⟩
theorem RdN.drop {w w' : World} {v : Value} {xs : List Int} {S T : List Nat} (h : RdN w v xs S) (hb : Below w.heap.size w w') (hT : ∀ b, b < w.heap.size → b ∉ T) : RdN w' v xs T := by
  obtain ⟨q, c, rfl, hq | ⟨b, off, rfl, hn, hx⟩⟩ := h
  · exact ⟨q, c, rfl, .inl hq⟩
  · by_cases h0 : xs = []
    · exact ⟨_, c, rfl, .inl h0⟩
    · exact ⟨_, c, rfl, .inr ⟨b, off, rfl, hT b (lt_of_cell (hx 0 (List.length_pos_iff.2 h0))), fun i hi => (hb.cell (lt_of_cell (hx i hi))).trans (hx i hi)⟩⟩
def NumP (w : World) (xs : List Int) (e : Ending) (w' : World) : Prop := ∃ q k, e = .returned (.slice q (nums xs).length k) ∧ NewRow w (nums xs) (.slice q (nums xs).length k) w'
set_option maxHeartbeats 4000000 in
theorem numbers_nil {w : World} {q : Option Addr} {c : Nat} : Calls Tryd.prog 26 #[.slice q 0 c] w (NumP w []) := by
  have X : Hid (NumP w [] (.returned (.slice none 0 0)) w) := ⟨none, 0, rfl, ⟨none, 0, rfl⟩, World.ownsRow_nil w 0 _ 1, Below.refl _ _, fun k hk => by simp [Value.ownBlock] at hk⟩
  go_enter Tryd.func26, Tryd.ntmps26
  go_wp2_with fail
  refine wp_loop_rounds 1 ?_
  rw [rounds_succ]
  go_wp2_with fail
  go_ret
  exact X.out
set_option maxHeartbeats 8000000 in
theorem numbers_any {w : World} {xs : List Int} {q : Option Addr} {c : Nat} (h : RdU w (.slice q xs.length c) xs) (hc : xs.length ≤ c ∧ c ≤ maxLen) (hl : xs.length ≤ 4096) :
    Calls Tryd.prog 26 #[.slice q xs.length c] w (NumP w xs) := by
  by_cases h0 : xs = []
  · subst h0
    exact numbers_nil
  obtain ⟨i0, hi, hz0, hz1, hz2⟩ := info_parts Tryd.infoU8
  replace hi := Lib.hid hi
  replace hz0 := Lib.hid hz0
  replace hz1 := Lib.hid hz1
  replace hz2 := Lib.hid hz2
  have hpos : 0 < xs.length := List.length_pos_iff.2 h0
  have W0 := Lib.hid (WrV.new w)
  have B1 : Below w.heap.size w (w.alloc (.cells #[.bool true, .slice none 0 0] 104)) := (Below.refl _ _).alloc (Nat.le_refl _) _
  have N1 := Lib.hid ((h.rdN (S := []) (fun _ _ => by simp)).drop B1 (T := w.heap.size :: (Value.slice none 0 0).ownBlock.toList) (fun b hb => by simp [Value.ownBlock]; omega))
  have HB1 := Lib.hid B1
  have LN := Lib.hid (nums_len xs)
  obtain ⟨n, hn⟩ : ∃ n, xs.length = n := ⟨_, rfl⟩
  have HN := Lib.hid hn
  rw [hn] at hc hl hpos N1 ⊢
  have m1 : (n : Int) ≤ 4096 := by omega
  have m2 : (0 : Int) < (n : Int) := by omega
  have m3 : (n : Int) ≤ (c : Int) := by omega
  have m4 : min (n : Int) 4096 = n := by omega
  have m5 : (c : Int) ≤ 9223372036854775807 := by have := hc.2; unfold maxLen at this; omega
  have hcm := hc.2
  have hnc := hc.1
  unfold maxLen at hcm
  clear h hn B1 h0 hc
  go_enter Tryd.func26, Tryd.ntmps26
  go_wp2_with fail
  refine wp_loop_rounds 2 ?_
  rw [rounds_succ]
  go_wp2_with fail
  refine (NewWriter_any w).mono ?_
  rintro e w1 ⟨rfl, rfl⟩
  go_wp2_with fail
  refine (WUint_fits W0.out (ns := xs) N1.out (by rw [HN.out]; simp; omega)).mono ?_
  rintro e w2 ⟨rfl, hw2⟩
  obtain ⟨q2, c2, h2, ch2, -⟩ := hw2.own
  rw [List.nil_append] at h2
  have B2 : Below w.heap.size w w2 := HB1.out.trans (ch2.toBelow HB1.out.size (fun k hk => by simp [Value.ownBlock] at hk; omega))
  have KB := Lib.hid (WBytes_any h2 (by rw [LN.out, HN.out]; omega))
  have HB2 := Lib.hid B2
  clear hw2 ch2 h2 B2
  go_wp2_with fail
  refine KB.out.mono ?_
  rintro e w3 ⟨u, rfl, hu⟩
  obtain ⟨⟨q3, c3, rfl⟩, own3, b3, fr3⟩ := hu
  have SR := Lib.hid ((rd_of_row own3).src (P := Tryd.prog) Tryd.underlying67)
  have ON := Lib.hid (World.ownsRow_nil w3 0 5 1)
  have HB3 := Lib.hid (HB2.out.trans (b3.mono HB2.out.size))
  have l8 : (nums xs).length = 8 * n := by rw [LN.out, HN.out]
  obtain ⟨m, hm⟩ : ∃ m, (nums xs).length = m := ⟨_, rfl⟩
  have HM := Lib.hid hm
  rw [hm] at SR l8 own3
  simp only [hm] at ⊢
  have hm8 : m ≤ 32768 := by omega
  clear own3 b3 fr3 KB hm l8
  go_wp2_with (at_builtin; refine wpList_append_row rfl _ _ rfl Tryd.underlying67 hi.out hz0.out hz1.out hz2.out rfl ON.out SR.out ?b1 ?b2 ?_)
  case b1 => unfold maxLen; omega
  case b2 => omega
  intro q8 k8 w8 own8 grow8 fr8
  try simp only [Nat.zero_add, List.nil_append] at own8
  try simp only [Nat.zero_add] at fr8
  try simp only [Nat.zero_add]
  have B8 : Below w.heap.size w w8 := HB3.out.grown grow8 HB3.out.size (fun j hj => by simp [Value.ownBlock] at hj)
  have X : Hid (NumP w xs (.returned (.slice q8 m k8)) w8) := by
    have e := HM.out
    refine ⟨q8, k8, by rw [e], ⟨_, _, rfl⟩, ?_, B8, fun g hg => ?_⟩
    · rw [e]; exact own8
    · rw [e] at hg
      rcases fr8 with h | h
      · rw [h] at hg; simp [Value.ownBlock] at hg
      · rw [h] at hg
        have := HB3.out.size
        simp only [Option.some.injEq] at hg
        omega
  clear own8 grow8 fr8 SR ON B8
  go_wp2_with fail
  all_goals
    rw [rounds_succ]
    go_wp2_with fail
    go_ret
    exact X.out
end Go.Proofs.YtnllcmcahfkmaaaDoor
namespace Go.Proofs.YtnllcmcahfkmaaaDoor
open Go.RowKit
set_option maxRecDepth 100000

theorem zero128 (w : World) : (zeroValue 108).run Tryd.prog w = .ok (.agg (Array.replicate 128 (.int .u8 0))) w := by kernel_rfl
@[go_sem] theorem Tryd.idx8_0 (w : World) (a b c d e f g h : Int) : (Instr.index 107 (.agg #[.int .u32 a, .int .u32 b, .int .u32 c, .int .u32 d, .int .u32 e, .int .u32 f, .int .u32 g, .int .u32 h]) (.int .i64 0)).run Tryd.prog w = .ok (.int .u32 a) w := by kernel_rfl
@[go_sem] theorem Tryd.idx8_1 (w : World) (a b c d e f g h : Int) : (Instr.index 107 (.agg #[.int .u32 a, .int .u32 b, .int .u32 c, .int .u32 d, .int .u32 e, .int .u32 f, .int .u32 g, .int .u32 h]) (.int .i64 1)).run Tryd.prog w = .ok (.int .u32 b) w := by kernel_rfl
@[go_sem] theorem Tryd.idx8_2 (w : World) (a b c d e f g h : Int) : (Instr.index 107 (.agg #[.int .u32 a, .int .u32 b, .int .u32 c, .int .u32 d, .int .u32 e, .int .u32 f, .int .u32 g, .int .u32 h]) (.int .i64 2)).run Tryd.prog w = .ok (.int .u32 c) w := by kernel_rfl
@[go_sem] theorem Tryd.idx8_3 (w : World) (a b c d e f g h : Int) : (Instr.index 107 (.agg #[.int .u32 a, .int .u32 b, .int .u32 c, .int .u32 d, .int .u32 e, .int .u32 f, .int .u32 g, .int .u32 h]) (.int .i64 3)).run Tryd.prog w = .ok (.int .u32 d) w := by kernel_rfl
@[go_sem] theorem Tryd.idx8_4 (w : World) (a b c d e f g h : Int) : (Instr.index 107 (.agg #[.int .u32 a, .int .u32 b, .int .u32 c, .int .u32 d, .int .u32 e, .int .u32 f, .int .u32 g, .int .u32 h]) (.int .i64 4)).run Tryd.prog w = .ok (.int .u32 e) w := by kernel_rfl
@[go_sem] theorem Tryd.idx8_5 (w : World) (a b c d e f g h : Int) : (Instr.index 107 (.agg #[.int .u32 a, .int .u32 b, .int .u32 c, .int .u32 d, .int .u32 e, .int .u32 f, .int .u32 g, .int .u32 h]) (.int .i64 5)).run Tryd.prog w = .ok (.int .u32 f) w := by kernel_rfl
@[go_sem] theorem Tryd.idx8_6 (w : World) (a b c d e f g h : Int) : (Instr.index 107 (.agg #[.int .u32 a, .int .u32 b, .int .u32 c, .int .u32 d, .int .u32 e, .int .u32 f, .int .u32 g, .int .u32 h]) (.int .i64 6)).run Tryd.prog w = .ok (.int .u32 g) w := by kernel_rfl
@[go_sem] theorem Tryd.idx8_7 (w : World) (a b c d e f g h : Int) : (Instr.index 107 (.agg #[.int .u32 a, .int .u32 b, .int .u32 c, .int .u32 d, .int .u32 e, .int .u32 f, .int .u32 g, .int .u32 h]) (.int .i64 7)).run Tryd.prog w = .ok (.int .u32 h) w := by kernel_rfl
def msr : Value → Value → Nat
  | .slice _ n _, .bool true => n
  | .slice _ n _, _ => n + 1000
  | _, _ => 0

set_option maxHeartbeats 4000000 in
theorem Sum_any {w : World} {v : Value} {xs : List Int} (hr : RdC w v xs) (hx : Bytes xs) (hT : Tbl w) :
    Calls Tryd.prog 39 #[v] w fun e w' => e = .returned (.agg (hc (sha xs)).toArray) ∧ Below w.heap.size w w' := by
  obtain ⟨q, c, rfl, hlc, hq⟩ := hr
  obtain ⟨b, off, hqb, hcell⟩ : ∃ b off, (xs.length = 0 ∨ q = some ⟨b, off, none⟩) ∧ ∀ i, i < xs.length → w.cell? ⟨b, off + i, none⟩ = some (.int .u8 (xs.getD i 0)) := by
    rcases hq with rfl | ⟨b, off, h1, h2⟩
    · exact ⟨0, 0, .inl rfl, fun i hi => by simp at hi⟩
    · exact ⟨b, off, .inr h1, h2⟩
  have HC := Lib.hid hcell
  have HT := Lib.hid hT
  have HX := Lib.hid hx
  have HQ := Lib.hid hqb
  clear hcell hT hx hqb hq
  have hz := zero128
  have h0 : Hid (SmSt w (((w.alloc (.cells (hc zero32).toArray 43)).alloc (.cells #[.int .u32 1779033703, .int .u32 3144134277, .int .u32 1013904242, .int .u32 2773480762, .int .u32 1359893119, .int .u32 2600822924, .int .u32 528734635, .int .u32 1541459225] 107)).alloc (.cells (Array.replicate 128 (.int .u8 0)) 108)) iv (fun _ => 0)) := by
    refine ⟨?_, ?_, ?_, ?_⟩
    · exact (((Below.refl _ _).alloc (Nat.le_refl _) _).alloc (by simp) _).alloc (by simp; omega) _
    · exact ((HashAt.new w zero32).alloc _).alloc _
    · have := (RwK.newL .u32 (w.alloc (.cells (hc zero32).toArray 43)) iv.lst 107).alloc (.cells (Array.replicate 128 (.int .u8 0)) 108)
      simp only [World.size_alloc] at this
      exact this
    · have := RwK.new .u8 ((w.alloc (.cells (hc zero32).toArray 43)).alloc (.cells #[.int .u32 1779033703, .int .u32 3144134277, .int .u32 1013904242, .int .u32 2773480762, .int .u32 1359893119, .int .u32 2600822924, .int .u32 528734635, .int .u32 1541459225] 107)) 128 108
      simp only [World.size_alloc] at this
      exact this
  have hI : Hid (Inv xs b off w false 0 xs.length q (((w.alloc (.cells (hc zero32).toArray 43)).alloc (.cells #[.int .u32 1779033703, .int .u32 3144134277, .int .u32 1013904242, .int .u32 2773480762, .int .u32 1359893119, .int .u32 2600822924, .int .u32 528734635, .int .u32 1541459225] 107)).alloc (.cells (Array.replicate 128 (.int .u8 0)) 108))) :=
    ⟨_, _, h0.out, fun _ => ⟨by omega, by simpa using HQ.out, rfl, rfl⟩, fun e => Bool.noConfusion e⟩
  clear h0 HQ
  go_enter Tryd.func39, Tryd.ntmps39
  go_wp2_with fail
  go_step3
  go_wp2_with fail
  go_step3
  go_wp2_with fail
  clear hz
  go_loopw [5, 6] (fun lv ev wr => ∃ (e : Bool) (i n k : Nat) (q : Option Addr), ev = .bool e ∧ lv = .slice q n k ∧ n ≤ k ∧ Hid (Inv xs b off w e i n q wr)) (fun lv ev _ => msr lv ev)
  case atStart => exact ⟨false, 0, _, _, _, rfl, rfl, hlc, hI⟩
  case round =>
    clear hI
    obtain ⟨e, i, n, k, q, rfl, rfl, hnk, hI⟩ := hrel
    by_cases hn : 64 ≤ n
    · obtain ⟨bb, oo, Bf, S, F, rfl, hc, hb8, hm, hstep⟩ := hI.out.block hn HX.out HC.out
      have hTr := hm.tab HT.out
      have KM := Lib.hid (mix_any S hn hnk hc hb8 hTr)
      have HM := Lib.hid hm
      have HS := Lib.hid hstep
      clear hstep hI hTr hc hb8
      have s0 := hm.rs.cell 0 (by omega)
      have s1 := hm.rs.cell 1 (by omega)
      have s2 := hm.rs.cell 2 (by omega)
      have s3 := hm.rs.cell 3 (by omega)
      have s4 := hm.rs.cell 4 (by omega)
      have s5 := hm.rs.cell 5 (by omega)
      have s6 := hm.rs.cell 6 (by omega)
      have s7 := hm.rs.cell 7 (by omega)
      simp only [St8.lst, List.getD_cons_zero, List.getD_cons_succ] at s0 s1 s2 s3 s4 s5 s6 s7
      clear hm
      go_wp2_with fail
      refine KM.out.mono ?_
      rintro e1 w1 ⟨rfl, hb1⟩
      have hm1 := HM.out.on hb1
      generalize hT8 : S.mix Bf = T at HS ⊢
      clear hT8
      have HP := Lib.hid (hm1.put T)
      clear s0 s1 s2 s3 s4 s5 s6 s7 HM KM hb1
      have s0 := hm1.rs.cell 0 (by omega)
      have s1 := hm1.rs.cell 1 (by omega)
      have s2 := hm1.rs.cell 2 (by omega)
      have s3 := hm1.rs.cell 3 (by omega)
      have s4 := hm1.rs.cell 4 (by omega)
      have s5 := hm1.rs.cell 5 (by omega)
      have s6 := hm1.rs.cell 6 (by omega)
      have s7 := hm1.rs.cell 7 (by omega)
      have f0 := hm1.rs.free 0
      have f1 := hm1.rs.free 1
      have f2 := hm1.rs.free 2
      have f3 := hm1.rs.free 3
      have f4 := hm1.rs.free 4
      have f5 := hm1.rs.free 5
      have f6 := hm1.rs.free 6
      have f7 := hm1.rs.free 7
      clear hm1
      by_cases hk : k = 64
      · go_wp2_with fail
        exact ⟨⟨e, i + 1, _, _, _, rfl, rfl, by omega, Lib.hid (HS.out _ _ HP.out (.inl (by omega)))⟩, by cases e <;> simp [msr] <;> omega⟩
      · go_wp2_with fail
        exact ⟨⟨e, i + 1, _, _, _, rfl, rfl, by omega, Lib.hid (HS.out _ _ HP.out (.inr rfl))⟩, by cases e <;> simp [msr] <;> omega⟩
    · cases e with
      | false =>
        obtain ⟨hi, hl, hm64, hm, hrd⟩ := hI.out.rest (k := k) (by omega) HC.out
        by_cases h2 : 64 < n + 9
        · have KE := Lib.hid (end_two hm.rt hrd (by omega) xs.length (by omega))
          have HM := Lib.hid hm
          have HI := Lib.hid hi
          have H64 := Lib.hid hm64
          clear hI hl hrd hm hi hm64
          go_wp2_with fail
          refine KE.out.mono ?_
          rintro e1 w1 ⟨rfl, ht, hk⟩
          have hm1 := HM.out.chgT ht hk
          rw [HI.out] at hm1
          have hm64 := H64.out
          have HN : Hid (Inv xs b off w true 0 128 (some ⟨w.heap.size + 1 + 1, 0, none⟩) w1) := Inv.tail (by rw [if_pos (by omega)]; exact hm1) (by rw [if_pos (by omega)])
          clear ht hk hm1 KE HM HI hm64 H64
          go_wp2_with fail
          exact ⟨⟨true, 0, _, _, _, rfl, rfl, by omega, HN⟩, by simp [msr] <;> omega⟩
        · have KE := Lib.hid (end_one hm.rt hrd (by omega) xs.length (by omega))
          have HM := Lib.hid hm
          have HI := Lib.hid hi
          have H64 := Lib.hid hm64
          clear hI hl hrd hm hi hm64
          go_wp2_with fail
          refine KE.out.mono ?_
          rintro e1 w1 ⟨rfl, ht, hk⟩
          have hm1 := HM.out.chgT ht hk
          rw [HI.out] at hm1
          have hm64 := H64.out
          have HN : Hid (Inv xs b off w true 0 64 (some ⟨w.heap.size + 1 + 1, 0, none⟩) w1) := Inv.tail (by rw [if_neg (by omega)]; exact hm1) (by rw [if_neg (by omega)])
          clear ht hk hm1 KE HM HI hm64 H64
          go_wp2_with fail
          exact ⟨⟨true, 0, _, _, _, rfl, rfl, by omega, HN⟩, by simp [msr] <;> omega⟩
      | true =>
        obtain ⟨F, hm⟩ := hI.out.done (by omega)
        have HM := Lib.hid hm
        have s0 := hm.rs.cell 0 (by omega)
        have s1 := hm.rs.cell 1 (by omega)
        have s2 := hm.rs.cell 2 (by omega)
        have s3 := hm.rs.cell 3 (by omega)
        have s4 := hm.rs.cell 4 (by omega)
        have s5 := hm.rs.cell 5 (by omega)
        have s6 := hm.rs.cell 6 (by omega)
        have s7 := hm.rs.cell 7 (by omega)
        simp only [St8.lst, List.getD_cons_zero, List.getD_cons_succ] at s0 s1 s2 s3 s4 s5 s6 s7
        have hsz := hm.rt.lt
        have hsz1 := hm.rs.lt
        have hsz0 := hm.rr.lt
        clear hm hI
        generalize hS : shaSt xs (nbk xs.length) = S at *
        have HSS : Hid (sha xs = S.out) := by unfold sha; rw [hS]; exact rfl
        clear hS
        go_wp2_with fail
        have hr0 : RwK .u8 (wr.alloc (.cells (hc zero32).toArray 43)) wr.heap.size 32 43 (fun i => zero32.getD i 0) := RwK.newL .u8 wr zero32 43
        have R0 := Lib.hid hr0
        have K0 := Lib.hid (Chg.refl (wr.alloc (.cells (hc zero32).toArray 43)) [wr.heap.size])
        clear hr0 s0 s1 s2 s3 s4 s5 s6 s7
        refine wp_loop_rounds 9 ?_
        rw [rounds_succ]
        go_wp2_with fail
        refine (put32_any R0.out (off := 0) (len := 32) (cap := 32) (by omega) (by omega) _).mono ?_
        rintro e1 x0 ⟨rfl, hr, hk⟩
        have R1 := Lib.hid hr
        have K1 := Lib.hid (K0.out.trans hk (fun _ h _ => h))
        clear hr hk R0 K0
        go_wp2_with fail
        rw [rounds_succ]
        go_wp2_with fail
        refine (put32_any R1.out (off := 4) (len := 28) (cap := 28) (by omega) (by omega) _).mono ?_
        rintro e1 x1 ⟨rfl, hr, hk⟩
        have R2 := Lib.hid hr
        have K2 := Lib.hid (K1.out.trans hk (fun _ h _ => h))
        clear hr hk R1 K1
        go_wp2_with fail
        rw [rounds_succ]
        go_wp2_with fail
        refine (put32_any R2.out (off := 8) (len := 24) (cap := 24) (by omega) (by omega) _).mono ?_
        rintro e1 x2 ⟨rfl, hr, hk⟩
        have R3 := Lib.hid hr
        have K3 := Lib.hid (K2.out.trans hk (fun _ h _ => h))
        clear hr hk R2 K2
        go_wp2_with fail
        rw [rounds_succ]
        go_wp2_with fail
        refine (put32_any R3.out (off := 12) (len := 20) (cap := 20) (by omega) (by omega) _).mono ?_
        rintro e1 x3 ⟨rfl, hr, hk⟩
        have R4 := Lib.hid hr
        have K4 := Lib.hid (K3.out.trans hk (fun _ h _ => h))
        clear hr hk R3 K3
        go_wp2_with fail
        rw [rounds_succ]
        go_wp2_with fail
        refine (put32_any R4.out (off := 16) (len := 16) (cap := 16) (by omega) (by omega) _).mono ?_
        rintro e1 x4 ⟨rfl, hr, hk⟩
        have R5 := Lib.hid hr
        have K5 := Lib.hid (K4.out.trans hk (fun _ h _ => h))
        clear hr hk R4 K4
        go_wp2_with fail
        rw [rounds_succ]
        go_wp2_with fail
        refine (put32_any R5.out (off := 20) (len := 12) (cap := 12) (by omega) (by omega) _).mono ?_
        rintro e1 x5 ⟨rfl, hr, hk⟩
        have R6 := Lib.hid hr
        have K6 := Lib.hid (K5.out.trans hk (fun _ h _ => h))
        clear hr hk R5 K5
        go_wp2_with fail
        rw [rounds_succ]
        go_wp2_with fail
        refine (put32_any R6.out (off := 24) (len := 8) (cap := 8) (by omega) (by omega) _).mono ?_
        rintro e1 x6 ⟨rfl, hr, hk⟩
        have R7 := Lib.hid hr
        have K7 := Lib.hid (K6.out.trans hk (fun _ h _ => h))
        clear hr hk R6 K6
        go_wp2_with fail
        rw [rounds_succ]
        go_wp2_with fail
        refine (put32_any R7.out (off := 28) (len := 4) (cap := 4) (by omega) (by omega) _).mono ?_
        rintro e1 x7 ⟨rfl, hr, hk⟩
        have R8 := Lib.hid hr
        have K8 := Lib.hid (K7.out.trans hk (fun _ h _ => h))
        clear hr hk R7 K7
        go_wp2_with fail
        have hF : HashAt x7 wr.heap.size S.out := RwK.hash R8.out
        have hS32 : S.out.length = 32 := rfl
        have hrow := hF.row hS32
        have hm8 := HM.out.on (((Below.refl _ _).alloc (Nat.le_refl _) (.cells (hc zero32).toArray 43)).trans (K8.out.toBelow (B := wr.heap.size) (by simp) (by intro k hk; simp at hk; omega)))
        have hth := hm8.rr.there zero32_len
        have hput := (hm8.rr.put zero32_len hS32).row hS32
        have HB := Lib.hid (below_setCells' (B := w.heap.size) w.heap.size (Nat.le_refl _) (hc S.out) 0 hm8.below)
        clear hF hm8 R8 K8 HM
        rw [rounds_succ]
        go_wp2_with fail
        rw [Exit.noGoto_ret]
        refine bodyPost_ret (v := .agg (hc S.out).toArray) (by simp [results, Tryd.results39, go_sem, hput, hS32]) rfl ⟨by rw [HSS.out], HB.out⟩
end Go.Proofs.YtnllcmcahfkmaaaDoor
namespace Go.Proofs.YtnllcmcahfkmaaaDoor
open Go.RowKit
set_option maxRecDepth 100000

theorem HashAt.cell {w : World} {b : Nat} {F : List Int} (h : HashAt w b F) {i : Nat} (hi : i < F.length) : w.cell? ⟨b, i, none⟩ = some (.int .u8 (F.getD i 0)) := by
  rw [cell_of_row _ _ _ _ _ _ h]
  simp [hc, List.getD, hi]
theorem rdc_of_rw {w : World} {b : Nat} {T : TypeId} {xs : List Int} (h : RwK .u8 w b xs.length T (fun i => xs.getD i 0)) : RdC w (.slice (some ⟨b, 0, none⟩) xs.length xs.length) xs :=
  ⟨_, _, rfl, Nat.le_refl _, .inr ⟨b, 0, rfl, fun i hi => by rw [Nat.zero_add]; exact h.cell i hi⟩⟩
end Go.Proofs.YtnllcmcahfkmaaaDoor
namespace Go.Proofs.YtnllcmcahfkmaaaDoor

theorem wpAnyH_strong {P : Program} {md : Region.Mode} {ops : Array Oper} {Q : Exit → Act → World → Prop} {S S' : World → Prop} (hS : ∀ w, S' w → S w) : ∀ {fuel : Nat} {listed : Array Bool} {a : Act} {w : World}, wpAnyH P md ops Q S' fuel listed a w → wpAnyH P md ops Q S fuel listed a w
  | 0, _, _, _, h => h
  | _ + 1, _, _, _, h => ⟨h.1, fun i hi => wpOp_mono (fun _ _ h' => ⟨hS _ h'.1, wpAnyH_strong hS h'.2⟩) (h.2 i hi)⟩
end Go.Proofs.YtnllcmcahfkmaaaDoor
