/-
  A machine's state as a value; Start, Right.
-/
import Derived.Test.YtamkmeigcmpkjaaMcFe
import Derived.Test.YtamkmeigcmpkjaaMcOk
namespace Go.Proofs.Ytamkmeigcmpkjaa
set_option maxRecDepth 100000
open Go.RowKit

def ws0 : List Int := [0, 0, 0, 0, 0, 0, 0, 0, 0, 0, 0, 0, 0, 0, 0, 0]
def ms0 : Ms := ⟨0, 0, 0, 0, [], ws0⟩
@[go_sem] theorem stRow_len {s : Ms} {q : Option Addr} {c : Nat} (h : s.wds.length = 16) : (stRow s q c).length = 21 := by simp [stRow, h]
theorem stRow_one (s : Ms) (q : Option Addr) (c : Nat) : ∀ u ∈ stRow s q c, u.oneCell' = true := by
  intro u hu
  simp only [stRow, List.mem_cons] at hu
  rcases hu with rfl | rfl | rfl | rfl | rfl | h
  · rfl
  · rfl
  · rfl
  · rfl
  · rfl
  · exact wcs_one _ u h
@[go_sem ↓] theorem load21 (a : Addr) : loadCellsFrom a 0 21 #[] = rowLoad a 21 := rfl
@[go_sem ↓] theorem load16 (a : Addr) : loadCellsFrom a 0 16 #[] = rowLoad a 16 := rfl
@[go_sem] theorem run_storeCells_st {P : Program} (w : World) (b : Nat) (s : Ms) (q : Option Addr) (c : Nat) (h : s.wds.length = 16) (hw : w.there b 0 21) : (storeCells ⟨b, 0, none⟩ (stRow s q c) 0).run P w = .ok () (w.setCells b 0 (stRow s q c)) := by
  have e := stRow_len (q := q) (c := c) h
  have := run_storeCells_cells (P := P) b 0 (stRow s q c) 0 w (fun j hj => by rw [e] at hj; simpa using (hw j hj).1) (fun j hj => by rw [e] at hj; simpa using (hw j hj).2) (stRow_one s q c)
  simpa using this
@[go_sem ↓] theorem Try.zero_st (w : World) : (zeroValue 31).run Try.prog w = .ok (.agg (stRow ms0 none 0).toArray) w := by kernel_rfl
@[go_sem ↓] theorem Try.build_st (ps : Array (Nat × Value)) : Instr.build 31 ps = rowBuild 31 ps := rfl
@[go_sem ↓] theorem Try.build_ws (ps : Array (Nat × Value)) : Instr.build 29 ps = rowBuild 29 ps := rfl
@[go_sem] theorem Try.run_ws0 (w : World) : (rowBuild 29 #[]).run Try.prog w = .ok (.agg (wcs ws0).toArray) w := by unfold rowBuild; kernel_rfl
theorem len16 {W : List Int} (h : W.length = 16) : ∃ a_ b_ c_ d_ e_ f_ g_ h_ i_ j_ k_ l_ m_ n_ o_ p_, W = [a_, b_, c_, d_, e_, f_, g_, h_, i_, j_, k_, l_, m_, n_, o_, p_] := by
  match W, h with
  | [a_, b_, c_, d_, e_, f_, g_, h_, i_, j_, k_, l_, m_, n_, o_, p_], _ => exact ⟨a_, b_, c_, d_, e_, f_, g_, h_, i_, j_, k_, l_, m_, n_, o_, p_, rfl⟩
theorem Try.run_start (w : World) (g : Int) {W : List Int} (h : W.length = 16) : (rowBuild 31 #[(1, .int .u64 g), (5, .agg (wcs W).toArray)]).run Try.prog w = .ok (.agg (stRow (startM g W) none 0).toArray) w := by
  obtain ⟨a_, b_, c_, d_, e_, f_, g_, h_, i_, j_, k_, l_, m_, n_, o_, p_, rfl⟩ := len16 h
  unfold rowBuild
  kernel_rfl
theorem all_snocG {L : List Ins} {i : Nat} {f : Ins → Bool} (hlt : i < L.length) (h : (L.take i).all f = true) : (L.take (i + 1)).all f = f (L.getD i ins0) := by
  have e : L.getD i ins0 = L[i] := by simp [List.getD, hlt]
  rw [List.take_succ_eq_append_getElem hlt, List.all_append, h, e]
  simp
/-- Block b holds a state. -/
def StAt (w : World) (b : Nat) (s : Ms) (q : Option Addr) (c : Nat) : Prop := w.heap[b]? = some (.cells (stRow s q c).toArray 31 (0, 0))
section
variable {w w' : World} {b : Nat} {s : Ms} {q : Option Addr} {c : Nat}
theorem StAt.row (h : StAt w b s q c) (hs : s.wds.length = 16) : rowOf w b 0 21 = stRow s q c := by
  rw [rowOf_block h]
  have e := stRow_len (q := q) (c := c) hs
  simp [List.take_of_length_le (Nat.le_of_eq e)]
theorem StAt.there (h : StAt w b s q c) (hs : s.wds.length = 16) : w.there b 0 21 := fun j hj => by
  refine ⟨?_, Joins.unfrozen_of_block h _⟩
  rw [cell_of_row _ _ _ _ _ _ h]
  simp only [List.getElem?_toArray]
  rw [List.getElem?_eq_getElem (by rw [stRow_len hs]; omega)]
  rfl
theorem StAt.put {s' : Ms} {q' : Option Addr} {c' : Nat} (h : StAt w b s q c) (hs : s.wds.length = 16) (hs' : s'.wds.length = 16) : StAt (w.setCells b 0 (stRow s' q' c')) b s' q' c' := by
  unfold StAt at h ⊢
  have := setCells_block (b := b) (t := 31) (fr := (0, 0)) (stRow s' q' c') (o := 0) (w := w) (pre := []) (mid := stRow s q c) (post := []) (by simpa using h) rfl (by rw [stRow_len hs, stRow_len hs'])
  simpa using this
end
theorem wsRow {w : World} {b : Nat} {W : List Int} {T : TypeId} {fr : Nat × Nat} (h : w.heap[b]? = some (.cells (wcs W).toArray T fr)) (hW : W.length = 16) : rowOf w b 0 16 = wcs W := by
  rw [rowOf_block h]
  have e : (wcs W).length = 16 := by rw [wcs_len, hW]
  simp [List.take_of_length_le (Nat.le_of_eq e)]
@[go_sem] theorem wcs_l16 {W : List Int} (h : W.length = 16) : (wcs W).length = 16 := by rw [wcs_len, h]
theorem ws0_len : ws0.length = 16 := by simp [ws0]
set_option maxHeartbeats 2000000 in
theorem Start_any (w : World) (g : Int) {W : List Int} (hW : W.length = 16) : Calls Try.prog 9 #[.int .u64 g, .agg (wcs W).toArray] w fun e w' => e = .returned (.agg (stRow (startM g W) none 0).toArray) ∧ Below w.heap.size w w' := by
  have b1 : Below w.heap.size w (w.alloc (.cells (wcs W).toArray 29)) := (Below.refl _ _).alloc (Nat.le_refl _) _
  have b2 : Below w.heap.size w ((w.alloc (.cells (wcs W).toArray 29)).alloc (.cells (stRow ms0 none 0).toArray 31)) := b1.alloc b1.size _
  have hz : (w.alloc (.cells (wcs W).toArray 29)).heap.size = w.heap.size + 1 := by simp
  have K1 : ((w.alloc (.cells (wcs W).toArray 29)).alloc (.cells (stRow ms0 none 0).toArray 31)).heap[w.heap.size]? = some (.cells (wcs W).toArray 29 (0, 0)) := by
    rw [Below.heap_alloc _ _ _ (by rw [hz]; omega)]
    exact heap_alloc_new w _
  have cr := wsRow K1 hW
  have K2 : StAt ((w.alloc (.cells (wcs W).toArray 29)).alloc (.cells (stRow ms0 none 0).toArray 31)) (w.heap.size + 1) ms0 none 0 := by
    have := heap_alloc_new (w.alloc (.cells (wcs W).toArray 29)) (.cells (stRow ms0 none 0).toArray 31)
    rw [hz] at this
    exact this
  have ct := K2.there ws0_len
  have hw2 : (startM g W).wds.length = 16 := hW
  have K3 := Lib.hid (K2.put (s' := startM g W) (q' := none) (c' := 0) ws0_len hw2)
  have HB := Lib.hid (below_setCells' (w.heap.size + 1) (by omega) (stRow (startM g W) none 0) 0 b2)
  have hrs := fun W' => Try.run_start W' g hW
  clear K1 K2 hz
  go_enter Try.func9, Try.ntmps9
  go_upto_region 1 with fail
  generalize (w.alloc (.cells (wcs W).toArray 29)).alloc (.cells (stRow ms0 none 0).toArray 31) = w2 at *
  go_wp2_with fail
  have cf := K3.out.row hw2
  refine bodyPost_ret (v := .agg (stRow (startM g W) none 0).toArray) (by simp [results, Try.results9, go_sem, cf, hw2]) rfl ⟨rfl, HB.out⟩
set_option maxHeartbeats 4000000 in
theorem Right_any {w : World} {F : Fp} {L : List Ins} {q : Option Addr} {c : Nat} (hr : RwF 2 ins0 PIs w F q L) (hl : L.length ≤ 3000000000000) : Calls Try.prog 11 #[.slice q L.length c] w fun e w' => e = .returned (.bool (codeOk L)) ∧ Below w.heap.size w w' := by
  by_cases h128 : L.length ≤ 128
  rotate_left
  · have E : codeOk L = false := by unfold codeOk; rw [decide_eq_false h128]; rfl
    rw [E]
    have d : decide ((L.length : Int) > 128) = true := decide_eq_true (by omega)
    have d2 : decide (128 < L.length) = true := decide_eq_true (by omega)
    clear E h128 hr hl
    go_enter Try.func11, Try.ntmps11
    go_wp2_with fail
    go_ret
    exact ⟨rfl, Below.refl _ _⟩
  have E : codeOk L = L.all insOk := by unfold codeOk; rw [decide_eq_true h128]; rfl
  rw [E]
  have d : decide ((L.length : Int) > 128) = false := decide_eq_false (by omega)
  have d2 : decide (128 < L.length) = false := decide_eq_false (by omega)
  have HR := Lib.hid (fun (W : World) (hb : Below w.heap.size w W) => hr.on PIs_ok (by decide) hb)
  obtain ⟨B, hB⟩ : ∃ B, L.all insOk = B := ⟨_, rfl⟩
  rw [hB]
  have HBe := Lib.hid hB
  have B0 := Lib.hid (Below.refl w.heap.size w)
  clear E hr hl hB
  go_enter Try.func11, Try.ntmps11
  go_wp2_with fail
  go_loopw [4, 10] (fun pv iv wr => ∃ (i : Nat), iv = .int .i64 (i : Int) ∧ i ≤ L.length ∧ Hid (Below w.heap.size w wr) ∧ Hid ((L.take i).all insOk = true)) (fun _ iv _ => L.length - (intOf iv).toNat)
  case atStart => exact ⟨0, rfl, by omega, B0, by show _ = _; rfl⟩
  case round =>
    clear B0
    obtain ⟨i, rfl, hil, hb, hok⟩ := hrel
    by_cases hlt : i < L.length
    · obtain ⟨b, off, r, rfl, _, hr2, hrow, hp⟩ := (HR.out _ hb.out).get hlt
      subst hp
      obtain ⟨y, hy⟩ : ∃ y, L.getD i ins0 = y := ⟨_, rfl⟩
      have HY := Lib.hid hy
      rw [hy] at hrow
      obtain ⟨op, x⟩ := y
      have g0 := row_cellG hrow rfl (j := 0) (v := .int .i64 op) rfl
      have g1 := row_cellG hrow rfl (j := 1) (v := .int .u64 x) rfl
      rw [Nat.add_zero] at g0
      have KR := Lib.hid (fun (W : World) => rightInstr_any W op x)
      have HLT := Lib.hid hlt
      have HS : Hid ((L.take (i + 1)).all insOk = insOk ⟨op, x⟩) := by
        show _ = _
        rw [all_snocG hlt hok.out, hy]
      have HF : Hid (insOk ⟨op, x⟩ = false → B = false) := fun h => by
        rw [← HBe.out, ← List.take_append_drop (i + 1) L, List.all_append, HS.out, h]
        rfl
      obtain ⟨z, hz⟩ : ∃ z, insOk ⟨op, x⟩ = z := ⟨_, rfl⟩
      rw [hz] at KR HS HF
      have ba : Below wr.heap.size wr (wr.alloc (.cells #[.int .i64 op, .int .u64 x] 43)) := (Below.refl _ _).alloc (Nat.le_refl _) _
      have BA := Lib.hid (hb.out.trans (ba.mono hb.out.size))
      clear hz hy hrow hr2 ba hb hok
      go_wp2_with fail
      clear g0 g1
      refine (KR.out _).mono ?_
      rintro e w2 ⟨rfl, b2⟩
      have B2 := Lib.hid (BA.out.trans (b2.mono BA.out.size))
      clear b2 KR BA
      cases z with
      | false =>
        go_wp2_with fail
        go_ret
        rw [show B = false from by first | exact HF.out rfl | exact HF.out trivial]
        exact ⟨rfl, B2.out⟩
      | true =>
        go_wp2_with fail
        go_roundw
        case rel => exact ⟨i + 1, by go_num, by have := HLT.out; omega, B2, HS⟩
        case measure => have := HLT.out; simp [intOf]; omega
    · have HT : Hid (B = true) := by
        show _ = _
        rw [← HBe.out]
        have := hok.out
        rw [List.take_of_length_le (by omega)] at this
        exact this
      clear hok
      go_wp2_with fail
      go_ret
      rw [HT.out]
      exact ⟨rfl, hb.out⟩
end Go.Proofs.Ytamkmeigcmpkjaa
