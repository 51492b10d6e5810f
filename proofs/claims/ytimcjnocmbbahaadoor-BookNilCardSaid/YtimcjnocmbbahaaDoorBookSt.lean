/-
  Package book: a book in memory; Put, of the first string and of the second one under its hash.
-/
import Derived.Test.YtimcjnocmbbahaaDoorBookMap
namespace Go.Proofs.YtimcjnocmbbahaaDoor
open Go.RowKit
set_option maxRecDepth 100000

def bkRow (S T : Nat) (tw : List Int) (cl : Bool) : List Value := [.map (some S), .map (some T)] ++ (hc tw ++ [.bool cl])
theorem bkRow_len {S T : Nat} {tw : List Int} {cl : Bool} (h : tw.length = 32) : (bkRow S T tw cl).length = 35 := by simp [bkRow, hc_len, h]
/-- A book: its block, its two maps. -/
structure BkS (w : World) (p S T : Nat) (es : Array MapEntry) (ce : Nat) (ts : Array MapEntry) (ct : Nat) (tw : List Int) (cl : Bool) : Prop where
  blk : w.heap[p]? = some (.cells (bkRow S T tw cl).toArray 49 (0, 0))
  ms : w.heap[S]? = some (.map es ce)
  mt : w.heap[T]? = some (.map ts ct)
  ne : S ≠ T
  tw : tw.length = 32
theorem blk_onB {w w' : World} {b : Nat} {x : Obj} (h : w.heap[b]? = some x) (hb : Below w.heap.size w w') : w'.heap[b]? = some x := by
  rw [hb.block b (Array.getElem?_eq_some_iff.1 h).1]; exact h
section
variable {w w' : World} {p S T : Nat} {es : Array MapEntry} {ce : Nat} {ts : Array MapEntry} {ct : Nat} {tw : List Int} {cl : Bool}
theorem BkS.on (h : BkS w p S T es ce ts ct tw cl) (hb : Below w.heap.size w w') : BkS w' p S T es ce ts ct tw cl :=
  ⟨blk_onB h.blk hb, blk_onB h.ms hb, blk_onB h.mt hb, h.ne, h.tw⟩
theorem BkS.drew (h : BkS w p S T es ce ts ct tw cl) : BkS w.drew p S T es ce ts ct tw cl := ⟨h.blk, h.ms, h.mt, h.ne, h.tw⟩
theorem lt_blk {b : Nat} {x : Obj} (h : w.heap[b]? = some x) : b < w.heap.size := (Array.getElem?_eq_some_iff.1 h).1
theorem BkS.pS (h : BkS w p S T es ce ts ct tw cl) : p ≠ S := fun e => by have := h.blk; rw [e, h.ms] at this; simp at this
theorem BkS.pT (h : BkS w p S T es ce ts ct tw cl) : p ≠ T := fun e => by have := h.blk; rw [e, h.mt] at this; simp at this
theorem BkS.cells (h : BkS w p S T es ce ts ct tw cl) : w.cell? ⟨p, 0, none⟩ = some (.map (some S)) ∧ w.cell? ⟨p, 1, none⟩ = some (.map (some T)) ∧ w.cell? ⟨p, 34, none⟩ = some (.bool cl) ∧ rowOf w p 2 32 = hc tw := by
  have hl := h.tw
  refine ⟨?_, ?_, ?_, ?_⟩
  · rw [Joins.cell_of_block h.blk]; rfl
  · rw [Joins.cell_of_block h.blk]; rfl
  · rw [Joins.cell_of_block h.blk]
    simp [bkRow, hc_len, hl, List.getElem?_append, List.getElem?_cons]
  · rw [rowOf_block h.blk]
    simp [bkRow, hc_len, hl, List.take_append_of_le_length, List.take_of_length_le]
theorem heap_putMap (w : World) (b c : Nat) (x : Array MapEntry) {y : Nat} (hne : b ≠ y) : (putMap w b x c).heap[y]? = w.heap[y]? := by
  simp [putMap, Array.getElem?_setIfInBounds_ne hne]
theorem heap_putMap_same (w : World) {b : Nat} (c : Nat) (x : Array MapEntry) (hb : b < w.heap.size) : (putMap w b x c).heap[b]? = some (.map x c) := by
  simp [putMap, Array.getElem?_setIfInBounds_self_of_lt hb]
@[simp] theorem size_putMap (w : World) (b c : Nat) (x : Array MapEntry) : (putMap w b x c).heap.size = w.heap.size := by simp [putMap]
theorem chg_putMap {a w : World} {S : List Nat} {b : Nat} (h : Chg a w S) (hb : b ∈ S ∨ a.heap.size ≤ b) (x : Array MapEntry) (c : Nat) : Chg a (putMap w b x c) S :=
  ⟨h.os, h.tape, h.output, by rw [size_putMap]; exact h.size, fun k hk hn => by
    rw [heap_putMap _ _ _ _ (fun e => by subst e; rcases hb with hb | hb; exact hn hb; omega)]; exact h.block k hk hn⟩
theorem BkS.putT (h : BkS w p S T es ce ts ct tw cl) (ts' : Array MapEntry) (ct' : Nat) : BkS (putMap w T ts' ct') p S T es ce ts' ct' tw cl :=
  ⟨by rw [heap_putMap _ _ _ _ h.pT.symm]; exact h.blk, by rw [heap_putMap _ _ _ _ h.ne.symm]; exact h.ms, heap_putMap_same _ _ _ (lt_blk h.mt), h.ne, h.tw⟩
theorem BkS.putS (h : BkS w p S T es ce ts ct tw cl) (es' : Array MapEntry) (ce' : Nat) : BkS (putMap w S es' ce') p S T es' ce' ts ct tw cl :=
  ⟨by rw [heap_putMap _ _ _ _ h.pS.symm]; exact h.blk, heap_putMap_same _ _ _ (lt_blk h.ms), by rw [heap_putMap _ _ _ _ h.ne]; exact h.mt, h.ne, h.tw⟩
end
theorem made_bk {w : World} {p S T : Nat} {es : Array MapEntry} {ce : Nat} {ts : Array MapEntry} {ct : Nat} {tw : List Int} {cl : Bool} (h : BkS w p S T es ce ts ct tw cl) :
    Calls Tryd.prog 25 #[.pointer (some ⟨p, 0, none⟩)] w fun e w' => e = .returned (.bool true) ∧ w' = w := by
  obtain ⟨c0, -⟩ := h.cells
  have hne : (binOp BinOp.neq 46 (.map (some S)) (.map none)).run Tryd.prog w = .ok (.bool true) w := by kernel_rfl
  go_enter Tryd.func25, Tryd.ntmps25
  go_wp2_with fail
  go_ret
  exact ⟨rfl, rfl⟩
theorem Len_bk {w : World} {p S T : Nat} {es : Array MapEntry} {ce : Nat} {ts : Array MapEntry} {ct : Nat} {tw : List Int} {cl : Bool} (h : BkS w p S T es ce ts ct tw cl) :
    Calls Tryd.prog 21 #[.pointer (some ⟨p, 0, none⟩)] w fun e w' => e = .returned (.int .i64 ts.size) ∧ w' = w := by
  obtain ⟨-, c1, -⟩ := h.cells
  have hlen : (Builtin.len_ #[47] 3 #[.map (some T)]).run Tryd.prog w = .ok (.int .i64 ts.size) w := by
    simp [Builtin.len_, run_underlying Tryd.underlying47, getMap h.mt, goInt]
  go_enter Tryd.func21, Tryd.ntmps21
  go_wp2_with fail
  refine (made_bk h).mono ?_
  rintro e w1 ⟨rfl, rfl⟩
  go_wp2_with fail
  go_ret
  exact ⟨rfl, rfl⟩

/-! ### An entry's row -/
def en0 : List Value := hc zero32 ++ [.string ⟨#[]⟩]
@[go_sem ↓] theorem load33 (a : Addr) : loadCellsFrom a 0 33 #[] = rowLoad a 33 := rfl
@[go_sem ↓] theorem Tryd.build_en (ps : Array (Nat × Value)) : Instr.build 61 ps = rowBuild 61 ps := rfl
@[go_sem ↓] theorem Tryd.zero_en (w : World) : (zeroValue 61).run Tryd.prog w = .ok (.agg en0.toArray) w := by kernel_rfl
@[go_sem] theorem Tryd.run_enA (w : World) : (rowBuild 61 #[(0, .agg (hc dgA).toArray), (1, .string ⟨#[97]⟩)]).run Tryd.prog w = .ok (.agg enA.toArray) w := by
  unfold rowBuild; kernel_rfl
@[go_sem] theorem Tryd.run_enB (w : World) : (rowBuild 61 #[(0, .agg (hc dgA).toArray), (1, .string ⟨#[98]⟩)]).run Tryd.prog w = .ok (.agg enB.toArray) w := by
  unfold rowBuild; kernel_rfl
theorem en_len (s : ByteArray) : (hc dgA ++ [Value.string s]).length = 33 := by simp [hc_len, dgA_len]
theorem en_one (s : ByteArray) : ∀ u ∈ hc dgA ++ [Value.string s], u.oneCell' = true := by
  intro v hv
  rcases List.mem_append.1 hv with hv | hv
  · exact (Array.all_eq_true_iff_forall_mem.1 (hc_one _)) v (by simpa using hv)
  · obtain rfl := List.mem_singleton.1 hv; rfl
@[go_sem] theorem enA_len : enA.length = 33 := en_len _
@[go_sem] theorem enB_len : enB.length = 33 := en_len _
theorem en0_len : en0.length = 33 := by simp [en0, hc_len, zero32_len]
@[go_sem] theorem run_storeCells_enA {P : Program} (w : World) (b : Nat) (hw : w.there b 0 33) : (storeCells ⟨b, 0, none⟩ enA 0).run P w = .ok () (w.setCells b 0 enA) := by
  have := run_storeCells_cells (P := P) b 0 enA 0 w (fun j hj => by rw [enA_len] at hj; simpa using (hw j hj).1) (fun j hj => by rw [enA_len] at hj; simpa using (hw j hj).2) (en_one _)
  simpa using this
@[go_sem] theorem run_storeCells_enB {P : Program} (w : World) (b : Nat) (hw : w.there b 0 33) : (storeCells ⟨b, 0, none⟩ enB 0).run P w = .ok () (w.setCells b 0 enB) := by
  have := run_storeCells_cells (P := P) b 0 enB 0 w (fun j hj => by rw [enB_len] at hj; simpa using (hw j hj).1) (fun j hj => by rw [enB_len] at hj; simpa using (hw j hj).2) (en_one _)
  simpa using this
theorem there_newB {w : World} {R : List Value} {T : TypeId} {n : Nat} (hn : R.length = n) : (w.alloc (.cells R.toArray T)).there w.heap.size 0 n := fun j hj => by
  have R' := heap_alloc_new w (.cells R.toArray T)
  refine ⟨?_, Joins.unfrozen_of_block R' _⟩
  rw [cell_of_row _ _ _ _ _ _ R']
  simp [hn, hj]
theorem set_blockB {w : World} {R S : List Value} {T : TypeId} (hn : R.length = S.length) : ((w.alloc (.cells R.toArray T)).setCells w.heap.size 0 S).heap[w.heap.size]? = some (.cells S.toArray T (0, 0)) := by
  have := setCells_block (b := w.heap.size) (t := T) (fr := (0, 0)) S (o := 0) (w := w.alloc (.cells R.toArray T)) (pre := []) (mid := R) (post := []) (by simp only [List.nil_append, List.append_nil]; exact heap_alloc_new w _) rfl hn
  simpa using this
theorem row_of {w : World} {b : Nat} {R : List Value} {T : TypeId} {fr : Nat × Nat} {n : Nat} (h : w.heap[b]? = some (.cells R.toArray T fr)) (hn : R.length = n) : rowOf w b 0 n = R := by
  rw [rowOf_block h]
  simp [List.take_of_length_le (show R.length ≤ n by omega)]
end Go.Proofs.YtimcjnocmbbahaaDoor
