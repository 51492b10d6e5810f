/-
  Package oracle: no oracle, and one that nobody made.
-/
import Derived.Test.YtppaallnanodhaaGreatDoorOrSmall
namespace Go.Proofs.YtppaallnanodhaaGreatDoor
set_option maxRecDepth 100000
open Go.RowKit

/-- No oracle, or one that nobody made. -/
def NilO (w : World) (v : Value) : Prop := v = .pointer none ∨ ∃ p, v = .pointer (some ⟨p, 0, none⟩) ∧ w.cell? ⟨p, 0, none⟩ = some (.int .i64 0)
theorem NilO.on {w w' : World} {v : Value} (h : NilO w v) (hb : Below w.heap.size w w') : NilO w' v := by
  rcases h with rfl | ⟨p, rfl, hc⟩
  · exact .inl rfl
  · exact .inr ⟨p, rfl, by rw [hb.cell (lt_of_cell hc)]; exact hc⟩

/-! ### Rows of zeros -/
def dis0 : List Value := [.int .i64 0, .int .u64 0] ++ ([.int .i64 0, .int .i64 0] ++ (hc zero32 ++ (hc zero32 ++ (hc zero32 ++ [.bool false, .int .i64 0, .int .i64 0, .int .i64 0, .int .i64 0, .bool false]))))
def in0 : List Value := [.bool false, .int .u64 0, .int .u64 0, .int .u64 0, .int .u64 0, .int .u64 0, .int .u64 0, .int .u64 0, .int .u64 0, .int .u64 0, .int .u64 0, .int .u64 0, .int .u64 0, .slice none 0 0, .int .i64 0, .int .u64 0, .int .u64 0, .int .u64 0, .int .u64 0, .int .u64 0, .int .u64 0, .int .u64 0, .int .u64 0, .slice none 0 0]
def wi0 : List Value := [.slice none 0 0, .slice none 0 0, .slice none 0 0]
theorem hcz_len : (hc zero32).length = 32 := by rw [hc_len, zero32_len]
@[go_sem] theorem dis0_len : dis0.length = 106 := by simp [dis0, hc_len, zero32_len]
theorem dis0_one : ∀ u ∈ dis0, u.oneCell' = true := by
  intro v hv
  simp only [dis0, List.mem_append, List.mem_cons, List.not_mem_nil, or_false] at hv
  rcases hv with (rfl | rfl) | (rfl | rfl) | hv | hv | hv | (rfl | rfl | rfl | rfl | rfl | rfl)
  any_goals rfl
  all_goals exact (Array.all_eq_true_iff_forall_mem.1 (hc_one _)) v (by simpa using hv)
@[go_sem ↓] theorem Tryz.build_in (ps : Array (Nat × Value)) : Instr.build 73 ps = rowBuild 73 ps := rfl
@[go_sem ↓] theorem Tryz.build_wi (ps : Array (Nat × Value)) : Instr.build 77 ps = rowBuild 77 ps := rfl
@[go_sem ↓] theorem Tryz.build_dis (ps : Array (Nat × Value)) : Instr.build 63 ps = rowBuild 63 ps := rfl
@[go_sem] theorem Tryz.run_in0 (w : World) : (rowBuild 73 #[]).run Tryz.prog w = .ok (.agg in0.toArray) w := by
  unfold rowBuild; kernel_rfl
@[go_sem] theorem Tryz.run_wi0 (w : World) : (rowBuild 77 #[]).run Tryz.prog w = .ok (.agg wi0.toArray) w := by
  unfold rowBuild; kernel_rfl
@[go_sem] theorem Tryz.run_dis0 (w : World) : (rowBuild 63 #[]).run Tryz.prog w = .ok (.agg dis0.toArray) w := by
  unfold rowBuild; kernel_rfl
@[go_sem ↓] theorem Tryz.zero_dis (w : World) : (zeroValue 63).run Tryz.prog w = .ok (.agg dis0.toArray) w := by kernel_rfl
@[go_sem ↓] theorem load106 (a : Addr) : loadCellsFrom a 0 106 #[] = rowLoad a 106 := rfl
@[go_sem] theorem run_storeCells_dis {P : Program} (w : World) (b : Nat) (hw : w.there b 0 106) : (storeCells ⟨b, 0, none⟩ dis0 0).run P w = .ok () (w.setCells b 0 dis0) := by
  have := run_storeCells_cells (P := P) b 0 dis0 0 w (fun j hj => by rw [dis0_len] at hj; simpa using (hw j hj).1) (fun j hj => by rw [dis0_len] at hj; simpa using (hw j hj).2) dis0_one
  simpa using this
theorem there_new {w : World} {R : List Value} {T : TypeId} {n : Nat} (hn : R.length = n) : (w.alloc (.cells R.toArray T)).there w.heap.size 0 n := fun j hj => by
  have R' := heap_alloc_last w (.cells R.toArray T)
  refine ⟨?_, Joins.unfrozen_of_block R' _⟩
  rw [cell_of_row _ _ _ _ _ _ R']
  simp [hn, hj]
theorem set_block {w : World} {R S : List Value} {T : TypeId} (hn : R.length = S.length) : ((w.alloc (.cells R.toArray T)).setCells w.heap.size 0 S).heap[w.heap.size]? = some (.cells S.toArray T (0, 0)) := by
  have := setCells_block (b := w.heap.size) (t := T) (fr := (0, 0)) S (o := 0) (w := w.alloc (.cells R.toArray T)) (pre := []) (mid := R) (post := []) (by simp only [List.nil_append, List.append_nil]; exact heap_alloc_last w _) rfl hn
  simpa using this
theorem set_row {w : World} {R S : List Value} {T : TypeId} {n : Nat} (hn : R.length = S.length) (hs : S.length = n) : rowOf ((w.alloc (.cells R.toArray T)).setCells w.heap.size 0 S) w.heap.size 0 n = S := by
  rw [rowOf_block (set_block hn)]
  simp [List.take_of_length_le (show S.length ≤ n by omega)]
theorem new_row {w : World} {R : List Value} {T : TypeId} {n : Nat} (hs : R.length = n) : rowOf (w.alloc (.cells R.toArray T)) w.heap.size 0 n = R := by
  rw [rowOf_block (heap_alloc_last w (.cells R.toArray T))]
  simp [List.take_of_length_le (show R.length ≤ n by omega)]
theorem set_below {w : World} {R S : List Value} {T : TypeId} : Below w.heap.size w ((w.alloc (.cells R.toArray T)).setCells w.heap.size 0 S) := below_setCells' _ (Nat.le_refl _) _ _ ((Below.refl _ _).alloc (Nat.le_refl _) _)

theorem made_nil {w : World} {v : Value} (h : NilO w v) :
    Calls Tryz.prog 26 #[v] w fun e w' => e = .returned (.bool false) ∧ w' = w := by
  rcases h with rfl | ⟨p, rfl, hc⟩
  all_goals
    go_enter Tryz.func26, Tryz.ntmps26
    go_wp2_with fail
    go_ret
    exact ⟨rfl, rfl⟩
theorem ready_nil {w : World} {v : Value} (h : NilO w v) {n : Int} :
    Calls Tryz.prog 23 #[v, .int .i64 n] w fun e w' => e = .returned (.bool false) ∧ w' = w := by
  go_enter Tryz.func23, Tryz.ntmps23
  go_wp2_with fail
  refine (made_nil h).mono ?_
  rintro e w1 ⟨rfl, rfl⟩
  go_wp2_with fail
  go_ret
  exact ⟨rfl, rfl⟩
theorem move_nil {w : World} {v f g : Value} (h : NilO w v) {n d : Int} :
    Calls Tryz.prog 28 #[v, .int .i64 n, .int .i64 d, f, g] w fun e w' => e = .returned (.int .i64 1) ∧ w' = w := by
  go_enter Tryz.func28, Tryz.ntmps28
  go_wp2_with fail
  refine (ready_nil h).mono ?_
  rintro e w1 ⟨rfl, rfl⟩
  go_wp2_with fail
  go_ret
  exact ⟨rfl, rfl⟩
theorem Propose_nil {w : World} {v : Value} (h : NilO w v) {n k : Int} {who : Int} {F : List Int} :
    Calls Tryz.prog 6 #[v, .int .i64 n, .int .u64 who, .int .i64 k, .agg (hc F).toArray] w fun e w' => e = .returned (.tuple #[.int .i64 0, .int .i64 1]) ∧ Below w.heap.size w w' := by
  go_enter Tryz.func6, Tryz.ntmps6
  go_wp2_with fail
  refine (ready_nil (h.on ?bb)).mono ?_
  case bb => repeat (first | with_reducible exact Below.refl _ _ | with_reducible refine Below.setCell ?_ (by simp; try omega) _ | with_reducible refine Below.alloc ?_ (by simp; try omega) _)
  rintro e w1 ⟨rfl, rfl⟩
  go_wp2_with fail
  refine bodyPost_ret (v := .tuple #[.int .i64 0, .int .i64 1]) (by simp [results, Tryz.results6, go_sem]) rfl ⟨rfl, ?_⟩
  repeat (first | with_reducible exact Below.refl _ _ | with_reducible refine Below.setCell ?_ (by simp; try omega) _ | with_reducible refine Below.alloc ?_ (by simp; try omega) _)
theorem Challenge_nil {w : World} {v : Value} (h : NilO w v) {n k d : Int} {who : Int} :
    Calls Tryz.prog 7 #[v, .int .i64 n, .int .u64 who, .int .i64 k, .int .i64 d] w fun e w' => e = .returned (.tuple #[.int .i64 0, .int .i64 1]) ∧ Below w.heap.size w w' := by
  go_enter Tryz.func7, Tryz.ntmps7
  go_wp2_with fail
  refine (ready_nil (h.on ?bb)).mono ?_
  case bb => repeat (first | with_reducible exact Below.refl _ _ | with_reducible refine Below.setCell ?_ (by simp; try omega) _ | with_reducible refine Below.alloc ?_ (by simp; try omega) _)
  rintro e w1 ⟨rfl, rfl⟩
  go_wp2_with fail
  refine bodyPost_ret (v := .tuple #[.int .i64 0, .int .i64 1]) (by simp [results, Tryz.results7, go_sem]) rfl ⟨rfl, ?_⟩
  repeat (first | with_reducible exact Below.refl _ _ | with_reducible refine Below.setCell ?_ (by simp; try omega) _ | with_reducible refine Below.alloc ?_ (by simp; try omega) _)
theorem Counts_nil {w : World} {v : Value} (h : NilO w v) :
    Calls Tryz.prog 9 #[v] w fun e w' => e = .returned (.tuple #[.int .i64 0, .int .i64 0]) ∧ Below w.heap.size w w' := by
  go_enter Tryz.func9, Tryz.ntmps9
  go_wp2_with fail
  refine (made_nil (h.on ?bb)).mono ?_
  case bb => repeat (first | with_reducible exact Below.refl _ _ | with_reducible refine Below.setCell ?_ (by simp; try omega) _ | with_reducible refine Below.alloc ?_ (by simp; try omega) _)
  rintro e w1 ⟨rfl, rfl⟩
  go_wp2_with fail
  refine bodyPost_ret (v := .tuple #[.int .i64 0, .int .i64 0]) (by simp [results, Tryz.results9, go_sem]) rfl ⟨rfl, ?_⟩
  repeat (first | with_reducible exact Below.refl _ _ | with_reducible refine Below.setCell ?_ (by simp; try omega) _ | with_reducible refine Below.alloc ?_ (by simp; try omega) _)
theorem Finalise_nil {w : World} {v : Value} (h : NilO w v) {n d : Int} :
    Calls Tryz.prog 17 #[v, .int .i64 n, .int .i64 d] w fun e w' => e = .returned (.int .i64 1) ∧ Below w.heap.size w w' := by
  go_enter Tryz.func17, Tryz.ntmps17
  go_wp2_with fail
  refine (ready_nil (h.on ?bb)).mono ?_
  case bb => repeat (first | with_reducible exact Below.refl _ _ | with_reducible refine Below.setCell ?_ (by simp; try omega) _ | with_reducible refine Below.alloc ?_ (by simp; try omega) _)
  rintro e w1 ⟨rfl, rfl⟩
  go_wp2_with fail
  go_ret
  refine ⟨rfl, ?_⟩
  repeat (first | with_reducible exact Below.refl _ _ | with_reducible refine Below.setCell ?_ (by simp; try omega) _ | with_reducible refine Below.alloc ?_ (by simp; try omega) _)
theorem Bonds_nil {w : World} {v : Value} (h : NilO w v) :
    Calls Tryz.prog 18 #[v] w fun e w' => e = .returned (.int .i64 0) ∧ Below w.heap.size w w' := by
  go_enter Tryz.func18, Tryz.ntmps18
  go_wp2_with fail
  refine (made_nil (h.on ?bb)).mono ?_
  case bb => repeat (first | with_reducible exact Below.refl _ _ | with_reducible refine Below.setCell ?_ (by simp; try omega) _ | with_reducible refine Below.alloc ?_ (by simp; try omega) _)
  rintro e w1 ⟨rfl, rfl⟩
  go_wp2_with fail
  go_ret
  refine ⟨rfl, ?_⟩
  repeat (first | with_reducible exact Below.refl _ _ | with_reducible refine Below.setCell ?_ (by simp; try omega) _ | with_reducible refine Below.alloc ?_ (by simp; try omega) _)
theorem Pays_nil {w : World} {v : Value} (h : NilO w v) :
    Calls Tryz.prog 19 #[v] w fun e w' => e = .returned (.slice none 0 0) ∧ Below w.heap.size w w' := by
  go_enter Tryz.func19, Tryz.ntmps19
  go_wp2_with fail
  refine (made_nil (h.on ?bb)).mono ?_
  case bb => repeat (first | with_reducible exact Below.refl _ _ | with_reducible refine Below.setCell ?_ (by simp; try omega) _ | with_reducible refine Below.alloc ?_ (by simp; try omega) _)
  rintro e w1 ⟨rfl, rfl⟩
  go_wp2_with fail
  go_ret
  refine ⟨rfl, ?_⟩
  repeat (first | with_reducible exact Below.refl _ _ | with_reducible refine Below.setCell ?_ (by simp; try omega) _ | with_reducible refine Below.alloc ?_ (by simp; try omega) _)
theorem Clone_nil {w : World} {v : Value} (h : NilO w v) :
    Calls Tryz.prog 20 #[v] w fun e w' => e = .returned (.pointer none) ∧ Below w.heap.size w w' := by
  go_enter Tryz.func20, Tryz.ntmps20
  go_wp2_with fail
  refine (made_nil (h.on ?bb)).mono ?_
  case bb => repeat (first | with_reducible exact Below.refl _ _ | with_reducible refine Below.setCell ?_ (by simp; try omega) _ | with_reducible refine Below.alloc ?_ (by simp; try omega) _)
  rintro e w1 ⟨rfl, rfl⟩
  go_wp2_with fail
  go_ret
  refine ⟨rfl, ?_⟩
  repeat (first | with_reducible exact Below.refl _ _ | with_reducible refine Below.setCell ?_ (by simp; try omega) _ | with_reducible refine Below.alloc ?_ (by simp; try omega) _)
theorem Final_nil {w : World} {v : Value} (h : NilO w v) :
    Calls Tryz.prog 8 #[v] w fun e w' => e = .returned (.tuple #[.int .i64 0, .agg (hc zero32).toArray]) ∧ Below w.heap.size w w' := by
  have ct := there_new (w := w) (R := hc zero32) (T := 24) (n := 32) hcz_len
  have cr := set_row (w := w) (R := hc zero32) (S := hc zero32) (T := 24) (n := 32) rfl hcz_len
  have BB := set_below (w := w) (R := hc zero32) (S := hc zero32) (T := 24)
  have h1 := h.on ((Below.refl _ w).alloc (Nat.le_refl _) (.cells (hc zero32).toArray 24))
  have zl := hcz_len
  go_enter Tryz.func8, Tryz.ntmps8
  go_wp2_with fail
  generalize hwa : w.alloc (.cells (hc zero32).toArray 24) = wa at *
  refine (made_nil h1).mono ?_
  rintro e w1 ⟨rfl, rfl⟩
  go_wp2_with fail
  refine bodyPost_ret (v := .tuple #[.int .i64 0, .agg (hc zero32).toArray]) (by simp [results, Tryz.results8, go_sem, cr, zl]) rfl ⟨rfl, BB⟩
theorem Proposal_nil {w : World} {v : Value} (h : NilO w v) {n : Int} :
    Calls Tryz.prog 10 #[v, .int .i64 n] w fun e w' => e = .returned (.tuple #[.agg pr0.row.toArray, .bool false]) ∧ Below w.heap.size w w' := by
  have ct := there_new (w := w) (R := pr0.row) (T := 54) (n := 69) pr0_ok.len
  have cr := set_row (w := w) (R := pr0.row) (S := pr0.row) (T := 54) (n := 69) rfl pr0_ok.len
  have BB := set_below (w := w) (R := pr0.row) (S := pr0.row) (T := 54)
  have h1 := h.on ((Below.refl _ w).alloc (Nat.le_refl _) (.cells (pr0.row).toArray 54))
  have zl := pr0_ok.len
  have hx := pr0_ok
  go_enter Tryz.func10, Tryz.ntmps10
  go_wp2_with fail
  generalize hwa : w.alloc (.cells (pr0.row).toArray 54) = wa at *
  refine (made_nil h1).mono ?_
  rintro e w1 ⟨rfl, rfl⟩
  go_wp2_with fail
  refine bodyPost_ret (v := .tuple #[.agg pr0.row.toArray, .bool false]) (by simp [results, Tryz.results10, go_sem, cr, zl]) rfl ⟨rfl, BB⟩
theorem Dispute_nil {w : World} {v : Value} (h : NilO w v) {n : Int} :
    Calls Tryz.prog 11 #[v, .int .i64 n] w fun e w' => e = .returned (.tuple #[.agg dis0.toArray, .bool false]) ∧ Below w.heap.size w w' := by
  have ct := there_new (w := w) (R := dis0) (T := 63) (n := 106) dis0_len
  have cr := set_row (w := w) (R := dis0) (S := dis0) (T := 63) (n := 106) rfl dis0_len
  have BB := set_below (w := w) (R := dis0) (S := dis0) (T := 63)
  have h1 := h.on ((Below.refl _ w).alloc (Nat.le_refl _) (.cells (dis0).toArray 63))
  have zl := dis0_len
  go_enter Tryz.func11, Tryz.ntmps11
  go_wp2_with fail
  generalize hwa : w.alloc (.cells (dis0).toArray 63) = wa at *
  refine (made_nil h1).mono ?_
  rintro e w1 ⟨rfl, rfl⟩
  go_wp2_with fail
  refine bodyPost_ret (v := .tuple #[.agg dis0.toArray, .bool false]) (by simp [results, Tryz.results11, go_sem, cr, zl]) rfl ⟨rfl, BB⟩
theorem Post_nil {w : World} {v : Value} (h : NilO w v) {n d : Int} {who : Int} {F : List Int} :
    Calls Tryz.prog 13 #[v, .int .i64 n, .int .u64 who, .int .i64 d, .agg (hc F).toArray] w fun e w' => e = .returned (.int .i64 1) ∧ Below w.heap.size w w' := by
  have h' := h
  rcases h' with rfl | ⟨p, rfl, -⟩
  all_goals
    go_enter Tryz.func13, Tryz.ntmps13
    go_wp2_with fail
    refine (move_nil (h.on ?bb)).mono ?_
    case bb => repeat (first | with_reducible exact Below.refl _ _ | with_reducible refine Below.setCell ?_ (by simp; try omega) _ | with_reducible refine Below.alloc ?_ (by simp; try omega) _)
    rintro e w1 ⟨rfl, rfl⟩
    go_wp2_with fail
    go_ret
    refine ⟨rfl, ?_⟩
    repeat (first | with_reducible exact Below.refl _ _ | with_reducible refine Below.setCell ?_ (by simp; try omega) _ | with_reducible refine Below.alloc ?_ (by simp; try omega) _)
theorem Choose_nil {w : World} {v : Value} (h : NilO w v) {n d : Int} {who : Int} {y : Bool} :
    Calls Tryz.prog 14 #[v, .int .i64 n, .int .u64 who, .int .i64 d, .bool y] w fun e w' => e = .returned (.int .i64 1) ∧ Below w.heap.size w w' := by
  go_enter Tryz.func14, Tryz.ntmps14
  go_wp2_with fail
  refine (move_nil (h.on ?bb)).mono ?_
  case bb => repeat (first | with_reducible exact Below.refl _ _ | with_reducible refine Below.setCell ?_ (by simp; try omega) _ | with_reducible refine Below.alloc ?_ (by simp; try omega) _)
  rintro e w1 ⟨rfl, rfl⟩
  go_wp2_with fail
  go_ret
  refine ⟨rfl, ?_⟩
  repeat (first | with_reducible exact Below.refl _ _ | with_reducible refine Below.setCell ?_ (by simp; try omega) _ | with_reducible refine Below.alloc ?_ (by simp; try omega) _)
theorem Prove_nil {w : World} {v : Value} (h : NilO w v) {n d : Int} {who : Int} :
    Calls Tryz.prog 15 #[v, .int .i64 n, .int .u64 who, .int .i64 d, .agg in0.toArray, .agg wi0.toArray] w fun e w' => e = .returned (.int .i64 1) ∧ Below w.heap.size w w' := by
  go_enter Tryz.func15, Tryz.ntmps15
  go_wp2_with fail
  refine (move_nil (h.on ?bb)).mono ?_
  case bb => repeat (first | with_reducible exact Below.refl _ _ | with_reducible refine Below.setCell ?_ (by simp; try omega) _ | with_reducible refine Below.alloc ?_ (by simp; try omega) _)
  rintro e w1 ⟨rfl, rfl⟩
  go_wp2_with fail
  go_ret
  refine ⟨rfl, ?_⟩
  repeat (first | with_reducible exact Below.refl _ _ | with_reducible refine Below.setCell ?_ (by simp; try omega) _ | with_reducible refine Below.alloc ?_ (by simp; try omega) _)
theorem Timeout_nil {w : World} {v : Value} (h : NilO w v) {n d : Int} :
    Calls Tryz.prog 16 #[v, .int .i64 n, .int .i64 d] w fun e w' => e = .returned (.int .i64 1) ∧ Below w.heap.size w w' := by
  go_enter Tryz.func16, Tryz.ntmps16
  go_wp2_with fail
  refine (move_nil (h.on ?bb)).mono ?_
  case bb => repeat (first | with_reducible exact Below.refl _ _ | with_reducible refine Below.setCell ?_ (by simp; try omega) _ | with_reducible refine Below.alloc ?_ (by simp; try omega) _)
  rintro e w1 ⟨rfl, rfl⟩
  go_wp2_with fail
  go_ret
  refine ⟨rfl, ?_⟩
  repeat (first | with_reducible exact Below.refl _ _ | with_reducible refine Below.setCell ?_ (by simp; try omega) _ | with_reducible refine Below.alloc ?_ (by simp; try omega) _)
end Go.Proofs.YtppaallnanodhaaGreatDoor
