/-
  Package oracle: the operations on whole proposals and oracles; the small walks.
-/
import Derived.Test.YtppaallnanodhaaGreatDoorOr
namespace Go.Proofs.YtppaallnanodhaaGreatDoor
set_option maxRecDepth 100000
open Go.RowKit

theorem fill_step {place : Nat → Option (Nat × Nat)} {rest : List (Nat × Value)} {i off size : Nat} {v : Value} {pre mid post vs : List Value} (hp : place i = some (off, size)) (hv : v.cells = vs.toArray)
    (h1 : pre.length = off) (h2 : mid.length = size) (h3 : vs.length = size) :
    Instr.fill place (pre ++ (mid ++ post)).toArray ((i, v) :: rest) = Instr.fill place (pre ++ (vs ++ post)).toArray rest := by
  rw [Instr.fill, hp]
  have e1 : v.cells.size = size := by rw [hv]; simpa using h3
  have e2 : off + size ≤ (pre ++ (mid ++ post)).toArray.size := by simp; omega
  have e3 : (decide (v.cells.size ≠ size) || decide (off + v.cells.size > (pre ++ (mid ++ post)).toArray.size)) = false := by
    rw [e1]; simp at e2 ⊢; omega
  simp only [e3]
  rw [if_neg (by simp), hv, fold_put off size vs pre mid post h1 h2 h3]

/-! ### Proposals -/
def prPlaces : List (Nat × Nat) := [(0, 1), (1, 1), (2, 1), (3, 1), (4, 32), (36, 32), (68, 1)]
theorem Tryz.built_pr (ps : List (Nat × Value)) : Tryz.prog.built 54 ps = Instr.fill (fun i => prPlaces.toArray[i]?) pr0.row.toArray ps := by kernel_rfl
@[go_sem ↓] theorem Tryz.build_pr (ps : Array (Nat × Value)) : Instr.build 54 ps = rowBuild 54 ps := rfl
@[go_sem] theorem Tryz.run_pr (w : World) (n b t x : Int) (F G : List Int) (hF : F.length = 32) (hG : G.length = 32) :
    (rowBuild 54 #[(0, .int .i64 n), (1, .int .i64 b), (2, .int .i64 t), (4, .agg (hc F).toArray), (5, .agg (hc G).toArray), (6, .int .u64 x)]).run Tryz.prog w = .ok (.agg (Pr.row ⟨n, b, t, 0, F, G, x⟩).toArray) w := by
  refine run_build w _ _ _ ?_
  rw [Tryz.built_pr]
  show Instr.fill _ _ ((0, Value.int .i64 n) :: (1, Value.int .i64 b) :: (2, Value.int .i64 t) :: (4, Value.agg (hc F).toArray) :: (5, Value.agg (hc G).toArray) :: (6, Value.int .u64 x) :: []) = _
  have z1 : pr0.row = [] ++ ([.int .i64 0] ++ ([.int .i64 0, .int .i64 0, .int .i64 0] ++ (hc zero32 ++ (hc zero32 ++ [.int .u64 0])))) := rfl
  rw [z1, fill_step (i := 0) (off := 0) (size := 1) (vs := [.int .i64 n]) rfl rfl rfl rfl rfl]
  rw [show ([] ++ ([Value.int .i64 n] ++ ([Value.int .i64 0, .int .i64 0, .int .i64 0] ++ (hc zero32 ++ (hc zero32 ++ [Value.int .u64 0])))) : List Value) = [.int .i64 n] ++ ([.int .i64 0] ++ ([.int .i64 0, .int .i64 0] ++ (hc zero32 ++ (hc zero32 ++ [.int .u64 0])))) from rfl]
  rw [fill_step (i := 1) (off := 1) (size := 1) (vs := [.int .i64 b]) rfl rfl rfl rfl rfl]
  rw [show ([.int .i64 n] ++ ([Value.int .i64 b] ++ ([Value.int .i64 0, .int .i64 0] ++ (hc zero32 ++ (hc zero32 ++ [Value.int .u64 0])))) : List Value) = [.int .i64 n, .int .i64 b] ++ ([.int .i64 0] ++ ([.int .i64 0] ++ (hc zero32 ++ (hc zero32 ++ [.int .u64 0])))) from rfl]
  rw [fill_step (i := 2) (off := 2) (size := 1) (vs := [.int .i64 t]) rfl rfl rfl rfl rfl]
  rw [show ([.int .i64 n, .int .i64 b] ++ ([Value.int .i64 t] ++ ([Value.int .i64 0] ++ (hc zero32 ++ (hc zero32 ++ [Value.int .u64 0])))) : List Value) = [.int .i64 n, .int .i64 b, .int .i64 t, .int .i64 0] ++ (hc zero32 ++ (hc zero32 ++ [.int .u64 0])) from rfl]
  rw [fill_step (i := 4) (off := 4) (size := 32) (vs := hc F) rfl rfl rfl rfl (by rw [hc_len, hF])]
  rw [show ([.int .i64 n, .int .i64 b, .int .i64 t, .int .i64 0] ++ (hc F ++ (hc zero32 ++ [Value.int .u64 0])) : List Value) = ([.int .i64 n, .int .i64 b, .int .i64 t, .int .i64 0] ++ hc F) ++ (hc zero32 ++ [.int .u64 0]) from (List.append_assoc _ _ _).symm]
  rw [fill_step (i := 5) (off := 36) (size := 32) (vs := hc G) rfl rfl (by simp [hc_len, hF]) rfl (by rw [hc_len, hG])]
  rw [show (([.int .i64 n, .int .i64 b, .int .i64 t, .int .i64 0] ++ hc F) ++ (hc G ++ [Value.int .u64 0]) : List Value) = (([.int .i64 n, .int .i64 b, .int .i64 t, .int .i64 0] ++ hc F) ++ hc G) ++ ([.int .u64 0] ++ []) by simp]
  rw [fill_step (i := 6) (off := 68) (size := 1) (vs := [.int .u64 x]) rfl rfl (by simp [hc_len, hF, hG]) rfl rfl]
  simp [Pr.row, Instr.fill]
@[go_sem] theorem Tryz.run_pr0 (w : World) : (rowBuild 54 #[]).run Tryz.prog w = .ok (.agg pr0.row.toArray) w := by
  unfold rowBuild; kernel_rfl
@[go_sem ↓] theorem Tryz.zero_pr (w : World) : (zeroValue 54).run Tryz.prog w = .ok (.agg pr0.row.toArray) w := by kernel_rfl
@[go_sem ↓] theorem load69 (a : Addr) : loadCellsFrom a 0 69 #[] = rowLoad a 69 := rfl
@[go_sem] theorem Pr.len' {p : Pr} (h : p.ok) : p.row.length = 69 := h.len
theorem storeCells_pr {P : Program} (w : World) (b i : Nat) (x : Pr) (hx : x.ok) (hw : w.there b i 69) : (storeCells ⟨b, i, none⟩ x.row 0).run P w = .ok () (w.setCells b i x.row) := by
  have e := hx.len
  have := run_storeCells_cells (P := P) b i x.row 0 w (fun j hj => by rw [e] at hj; simpa using (hw j hj).1) (fun j hj => by rw [e] at hj; simpa using (hw j hj).2) (fun v hv => (Array.all_eq_true_iff_forall_mem.1 (Pr.one x)) v (by simpa using hv))
  simpa using this
@[go_sem] theorem run_storeCells_pr {P : Program} (w : World) (b : Nat) (x : Pr) (hx : x.ok) (hw : w.there b 0 69) : (storeCells ⟨b, 0, none⟩ x.row 0).run P w = .ok () (w.setCells b 0 x.row) := storeCells_pr w b 0 x hx hw

/-- A new row of one element. -/
theorem run_buildSlice_one {P : Program} {t e : TypeId} {n : Nat} {zs xs : List Value} (w : World) (ht : P.underlying t = some (.slice e)) (hs : (sizeOf e).run P w = .ok n w) (hz : (zeroValue e).run P w = .ok (.agg zs.toArray) w)
    (hn : 0 < n) (hm : n ≤ 65536) (hx : xs.length = n) :
    (Instr.buildSlice t 1 #[(0, .agg xs.toArray)]).run P w = .ok (.slice (some ⟨w.heap.size, 0, none⟩) 1 1) (w.alloc (.cells xs.toArray e)) := by
  have hf : ∀ m : List Value, m.length = n → Instr.fill (fun i => some (i * n, n)) m.toArray #[(0, Value.agg xs.toArray)].toList = some xs.toArray := by
    intro m hm
    have := fill_step (place := fun i => some (i * n, n)) (rest := []) (i := 0) (off := 0) (size := n) (v := .agg xs.toArray) (pre := []) (mid := m) (post := []) (vs := xs) (by simp) rfl rfl hm hx
    simpa [Instr.fill] using this
  have hf' := hf ((Array.range (1 * n)).map (zs.toArray[· % zs.toArray.size]!)).toList (by simp)
  rw [Array.toArray_toList] at hf'
  unfold Instr.buildSlice
  simp only [Sem.run_bind, run_underlying ht, Result.andThen_ok, hs]
  rw [if_neg (by omega)]
  rw [if_neg (by omega)]
  simp only [Sem.run_bind, Sem.run_pure, Result.andThen_ok, hz, Value.cells]
  rw [hf']
  simp [newRow]
def rowNew (t : TypeId) (ps : Array (Nat × Value)) : Sem Value := Instr.buildSlice t 1 ps
@[go_sem ↓] theorem Tryz.slice_pr (ps : Array (Nat × Value)) : Instr.buildSlice 83 1 ps = rowNew 83 ps := rfl
@[go_sem] theorem Tryz.run_slice_pr (w : World) (x : Pr) (hx : x.ok) :
    (rowNew 83 #[(0, .agg x.row.toArray)]).run Tryz.prog w = .ok (.slice (some ⟨w.heap.size, 0, none⟩) 1 1) (w.alloc (.cells x.row.toArray 54)) :=
  run_buildSlice_one w Tryz.underlying83 (by kernel_rfl) (Tryz.zero_pr w) (n := 69) (by decide) (by decide) hx.len
end Go.Proofs.YtppaallnanodhaaGreatDoor
