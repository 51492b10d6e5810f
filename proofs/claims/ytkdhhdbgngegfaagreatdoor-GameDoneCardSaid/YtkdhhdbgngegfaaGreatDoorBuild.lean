/-
  Package claim: a segment out of its parts.
-/
import Derived.Test.YtkdhhdbgngegfaaGreatDoorPost
namespace Go.Proofs.YtkdhhdbgngegfaaGreatDoor
open Go.RowKit

theorem fill_step {place : Nat → Option (Nat × Nat)} {rest : List (Nat × Value)} {i off size : Nat} {v : Value} {pre mid post vs : List Value} (hp : place i = some (off, size)) (hv : v.cells = vs.toArray)
    (h1 : pre.length = off) (h2 : mid.length = size) (h3 : vs.length = size) :
    Instr.fill place (pre ++ (mid ++ post)).toArray ((i, v) :: rest) = Instr.fill place (pre ++ (vs ++ post)).toArray rest := by
  rw [Instr.fill, hp]
  have e1 : v.cells.size = size := by rw [hv]; simpa using h3
  have e2 : off + size ≤ (pre ++ (mid ++ post)).toArray.size := by simp; omega
  have e3 : (decide (v.cells.size ≠ size) || decide (off + v.cells.size > (pre ++ (mid ++ post)).toArray.size)) = false := by
    rw [e1]; simp at e2 ⊢; omega
  simp only [e3]
  rw [if_neg (by simp), hv, fold_put off size vs pre mid post h1 h2 h3]

def segPlaces : List (Nat × Nat) := [(0, 1), (1, 1), (2, 32), (34, 32), (66, 32), (98, 1)]
theorem Tryz.built_seg (ps : List (Nat × Value)) : Tryz.prog.built 29 ps = Instr.fill (fun i => segPlaces.toArray[i]?) seg0.row.toArray ps := by kernel_rfl

section
variable {s : Seg} {rest : List (Nat × Value)}
theorem fill_lo (a : Int) : Instr.fill (fun i => segPlaces.toArray[i]?) s.row.toArray ((0, .int .i64 a) :: rest) = Instr.fill (fun i => segPlaces.toArray[i]?) (Seg.row { s with lo := a }).toArray rest :=
  fill_step (i := 0) (off := 0) (size := 1) (pre := []) (mid := [.int .i64 s.lo]) (post := .int .i64 s.hi :: (hc s.f ++ (hc s.t ++ (hc s.m ++ [.bool s.p])))) (vs := [.int .i64 a]) rfl rfl rfl rfl rfl
theorem fill_hi (a : Int) : Instr.fill (fun i => segPlaces.toArray[i]?) s.row.toArray ((1, .int .i64 a) :: rest) = Instr.fill (fun i => segPlaces.toArray[i]?) (Seg.row { s with hi := a }).toArray rest :=
  fill_step (i := 1) (off := 1) (size := 1) (pre := [.int .i64 s.lo]) (mid := [.int .i64 s.hi]) (post := hc s.f ++ (hc s.t ++ (hc s.m ++ [.bool s.p]))) (vs := [.int .i64 a]) rfl rfl rfl rfl rfl
theorem fill_from (hf : s.f.length = 32) {F : List Int} (hF : F.length = 32) : Instr.fill (fun i => segPlaces.toArray[i]?) s.row.toArray ((2, .agg (hc F).toArray) :: rest) = Instr.fill (fun i => segPlaces.toArray[i]?) (Seg.row { s with f := F }).toArray rest :=
  fill_step (i := 2) (off := 2) (size := 32) (pre := [.int .i64 s.lo, .int .i64 s.hi]) (mid := hc s.f) (post := hc s.t ++ (hc s.m ++ [.bool s.p])) (vs := hc F) rfl rfl rfl (by rw [hc_len, hf]) (by rw [hc_len, hF])
theorem fill_to (hf : s.f.length = 32) (ht : s.t.length = 32) {F : List Int} (hF : F.length = 32) : Instr.fill (fun i => segPlaces.toArray[i]?) s.row.toArray ((3, .agg (hc F).toArray) :: rest) = Instr.fill (fun i => segPlaces.toArray[i]?) (Seg.row { s with t := F }).toArray rest := by
  have := fill_step (rest := rest) (place := fun i => segPlaces.toArray[i]?) (i := 3) (v := .agg (hc F).toArray) (off := 34) (size := 32) (pre := .int .i64 s.lo :: .int .i64 s.hi :: hc s.f) (mid := hc s.t) (post := hc s.m ++ [.bool s.p]) (vs := hc F) rfl rfl (by simp [hc_len, hf]) (by rw [hc_len, ht]) (by rw [hc_len, hF])
  simpa [Seg.row] using this
end

@[go_sem] theorem Tryz.run_seg_parts (w : World) (a b : Int) (F G : List Int) (hF : F.length = 32) (hG : G.length = 32) :
    (rowBuild 29 #[(0, .int .i64 a), (1, .int .i64 b), (2, .agg (hc F).toArray), (3, .agg (hc G).toArray)]).run Tryz.prog w = .ok (.agg (Seg.row ⟨a, b, F, G, zero32, false⟩).toArray) w := by
  refine run_build w _ _ _ ?_
  rw [Tryz.built_seg]
  show Instr.fill _ _ ((0, Value.int .i64 a) :: (1, Value.int .i64 b) :: (2, Value.agg (hc F).toArray) :: (3, Value.agg (hc G).toArray) :: []) = _
  rw [fill_lo, fill_hi, fill_from rfl hF, fill_to hF rfl hG]
  rfl
@[go_sem] theorem Tryz.run_seg_open (w : World) (b : Int) (F G : List Int) (hF : F.length = 32) (hG : G.length = 32) :
    (rowBuild 29 #[(1, .int .i64 b), (2, .agg (hc F).toArray), (3, .agg (hc G).toArray)]).run Tryz.prog w = .ok (.agg (Seg.row ⟨0, b, F, G, zero32, false⟩).toArray) w := by
  refine run_build w _ _ _ ?_
  rw [Tryz.built_seg]
  show Instr.fill _ _ ((1, Value.int .i64 b) :: (2, Value.agg (hc F).toArray) :: (3, Value.agg (hc G).toArray) :: []) = _
  rw [fill_hi, fill_from rfl hF, fill_to hF rfl hG]
  rfl
end Go.Proofs.YtkdhhdbgngegfaaGreatDoor
