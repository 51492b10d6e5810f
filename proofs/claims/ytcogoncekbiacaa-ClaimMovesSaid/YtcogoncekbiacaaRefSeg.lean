/-
  Package claim, the document's side: a segment out of its parts, and of its functions Right, Middle, Last, Post, Choose, Open.
-/
import Derived.Test.YtcogoncekbiacaaOwn
import Derived.Test.YtcogoncekbiacaaChoose
import Derived.Test.YtcogoncekbiacaaRounds
namespace Go.Proofs.Ytcogoncekbiacaa
open Go.RowKit

@[go_sem ↓] theorem Try.rbuild_seg (ps : Array (Nat × Value)) : Instr.build 25 ps = rowBuild 25 ps := rfl
@[go_sem] theorem Try.rrun_seg0 (w : World) : (rowBuild 25 #[]).run Try.prog w = .ok (.agg (Seg.row seg0).toArray) w := by
  unfold rowBuild; kernel_rfl
@[go_sem ↓] theorem Try.rzero_seg (w : World) : (zeroValue 25).run Try.prog w = .ok (.agg (Seg.row seg0).toArray) w := by kernel_rfl
theorem Try.rbuilt_seg (ps : List (Nat × Value)) : Try.prog.built 25 ps = Instr.fill (fun i => segPlaces.toArray[i]?) seg0.row.toArray ps := by kernel_rfl

@[go_sem] theorem Try.rrun_seg_parts (w : World) (a b : Int) (F G : List Int) (hF : F.length = 32) (hG : G.length = 32) :
    (rowBuild 25 #[(0, .int .i64 a), (1, .int .i64 b), (2, .agg (hc F).toArray), (3, .agg (hc G).toArray)]).run Try.prog w = .ok (.agg (Seg.row ⟨a, b, F, G, zero32, false⟩).toArray) w := by
  refine run_build w _ _ _ ?_
  rw [Try.rbuilt_seg]
  show Instr.fill _ _ ((0, Value.int .i64 a) :: (1, Value.int .i64 b) :: (2, Value.agg (hc F).toArray) :: (3, Value.agg (hc G).toArray) :: []) = _
  rw [fill_lo, fill_hi, fill_from rfl hF, fill_to hF rfl hG]
  rfl
@[go_sem] theorem Try.rrun_seg_open (w : World) (b : Int) (F G : List Int) (hF : F.length = 32) (hG : G.length = 32) :
    (rowBuild 25 #[(1, .int .i64 b), (2, .agg (hc F).toArray), (3, .agg (hc G).toArray)]).run Try.prog w = .ok (.agg (Seg.row ⟨0, b, F, G, zero32, false⟩).toArray) w := by
  refine run_build w _ _ _ ?_
  rw [Try.rbuilt_seg]
  show Instr.fill _ _ ((1, Value.int .i64 b) :: (2, Value.agg (hc F).toArray) :: (3, Value.agg (hc G).toArray) :: []) = _
  rw [fill_hi, fill_from rfl hF, fill_to hF rfl hG]
  rfl
@[go_sem] theorem Try.rrun_seg_all (w : World) (a b : Int) (F G M : List Int) (p : Bool) (hF : F.length = 32) (hG : G.length = 32) (hM : M.length = 32) :
    (rowBuild 25 #[(0, .int .i64 a), (1, .int .i64 b), (2, .agg (hc F).toArray), (3, .agg (hc G).toArray), (4, .agg (hc M).toArray), (5, .bool p)]).run Try.prog w = .ok (.agg (Seg.row ⟨a, b, F, G, M, p⟩).toArray) w := by
  refine run_build w _ _ _ ?_
  rw [Try.rbuilt_seg]
  show Instr.fill _ _ ((0, Value.int .i64 a) :: (1, Value.int .i64 b) :: (2, Value.agg (hc F).toArray) :: (3, Value.agg (hc G).toArray) :: (4, Value.agg (hc M).toArray) :: (5, Value.bool p) :: []) = _
  rw [fill_lo, fill_hi, fill_from rfl hF, fill_to hF rfl hG, fill_mid hF hG rfl hM, fill_p hF hG hM]
  rfl

/-- 'x := ..': a new variable, and at once its value. -/
@[go_sem ↓] theorem Try.rrun_store_new_seg (w : World) (s : Seg) (hf : s.f.length = 32) (ht : s.t.length = 32) (hm : s.m.length = 32) :
    (storeCells ⟨w.heap.size, 0, none⟩ s.row 0).run Try.prog (w.alloc (.cells seg0.row.toArray 25)) = .ok () (w.alloc (.cells s.row.toArray 25)) := by
  have e := Seg.len hf ht hm
  exact run_storeCells_new w 25 seg0.row.toArray s.row.toArray (by rw [List.size_toArray, e]; kernel_rfl) (by rw [List.size_toArray, List.size_toArray, e]; rfl) (Seg.one s)

theorem Ref_any {s : Seg} (hs : s.ok) (w : World) : Calls Try.prog 15 #[.agg s.row.toArray] w
    fun e w' => e = .returned (.agg s.row.toArray) ∧ Below w.heap.size w w' := by
  have S := (SegAt.new w 26 s).alloc (.cells seg0.row.toArray 25)
  have R := SegAt.new (w.alloc (.cells s.row.toArray 26)) 25 seg0
  have B : Below w.heap.size w ((w.alloc (.cells s.row.toArray 26)).alloc (.cells seg0.row.toArray 25)) := by
    repeat (first | with_reducible exact Below.refl _ _ | with_reducible refine Below.alloc ?_ (by simp; try omega) _)
  simp only [World.size_alloc] at R
  obtain ⟨c0, c1, c98, -, cf, ct, cm⟩ := S.facts hs
  have hf := hs.f
  have ht := hs.t
  have hm := hs.m
  have rt := R.there seg0_ok (o := 0) (n := 99) (by omega)
  have R2 := R.setAll seg0_ok hs
  have B2 := below_setCells' (w.heap.size + 1) (by omega) s.row 0 B
  have cr := R2.whole hs
  clear S R R2 B
  go_enter Try.func15, Try.ntmps15
  go_wp2_with fail
  refine bodyPost_ret (v := .agg s.row.toArray) (by simp [results, Try.results15, go_sem, cr, hf, ht, hm]) rfl ⟨rfl, B2⟩
end Go.Proofs.Ytcogoncekbiacaa
