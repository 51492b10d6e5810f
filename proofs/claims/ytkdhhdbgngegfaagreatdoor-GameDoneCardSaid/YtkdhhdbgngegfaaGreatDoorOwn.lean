/-
  The law's own: Own, and Ref; what a declaration leaves in memory.
-/
import Derived.Test.YtkdhhdbgngegfaaGreatDoorOpen
namespace Go.Proofs.YtkdhhdbgngegfaaGreatDoor
open Go.RowKit

section
variable {s : Seg} {rest : List (Nat × Value)}
theorem fill_mid (hf : s.f.length = 32) (ht : s.t.length = 32) (hm : s.m.length = 32) {F : List Int} (hF : F.length = 32) : Instr.fill (fun i => segPlaces.toArray[i]?) s.row.toArray ((4, .agg (hc F).toArray) :: rest) = Instr.fill (fun i => segPlaces.toArray[i]?) (Seg.row { s with m := F }).toArray rest := by
  have := fill_step (rest := rest) (place := fun i => segPlaces.toArray[i]?) (i := 4) (v := .agg (hc F).toArray) (off := 66) (size := 32) (pre := .int .i64 s.lo :: .int .i64 s.hi :: (hc s.f ++ hc s.t)) (mid := hc s.m) (post := [.bool s.p]) (vs := hc F) rfl rfl (by simp [hc_len, hf, ht]) (by rw [hc_len, hm]) (by rw [hc_len, hF])
  simpa [Seg.row] using this
theorem fill_p (hf : s.f.length = 32) (ht : s.t.length = 32) (hm : s.m.length = 32) (p : Bool) : Instr.fill (fun i => segPlaces.toArray[i]?) s.row.toArray ((5, .bool p) :: rest) = Instr.fill (fun i => segPlaces.toArray[i]?) (Seg.row { s with p := p }).toArray rest := by
  have := fill_step (rest := rest) (place := fun i => segPlaces.toArray[i]?) (i := 5) (v := .bool p) (off := 98) (size := 1) (pre := .int .i64 s.lo :: .int .i64 s.hi :: (hc s.f ++ (hc s.t ++ hc s.m))) (mid := [.bool s.p]) (post := []) (vs := [.bool p]) rfl rfl (by simp [hc_len, hf, ht, hm]) rfl rfl
  simpa [Seg.row] using this
end

@[go_sem] theorem Tryz.run_seg_all (w : World) (a b : Int) (F G M : List Int) (p : Bool) (hF : F.length = 32) (hG : G.length = 32) (hM : M.length = 32) :
    (rowBuild 29 #[(0, .int .i64 a), (1, .int .i64 b), (2, .agg (hc F).toArray), (3, .agg (hc G).toArray), (4, .agg (hc M).toArray), (5, .bool p)]).run Tryz.prog w = .ok (.agg (Seg.row ⟨a, b, F, G, M, p⟩).toArray) w := by
  refine run_build w _ _ _ ?_
  rw [Tryz.built_seg]
  show Instr.fill _ _ ((0, Value.int .i64 a) :: (1, Value.int .i64 b) :: (2, Value.agg (hc F).toArray) :: (3, Value.agg (hc G).toArray) :: (4, Value.agg (hc M).toArray) :: (5, Value.bool p) :: []) = _
  rw [fill_lo, fill_hi, fill_from rfl hF, fill_to hF rfl hG, fill_mid hF hG rfl hM, fill_p hF hG hM]
  rfl

/-- 'x := ..': a new variable, and at once its value. -/
@[go_sem ↓] theorem Tryz.run_store_new_seg (w : World) (s : Seg) (hf : s.f.length = 32) (ht : s.t.length = 32) (hm : s.m.length = 32) :
    (storeCells ⟨w.heap.size, 0, none⟩ s.row 0).run Tryz.prog (w.alloc (.cells seg0.row.toArray 29)) = .ok () (w.alloc (.cells s.row.toArray 29)) := by
  have e := Seg.len hf ht hm
  exact run_storeCells_new w 29 seg0.row.toArray s.row.toArray (by rw [List.size_toArray, e]; kernel_rfl) (by rw [List.size_toArray, List.size_toArray, e]; rfl) (Seg.one s)
@[go_sem ↓] theorem Tryz.run_store_new_hash (w : World) (F G : List Int) (hF : F.length = 32) (hG : G.length = 32) :
    (storeCells ⟨w.heap.size, 0, none⟩ (hc F) 0).run Tryz.prog (w.alloc (.cells (hc G).toArray 23)) = .ok () (w.alloc (.cells (hc F).toArray 23)) := by
  have e : (hc F).length = 32 := by rw [hc_len, hF]
  have g : (hc G).length = 32 := by rw [hc_len, hG]
  exact run_storeCells_new w 23 (hc G).toArray (hc F).toArray (by rw [List.size_toArray, e]; kernel_rfl) (by rw [List.size_toArray, List.size_toArray, e, g]) (hc_one F)

theorem Own_any {s : Seg} (hs : s.ok) (w : World) : Calls Tryz.prog 16 #[.agg s.row.toArray] w
    fun e w' => e = .returned (.agg s.row.toArray) ∧ Below w.heap.size w w' := by
  have S := (SegAt.new w 25 s).alloc (.cells seg0.row.toArray 29)
  have R := SegAt.new (w.alloc (.cells s.row.toArray 25)) 29 seg0
  have B : Below w.heap.size w ((w.alloc (.cells s.row.toArray 25)).alloc (.cells seg0.row.toArray 29)) := by
    repeat (first | with_reducible exact Below.refl _ _ | with_reducible refine Below.alloc ?_ (by simp; try omega) _)
  simp only [World.size_alloc] at R
  obtain ⟨c0, c1, c98, -, cf, ct, cm⟩ := S.facts hs
  have hf := hs.f
  have ht := hs.t
  have hm := hs.m
  have rt := R.there seg0_ok (o := 0) (n := 99) (by omega)
  have R2 := R.setAll seg0_ok hs
  have B2 := below_setCells' (w.heap.size + 1) (by omega) s.row 0 B
  have cr := R2.whole hs
  clear S R R2 B
  go_enter Tryz.func16, Tryz.ntmps16
  go_wp2_with fail
  refine bodyPost_ret (v := .agg s.row.toArray) (by simp [results, Tryz.results16, go_sem, cr, hf, ht, hm]) rfl ⟨rfl, B2⟩
end Go.Proofs.YtkdhhdbgngegfaaGreatDoor
