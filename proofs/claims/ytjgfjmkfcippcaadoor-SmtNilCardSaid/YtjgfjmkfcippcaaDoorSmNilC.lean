/-
  Package smt: no map, and one that nobody made; a proof's cells.
-/
import Derived.Test.YtjgfjmkfcippcaaDoorSmKn
namespace Go.Proofs.YtjgfjmkfcippcaaDoor
open Go.RowKit
set_option maxRecDepth 100000

/-- No map, or one that nobody made. -/
def Nm (w : World) (v : Value) : Prop := v = .pointer none ∨ ∃ p, v = .pointer (some ⟨p, 0, none⟩) ∧ w.cell? ⟨p, 0, none⟩ = some (.map none)
theorem Nm.on {w w' : World} {v : Value} (h : Nm w v) (hb : Below w.heap.size w w') : Nm w' v := by
  rcases h with h | ⟨p, h, c⟩
  · exact .inl h
  · exact .inr ⟨p, h, by rw [hb.cell (World.block_lt_of_cell? w _ c)]; exact c⟩
theorem Nm.alloc {w : World} {v : Value} (h : Nm w v) (o : Obj) : Nm (w.alloc o) v := h.on ((Below.refl _ _).alloc (Nat.le_refl _) o)
theorem made_N {w : World} {v : Value} (h : Nm w v) : Calls Tryd.prog 47 #[v] w fun e w' => e = .returned (.bool false) ∧ w' = w := by
  rcases h with rfl | ⟨p, rfl, c⟩
  · exact made_none
  · exact made_no c

/-! ### A proof's cells -/
def pfRow (F : List Int) (v : Value) : List Value := hc F ++ [v]
theorem pfRow_len {F : List Int} (h : F.length = 32) (v : Value) : (pfRow F v).length = 33 := by simp [pfRow, hc_len, h]
def PfB (t : TypeId) (w : World) (b : Nat) (F : List Int) (v : Value) : Prop := w.heap[b]? = some (.cells (pfRow F v).toArray t (0, 0))
section
variable {t : TypeId} {w w' : World} {b : Nat} {F : List Int} {v : Value}
theorem PfB.lt (h : PfB t w b F v) : b < w.heap.size := (Array.getElem?_eq_some_iff.1 h).1
theorem PfB.new (w : World) (F : List Int) (v : Value) : PfB t (w.alloc (.cells (pfRow F v).toArray t)) w.heap.size F v := heap_alloc_new w _
theorem PfB.chg {S : List Nat} (h : PfB t w b F v) (hc : Chg w w' S) (hS : b ∉ S) : PfB t w' b F v := by
  unfold PfB
  rw [hc.block b h.lt hS]; exact h
theorem PfB.on (h : PfB t w b F v) (hb : Below w.heap.size w w') : PfB t w' b F v := h.chg (S := []) (Chg.below hb (Nat.le_refl _) []) (by simp)
theorem PfB.alloc (h : PfB t w b F v) (o : Obj) : PfB t (w.alloc o) b F v := h.on ((Below.refl _ _).alloc (Nat.le_refl _) o)
theorem PfB.mask (h : PfB t w b F v) (hF : F.length = 32) : rowOf w b 0 32 = hc F := by
  rw [rowOf_block h]
  simp [pfRow, hc_len, hF]
theorem PfB.whole (h : PfB t w b F v) (hF : F.length = 32) : rowOf w b 0 33 = pfRow F v := by
  rw [rowOf_block h]
  have := pfRow_len hF v
  simp [List.take_of_length_le (Nat.le_of_eq this)]
theorem PfB.sides (h : PfB t w b F v) (hF : F.length = 32) : w.cell? ⟨b, 32, none⟩ = some v := by
  rw [cell_of_row _ _ _ _ _ _ h]
  simp [pfRow, hc_len, hF]
theorem PfB.there (h : PfB t w b F v) (hF : F.length = 32) : w.there b 0 33 := fun j hj => by
  refine ⟨?_, Joins.unfrozen_of_block h _⟩
  rw [cell_of_row _ _ _ _ _ _ h]
  have := pfRow_len hF v
  simp [this]; omega
theorem PfB.put (h : PfB t w b F v) (hF : F.length = 32) {G : List Int} (hG : G.length = 32) (u : Value) : PfB t (w.setCells b 0 (pfRow G u)) b G u := by
  have := setCells_block (b := b) (t := t) (fr := (0, 0)) (pfRow G u) (o := 0) (w := w) (pre := []) (mid := pfRow F v) (post := []) (by simpa [PfB] using h) rfl (by rw [pfRow_len hF, pfRow_len hG])
  simpa [PfB] using this
theorem PfB.others (h : PfB t w b F v) {k : Nat} (hk : b ≠ k) (o : Nat) (vs : List Value) : PfB t (w.setCells k o vs) b F v := by
  unfold PfB
  rw [setCells_other hk]; exact h
end
theorem pf_one (F : List Int) {v : Value} (hv : v.oneCell' = true) : (pfRow F v).toArray.all (·.oneCell') = true := by
  refine all_oneCell_toArray fun u hu => ?_
  simp only [pfRow, List.mem_append, List.mem_cons, List.not_mem_nil, or_false] at hu
  rcases hu with hu | rfl
  · exact (Array.all_eq_true_iff_forall_mem.1 (hc_one _)) u (by simpa using hu)
  · exact hv
@[go_sem ↓] theorem load33 (a : Addr) : loadCellsFrom a 0 33 #[] = rowLoad a 33 := rfl
theorem run_storeCells_pf {P : Program} (w : World) (b : Nat) (F : List Int) (v : Value) (hF : F.length = 32) (hv : v.oneCell' = true) (ht : w.there b 0 33) : (storeCells ⟨b, 0, none⟩ (pfRow F v) 0).run P w = .ok () (w.setCells b 0 (pfRow F v)) := by
  have e := pfRow_len hF v
  have := run_storeCells_cells (P := P) b 0 (pfRow F v) 0 w (fun j hj => by rw [e] at hj; simpa using (ht j hj).1) (fun j hj => by rw [e] at hj; simpa using (ht j hj).2) (fun u hu => (Array.all_eq_true_iff_forall_mem.1 (pf_one F hv)) u (by simpa using hu))
  simpa using this
@[go_sem] theorem run_storeCells_pf0 {P : Program} (w : World) (b : Nat) (F : List Int) (q : Option Addr) (n k : Nat) (hF : F.length = 32) (ht : w.there b 0 33) : (storeCells ⟨b, 0, none⟩ (pfRow F (.slice q n k)) 0).run P w = .ok () (w.setCells b 0 (pfRow F (.slice q n k))) :=
  run_storeCells_pf w b F _ hF rfl ht
@[go_sem ↓] theorem Tryd.zero_pf (w : World) : (zeroValue 30).run Tryd.prog w = .ok (.agg (pfRow zero32 (.slice none 0 0)).toArray) w := by kernel_rfl
@[go_sem] theorem pfRow_len' {F : List Int} (h : F.length = 32) (v : Value) : (pfRow F v).length = 33 := pfRow_len h v

set_option maxHeartbeats 4000000 in
theorem Put_N {w : World} {v : Value} (hv : Nm w v) {K V : List Int} : Calls Tryd.prog 16 #[v, .agg (hc K).toArray, .agg (hc V).toArray] w fun e w' => e = .returned (.int .i64 1) ∧ Below w.heap.size w w' := by
  have B0 := Lib.hid (((Below.refl w.heap.size w).alloc (Nat.le_refl _) (.cells (hc K).toArray 23)).alloc (by simp) (.cells (hc V).toArray 23))
  have N0 := Lib.hid ((hv.alloc (.cells (hc K).toArray 23)).alloc (.cells (hc V).toArray 23))
  clear hv
  go_enter Tryd.func16, Tryd.ntmps16
  go_wp2_with fail
  refine (made_N N0.out).mono ?_
  rintro e wn ⟨rfl, h⟩
  obtain rfl := h.symm
  clear h
  go_wp2_with fail
  go_ret
  exact ⟨rfl, B0.out⟩
set_option maxHeartbeats 4000000 in
theorem Get_N {w : World} {v : Value} (hv : Nm w v) {K : List Int} : Calls Tryd.prog 17 #[v, .agg (hc K).toArray] w fun e w' => e = .returned (.agg (hc zero32).toArray) ∧ Below w.heap.size w w' := by
  have HZ := HashAt.new (w.alloc (.cells (hc K).toArray 23)) zero32
  simp only [World.size_alloc] at HZ
  have B0 := ((Below.refl w.heap.size w).alloc (Nat.le_refl _) (.cells (hc K).toArray 23)).alloc (by simp) (.cells (hc zero32).toArray 23)
  have N0 := Lib.hid ((hv.alloc (.cells (hc K).toArray 23)).alloc (.cells (hc zero32).toArray 23))
  have th := HZ.there zero32_len
  have hput := (HZ.put zero32_len zero32_len).row zero32_len
  have z32 := zero32_len
  have HX := Lib.hid (below_setCells' (B := w.heap.size) (w.heap.size + 1) (by omega) (hc zero32) 0 B0)
  clear hv HZ B0
  go_enter Tryd.func17, Tryd.ntmps17
  go_wp2_with fail
  refine (made_N N0.out).mono ?_
  rintro e wn ⟨rfl, h⟩
  obtain rfl := h.symm
  clear h
  go_wp2_with fail
  refine bodyPost_ret (v := .agg (hc zero32).toArray) (by simp [results, Tryd.results17, go_sem, hput, z32]) rfl ⟨rfl, HX.out⟩
set_option maxHeartbeats 4000000 in
theorem Root_N {w : World} {v : Value} (hv : Nm w v) : Calls Tryd.prog 18 #[v] w fun e w' => e = .returned (.agg (hc zero32).toArray) ∧ Below w.heap.size w w' := by
  have HZ := HashAt.new w zero32
  have B0 := (Below.refl w.heap.size w).alloc (Nat.le_refl _) (.cells (hc zero32).toArray 23)
  have N0 := Lib.hid (hv.alloc (.cells (hc zero32).toArray 23))
  have th := HZ.there zero32_len
  have hput := (HZ.put zero32_len zero32_len).row zero32_len
  have z32 := zero32_len
  have HX := Lib.hid (below_setCells' (B := w.heap.size) w.heap.size (Nat.le_refl _) (hc zero32) 0 B0)
  clear hv HZ B0
  go_enter Tryd.func18, Tryd.ntmps18
  go_wp2_with fail
  refine (made_N N0.out).mono ?_
  rintro e wn ⟨rfl, h⟩
  obtain rfl := h.symm
  clear h
  go_wp2_with fail
  refine bodyPost_ret (v := .agg (hc zero32).toArray) (by simp [results, Tryd.results18, go_sem, hput, z32]) rfl ⟨rfl, HX.out⟩
set_option maxHeartbeats 4000000 in
theorem Pairs_N {w : World} {v : Value} (hv : Nm w v) : Calls Tryd.prog 19 #[v] w fun e w' => e = .returned (.slice none 0 0) ∧ w' = w := by
  go_enter Tryd.func19, Tryd.ntmps19
  go_wp2_with fail
  refine (made_N hv).mono ?_
  rintro e wn ⟨rfl, h⟩
  obtain rfl := h.symm
  clear h
  go_wp2_with fail
  go_ret
  exact ⟨rfl, rfl⟩
set_option maxHeartbeats 4000000 in
theorem Prove_N {w : World} {v : Value} (hv : Nm w v) {K : List Int} : Calls Tryd.prog 14 #[v, .agg (hc K).toArray] w fun e w' => e = .returned (.agg (pfRow zero32 (.slice none 0 0)).toArray) ∧ Below w.heap.size w w' := by
  have z32 := zero32_len
  have P1 := (PfB.new (t := 30) (w.alloc (.cells (hc K).toArray 23)) zero32 (.slice none 0 0)).alloc (.cells (pfRow zero32 (.slice none 0 0)).toArray 30)
  have P2 := PfB.new (t := 30) ((w.alloc (.cells (hc K).toArray 23)).alloc (.cells (pfRow zero32 (.slice none 0 0)).toArray 30)) zero32 (.slice none 0 0)
  simp only [World.size_alloc] at P1 P2
  have B0 := (((Below.refl w.heap.size w).alloc (Nat.le_refl _) (.cells (hc K).toArray 23)).alloc (by simp) (.cells (pfRow zero32 (.slice none 0 0)).toArray 30)).alloc (by simp; omega) (.cells (pfRow zero32 (.slice none 0 0)).toArray 30)
  have N0 := Lib.hid (((hv.alloc (.cells (hc K).toArray 23)).alloc (.cells (pfRow zero32 (.slice none 0 0)).toArray 30)).alloc (.cells (pfRow zero32 (.slice none 0 0)).toArray 30))
  have r2 := P2.whole zero32_len
  have th := P1.there zero32_len
  have hput := (P1.put zero32_len zero32_len (.slice none 0 0)).whole zero32_len
  have HX := Lib.hid (below_setCells' (B := w.heap.size) (w.heap.size + 1) (by omega) (pfRow zero32 (.slice none 0 0)) 0 B0)
  have lp := pfRow_len zero32_len (.slice none 0 0)
  clear hv P1 P2 B0
  go_enter Tryd.func14, Tryd.ntmps14
  go_wp2_with fail
  go_step3
  go_wp2_with fail
  refine (made_N N0.out).mono ?_
  rintro e wn ⟨rfl, h⟩
  obtain rfl := h.symm
  clear h
  go_wp2_with fail
  try rw [Exit.noGoto_ret]
  refine bodyPost_ret (v := .agg (pfRow zero32 (.slice none 0 0)).toArray) (by simp [results, Tryd.results14, go_sem, hput, lp]) rfl ⟨rfl, HX.out⟩
end Go.Proofs.YtjgfjmkfcippcaaDoor
