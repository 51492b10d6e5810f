/-
  Package game: a game, as cells in memory.
-/
import Derived.Test.YtkdhhdbgngegfaaGreatDoorOpen
import Derived.Test.YtkdhhdbgngegfaaGreatDoorOwn
namespace Go.Proofs.YtkdhhdbgngegfaaGreatDoor
open Go.RowKit

structure Gm where
  s : Seg
  c0 : Int
  c1 : Int
  at_ : Int
  wn : Int

def Gm.row (g : Gm) : List Value := g.s.row ++ [.int .i64 g.c0, .int .i64 g.c1, .int .i64 g.at_, .int .i64 g.wn]
def i64ok (x : Int) : Prop := -9223372036854775808 ≤ x ∧ x < 9223372036854775808
instance (x : Int) : Decidable (i64ok x) := inferInstanceAs (Decidable (_ ∧ _))
structure Gm.ok (g : Gm) : Prop where
  s : g.s.ok
  c0 : i64ok g.c0
  c1 : i64ok g.c1
  at_ : i64ok g.at_
  wn : i64ok g.wn

theorem Seg.ok.len {s : Seg} (h : s.ok) : s.row.length = 99 := Seg.len h.f h.t h.m
theorem Gm.len {g : Gm} (h : g.s.row.length = 99) : g.row.length = 103 := by simp [Gm.row, h]
theorem Gm.ok.len {g : Gm} (h : g.ok) : g.row.length = 103 := Gm.len h.s.len
theorem Gm.one (g : Gm) : g.row.toArray.all (·.oneCell') = true := by
  refine all_oneCell_toArray fun v hv => ?_
  simp only [Gm.row, List.mem_append, List.mem_cons, List.not_mem_nil, or_false] at hv
  rcases hv with hv | rfl | rfl | rfl | rfl
  · exact (Array.all_eq_true_iff_forall_mem.1 (Seg.one g.s)) v (by simpa using hv)
  all_goals rfl

def gm0 : Gm := ⟨seg0, 0, 0, 0, 0⟩
theorem i64ok_lit {x : Int} (h : -9223372036854775808 ≤ x ∧ x < 9223372036854775808) : i64ok x := h
theorem gm0_ok : gm0.ok := ⟨seg0_ok, by decide, by decide, by decide, by decide⟩

/-- Block b of w holds the game g. -/
def GmAt (w : World) (b : Nat) (ty : TypeId) (g : Gm) : Prop := w.heap[b]? = some (.cells g.row.toArray ty (0, 0))
theorem GmAt.new (w : World) (ty : TypeId) (g : Gm) : GmAt (w.alloc (.cells g.row.toArray ty)) w.heap.size ty g := heap_alloc_last w _
section
variable {w w1 : World} {b : Nat} {ty : TypeId} {g : Gm}
theorem GmAt.cell (h : GmAt w b ty g) (hs : g.s.row.length = 99) (i : Nat) (hi : i < 4) : w.cell? ⟨b, 99 + i, none⟩ = [Value.int .i64 g.c0, .int .i64 g.c1, .int .i64 g.at_, .int .i64 g.wn][i]? := by
  rw [cell_of_row _ _ _ _ _ _ h]
  simp only [Gm.row]
  rw [List.getElem?_toArray, List.getElem?_append_right (by omega), hs]
  congr 1
  omega
theorem GmAt.pcell (h : GmAt w b ty g) (hs : g.s.ok) : w.cell? ⟨b, 98, none⟩ = some (.bool g.s.p) := by
  rw [cell_of_row _ _ _ _ _ _ h]
  simp only [Gm.row]
  rw [List.getElem?_toArray, List.getElem?_append_left (by rw [hs.len]; omega)]
  simp [Seg.row, hc_len, hs.f, hs.t, hs.m]
theorem GmAt.whole (h : GmAt w b ty g) (hs : g.s.row.length = 99) : rowOf w b 0 103 = g.row := by
  rw [rowOf_block h]
  have := Gm.len hs
  simp [List.take_of_length_le (Nat.le_of_eq this)]
theorem GmAt.seg (h : GmAt w b ty g) (hs : g.s.row.length = 99) : rowOf w b 0 99 = g.s.row := by
  rw [rowOf_block h]
  simp [Gm.row, hs]
theorem GmAt.free (h : GmAt w b ty g) (o : Nat) : w.frozen? ⟨b, o, none⟩ = false := Joins.unfrozen_of_block h o
theorem GmAt.there (h : GmAt w b ty g) (hs : g.s.row.length = 99) {o n : Nat} (ho : o + n ≤ 103) : w.there b o n := fun j hj => by
  refine ⟨?_, h.free _⟩
  rw [cell_of_row _ _ _ _ _ _ h]
  have := Gm.len hs
  simp [this]; omega
theorem GmAt.facts (h : GmAt w b ty g) (hs : g.s.ok) : w.cell? ⟨b, 98, none⟩ = some (.bool g.s.p) ∧ w.cell? ⟨b, 99, none⟩ = some (.int .i64 g.c0) ∧ w.cell? ⟨b, 100, none⟩ = some (.int .i64 g.c1) ∧ w.cell? ⟨b, 101, none⟩ = some (.int .i64 g.at_) ∧ w.cell? ⟨b, 102, none⟩ = some (.int .i64 g.wn) ∧ rowOf w b 0 103 = g.row ∧ rowOf w b 0 99 = g.s.row :=
  ⟨h.pcell hs, h.cell hs.len 0 (by omega), h.cell hs.len 1 (by omega), h.cell hs.len 2 (by omega), h.cell hs.len 3 (by omega), h.whole hs.len, h.seg hs.len⟩
theorem GmAt.lt (h : GmAt w b ty g) : b < w.heap.size := (Array.getElem?_eq_some_iff.1 h).1
theorem GmAt.on (h : GmAt w b ty g) (hb : Below w.heap.size w w1) : GmAt w1 b ty g := by
  have := h.lt
  unfold GmAt
  rw [hb.block _ this]; exact h
theorem GmAt.alloc (h : GmAt w b ty g) (o : Obj) : GmAt (w.alloc o) b ty g := by
  unfold GmAt
  rw [Below.heap_alloc _ _ _ h.lt]; exact h
theorem GmAt.drew (h : GmAt w b ty g) : GmAt w.drew b ty g := h
theorem GmAt.other (h : GmAt w b ty g) {a : Addr} (ha : b ≠ a.block) (v : Value) : GmAt (w.setCell a v) b ty g := by
  unfold GmAt
  rw [Below.heap_setCell _ _ _ _ ha]; exact h
theorem GmAt.others (h : GmAt w b ty g) {c : Nat} (hc : b ≠ c) (o : Nat) (vs : List Value) : GmAt (w.setCells c o vs) b ty g := by
  unfold GmAt
  rw [setCells_other hc]; exact h
theorem GmAt.setAll (h : GmAt w b ty g) (hs : g.s.row.length = 99) {g' : Gm} (hs' : g'.s.row.length = 99) : GmAt (w.setCells b 0 g'.row) b ty g' := by
  have := setCells_block (b := b) (t := ty) (fr := (0, 0)) g'.row (o := 0) (w := w) (pre := []) (mid := g.row) (post := []) (by simpa [GmAt] using h) rfl (by rw [Gm.len hs, Gm.len hs'])
  simpa [GmAt] using this
theorem GmAt.setSeg (h : GmAt w b ty g) (hs : g.s.row.length = 99) {s' : Seg} (hs' : s'.row.length = 99) : GmAt (w.setCells b 0 s'.row) b ty { g with s := s' } := by
  have := setCells_block (b := b) (t := ty) (fr := (0, 0)) s'.row (o := 0) (w := w) (pre := []) (mid := g.s.row) (post := [.int .i64 g.c0, .int .i64 g.c1, .int .i64 g.at_, .int .i64 g.wn]) (by simpa [GmAt, Gm.row] using h) rfl (by rw [hs, hs'])
  simpa [GmAt, Gm.row] using this
theorem GmAt.setC0 (h : GmAt w b ty g) (hs : g.s.row.length = 99) (x : Int) : GmAt (w.setCell ⟨b, 99, none⟩ (.int .i64 x)) b ty { g with c0 := x } := by
  have e : g.row = g.s.row ++ ([.int .i64 g.c0] ++ [.int .i64 g.c1, .int .i64 g.at_, .int .i64 g.wn]) := by simp [Gm.row]
  unfold GmAt at h
  rw [e] at h
  have := setCells_block [.int .i64 x] (o := 99) h hs rfl
  rw [World.setCells, World.setCells] at this
  unfold GmAt
  rw [this]
  simp [Gm.row]
theorem GmAt.setC1 (h : GmAt w b ty g) (hs : g.s.row.length = 99) (x : Int) : GmAt (w.setCell ⟨b, 100, none⟩ (.int .i64 x)) b ty { g with c1 := x } := by
  have e : g.row = (g.s.row ++ [.int .i64 g.c0]) ++ ([.int .i64 g.c1] ++ [.int .i64 g.at_, .int .i64 g.wn]) := by simp [Gm.row]
  unfold GmAt at h
  rw [e] at h
  have := setCells_block [.int .i64 x] (o := 100) h (by simp [hs]) rfl
  rw [World.setCells, World.setCells] at this
  unfold GmAt
  rw [this]
  simp [Gm.row]
theorem GmAt.setT (h : GmAt w b ty g) (hs : g.s.row.length = 99) (x : Int) : GmAt (w.setCell ⟨b, 101, none⟩ (.int .i64 x)) b ty { g with at_ := x } := by
  have e : g.row = (g.s.row ++ [.int .i64 g.c0, .int .i64 g.c1]) ++ ([.int .i64 g.at_] ++ [.int .i64 g.wn]) := by simp [Gm.row]
  unfold GmAt at h
  rw [e] at h
  have := setCells_block [.int .i64 x] (o := 101) h (by simp [hs]) rfl
  rw [World.setCells, World.setCells] at this
  unfold GmAt
  rw [this]
  simp [Gm.row]
theorem GmAt.setW (h : GmAt w b ty g) (hs : g.s.row.length = 99) (x : Int) : GmAt (w.setCell ⟨b, 102, none⟩ (.int .i64 x)) b ty { g with wn := x } := by
  have e : g.row = (g.s.row ++ [.int .i64 g.c0, .int .i64 g.c1, .int .i64 g.at_]) ++ ([.int .i64 g.wn] ++ []) := by simp [Gm.row]
  unfold GmAt at h
  rw [e] at h
  have := setCells_block [.int .i64 x] (o := 102) h (by simp [hs]) rfl
  rw [World.setCells, World.setCells] at this
  unfold GmAt
  rw [this]
  simp [Gm.row]
end

/-! ### The operations on a whole game -/
@[go_sem ↓] theorem load103 (a : Addr) : loadCellsFrom a 0 103 #[] = rowLoad a 103 := rfl
@[go_sem] theorem Gm.len' {g : Gm} (h : g.s.row.length = 99) : g.row.length = 103 := Gm.len h
@[go_sem] theorem run_storeCells_gm {P : Program} (w : World) (b : Nat) (g : Gm) (hs : g.s.row.length = 99) (hw : w.there b 0 103) : (storeCells ⟨b, 0, none⟩ g.row 0).run P w = .ok () (w.setCells b 0 g.row) := by
  have e := Gm.len hs
  have := run_storeCells_cells (P := P) b 0 g.row 0 w (fun j hj => by rw [e] at hj; simpa using (hw j hj).1) (fun j hj => by rw [e] at hj; simpa using (hw j hj).2) (fun v hv => (Array.all_eq_true_iff_forall_mem.1 (Gm.one g)) v (by simpa using hv))
  simpa using this
/-- A segment's store, by its length alone. -/
@[go_sem] theorem run_storeCells_seg' {P : Program} (w : World) (b : Nat) (s : Seg) (e : s.row.length = 99) (hw : w.there b 0 99) : (storeCells ⟨b, 0, none⟩ s.row 0).run P w = .ok () (w.setCells b 0 s.row) := by
  have := run_storeCells_cells (P := P) b 0 s.row 0 w (fun j hj => by rw [e] at hj; simpa using (hw j hj).1) (fun j hj => by rw [e] at hj; simpa using (hw j hj).2) (fun v hv => (Array.all_eq_true_iff_forall_mem.1 (Seg.one s)) v (by simpa using hv))
  simpa using this
@[go_sem ↓] theorem Tryz.build_gm (ps : Array (Nat × Value)) : Instr.build 31 ps = rowBuild 31 ps := rfl
@[go_sem] theorem Tryz.run_gm0 (w : World) : (rowBuild 31 #[]).run Tryz.prog w = .ok (.agg (Gm.row gm0).toArray) w := by
  unfold rowBuild; kernel_rfl
@[go_sem ↓] theorem Tryz.zero_gm (w : World) : (zeroValue 31).run Tryz.prog w = .ok (.agg (Gm.row gm0).toArray) w := by kernel_rfl

def gmPlaces : List (Nat × Nat) := [(0, 99), (99, 2), (101, 1), (102, 1)]
theorem Tryz.built_gm (ps : List (Nat × Value)) : Tryz.prog.built 31 ps = Instr.fill (fun i => gmPlaces.toArray[i]?) gm0.row.toArray ps := by kernel_rfl
section
variable {g : Gm} {rest : List (Nat × Value)}
theorem fill_gs (hs : g.s.row.length = 99) {s' : Seg} (hs' : s'.row.length = 99) : Instr.fill (fun i => gmPlaces.toArray[i]?) g.row.toArray ((0, .agg s'.row.toArray) :: rest) = Instr.fill (fun i => gmPlaces.toArray[i]?) (Gm.row { g with s := s' }).toArray rest :=
  fill_step (i := 0) (off := 0) (size := 99) (pre := []) (mid := g.s.row) (post := [.int .i64 g.c0, .int .i64 g.c1, .int .i64 g.at_, .int .i64 g.wn]) (vs := s'.row) rfl rfl rfl hs hs'
theorem fill_gc (hs : g.s.row.length = 99) (a b : Int) : Instr.fill (fun i => gmPlaces.toArray[i]?) g.row.toArray ((1, .agg #[.int .i64 a, .int .i64 b]) :: rest) = Instr.fill (fun i => gmPlaces.toArray[i]?) (Gm.row { g with c0 := a, c1 := b }).toArray rest :=
  fill_step (i := 1) (off := 99) (size := 2) (pre := g.s.row) (mid := [.int .i64 g.c0, .int .i64 g.c1]) (post := [.int .i64 g.at_, .int .i64 g.wn]) (vs := [.int .i64 a, .int .i64 b]) rfl rfl hs rfl rfl
theorem fill_gt (hs : g.s.row.length = 99) (a : Int) : Instr.fill (fun i => gmPlaces.toArray[i]?) g.row.toArray ((2, .int .i64 a) :: rest) = Instr.fill (fun i => gmPlaces.toArray[i]?) (Gm.row { g with at_ := a }).toArray rest := by
  have := fill_step (rest := rest) (place := fun i => gmPlaces.toArray[i]?) (i := 2) (v := .int .i64 a) (off := 101) (size := 1) (pre := g.s.row ++ [.int .i64 g.c0, .int .i64 g.c1]) (mid := [.int .i64 g.at_]) (post := [.int .i64 g.wn]) (vs := [.int .i64 a]) rfl rfl (by simp [hs]) rfl rfl
  simpa [Gm.row] using this
theorem fill_gw (hs : g.s.row.length = 99) (a : Int) : Instr.fill (fun i => gmPlaces.toArray[i]?) g.row.toArray ((3, .int .i64 a) :: rest) = Instr.fill (fun i => gmPlaces.toArray[i]?) (Gm.row { g with wn := a }).toArray rest := by
  have := fill_step (rest := rest) (place := fun i => gmPlaces.toArray[i]?) (i := 3) (v := .int .i64 a) (off := 102) (size := 1) (pre := g.s.row ++ [.int .i64 g.c0, .int .i64 g.c1, .int .i64 g.at_]) (mid := [.int .i64 g.wn]) (post := []) (vs := [.int .i64 a]) rfl rfl (by simp [hs]) rfl rfl
  simpa [Gm.row] using this
end
theorem seg0_len : seg0.row.length = 99 := seg0_ok.len
@[go_sem] theorem Tryz.run_gm_all (w : World) (s : Seg) (a b c d : Int) (hs : s.row.length = 99) :
    (rowBuild 31 #[(0, .agg s.row.toArray), (1, .agg #[.int .i64 a, .int .i64 b]), (2, .int .i64 c), (3, .int .i64 d)]).run Tryz.prog w = .ok (.agg (Gm.row ⟨s, a, b, c, d⟩).toArray) w := by
  refine run_build w _ _ _ ?_
  rw [Tryz.built_gm]
  show Instr.fill _ _ ((0, Value.agg s.row.toArray) :: (1, Value.agg #[.int .i64 a, .int .i64 b]) :: (2, Value.int .i64 c) :: (3, Value.int .i64 d) :: []) = _
  rw [fill_gs seg0_len hs, fill_gc hs, fill_gt hs, fill_gw hs]
  rfl
@[go_sem] theorem Tryz.run_gm_won (w : World) (c d : Int) :
    (rowBuild 31 #[(2, .int .i64 c), (3, .int .i64 d)]).run Tryz.prog w = .ok (.agg (Gm.row ⟨seg0, 0, 0, c, d⟩).toArray) w := by
  refine run_build w _ _ _ ?_
  rw [Tryz.built_gm]
  show Instr.fill _ _ ((2, Value.int .i64 c) :: (3, Value.int .i64 d) :: []) = _
  rw [fill_gt seg0_len, fill_gw seg0_len]
  rfl

/-- 'x := ..': a new variable, and at once its value. -/
@[go_sem ↓] theorem Tryz.run_store_new_gm (w : World) (g : Gm) (hs : g.s.row.length = 99) :
    (storeCells ⟨w.heap.size, 0, none⟩ g.row 0).run Tryz.prog (w.alloc (.cells gm0.row.toArray 31)) = .ok () (w.alloc (.cells g.row.toArray 31)) := by
  have e := Gm.len hs
  exact run_storeCells_new w 31 gm0.row.toArray g.row.toArray (by rw [List.size_toArray, e]; kernel_rfl) (by rw [List.size_toArray, List.size_toArray, e]; rfl) (Gm.one g)
@[go_sem ↓] theorem Tryz.run_store_new_seg' (w : World) (s : Seg) (e : s.row.length = 99) :
    (storeCells ⟨w.heap.size, 0, none⟩ s.row 0).run Tryz.prog (w.alloc (.cells seg0.row.toArray 29)) = .ok () (w.alloc (.cells s.row.toArray 29)) := by
  exact run_storeCells_new w 29 seg0.row.toArray s.row.toArray (by rw [List.size_toArray, e]; kernel_rfl) (by rw [List.size_toArray, List.size_toArray, e]; rfl) (Seg.one s)

/-! ### What a game is -/
def Gm.right (g : Gm) : Bool := bif g.wn != -1 then g.wn == 0 || g.wn == 1 else
  decide (0 ≤ g.c0) && decide (g.c0 ≤ 1048576) && decide (0 ≤ g.c1) && decide (g.c1 ≤ 1048576) && g.s.right && decide (0 ≤ g.at_) && decide (g.at_ ≤ 1099511627776)
def Gm.turn (g : Gm) : Int := bif !g.right || g.wn != -1 then -1 else bif g.s.p || g.s.last then 1 else 0
def timeOk (n : Int) : Bool := decide (0 ≤ n) && decide (n ≤ 1099511627776)
def Gm.ready (g : Gm) (now : Int) : Int := bif !g.right || !timeOk now then 1 else bif g.wn != -1 then 53 else bif decide (now < g.at_) then 1 else 0
end Go.Proofs.YtkdhhdbgngegfaaGreatDoor
