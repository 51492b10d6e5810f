/-
  Package claim: a segment, as cells in memory.
-/
import Derived.Test.YtkdhhdbgngegfaaGreatDoorHash
namespace Go.Proofs.YtkdhhdbgngegfaaGreatDoor
open Go.RowKit

structure Seg where
  lo : Int
  hi : Int
  f : List Int
  t : List Int
  m : List Int
  p : Bool

def Seg.row (s : Seg) : List Value := .int .i64 s.lo :: .int .i64 s.hi :: (hc s.f ++ (hc s.t ++ (hc s.m ++ [.bool s.p])))
structure Seg.ok (s : Seg) : Prop where
  lo1 : -9223372036854775808 ≤ s.lo
  lo2 : s.lo < 9223372036854775808
  hi1 : -9223372036854775808 ≤ s.hi
  hi2 : s.hi < 9223372036854775808
  f : s.f.length = 32
  t : s.t.length = 32
  m : s.m.length = 32

theorem Seg.len {s : Seg} (hf : s.f.length = 32) (ht : s.t.length = 32) (hm : s.m.length = 32) : s.row.length = 99 := by
  simp [Seg.row, hc_len, hf, ht, hm]
theorem Seg.one (s : Seg) : s.row.toArray.all (·.oneCell') = true := by
  have key : ∀ F : List Int, ∀ v ∈ hc F, v.oneCell' = true := fun F v hv => by
    simp [hc] at hv
    obtain ⟨x, _, rfl⟩ := hv
    rfl
  refine all_oneCell_toArray fun v hv => ?_
  simp only [Seg.row, List.mem_cons, List.mem_append, List.not_mem_nil, or_false] at hv
  rcases hv with rfl | rfl | hv | hv | hv | rfl
  · rfl
  · rfl
  · exact key _ v hv
  · exact key _ v hv
  · exact key _ v hv
  · rfl

theorem take_mid (pre mid post : List Value) {o n : Nat} (hp : pre.length = o) (hm : mid.length = n) : ((pre ++ (mid ++ post)).drop o).take n = mid := by
  subst hp hm
  rw [List.drop_left, List.take_left]

def seg0 : Seg := ⟨0, 0, zero32, zero32, zero32, false⟩

/-- Block b of w holds the segment s. -/
def SegAt (w : World) (b : Nat) (ty : TypeId) (s : Seg) : Prop := w.heap[b]? = some (.cells s.row.toArray ty (0, 0))
theorem SegAt.new (w : World) (ty : TypeId) (s : Seg) : SegAt (w.alloc (.cells s.row.toArray ty)) w.heap.size ty s := heap_alloc_last w _
section
variable {w w1 : World} {b : Nat} {ty : TypeId} {s : Seg}
theorem SegAt.lo (h : SegAt w b ty s) : w.cell? ⟨b, 0, none⟩ = some (.int .i64 s.lo) := by
  rw [cell_of_row _ _ _ _ _ _ h]; simp [Seg.row]
theorem SegAt.hi (h : SegAt w b ty s) : w.cell? ⟨b, 1, none⟩ = some (.int .i64 s.hi) := by
  rw [cell_of_row _ _ _ _ _ _ h]; simp [Seg.row]
theorem SegAt.p (h : SegAt w b ty s) (hs : s.ok) : w.cell? ⟨b, 98, none⟩ = some (.bool s.p) := by
  rw [cell_of_row _ _ _ _ _ _ h]
  simp [Seg.row, hc_len, hs.f, hs.t, hs.m]
theorem SegAt.whole (h : SegAt w b ty s) (hs : s.ok) : rowOf w b 0 99 = s.row := by
  rw [rowOf_block h]
  have := Seg.len hs.f hs.t hs.m
  simp [List.take_of_length_le (Nat.le_of_eq this)]
theorem SegAt.from_ (h : SegAt w b ty s) (hs : s.ok) : rowOf w b 2 32 = hc s.f := by
  rw [rowOf_block h]
  simp [Seg.row, hc_len, hs.f]
theorem SegAt.to_ (h : SegAt w b ty s) (hs : s.ok) : rowOf w b 34 32 = hc s.t := by
  rw [rowOf_block h]
  simp [Seg.row, hc_len, hs.f, hs.t]
theorem SegAt.mid (h : SegAt w b ty s) (hs : s.ok) : rowOf w b 66 32 = hc s.m := by
  rw [rowOf_block h]
  have e : s.row = (.int .i64 s.lo :: .int .i64 s.hi :: (hc s.f ++ hc s.t)) ++ (hc s.m ++ [.bool s.p]) := by simp [Seg.row]
  have := take_mid (.int .i64 s.lo :: .int .i64 s.hi :: (hc s.f ++ hc s.t)) (hc s.m) [.bool s.p] (o := 66) (n := 32) (by simp [hc_len, hs.f, hs.t]) (by simp [hc_len, hs.m])
  rw [e]
  simpa using this
theorem SegAt.free (h : SegAt w b ty s) (o : Nat) : w.frozen? ⟨b, o, none⟩ = false := Joins.unfrozen_of_block h o
theorem SegAt.there (h : SegAt w b ty s) (hs : s.ok) {o n : Nat} (ho : o + n ≤ 99) : w.there b o n := fun j hj => by
  refine ⟨?_, h.free _⟩
  rw [cell_of_row _ _ _ _ _ _ h]
  have := Seg.len hs.f hs.t hs.m
  simp [this]; omega
theorem SegAt.facts (h : SegAt w b ty s) (hs : s.ok) : w.cell? ⟨b, 0, none⟩ = some (.int .i64 s.lo) ∧ w.cell? ⟨b, 1, none⟩ = some (.int .i64 s.hi) ∧ w.cell? ⟨b, 98, none⟩ = some (.bool s.p) ∧ rowOf w b 0 99 = s.row ∧ rowOf w b 2 32 = hc s.f ∧ rowOf w b 34 32 = hc s.t ∧ rowOf w b 66 32 = hc s.m :=
  ⟨h.lo, h.hi, h.p hs, h.whole hs, h.from_ hs, h.to_ hs, h.mid hs⟩
theorem SegAt.lt (h : SegAt w b ty s) : b < w.heap.size := (Array.getElem?_eq_some_iff.1 h).1
theorem SegAt.on (h : SegAt w b ty s) (hb : Below w.heap.size w w1) : SegAt w1 b ty s := by
  have := h.lt
  unfold SegAt
  rw [hb.block _ this]; exact h
theorem SegAt.alloc (h : SegAt w b ty s) (o : Obj) : SegAt (w.alloc o) b ty s := by
  unfold SegAt
  rw [Below.heap_alloc _ _ _ h.lt]; exact h
theorem SegAt.drew (h : SegAt w b ty s) : SegAt w.drew b ty s := h
theorem SegAt.other (h : SegAt w b ty s) {a : Addr} (ha : b ≠ a.block) (v : Value) : SegAt (w.setCell a v) b ty s := by
  unfold SegAt
  rw [Below.heap_setCell _ _ _ _ ha]; exact h
theorem SegAt.others (h : SegAt w b ty s) {c : Nat} (hc : b ≠ c) (o : Nat) (vs : List Value) : SegAt (w.setCells c o vs) b ty s := by
  unfold SegAt
  rw [setCells_other hc]; exact h
theorem SegAt.setAll (h : SegAt w b ty s) (hs : s.ok) {s' : Seg} (hs' : s'.ok) : SegAt (w.setCells b 0 s'.row) b ty s' := by
  have := setCells_block (b := b) (t := ty) (fr := (0, 0)) s'.row (o := 0) (w := w) (pre := []) (mid := s.row) (post := []) (by simpa [SegAt] using h) rfl (by rw [Seg.len hs.f hs.t hs.m, Seg.len hs'.f hs'.t hs'.m])
  simpa [SegAt] using this
theorem SegAt.setMid (h : SegAt w b ty s) (hs : s.ok) {F : List Int} (hF : F.length = 32) : SegAt (w.setCells b 66 (hc F)) b ty { s with m := F } := by
  have e : s.row = (.int .i64 s.lo :: .int .i64 s.hi :: (hc s.f ++ hc s.t)) ++ (hc s.m ++ [.bool s.p]) := by simp [Seg.row]
  unfold SegAt at h
  rw [e] at h
  have := setCells_block (hc F) (o := 66) h (by simp [hc_len, hs.f, hs.t]) (by simp [hc_len, hs.m, hF])
  unfold SegAt
  rw [this]
  simp [Seg.row]
theorem SegAt.setP (h : SegAt w b ty s) (hs : s.ok) (x : Bool) : SegAt (w.setCell ⟨b, 98, none⟩ (.bool x)) b ty { s with p := x } := by
  have e : s.row = (.int .i64 s.lo :: .int .i64 s.hi :: (hc s.f ++ (hc s.t ++ hc s.m))) ++ ([.bool s.p] ++ []) := by simp [Seg.row]
  unfold SegAt at h
  rw [e] at h
  have := setCells_block [.bool x] (o := 98) h (by simp [hc_len, hs.f, hs.t, hs.m]) rfl
  rw [World.setCells, World.setCells] at this
  unfold SegAt
  rw [this]
  simp [Seg.row]
end

/-- Right, as the document has it. -/
def Seg.right (s : Seg) : Bool := decide (0 ≤ s.lo) && decide (s.lo < s.hi) && decide (s.hi ≤ 4096) && (bif s.p then decide (s.lo + 1 < s.hi) else s.m == zero32)

/-! ### The operations on a whole segment -/
@[go_sem ↓] theorem load99 (a : Addr) : loadCellsFrom a 0 99 #[] = rowLoad a 99 := rfl
@[go_sem] theorem run_storeCells_seg {P : Program} (w : World) (b : Nat) (s : Seg) (hf : s.f.length = 32) (ht : s.t.length = 32) (hm : s.m.length = 32) (hw : w.there b 0 99) : (storeCells ⟨b, 0, none⟩ s.row 0).run P w = .ok () (w.setCells b 0 s.row) := by
  have e := Seg.len hf ht hm
  have := run_storeCells_cells (P := P) b 0 s.row 0 w (fun j hj => by rw [e] at hj; simpa using (hw j hj).1) (fun j hj => by rw [e] at hj; simpa using (hw j hj).2) (fun v hv => (Array.all_eq_true_iff_forall_mem.1 (Seg.one s)) v (by simpa using hv))
  simpa using this
@[go_sem] theorem Seg.len' {s : Seg} (hf : s.f.length = 32) (ht : s.t.length = 32) (hm : s.m.length = 32) : s.row.length = 99 := Seg.len hf ht hm
@[go_sem ↓] theorem Tryz.build_seg (ps : Array (Nat × Value)) : Instr.build 29 ps = rowBuild 29 ps := rfl
@[go_sem] theorem Tryz.run_seg0 (w : World) : (rowBuild 29 #[]).run Tryz.prog w = .ok (.agg (Seg.row seg0).toArray) w := by
  unfold rowBuild; kernel_rfl
@[go_sem ↓] theorem Tryz.zero_seg (w : World) : (zeroValue 29).run Tryz.prog w = .ok (.agg (Seg.row seg0).toArray) w := by kernel_rfl
end Go.Proofs.YtkdhhdbgngegfaaGreatDoor
