/-
  Code, a context, numbers, as a law's arguments.
-/
import Derived.Test.YtamkmeigcmpkjaaOpRows
import Derived.Test.YtamkmeigcmpkjaaMcEn
namespace Go.Proofs.Ytamkmeigcmpkjaa
set_option maxRecDepth 100000
open Go.ChangeShapes Go.WideShapes Go.ChangeAt Go.RowKit Go.Deep

/-- A number's cell. -/
def PU (_ : World) (_ : Fp) (x : Int) (r : List Value) : Prop := r = [.int .u64 x]
theorem PU_ok : FpOk PU where
  mono := fun h _ => h
  agr := fun h _ => h
  lt := fun h => h
theorem RwF.rdU {w : World} {F : Fp} {q : Option Addr} {c : Nat} {L : List Int} (h : RwF 1 0 PU w F q L) : RdU w (.slice q L.length c) L := by
  refine ⟨q, c, rfl, ?_⟩
  rcases h with h | ⟨b, off, e, _, hx⟩
  · exact .inl h
  · refine .inr ⟨b, off, e, fun i hi => ?_⟩
    obtain ⟨r, h1, h2, h3⟩ := hx i hi
    have := row_cellG h2 h1 (j := 0) (v := .int .u64 (L.getD i 0)) (by rw [h3]; rfl)
    rw [Nat.mul_one, Nat.add_zero] at this
    exact this
section
variable {H : Type} {enc : TypeId × Value → H} {w : World} {base : Nat} {held : Bool}
theorem elem_u64 (fuel : Nat) (cs : List Value) (y : DataW H × List MemPlace) (hf : DataW.trod enc Try.prog w base (fun _ => true) held fuel 23 cs = some y) (_hs : ∀ n ∈ y.1.weights Try.prog 23, n ≤ reachBytes) :
    ∃ x, cs.length = 1 ∧ PU w (fun g => g < w.heap.size) x cs ∧ (0 ≤ x ∧ x < 18446744073709551616) := by
  obtain ⟨a, e, _, hw⟩ := DataW.trod_int Try.underlying23 hf
  exact ⟨a, by rw [e]; rfl, e, u64_bd hw⟩
theorem elem_ins (fuel : Nat) (cs : List Value) (y : DataW H × List MemPlace) (hf : DataW.trod enc Try.prog w base (fun _ => true) held fuel 48 cs = some y) (_hs : ∀ n ∈ y.1.weights Try.prog 48, n ≤ reachBytes) :
    ∃ x, cs.length = 2 ∧ PIs w (fun g => g < w.heap.size) x cs ∧ x.ok := by
  obtain ⟨hl, mm, ys, hx, hfld⟩ := trod_struct Try.underlying48 (n := 2) (by kernel_rfl) hf
  have ci : Try.prog.cellsOf 3 = 1 := by kernel_rfl
  have c1 : Try.prog.cellsOf 23 = 1 := by kernel_rfl
  obtain ⟨y0, g0, t0⟩ := hfld 0 _ rfl
  obtain ⟨y1, g1, t1⟩ := hfld 1 _ rfl
  dsimp only at t0 t1
  rw [ci] at t0
  rw [c1] at t1
  obtain ⟨a0, e0', _, h0'⟩ := DataW.trod_int Try.underlying3 t0
  obtain ⟨a1, e1, h1⟩ := trod_u64B Try.underlying23 t1
  have e0 := one_at e0'
  refine ⟨⟨a0, a1⟩, hl, ?_, h1⟩
  rcases cs with _ | ⟨a, _ | ⟨b, _ | _⟩⟩ <;> simp at hl
  simp at e0 e1
  rw [e0, e1]
  rfl
theorem open_code {r : Reach} {b0 : Nat} {v : Value} {d : DataW H} {p : List MemPlace} (hv : Value.okWide Try.prog w r b0 22 v) (h : DataW.Trod enc Try.prog w base (fun _ => true) held 22 v d p)
    (hs : ∀ n ∈ d.weights Try.prog 22, n ≤ reachBytes) : ∃ q c L, v = .slice q L.length c ∧ RwF 2 ins0 PIs w (fun g => g < w.heap.size) q L ∧ (∀ i ∈ L, i.ok) ∧ L.length ≤ 3000000000000 * 3 := by
  obtain ⟨a0, len0, cap0, rfl⟩ := okWide_slice Try.underlying22 hv
  obtain ⟨fuel, hf⟩ := h
  obtain ⟨q, c, L, e, rr, ok, l⟩ := trod_rows (d0 := ins0) PIs_ok (by decide) Try.underlying22 (n := 2) (by kernel_rfl) (by_ := 16) (by kernel_rfl) elem_ins hf hs
  refine ⟨q, c, L, ?_, rr, ok, by unfold reachBytes at l; omega⟩
  simpa [Value.cells] using e
theorem open_cx {r : Reach} {b0 : Nat} {v : Value} {d : DataW H} {p : List MemPlace} (hv : Value.okWide Try.prog w r b0 26 v) (h : DataW.Trod enc Try.prog w base (fun _ => true) held 26 v d p)
    (hs : ∀ n ∈ d.weights Try.prog 26, n ≤ reachBytes) : ∃ (c : Cx) (q : Option Addr) (k : Nat), v = .agg #[.int .u64 c.who, .int .u64 c.val, .slice q c.inp.length k] ∧ c.ok ∧ RdU w (.slice q c.inp.length k) c.inp := by
  obtain ⟨arr, rfl, _, _⟩ : ∃ cs, v = .agg cs ∧ cs.size = Try.prog.cellsOf 26 ∧ Row.okWide Try.prog w r b0 26 cs := by
    simpa [Value.okWide, Try.underlying26] using hv
  obtain ⟨fuel, hf⟩ := h
  obtain ⟨hl, mm, ys, hx, hfld⟩ := trod_struct Try.underlying26 (n := 3) (by kernel_rfl) hf
  simp only at hx
  subst hx
  have c1 : Try.prog.cellsOf 23 = 1 := by kernel_rfl
  have c2 : Try.prog.cellsOf 24 = 1 := by kernel_rfl
  obtain ⟨y0, g0, t0⟩ := hfld 0 _ rfl
  obtain ⟨y1, g1, t1⟩ := hfld 1 _ rfl
  obtain ⟨y2, g2, t2⟩ := hfld 2 _ rfl
  dsimp only at t0 t1 t2
  rw [c1] at t0 t1
  rw [c2] at t2
  have m2 := weights_struct Try.underlying26 hs (j := 2) rfl (show (ys.map (·.1))[2]? = some y2.1 by rw [List.getElem?_map, g2]; rfl)
  dsimp only at m2
  obtain ⟨a0, e0, h0⟩ := trod_u64B Try.underlying23 t0
  obtain ⟨a1, e1, h1⟩ := trod_u64B Try.underlying23 t1
  obtain ⟨q, k, L, e2, rr, ok, l⟩ := trod_rows (d0 := 0) PU_ok (by decide) Try.underlying24 (n := 1) (by kernel_rfl) (by_ := 8) (by kernel_rfl) elem_u64 t2 m2
  refine ⟨⟨a0, a1, L⟩, q, k, ?_, ⟨h0, h1, ok, by show L.length ≤ _; unfold reachBytes at l; omega⟩, rr.rdU⟩
  obtain ⟨cs, hcs⟩ : ∃ cs, (Value.agg arr).cells.toList = cs := ⟨_, rfl⟩
  have ha : arr = cs.toArray := by rw [← hcs]; simp [Value.cells]
  rw [hcs] at hl e0 e1 e2
  rw [ha]
  rcases cs with _ | ⟨a, _ | ⟨b, _ | ⟨c, _ | _⟩⟩⟩ <;> simp at hl
  simp at e0 e1 e2
  rw [e0, e1, e2]
end
end Go.Proofs.Ytamkmeigcmpkjaa
