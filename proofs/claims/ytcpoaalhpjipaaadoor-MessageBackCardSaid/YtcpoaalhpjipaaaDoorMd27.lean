/-
  An input, as a law's argument.
-/
import Derived.Test.YtcpoaalhpjipaaaDoorMd20
import Derived.Test.YtcpoaalhpjipaaaDoorMd24
namespace Go.Proofs.YtcpoaalhpjipaaaDoor
set_option maxRecDepth 100000
open Go.ChangeShapes Go.WideShapes Go.ChangeAt Go.RowKit Go.Deep

section
variable {H : Type} {enc : TypeId × Value → H} {w : World} {base : Nat} {held : Bool}
theorem trod_mg {fuel : Nat} {cs : List Value} {y : DataW H × List MemPlace} (hf : DataW.trod enc Tryd.prog w base (fun _ => true) held fuel 27 cs = some y)
    (hs : ∀ n ∈ y.1.weights Tryd.prog 27, n ≤ reachBytes) : ∃ (m : Mg) (q : Option Addr) (k : Nat), cs = mgRow m q m.data.length k ∧ m.ok ∧ Rd w (.slice q m.data.length k) m.data ∧ m.data.length ≤ 140737488355000 := by
  have hr := reach46
  obtain ⟨hl, mm, ys, hx, hfld⟩ := trod_struct Tryd.underlying27 (n := 9) (by kernel_rfl) hf
  rw [hx] at hs
  have c1 : Tryd.prog.cellsOf 22 = 1 := by kernel_rfl
  have c4 : Tryd.prog.cellsOf 24 = 4 := by kernel_rfl
  have cb : Tryd.prog.cellsOf 25 = 1 := by kernel_rfl
  obtain ⟨y0, g0, t0⟩ := hfld 0 _ rfl
  obtain ⟨y1, g1, t1⟩ := hfld 1 _ rfl
  obtain ⟨y2, g2, t2⟩ := hfld 2 _ rfl
  obtain ⟨y3, g3, t3⟩ := hfld 3 _ rfl
  obtain ⟨y4, g4, t4⟩ := hfld 4 _ rfl
  obtain ⟨y5, g5, t5⟩ := hfld 5 _ rfl
  dsimp only at t0 t1 t2 t3 t4 t5
  rw [c1] at t0 t1 t2 t4
  rw [c4] at t3
  rw [cb] at t5
  have m5 := weights_struct Tryd.underlying27 hs (j := 5) rfl (show (ys.map (·.1))[5]? = some y5.1 by rw [List.getElem?_map, g5]; rfl)
  dsimp only at m5
  obtain ⟨a0, e0, h0⟩ := trod_u64B Tryd.underlying22 t0
  obtain ⟨a1, e1, h1⟩ := trod_u64B Tryd.underlying22 t1
  obtain ⟨a2, e2, h2⟩ := trod_u64B Tryd.underlying22 t2
  obtain ⟨a4, e4, h4⟩ := trod_u64B Tryd.underlying22 t4
  obtain ⟨l3, h3⟩ := trod_arrI Tryd.underlying24 Tryd.underlying22 c4 c1 t3
  obtain ⟨b0, f0, w0⟩ := h3 0 (by omega)
  obtain ⟨b1, f1, w1⟩ := h3 1 (by omega)
  obtain ⟨b2, f2, w2⟩ := h3 2 (by omega)
  obtain ⟨b3, f3, w3⟩ := h3 3 (by omega)
  obtain ⟨v5, xs, e5, r5, bx, z5⟩ := trod_bytes t5
  obtain ⟨q, k, rfl⟩ := r5.len
  have s5 : xs.length ≤ 140737488355000 := by
    rcases z5 with z | ⟨el, sp, z1, z2⟩
    · rw [z]; simp
    · rw [z1] at m5
      have := (weights_slice Tryd.underlying25 m5).1
      rw [show Tryd.prog.bytesOf 5 = 1 by kernel_rfl, z2] at this
      omega
  have dg : ∀ {x : Int}, (Lit.int .u64 x).wf = true → Dg x := fun hx => by
    have := u64_bd hx
    unfold Dg B; omega
  have sub : ∀ {i : Nat} {u : Value}, i < 4 → ((cs.drop 3).take 4)[i]? = some u → cs[3 + i]? = some u := fun hi h => by
    rw [List.getElem?_take, if_pos hi, List.getElem?_drop] at h
    exact h
  have e8 : cs[8]? = some (.slice q xs.length k) := one_at e5
  refine ⟨⟨a0, a1, a2, ⟨b0, b1, b2, b3⟩, a4, xs⟩, q, k, ?_, ⟨h0, h1, h2, ⟨dg w0, dg w1, dg w2, dg w3⟩, h4, bx⟩, r5, s5⟩
  apply List.ext_getElem?
  intro i
  have hi : i = 0 ∨ i = 1 ∨ i = 2 ∨ i = 3 ∨ i = 4 ∨ i = 5 ∨ i = 6 ∨ i = 7 ∨ i = 8 ∨ 9 ≤ i := by omega
  rcases hi with rfl | rfl | rfl | rfl | rfl | rfl | rfl | rfl | rfl | hi
  · rw [e0]; rfl
  · rw [e1]; rfl
  · rw [e2]; rfl
  · rw [sub (i := 0) (by omega) f0]; rfl
  · rw [sub (i := 1) (by omega) f1]; rfl
  · rw [sub (i := 2) (by omega) f2]; rfl
  · rw [sub (i := 3) (by omega) f3]; rfl
  · rw [e4]; rfl
  · rw [e8]; rfl
  · rw [List.getElem?_eq_none (by omega), List.getElem?_eq_none (by rw [mgRow_len]; omega)]
theorem open_inp {r : Reach} {b0 : Nat} {v : Value} {d : DataW H} {p : List MemPlace} (hv : Value.okWide Tryd.prog w r b0 70 v) (h : DataW.Trod enc Tryd.prog w base (fun _ => true) held 70 v d p)
    (hs : ∀ n ∈ d.weights Tryd.prog 70, n ≤ reachBytes) : ∃ x qm km qt kt, v = .agg (inRow x qm x.m.data.length km qt x.t.data.length kt).toArray ∧ x.ok ∧ Rd w (.slice qm x.m.data.length km) x.m.data ∧ x.m.data.length ≤ 140737488355000 ∧ Rd w (.slice qt x.t.data.length kt) x.t.data ∧ x.t.data.length ≤ 140737488355000 := by
  obtain ⟨arr, rfl, _, _⟩ : ∃ cs, v = .agg cs ∧ cs.size = Tryd.prog.cellsOf 70 ∧ Row.okWide Tryd.prog w r b0 70 cs := by
    simpa [Value.okWide, Tryd.underlying70] using hv
  obtain ⟨fuel, hf⟩ := h
  obtain ⟨hl, mm, ys, hx, hfld⟩ := trod_struct Tryd.underlying70 (n := 24) (by kernel_rfl) hf
  simp only at hx
  subst hx
  have cb : Tryd.prog.cellsOf 4 = 1 := by kernel_rfl
  have c1 : Tryd.prog.cellsOf 22 = 1 := by kernel_rfl
  have c4 : Tryd.prog.cellsOf 24 = 4 := by kernel_rfl
  have c9 : Tryd.prog.cellsOf 27 = 9 := by kernel_rfl
  have c10 : Tryd.prog.cellsOf 54 = 10 := by kernel_rfl
  obtain ⟨y0, g0, t0⟩ := hfld 0 _ rfl
  obtain ⟨y1, g1, t1⟩ := hfld 1 _ rfl
  obtain ⟨y2, g2, t2⟩ := hfld 2 _ rfl
  obtain ⟨y3, g3, t3⟩ := hfld 3 _ rfl
  dsimp only at t0 t1 t2 t3
  rw [cb] at t0
  rw [c4] at t1
  rw [c9] at t2
  rw [c10] at t3
  have m2 := weights_struct Tryd.underlying70 hs (j := 2) rfl (show (ys.map (·.1))[2]? = some y2.1 by rw [List.getElem?_map, g2]; rfl)
  have m3 := weights_struct Tryd.underlying70 hs (j := 3) rfl (show (ys.map (·.1))[3]? = some y3.1 by rw [List.getElem?_map, g3]; rfl)
  dsimp only at m2 m3
  obtain ⟨d0, e0', _⟩ := DataW.trod_bool Tryd.underlying4 t0
  obtain ⟨l3, h3⟩ := trod_arrI Tryd.underlying24 Tryd.underlying22 c4 c1 t1
  obtain ⟨b0, f0, w0⟩ := h3 0 (by omega)
  obtain ⟨b1, f1, w1⟩ := h3 1 (by omega)
  obtain ⟨b2, f2, w2⟩ := h3 2 (by omega)
  obtain ⟨b3, f3, w3⟩ := h3 3 (by omega)
  obtain ⟨m, qm, km, em, okm, rm, lm⟩ := trod_mg t2 m2
  obtain ⟨t, qt, kt, et, okt, rt, lt⟩ := trod_tx t3 m3
  obtain ⟨cs, hcs⟩ : ∃ cs, (Value.agg arr).cells.toList = cs := ⟨_, rfl⟩
  have ha : arr = cs.toArray := by rw [← hcs]; simp [Value.cells]
  rw [hcs] at hl e0' f0 f1 f2 f3 em et l3
  have dg : ∀ {x : Int}, (Lit.int .u64 x).wf = true → Dg x := fun hx => by
    have := u64_bd hx
    unfold Dg B; omega
  have e1 : (cs.drop 1).take 4 = [.int .u64 b0, .int .u64 b1, .int .u64 b2, .int .u64 b3] := by
    apply List.ext_getElem?
    intro i
    have hi : i = 0 ∨ i = 1 ∨ i = 2 ∨ i = 3 ∨ 4 ≤ i := by omega
    rcases hi with rfl | rfl | rfl | rfl | hi
    · rw [f0]; rfl
    · rw [f1]; rfl
    · rw [f2]; rfl
    · rw [f3]; rfl
    · rw [List.getElem?_eq_none (by omega), List.getElem?_eq_none (by simpa using hi)]
  refine ⟨⟨d0, ⟨b0, b1, b2, b3⟩, m, t⟩, qm, km, qt, kt, ?_, ⟨⟨dg w0, dg w1, dg w2, dg w3⟩, okm, okt⟩, rm, lm, rt, lt⟩
  rw [ha]
  congr 2
  have p0 : cs = (cs.drop 0).take 1 ++ cs.drop 1 := by rw [List.drop_zero]; exact (List.take_append_drop 1 cs).symm
  have p1 : cs.drop 1 = (cs.drop 1).take 4 ++ cs.drop 5 := by rw [show cs.drop 5 = (cs.drop 1).drop 4 by rw [List.drop_drop], List.take_append_drop]
  have p2 : cs.drop 5 = (cs.drop 5).take 9 ++ cs.drop 14 := by rw [show cs.drop 14 = (cs.drop 5).drop 9 by rw [List.drop_drop], List.take_append_drop]
  have p3 : cs.drop 14 = (cs.drop 14).take 10 := by rw [List.take_of_length_le (by rw [List.length_drop]; omega)]
  rw [p0, p1, p2, p3, e1, em, et, e0']
  rfl
end
end Go.Proofs.YtcpoaalhpjipaaaDoor
