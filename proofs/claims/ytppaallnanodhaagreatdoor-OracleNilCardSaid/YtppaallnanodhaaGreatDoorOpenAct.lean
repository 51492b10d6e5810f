/-
  An act as a law's argument: its cells, as far as they count.
-/
import Derived.Test.YtppaallnanodhaaGreatDoorOrNilW
import Derived.Test.YtppaallnanodhaaGreatDoorOpenStruct
namespace Go.Proofs.YtppaallnanodhaaGreatDoor
set_option maxRecDepth 100000
open Go.ChangeShapes Go.WideShapes Go.ChangeAt Go.RowKit

section
variable {H : Type} {enc : TypeId × Value → H} {w : World} {base : Nat} {held : Bool}
theorem trod_u64 {t : TypeId} {fuel : Nat} {cs : List Value} {i : Nat} {x : DataW H × List MemPlace} {k : IntKind} (ht : Tryz.prog.underlying t = some (.int k)) (h1 : Tryz.prog.cellsOf t = 1) (h : DataW.trod enc Tryz.prog w base (fun _ => true) held fuel t ((cs.drop i).take (Tryz.prog.cellsOf t)) = some x) : ∃ a, cs[i]? = some (.int k a) := by
  rw [h1] at h
  obtain ⟨a, e, _, _⟩ := DataW.trod_int ht h
  exact ⟨a, one_at e⟩
theorem trod_slc {t e : TypeId} {fuel : Nat} {cs : List Value} {i : Nat} {x : DataW H × List MemPlace} (ht : Tryz.prog.underlying t = some (.slice e)) (h1 : Tryz.prog.cellsOf t = 1) (h : DataW.trod enc Tryz.prog w base (fun _ => true) held fuel t ((cs.drop i).take (Tryz.prog.cellsOf t)) = some x) : ∃ q n c, cs[i]? = some (.slice q n c) ∧ n ≤ maxLen := by
  rw [h1] at h
  obtain ⟨q, n, c, e, hn⟩ := trod_sl ht h
  exact ⟨q, n, c, one_at e, hn⟩
theorem sub_at {cs : List Value} {o n i : Nat} {v : Value} (h : ((cs.drop o).take n)[i]? = some v) : cs[o + i]? = some v := by
  rw [List.getElem?_take] at h
  split at h
  · rwa [List.getElem?_drop] at h
  · simp at h
theorem open_in {fuel : Nat} {xs : List Value} {x : DataW H × List MemPlace} (h : DataW.trod enc Tryz.prog w base (fun _ => true) held fuel 33 xs = some x) : InV xs := by
  obtain ⟨hl, m, hf⟩ := trod_fields Tryz.underlying33 (n := 24) (by kernel_rfl) h
  obtain ⟨ym, hm⟩ := hf _ (List.mem_of_getElem? (i := 2) rfl)
  obtain ⟨yt, ht⟩ := hf _ (List.mem_of_getElem? (i := 3) rfl)
  dsimp only at hm ht
  rw [show Tryz.prog.cellsOf 29 = 9 by kernel_rfl] at hm
  rw [show Tryz.prog.cellsOf 31 = 10 by kernel_rfl] at ht
  obtain ⟨hlm, m1, hfm⟩ := trod_fields Tryz.underlying29 (n := 9) (by kernel_rfl) hm
  obtain ⟨hlt, m2, hft⟩ := trod_fields Tryz.underlying31 (n := 10) (by kernel_rfl) ht
  obtain ⟨y1, g1⟩ := hfm _ (List.mem_of_getElem? (i := 4) rfl)
  obtain ⟨y2, d1⟩ := hfm _ (List.mem_of_getElem? (i := 5) rfl)
  obtain ⟨y3, g2⟩ := hft _ (List.mem_of_getElem? (i := 5) rfl)
  obtain ⟨y4, d2⟩ := hft _ (List.mem_of_getElem? (i := 6) rfl)
  obtain ⟨a1, e1⟩ := trod_u64 Tryz.underlying22 (by kernel_rfl) g1
  obtain ⟨a2, e2⟩ := trod_u64 Tryz.underlying22 (by kernel_rfl) g2
  obtain ⟨q1, n1, c1, f1, b1⟩ := trod_slc Tryz.underlying27 (by kernel_rfl) d1
  obtain ⟨q2, n2, c2, f2, b2⟩ := trod_slc Tryz.underlying27 (by kernel_rfl) d2
  exact ⟨hl, ⟨a1, sub_at e1⟩, ⟨a2, sub_at e2⟩, ⟨q1, n1, c1, sub_at f1, b1⟩, ⟨q2, n2, c2, sub_at f2, b2⟩⟩
theorem open_act {r : Reach} {b0 : Nat} {v : Value} {d : DataW H} {p : List MemPlace} (hv : Value.okWide Tryz.prog w r b0 40 v) (h : DataW.Trod enc Tryz.prog w base (fun _ => true) held 40 v d p) :
    ∃ cs F, v = .agg cs.toArray ∧ AcV cs F := by
  obtain ⟨arr, rfl, _, _⟩ : ∃ cs, v = .agg cs ∧ cs.size = Tryz.prog.cellsOf 40 ∧ Row.okWide Tryz.prog w r b0 40 cs := by
    simpa [Value.okWide, Tryz.underlying40] using hv
  obtain ⟨fuel, hf0⟩ := h
  obtain ⟨hl, m, hf⟩ := trod_fields Tryz.underlying40 (n := 65) (by kernel_rfl) hf0
  obtain ⟨y4, t4⟩ := hf _ (List.mem_of_getElem? (i := 4) rfl)
  obtain ⟨y5, t5⟩ := hf _ (List.mem_of_getElem? (i := 5) rfl)
  obtain ⟨y7, t7⟩ := hf _ (List.mem_of_getElem? (i := 7) rfl)
  obtain ⟨y8, t8⟩ := hf _ (List.mem_of_getElem? (i := 8) rfl)
  dsimp only at t4 t5 t7 t8
  obtain ⟨a4, e4⟩ := trod_u64 Tryz.underlying22 (by kernel_rfl) t4
  rw [show Tryz.prog.cellsOf 24 = 32 by kernel_rfl] at t5
  obtain ⟨F, hF, e5⟩ := trod_hash Tryz.underlying24 Tryz.underlying5 (by kernel_rfl) (by kernel_rfl) t5
  rw [show Tryz.prog.cellsOf 33 = 24 by kernel_rfl] at t7
  have ix := open_in t7
  rw [show Tryz.prog.cellsOf 38 = 3 by kernel_rfl] at t8
  obtain ⟨hlw, m2, hfw⟩ := trod_fields Tryz.underlying38 (n := 3) (by kernel_rfl) t8
  obtain ⟨z0, s0⟩ := hfw _ (List.mem_of_getElem? (i := 0) rfl)
  obtain ⟨z1, s1⟩ := hfw _ (List.mem_of_getElem? (i := 1) rfl)
  obtain ⟨z2, s2⟩ := hfw _ (List.mem_of_getElem? (i := 2) rfl)
  obtain ⟨q0, n0, c0, f0, b0'⟩ := trod_slc Tryz.underlying34 (by kernel_rfl) s0
  obtain ⟨q1, n1, c1, f1, b1⟩ := trod_slc Tryz.underlying35 (by kernel_rfl) s1
  obtain ⟨q2, n2, c2, f2, b2⟩ := trod_slc Tryz.underlying36 (by kernel_rfl) s2
  exact ⟨(Value.agg arr).cells.toList, F, by simp [Value.cells], hl, ⟨a4, e4⟩, hF, e5, ix, ⟨q0, n0, c0, sub_at f0, b0'⟩, ⟨q1, n1, c1, sub_at f1, b1⟩, ⟨q2, n2, c2, sub_at f2, b2⟩⟩
end
end Go.Proofs.YtppaallnanodhaaGreatDoor
