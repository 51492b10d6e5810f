/-
  A slice of hashes, a slice of ints, as a law's argument.
-/
import Derived.Test.YtkdhhdbgngegfaaOpenSeg
import Derived.Test.YtkdhhdbgngegfaaTr
import Derived.Deep.Slices
import Derived.Deep.Grids
namespace Go.Proofs.Ytkdhhdbgngegfaa
open Go.ChangeShapes Go.WideShapes Go.ChangeAt Go.RowKit Go.Deep

theorem rowOf_cells {w : World} {b o n : Nat} {cs : List Value} (hn : cs.length = n) (h0 : 0 < n) (h : ∀ j v, cs[j]? = some v → w.cell? ⟨b, o + j, none⟩ = some v) : rowOf w b o n = cs ∧ b < w.heap.size := by
  subst hn
  have hf := h 0 cs[0] (by simp [h0])
  refine ⟨?_, World.block_lt_of_cell? w _ hf⟩
  unfold World.cell? at hf
  split at hf
  · rename_i C t fr hb
    rw [rowOf_block hb]
    apply List.ext_getElem?
    intro j
    by_cases hj : j < cs.length
    · have := h j cs[j] (by simp [hj])
      rw [Joins.cell_of_block hb] at this
      have hlt := (Array.getElem?_eq_some_iff.1 this).1
      rw [Array.getElem?_toList, Array.getElem?_extract, if_pos (by omega), this, List.getElem?_eq_getElem hj]
    · rw [List.getElem?_eq_none (by rw [Array.length_toList, Array.size_extract]; omega), List.getElem?_eq_none (by omega)]
  · simp at hf

section
variable {H : Type} {enc : TypeId × Value → H} {w : World} {base : Nat} {held : Bool}

theorem open_trace {r : Reach} {b0 : Nat} {v : Value} {d : DataW H} {p : List MemPlace} (hv : Value.okWide Try.prog w r b0 23 v) (h : DataW.Trod enc Try.prog w base (fun _ => true) held 23 v d p) :
    ∃ (a : Option Addr) (n cap : Nat) (T : Nat → List Int), v = .slice a n cap ∧ n ≤ maxLen ∧ TrP w a n T := by
  obtain ⟨a0, len, cap, rfl⟩ := okWide_slice Try.underlying23 hv
  obtain ⟨fuel, hf⟩ := h
  have c2 : Try.prog.cellsOf 25 = 32 := by kernel_rfl
  have c4 : Try.prog.cellsOf 5 = 1 := by kernel_rfl
  rcases open_slice Try.underlying23 hf with ⟨h0, _⟩ | ⟨a, len', cap', m, n, D, Pl, hcs, _, hl, hm, hmm, _, hx⟩
  · simp [Value.cells] at h0
    obtain ⟨rfl, rfl, rfl⟩ := h0
    exact ⟨none, 0, 0, fun _ => [], rfl, by unfold maxLen; omega, fun i hi => by omega⟩
  · simp [Value.cells] at hcs
    obtain ⟨e1, e2, e3⟩ := hcs
    subst e1 e2 e3
    simp only [if_true] at hmm
    subst hmm
    rw [c2] at hx
    obtain ⟨T, hT⟩ := choose_lt (n := len) (p := fun i (F : List Int) => F.length = 32 ∧ ∀ j v, (hc F)[j]? = some v → w.cell? ((a.add (i * 32)).add j) = some v) (fun i hi => by
      obtain ⟨cs', h1, h2⟩ := hx i (by omega)
      obtain ⟨_, _, hcell⟩ := World.cells?_some h1
      obtain ⟨F, hF, rfl⟩ := trod_hash Try.underlying25 Try.underlying5 c2 c4 h2
      refine ⟨F, hF, fun j v hj => ?_⟩
      have hj' := (List.getElem?_eq_some_iff.1 hj).1
      rw [hcell j (by rw [hc_len, hF] at hj'; exact hj')]
      exact hj)
    refine ⟨some a, len, _, T, rfl, by omega, fun i hi => ?_⟩
    obtain ⟨hF, hcl⟩ := hT i hi
    obtain ⟨b, o, sp⟩ := a
    have hsp : sp = none := by
      obtain ⟨hF0, hc0⟩ := hT 0 (by omega)
      have := hc0 0 _ (List.getElem?_eq_getElem (by rw [hc_len, hF0]; omega))
      simpa [Addr.add] using World.cell?_spot this
    subst hsp
    have hr := rowOf_cells (w := w) (b := b) (o := o + i * 32) (n := 32) (cs := hc (T i)) (by rw [hc_len, hF]) (by omega) (fun j v hj => by
      have := hcl j v hj
      rwa [Addr.add_mid, Addr.add_mid] at this)
    exact ⟨b, o, rfl, hr.2, hF, hr.1⟩

theorem open_waits {r : Reach} {b0 : Nat} {v : Value} {d : DataW H} {p : List MemPlace} (hv : Value.okWide Try.prog w r b0 22 v) (h : DataW.Trod enc Try.prog w base (fun _ => true) held 22 v d p) :
    ∃ (a : Option Addr) (n cap : Nat) (C : Nat → Int), v = .slice a n cap ∧ n ≤ maxLen ∧ InP w a n C := by
  obtain ⟨a0, len, cap, rfl⟩ := okWide_slice Try.underlying22 hv
  obtain ⟨fuel, hf⟩ := h
  rcases open_ints Try.underlying22 Try.underlying3 (by kernel_rfl) hf with ⟨h0, _⟩ | ⟨a, len', cap', zs, hcs, _, hl, hm, hz, _, hx, hwf⟩
  · simp [Value.cells] at h0
    obtain ⟨rfl, rfl, rfl⟩ := h0
    exact ⟨none, 0, 0, fun _ => 0, rfl, by unfold maxLen; omega, fun i hi => by omega⟩
  · simp [Value.cells] at hcs
    obtain ⟨e1, e2, e3⟩ := hcs
    subst e1 e2 e3
    simp only [if_true] at hz
    refine ⟨some a, len, _, fun i => zs.getD i 0, rfl, by omega, fun i hi => ?_⟩
    obtain ⟨b, o, sp⟩ := a
    have hsp : sp = none := by
      have := hx 0 (by omega)
      simpa [Addr.add] using World.cell?_spot this
    subst hsp
    have h := hx i (by omega)
    rw [Addr.add_mid] at h
    have hw := i64_bounds (hwf (zs.getD i 0) (by rw [List.getD_eq_getElem?_getD, List.getElem?_eq_getElem (by omega)]; exact List.getElem_mem _))
    exact ⟨b, o, rfl, World.block_lt_of_cell? w _ h, h, hw.1, hw.2⟩
end
end Go.Proofs.Ytkdhhdbgngegfaa
