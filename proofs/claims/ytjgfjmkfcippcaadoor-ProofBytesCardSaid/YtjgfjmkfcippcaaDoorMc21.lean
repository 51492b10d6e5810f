/-
  Bytes as a law's argument, with their size.; What a row's list of variables gives: the table of digest's rounds.
-/
import Derived.Test.YtjgfjmkfcippcaaDoorTie
import Derived.Test.YtjgfjmkfcippcaaDoorCards
import Derived.ProofKit
import Derived.LaidMore
import Derived.Stop.Joined
import Derived.SevenTiedAt
import Derived.Lib.LaidTab
import Derived.Test.YtjgfjmkfcippcaaDoorMc2
import Derived.Test.YtjgfjmkfcippcaaDoorMc20
namespace Go.Proofs.YtjgfjmkfcippcaaDoor
set_option maxRecDepth 100000
open Go.ChangeShapes Go.WideShapes Go.ChangeAt Go.RowKit Go.Deep

section
variable {H : Type} {enc : TypeId × Value → H} {w : World} {base : Nat} {held : Bool}
theorem trod_bytes {fuel : Nat} {cs : List Value} {y : DataW H × List MemPlace} (h : DataW.trod enc Tryd.prog w base (fun _ => true) held fuel 64 cs = some y) :
    ∃ v xs, cs = [v] ∧ Rd w v xs ∧ (xs = [] ∨ ∃ el sp, y.1 = .slice el sp ∧ el.length = xs.length) := by
  rcases Deep.open_slice Tryd.underlying64 h with ⟨rfl, _⟩ | ⟨a, len, cap, m, n, D, Pl, rfl, hb, hl, hm, hmm, hy, hx⟩
  · exact ⟨_, [], rfl, Rd.nil w, .inl rfl⟩
  · rcases open_ints Tryd.underlying64 Tryd.underlying5 (by kernel_rfl) h with ⟨h0, _⟩ | ⟨a', len', cap', zs, hcs, _, hl', hm', hz, _, hx', hwf⟩
    · simp at h0
    · simp only [List.cons.injEq, Value.slice.injEq, Option.some.injEq, and_true] at hcs
      obtain ⟨rfl, rfl, rfl⟩ := hcs
      simp only [if_true] at hz
      have hl2 : (zs.take len).length = len := by simp; omega
      refine ⟨_, zs.take len, rfl, ?_, .inr ⟨_, _, by rw [hy], by simp; omega⟩⟩
      by_cases h0 : len = 0
      · subst h0
        exact ⟨some a, _, by rw [hl2], .inl (by simp)⟩
      · obtain ⟨b, o, sp⟩ := a
        have hsp : sp = none := by
          have := hx' 0 (by omega)
          simpa [Addr.add] using World.cell?_spot this
        subst hsp
        refine ⟨_, _, by rw [hl2], .inr ⟨b, o, rfl, fun i hi => ?_⟩⟩
        have h := hx' i (by omega)
        rw [addr_add] at h
        rw [h]
        simp [List.getD, show i < len by omega]
theorem reach46 : reachBytes ≤ 140737488355000 := by decide
theorem open_bytesS {r : Reach} {b0 : Nat} {v : Value} {d : DataW H} {p : List MemPlace} (hv : Value.okWide Tryd.prog w r b0 64 v) (h : DataW.Trod enc Tryd.prog w base (fun _ => true) held 64 v d p)
    (hs : ∀ n ∈ d.weights Tryd.prog 64, n ≤ reachBytes) : ∃ xs : List Int, Rd w v xs ∧ Bytes xs ∧ xs.length ≤ 140737488355000 := by
  have hr := reach46
  obtain ⟨xs, rx, bx, lx⟩ := open_bytes hv h
  obtain ⟨fuel, hf⟩ := h
  obtain ⟨v', xs', e, r', z⟩ := trod_bytes hf
  obtain ⟨q, c, rfl⟩ := rx.len
  obtain ⟨q', c', rfl⟩ := r'.len
  simp only [Value.cells, List.cons.injEq, Value.slice.injEq, and_true] at e
  refine ⟨xs, rx, bx, ?_⟩
  rcases z with rfl | ⟨el, sp, z1, z2⟩
  · have h5 : xs.length = ([] : List Int).length := e.2.1
    rw [h5]
    simp
  · simp only at z1
    rw [z1] at hs
    have h4 := (weights_slice Tryd.underlying64 hs).1
    rw [show Tryd.prog.bytesOf 5 = 1 by kernel_rfl, z2] at h4
    omega
end
end Go.Proofs.YtjgfjmkfcippcaaDoor
namespace Go.Proofs.YtjgfjmkfcippcaaDoor
open Go.ChangeShapes Go.WideShapes Go.ChangeAt Go.RowKit
set_option maxRecDepth 100000

def rootsL : List (String × DataW Unit) := [("bascule/digest.roots", Rows.laid_bascule_digest_roots)]
theorem gRoots : Tryd.prog.globalNamed "bascule/digest.roots" = some 1 := by kernel_rfl
theorem gRootsType : (Tryd.prog.globals[1]?).map (·.type) = some 155 := by kernel_rfl
theorem rootsData : (Rows.laid_bascule_digest_roots : DataW Unit) = Lib.tabData .u32 rootsZ := by rfl
theorem tbl_of {W : World} (h : laidMetH Tryd.prog rootsL W) : Tbl W := by
  have h' : laidMetH Tryd.prog (("bascule/digest.roots", Lib.tabData .u32 rootsZ) :: []) W := by rw [← rootsData]; exact h
  have := Lib.tabIs_of_head (rest := []) gRoots gRootsType Tryd.underlying155 Tryd.underlying147 (by kernel_rfl) (by kernel_rfl) h'
  intro i hi
  exact this.cell gRoots i (by have : rootsZ.length = 64 := rfl; omega)
/-- The door's own heap meets the condition. -/
theorem door_met (os : Os) (args : Array Value) : laidMetH Tryd.prog rootsL ((World.doorLaid Tryd.prog 400 os).forCall (fun _ _ => 0) ⟨#[], args, []⟩).memory :=
  laidMetH_of_parts3 (fuel := 8) (laidMet_of_run' 8 (by kernel_rfl) (by kernel_rfl)) (by kernel_rfl) (by kernel_rfl)
end Go.Proofs.YtjgfjmkfcippcaaDoor
