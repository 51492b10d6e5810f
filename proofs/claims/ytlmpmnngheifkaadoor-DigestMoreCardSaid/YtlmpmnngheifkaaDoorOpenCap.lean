/-
  A slice of bytes with its room, and an int, as a law's arguments.
-/
import Derived.Test.YtlmpmnngheifkaaDoorOpenBytes
import Derived.Test.YtlmpmnngheifkaaDoorShaSt
namespace Go.Proofs.YtlmpmnngheifkaaDoor
open Go.ChangeShapes Go.WideShapes Go.ChangeAt Go.RowKit Go.Deep

section
variable {H : Type} {enc : TypeId × Value → H} {w : World} {base : Nat} {held : Bool}
theorem open_bytesC {r : Reach} {b0 : Nat} {v : Value} {d : DataW H} {p : List MemPlace} (hv : Value.okWide Tryd.prog w r b0 22 v) (h : DataW.Trod enc Tryd.prog w base (fun _ => true) held 22 v d p) :
    ∃ xs : List Int, RdC w v xs ∧ Bytes xs ∧ xs.length ≤ maxLen := by
  obtain ⟨xs, ⟨q, c, rfl, hx⟩, hb, hl⟩ := open_bytes hv h
  refine ⟨xs, ⟨q, c, rfl, ?_, hx⟩, hb, hl⟩
  obtain ⟨fuel, hf⟩ := h
  rcases open_ints Tryd.underlying22 Tryd.underlying5 (by kernel_rfl) hf with ⟨h0, _⟩ | ⟨a, len', cap', zs, hcs, _, hl', hm, hz, _, hx', hwf⟩
  · simp [Value.cells] at h0
    obtain ⟨_, e2, _⟩ := h0
    rw [e2]; exact Nat.zero_le _
  · simp [Value.cells] at hcs
    obtain ⟨e1, e2, e3⟩ := hcs
    omega
end
end Go.Proofs.YtlmpmnngheifkaaDoor
