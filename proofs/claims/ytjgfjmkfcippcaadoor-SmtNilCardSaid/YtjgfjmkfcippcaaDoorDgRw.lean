/-
  Rows of bytes, read with their room; a hash's cells.
-/
import Derived.Test.YtjgfjmkfcippcaaDoorFrameW
import Derived.Test.YtjgfjmkfcippcaaDoorShaSum
namespace Go.Proofs.YtjgfjmkfcippcaaDoor
open Go.RowKit
set_option maxRecDepth 100000

theorem HashAt.cell {w : World} {b : Nat} {F : List Int} (h : HashAt w b F) {i : Nat} (hi : i < F.length) : w.cell? ⟨b, i, none⟩ = some (.int .u8 (F.getD i 0)) := by
  rw [cell_of_row _ _ _ _ _ _ h]
  simp [hc, List.getD, hi]
theorem rdc_of_rw {w : World} {b : Nat} {T : TypeId} {xs : List Int} (h : RwK .u8 w b xs.length T (fun i => xs.getD i 0)) : RdC w (.slice (some ⟨b, 0, none⟩) xs.length xs.length) xs :=
  ⟨_, _, rfl, Nat.le_refl _, .inr ⟨b, 0, rfl, fun i hi => by rw [Nat.zero_add]; exact h.cell i hi⟩⟩
end Go.Proofs.YtjgfjmkfcippcaaDoor
