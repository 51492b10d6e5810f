/-
  The roots, by the kernel.
-/
import Derived.Test.YtlmpmnngheifkaaDoorPrimes
namespace Go.Proofs.YtlmpmnngheifkaaDoor
set_option maxRecDepth 100000

def h0L : List Int := [1779033703, 3144134277, 1013904242, 2773480762, 1359893119, 2600822924, 528734635, 1541459225]
theorem roots2 : ∀ j : Fin 8, ((rootM (plist.getD j.val 0) 2 : Nat) : Int) = h0L.getD j.val 0 := by decide +kernel
theorem roots3_0 : ∀ j : Fin 4, ((rootM (plist.getD (0 + j.val) 0) 3 : Nat) : Int) = rootsZ.getD (0 + j.val) 0 := by decide +kernel
theorem roots3_1 : ∀ j : Fin 4, ((rootM (plist.getD (4 + j.val) 0) 3 : Nat) : Int) = rootsZ.getD (4 + j.val) 0 := by decide +kernel
theorem roots3_2 : ∀ j : Fin 4, ((rootM (plist.getD (8 + j.val) 0) 3 : Nat) : Int) = rootsZ.getD (8 + j.val) 0 := by decide +kernel
theorem roots3_3 : ∀ j : Fin 4, ((rootM (plist.getD (12 + j.val) 0) 3 : Nat) : Int) = rootsZ.getD (12 + j.val) 0 := by decide +kernel
theorem roots3_4 : ∀ j : Fin 4, ((rootM (plist.getD (16 + j.val) 0) 3 : Nat) : Int) = rootsZ.getD (16 + j.val) 0 := by decide +kernel
theorem roots3_5 : ∀ j : Fin 4, ((rootM (plist.getD (20 + j.val) 0) 3 : Nat) : Int) = rootsZ.getD (20 + j.val) 0 := by decide +kernel
theorem roots3_6 : ∀ j : Fin 4, ((rootM (plist.getD (24 + j.val) 0) 3 : Nat) : Int) = rootsZ.getD (24 + j.val) 0 := by decide +kernel
theorem roots3_7 : ∀ j : Fin 4, ((rootM (plist.getD (28 + j.val) 0) 3 : Nat) : Int) = rootsZ.getD (28 + j.val) 0 := by decide +kernel
theorem roots3_8 : ∀ j : Fin 4, ((rootM (plist.getD (32 + j.val) 0) 3 : Nat) : Int) = rootsZ.getD (32 + j.val) 0 := by decide +kernel
theorem roots3_9 : ∀ j : Fin 4, ((rootM (plist.getD (36 + j.val) 0) 3 : Nat) : Int) = rootsZ.getD (36 + j.val) 0 := by decide +kernel
theorem roots3_10 : ∀ j : Fin 4, ((rootM (plist.getD (40 + j.val) 0) 3 : Nat) : Int) = rootsZ.getD (40 + j.val) 0 := by decide +kernel
theorem roots3_11 : ∀ j : Fin 4, ((rootM (plist.getD (44 + j.val) 0) 3 : Nat) : Int) = rootsZ.getD (44 + j.val) 0 := by decide +kernel
theorem roots3_12 : ∀ j : Fin 4, ((rootM (plist.getD (48 + j.val) 0) 3 : Nat) : Int) = rootsZ.getD (48 + j.val) 0 := by decide +kernel
theorem roots3_13 : ∀ j : Fin 4, ((rootM (plist.getD (52 + j.val) 0) 3 : Nat) : Int) = rootsZ.getD (52 + j.val) 0 := by decide +kernel
theorem roots3_14 : ∀ j : Fin 4, ((rootM (plist.getD (56 + j.val) 0) 3 : Nat) : Int) = rootsZ.getD (56 + j.val) 0 := by decide +kernel
theorem roots3_15 : ∀ j : Fin 4, ((rootM (plist.getD (60 + j.val) 0) 3 : Nat) : Int) = rootsZ.getD (60 + j.val) 0 := by decide +kernel
theorem roots3 (j : Fin 64) : ((rootM (plist.getD j.val 0) 3 : Nat) : Int) = rootsZ.getD j.val 0 := by
  obtain ⟨j, hj⟩ := j
  show ((rootM (plist.getD j 0) 3 : Nat) : Int) = rootsZ.getD j 0
  obtain ⟨q, r, hq, hr, rfl⟩ : ∃ q r, q < 16 ∧ r < 4 ∧ j = 4 * q + r := ⟨j / 4, j % 4, by omega, by omega, by omega⟩
  rcases (by omega : q = 0 ∨ q = 1 ∨ q = 2 ∨ q = 3 ∨ q = 4 ∨ q = 5 ∨ q = 6 ∨ q = 7 ∨ q = 8 ∨ q = 9 ∨ q = 10 ∨ q = 11 ∨ q = 12 ∨ q = 13 ∨ q = 14 ∨ q = 15) with rfl | rfl | rfl | rfl | rfl | rfl | rfl | rfl | rfl | rfl | rfl | rfl | rfl | rfl | rfl | rfl
  · exact roots3_0 ⟨r, hr⟩
  · exact roots3_1 ⟨r, hr⟩
  · exact roots3_2 ⟨r, hr⟩
  · exact roots3_3 ⟨r, hr⟩
  · exact roots3_4 ⟨r, hr⟩
  · exact roots3_5 ⟨r, hr⟩
  · exact roots3_6 ⟨r, hr⟩
  · exact roots3_7 ⟨r, hr⟩
  · exact roots3_8 ⟨r, hr⟩
  · exact roots3_9 ⟨r, hr⟩
  · exact roots3_10 ⟨r, hr⟩
  · exact roots3_11 ⟨r, hr⟩
  · exact roots3_12 ⟨r, hr⟩
  · exact roots3_13 ⟨r, hr⟩
  · exact roots3_14 ⟨r, hr⟩
  · exact roots3_15 ⟨r, hr⟩
end Go.Proofs.YtlmpmnngheifkaaDoor
