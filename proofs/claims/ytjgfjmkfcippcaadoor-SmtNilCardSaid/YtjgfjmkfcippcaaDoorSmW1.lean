/-
  Package smt: the small walks on a map of one pair: made, bit, here, climb, above.
-/
import Derived.Test.YtjgfjmkfcippcaaDoorSmNd
import Derived.Test.YtjgfjmkfcippcaaDoorSmChain
import Derived.Test.YtjgfjmkfcippcaaDoorReg
namespace Go.Proofs.YtjgfjmkfcippcaaDoor
open Go.RowKit
set_option maxRecDepth 100000

set_option maxHeartbeats 2000000 in
theorem made_yes {w : World} {p m : Nat} (h : w.cell? ⟨p, 0, none⟩ = some (.map (some m))) : Calls Tryd.prog 47 #[.pointer (some ⟨p, 0, none⟩)] w fun e w' => e = .returned (.bool true) ∧ w' = w := by
  have hm : ∀ w : World, (binOp BinOp.neq 39 (.map (some m)) (.map none)).run Tryd.prog w = .ok (.bool true) w := fun w => by kernel_rfl
  go_enter Tryd.func47, Tryd.ntmps47
  go_wp2_with fail
  go_ret
  exact ⟨rfl, rfl⟩
set_option maxHeartbeats 2000000 in
theorem made_none {w : World} : Calls Tryd.prog 47 #[.pointer none] w fun e w' => e = .returned (.bool false) ∧ w' = w := by
  go_enter Tryd.func47, Tryd.ntmps47
  go_wp2_with fail
  go_ret
  exact ⟨rfl, rfl⟩
set_option maxHeartbeats 2000000 in
theorem made_no {w : World} {p : Nat} (h : w.cell? ⟨p, 0, none⟩ = some (.map none)) : Calls Tryd.prog 47 #[.pointer (some ⟨p, 0, none⟩)] w fun e w' => e = .returned (.bool false) ∧ w' = w := by
  have hm : ∀ w : World, (binOp BinOp.neq 39 (.map none) (.map none)).run Tryd.prog w = .ok (.bool false) w := fun w => by kernel_rfl
  go_enter Tryd.func47, Tryd.ntmps47
  go_wp2_with fail
  go_ret
  exact ⟨rfl, rfl⟩

theorem and_one {x : Nat} (hx : x < 9223372036854775808) : bits .and .i64 (x : Int) 1 = ((x % 2 : Nat) : Int) := by
  have h1 : (BitVec.ofInt 64 (x : Int)).toNat = x := by
    rw [BitVec.ofInt_natCast, BitVec.toNat_ofNat]; exact Nat.mod_eq_of_lt (by omega)
  have h2 : (BitVec.ofInt 64 (1 : Int)).toNat = 1 := by decide
  show IntKind.i64.wrap ((BitVec.ofInt 64 (x : Int) &&& BitVec.ofInt 64 (1 : Int)).toNat : Int) = _
  rw [BitVec.toNat_and, h1, h2, Nat.and_one_is_mod]
  exact IntWalk.i64_in _ (by omega)
set_option maxHeartbeats 2000000 in
theorem bit_any {w : World} {K : List Int} {i : Nat} (hK : K.length = 32) (bK : Bytes K) (hi : i < 256) : Calls Tryd.prog 51 #[.agg (hc K).toArray, .int .i64 i] w fun e w' => e = .returned (.int .i64 (bitI K i)) ∧ Below w.heap.size w w' := by
  have H0 := HashAt.new w K
  have B0 := Lib.hid ((Below.refl w.heap.size w).alloc (Nat.le_refl _) (.cells (hc K).toArray 23))
  have hc0 := H0.cell (i := i / 8) (by omega)
  have hb := bK.getD (i / 8)
  obtain ⟨x, hx⟩ : ∃ x : Nat, K.getD (i / 8) 0 = (x : Int) := ⟨(K.getD (i / 8) 0).toNat, by omega⟩
  have hR : Hid (bitI K i = ((x / 2 ^ (7 - i % 8) : Nat) : Int) % 2) := by
    show bitI K i = _
    unfold bitI
    rw [hx, Int.natCast_ediv, Int.natCast_pow]
    rfl
  rw [hx] at hc0 hb
  clear hx bK
  have e1 : ((i : Nat) : Int).tdiv 8 = ((i / 8 : Nat) : Int) := by
    rw [Int.tdiv_eq_ediv_of_nonneg (by omega)]; omega
  have e2 : ((i : Nat) : Int).tmod 8 = ((i % 8 : Nat) : Int) := by
    rw [Int.tmod_eq_emod_of_nonneg (by omega)]; omega
  have hlK := hc_len K
  have hs : x / 2 ^ (7 - i % 8) ≤ x := Nat.div_le_self _ _
  have hd : ((x : Int) / 2 ^ (7 - i % 8)) = ((x / 2 ^ (7 - i % 8) : Nat) : Int) := by rw [Int.natCast_ediv, Int.natCast_pow]; rfl
  generalize x / 2 ^ (7 - i % 8) = y at hs hd hR
  have e3 : wrap64 ((x : Int) / 2 ^ (7 - i % 8)) = (y : Int) := by
    rw [hd]
    unfold wrap64
    omega
  have e4 := and_one (x := y) (by omega)
  clear hd
  go_enter Tryd.func51, Tryd.ntmps51
  go_wp2_with fail
  go_ret
  exact ⟨by rw [hR.out]; rfl, B0.out⟩
end Go.Proofs.YtjgfjmkfcippcaaDoor
