/-
  The walk of basculeref02.turn.
-/
import Derived.Test.YtjgfjmkfcippcaaDoorShaRef
namespace Go.Proofs.YtjgfjmkfcippcaaDoor
open Go.RowKit
set_option maxRecDepth 100000

theorem turn_any (x : Int) (n : Nat) (hn : n ≤ 31) (w : World) : Calls Tryd.prog 121 #[.int .u32 x, .int .u64 n] w fun e w' => e = .returned (.int .u32 (tn n x)) ∧ w' = w := by
  have HR : Hid (tn n x = (x / 2 ^ n + x * 2 ^ (32 - n) % 4294967296) % 4294967296) := by exact (rfl : tn n x = _)
  have e1 : min n 32 = n := by omega
  have e2 : min ((32 : Int) - (n : Int)).toNat 32 = 32 - n := by omega
  have h0 : (0 : Int) ≤ 32 - (n : Int) := by omega
  go_enter Tryd.func121, Tryd.ntmps121
  go_wp2_with fail
  rw [← HR.out]
  go_ret
  exact ⟨rfl, rfl⟩
def tnI (k : Int) (x : Int) : Int := tn k.toNat x
theorem turn_i (x k : Int) (h0 : 0 ≤ k) (h1 : k ≤ 31) (w : World) : Calls Tryd.prog 121 #[.int .u32 x, .int .u64 k] w fun e w' => e = .returned (.int .u32 (tnI k x)) ∧ w' = w := by
  obtain ⟨n, rfl⟩ := Int.eq_ofNat_of_zero_le h0
  exact turn_any x n (by omega) w
theorem tnI7 {x : Int} (hx : U32 x) : tnI 7 x = rk (-7) x := tn7 hx
theorem tnI18 {x : Int} (hx : U32 x) : tnI 18 x = rk (-18) x := tn18 hx
theorem tnI17 {x : Int} (hx : U32 x) : tnI 17 x = rk (-17) x := tn17 hx
theorem tnI19 {x : Int} (hx : U32 x) : tnI 19 x = rk (-19) x := tn19 hx
theorem tnI6 {x : Int} (hx : U32 x) : tnI 6 x = rk (-6) x := tn6 hx
theorem tnI11 {x : Int} (hx : U32 x) : tnI 11 x = rk (-11) x := tn11 hx
theorem tnI25 {x : Int} (hx : U32 x) : tnI 25 x = rk (-25) x := tn25 hx
theorem tnI2 {x : Int} (hx : U32 x) : tnI 2 x = rk (-2) x := tn2 hx
theorem tnI13 {x : Int} (hx : U32 x) : tnI 13 x = rk (-13) x := tn13 hx
theorem tnI22 {x : Int} (hx : U32 x) : tnI 22 x = rk (-22) x := tn22 hx
end Go.Proofs.YtjgfjmkfcippcaaDoor
