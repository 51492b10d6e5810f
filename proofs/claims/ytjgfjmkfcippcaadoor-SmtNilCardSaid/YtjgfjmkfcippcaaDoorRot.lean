/-
  math/bits.RotateLeft32, walked.
-/
import Derived.Test.YtjgfjmkfcippcaaDoorRowK
namespace Go.Proofs.YtjgfjmkfcippcaaDoor
open Go.RowKit
set_option maxRecDepth 100000

/-- How far to the left. -/
def rsh (k : Int) : Nat := (bits .and .u64 (IntKind.u64.wrap k) 31).toNat
theorem rsh_lt (k : Int) : ∃ s : Nat, bits .and .u64 (IntKind.u64.wrap k) 31 = (s : Int) ∧ s ≤ 31 := by
  refine ⟨(BitVec.ofInt 64 (IntKind.u64.wrap k) &&& BitVec.ofInt 64 31).toNat, ?_, ?_⟩
  · show IntKind.u64.wrap _ = _
    have h : (BitVec.ofInt 64 (IntKind.u64.wrap k) &&& BitVec.ofInt 64 31).toNat < 2 ^ 64 := BitVec.isLt _
    rw [IntKind.wrap_u64]
    show ((((BitVec.ofInt 64 (IntKind.u64.wrap k) &&& BitVec.ofInt 64 31).toNat : Nat) : Int)) % _ = _
    omega
  · rw [BitVec.toNat_and]
    have : (BitVec.ofInt 64 31).toNat = 31 := by decide
    rw [this]
    have := Nat.and_lt_two_pow (n := 5) (BitVec.ofInt 64 (IntKind.u64.wrap k)).toNat (y := 31) (by decide)
    omega
/-- Turned to the left, as the library does it. -/
def rk (k x : Int) : Int := bits .or .u32 (x * 2 ^ rsh k % 4294967296) (x / 2 ^ (32 - rsh k))

theorem rot_any (x k : Int) (w : World) : Calls Tryd.prog 113 #[.int .u32 x, .int .i64 k] w fun e w' => e = .returned (.int .u32 (rk k x)) ∧ w' = w := by
  obtain ⟨s, hs, h1⟩ := rsh_lt k
  have HR : Hid (rk k x = bits .or .u32 (x * 2 ^ s % 4294967296) (x / 2 ^ (32 - s))) := by
    unfold rk rsh
    rw [hs]
    rfl
  have e1 : min s 32 = s := by omega
  have e2 : min ((32 : Int) - (s : Int)).toNat 32 = 32 - s := by omega
  have h0 : (0 : Int) ≤ 32 - (s : Int) := by omega
  go_enter Tryd.func113, Tryd.ntmps113
  go_wp2_with fail
  rw [← HR.out]
  go_ret
  exact ⟨rfl, rfl⟩
end Go.Proofs.YtjgfjmkfcippcaaDoor
