/-
  SHA-256, plain: what the document's spelling and the program's have in common.
-/
import Derived.Test.YtjgfjmkfcippcaaDoorShaPad
import Derived.Laws.BitsAllLaws
namespace Go.Proofs.YtjgfjmkfcippcaaDoor
open Go.RowKit
set_option maxRecDepth 100000

def U32 (x : Int) : Prop := 0 ≤ x ∧ x < 4294967296
theorem U32.mod (x : Int) : U32 (x % 4294967296) := by unfold U32; omega
theorem wrap_u32_u (x : Int) : U32 (IntKind.u32.wrap x) := by rw [IntKind.wrap_u32]; exact U32.mod x
theorem or_U32 (a b : Int) : U32 (bits .or .u32 a b) := wrap_u32_u _
theorem xor_U32 (a b : Int) : U32 (bits .xor .u32 a b) := wrap_u32_u _
theorem and_U32 (a b : Int) : U32 (bits .and .u32 a b) := wrap_u32_u _
theorem rk_U32 (k x : Int) : U32 (rk k x) := or_U32 _ _

/-- What is joined has no bit in common: the sum. -/
theorem or_add {a b : Nat} {s : Nat} (hb : b < 2 ^ s) (ha : a * 2 ^ s < 4294967296) (hb32 : b < 4294967296) : bits .or .u32 ((a * 2 ^ s : Nat) : Int) (b : Int) = ((a * 2 ^ s + b : Nat) : Int) := by
  rw [u32_or _ _ (by omega) (by omega) (by omega) (by omega)]
  congr 1
  rw [Int.toNat_natCast, Int.toNat_natCast, ← Nat.shiftLeft_eq, Nat.shiftLeft_add_eq_or_of_lt hb]
theorem wd_sum {x0 x1 x2 x3 : Int} (h0 : 0 ≤ x0 ∧ x0 < 256) (h1 : 0 ≤ x1 ∧ x1 < 256) (h2 : 0 ≤ x2 ∧ x2 < 256) (h3 : 0 ≤ x3 ∧ x3 < 256) :
    bits .or .u32 (bits .or .u32 (bits .or .u32 (x0 * 16777216) (x1 * 65536)) (x2 * 256)) x3 = x0 * 16777216 + x1 * 65536 + x2 * 256 + x3 := by
  obtain ⟨y0, rfl⟩ := Int.eq_ofNat_of_zero_le h0.1
  obtain ⟨y1, rfl⟩ := Int.eq_ofNat_of_zero_le h1.1
  obtain ⟨y2, rfl⟩ := Int.eq_ofNat_of_zero_le h2.1
  obtain ⟨y3, rfl⟩ := Int.eq_ofNat_of_zero_le h3.1
  have e1 := or_add (a := y0) (b := y1 * 65536) (s := 24) (by omega) (by omega) (by omega)
  have e2 := or_add (a := y0 * 256 + y1) (b := y2 * 256) (s := 16) (by omega) (by omega) (by omega)
  have e3 := or_add (a := y0 * 65536 + y1 * 256 + y2) (b := y3) (s := 8) (by omega) (by omega) (by omega)
  rw [show ((y0 : Int) * 16777216) = ((y0 * 2 ^ 24 : Nat) : Int) by omega, show ((y1 : Int) * 65536) = ((y1 * 65536 : Nat) : Int) by omega, e1,
    show ((y0 * 2 ^ 24 + y1 * 65536 : Nat) : Int) = (((y0 * 256 + y1) * 2 ^ 16 : Nat) : Int) by omega, show ((y2 : Int) * 256) = ((y2 * 256 : Nat) : Int) by omega, e2,
    show (((y0 * 256 + y1) * 2 ^ 16 + y2 * 256 : Nat) : Int) = (((y0 * 65536 + y1 * 256 + y2) * 2 ^ 8 : Nat) : Int) by omega, e3]
  omega
/-- Turned to the right, as the document does it. -/
def tn (n : Nat) (x : Int) : Int := (x / 2 ^ n + x * 2 ^ (32 - n) % 4294967296) % 4294967296
theorem tn_rk {k : Int} {s n : Nat} (hk : rsh k = s) (hs : s + n = 32) (hs1 : 1 ≤ s) {x : Int} (hx : U32 x) : tn n x = rk k x := by
  obtain ⟨y, rfl⟩ := Int.eq_ofNat_of_zero_le hx.1
  have hy : y < 4294967296 := by have := hx.2; omega
  have e32 : 4294967296 = 2 ^ n * 2 ^ s := by rw [← Nat.pow_add, Nat.add_comm, hs]
  have hdiv : y / 2 ^ n < 2 ^ s := by
    rw [Nat.div_lt_iff_lt_mul (Nat.two_pow_pos n), Nat.mul_comm, ← e32]; exact hy
  have hm : y * 2 ^ s % 4294967296 = y % 2 ^ n * 2 ^ s := by rw [e32, Nat.mul_mod_mul_right]
  have hml : y % 2 ^ n * 2 ^ s < 4294967296 := by
    rw [e32]; exact Nat.mul_lt_mul_of_pos_right (Nat.mod_lt _ (Nat.two_pow_pos n)) (Nat.two_pow_pos s)
  have hs32 : 2 ^ s ≤ 4294967296 := by
    have : (2 : Nat) ^ s ≤ 2 ^ 32 := Nat.pow_le_pow_right (by omega) (by omega)
    simpa using this
  have e1 : ((y : Int) * 2 ^ s % 4294967296) = ((y % 2 ^ n * 2 ^ s : Nat) : Int) := by rw [← hm, Int.natCast_emod, Int.natCast_mul, Int.natCast_pow]; rfl
  have e2 : ((y : Int) / 2 ^ n) = ((y / 2 ^ n : Nat) : Int) := by rw [Int.natCast_ediv, Int.natCast_pow]; rfl
  have hn : 32 - s = n := by omega
  have hn2 : 32 - n = s := by omega
  unfold tn rk
  rw [hk, hn, hn2, e1, e2, or_add hdiv hml (by omega)]
  have : (y / 2 ^ n : Nat) + y % 2 ^ n * 2 ^ s < 4294967296 := by
    have h1 : y % 2 ^ n * 2 ^ s + 2 ^ s ≤ 4294967296 := by
      rw [e32, ← Nat.succ_mul]
      exact Nat.mul_le_mul_right _ (Nat.mod_lt _ (Nat.two_pow_pos n))
    omega
  generalize y / 2 ^ n = A at this ⊢
  generalize y % 2 ^ n * 2 ^ s = C at this ⊢
  omega
theorem tn7 {x : Int} (hx : U32 x) : tn 7 x = rk (-7) x := tn_rk (by decide) (s := 25) rfl (by omega) hx
theorem tn18 {x : Int} (hx : U32 x) : tn 18 x = rk (-18) x := tn_rk (by decide) (s := 14) rfl (by omega) hx
theorem tn17 {x : Int} (hx : U32 x) : tn 17 x = rk (-17) x := tn_rk (by decide) (s := 15) rfl (by omega) hx
theorem tn19 {x : Int} (hx : U32 x) : tn 19 x = rk (-19) x := tn_rk (by decide) (s := 13) rfl (by omega) hx
theorem tn6 {x : Int} (hx : U32 x) : tn 6 x = rk (-6) x := tn_rk (by decide) (s := 26) rfl (by omega) hx
theorem tn11 {x : Int} (hx : U32 x) : tn 11 x = rk (-11) x := tn_rk (by decide) (s := 21) rfl (by omega) hx
theorem tn25 {x : Int} (hx : U32 x) : tn 25 x = rk (-25) x := tn_rk (by decide) (s := 7) rfl (by omega) hx
theorem tn2 {x : Int} (hx : U32 x) : tn 2 x = rk (-2) x := tn_rk (by decide) (s := 30) rfl (by omega) hx
theorem tn13 {x : Int} (hx : U32 x) : tn 13 x = rk (-13) x := tn_rk (by decide) (s := 19) rfl (by omega) hx
theorem tn22 {x : Int} (hx : U32 x) : tn 22 x = rk (-22) x := tn_rk (by decide) (s := 10) rfl (by omega) hx
theorem notI_sub {x : Int} (hx : U32 x) : notI x = (4294967295 - x) % 4294967296 := by
  obtain ⟨y, rfl⟩ := Int.eq_ofNat_of_zero_le hx.1
  have hy : y < 4294967296 := by have := hx.2; omega
  show IntKind.u32.wrap ((BitVec.ofInt 32 4294967295 ^^^ BitVec.ofInt 32 (y : Int)).toNat : Int) = _
  rw [show BitVec.ofInt 32 4294967295 = BitVec.allOnes 32 by decide, BitVec.allOnes_xor, BitVec.toNat_not, BitVec.ofInt_natCast, BitVec.toNat_ofNat, IntKind.wrap_u32, Nat.mod_eq_of_lt (by omega : y < 2 ^ 32)]
  omega

structure St8.ok (s : St8) : Prop where
  a : U32 s.a
  b : U32 s.b
  c : U32 s.c
  d : U32 s.d
  e : U32 s.e
  f : U32 s.f
  g : U32 s.g
  h : U32 s.h
theorem St8.ok.rnd {s : St8} (h : s.ok) (k w : Int) : (s.rnd k w).ok := ⟨U32.mod _, h.a, h.b, h.c, U32.mod _, h.e, h.f, h.g⟩
theorem St8.ok.rounds {s : St8} (h : s.ok) (B : Nat → Int) : ∀ i, (s.rounds B i).ok
  | 0 => h
  | i + 1 => (St8.ok.rounds h B i).rnd _ _
theorem St8.mix_ok (s : St8) (B : Nat → Int) : (s.mix B).ok := ⟨U32.mod _, U32.mod _, U32.mod _, U32.mod _, U32.mod _, U32.mod _, U32.mod _, U32.mod _⟩
theorem iv_ok : iv.ok := ⟨⟨by decide, by decide⟩, ⟨by decide, by decide⟩, ⟨by decide, by decide⟩, ⟨by decide, by decide⟩, ⟨by decide, by decide⟩, ⟨by decide, by decide⟩, ⟨by decide, by decide⟩, ⟨by decide, by decide⟩⟩
theorem shaSt_ok (xs : List Int) : ∀ i, (shaSt xs i).ok
  | 0 => iv_ok
  | _ + 1 => St8.mix_ok _ _
theorem W_U32 (B : Nat → Int) (n : Nat) : U32 (W B n) := by
  by_cases h : n < 16
  · rw [W_low B h]; exact or_U32 _ _
  · rw [W_high B (by omega)]; exact U32.mod _
end Go.Proofs.YtjgfjmkfcippcaaDoor
