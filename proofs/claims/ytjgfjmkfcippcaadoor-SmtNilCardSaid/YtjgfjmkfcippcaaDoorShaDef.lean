/-
  SHA-256, plain, as the program's walk spells it.
-/
import Derived.Test.YtjgfjmkfcippcaaDoorRot
namespace Go.Proofs.YtjgfjmkfcippcaaDoor
open Go.RowKit

/-- A word out of four bytes. -/
def wd (B : Nat → Int) (i : Nat) : Int := bits .or .u32 (bits .or .u32 (bits .or .u32 (B (4 * i) * 16777216) (B (4 * i + 1) * 65536)) (B (4 * i + 2) * 256)) (B (4 * i + 3))
def sg0 (x : Int) : Int := bits .xor .u32 (bits .xor .u32 (rk (-7) x) (rk (-18) x)) (x / 8)
def sg1 (x : Int) : Int := bits .xor .u32 (bits .xor .u32 (rk (-17) x) (rk (-19) x)) (x / 1024)
def p32 (x y : Int) : Int := (x + y) % 4294967296
def nxt (f : Nat → Int) (i : Nat) : Int := (f (i - 16) + sg0 (f (i - 15)) + f (i - 7) + sg1 (f (i - 2))) % 4294967296
/-- The words of a block. -/
def wrow (B : Nat → Int) : Nat → List Int
  | 0 => []
  | n + 1 => wrow B n ++ [if n < 16 then wd B n else nxt (fun j => (wrow B n).getD j 0) n]
def W (B : Nat → Int) (j : Nat) : Int := (wrow B (j + 1)).getD j 0
theorem wrow_len (B : Nat → Int) : ∀ n, (wrow B n).length = n
  | 0 => rfl
  | n + 1 => by simp [wrow, wrow_len B n]
theorem wrow_get (B : Nat → Int) (j : Nat) : ∀ n, j < n → (wrow B n).getD j 0 = W B j
  | 0, h => by omega
  | n + 1, h => by
    by_cases e : j = n
    · subst e; rfl
    · have l := wrow_len B n
      have hj : j < (wrow B n).length := by omega
      rw [← wrow_get B j n (by omega), wrow]
      simp only [List.getD_eq_getElem?_getD]
      rw [List.getElem?_append_left hj]
theorem W_low (B : Nat → Int) {n : Nat} (h : n < 16) : W B n = wd B n := by
  unfold W
  rw [wrow, if_pos h]
  have l := wrow_len B n
  simp [List.getD_eq_getElem?_getD, l]
theorem nxt_cong {f g : Nat → Int} {n : Nat} (h0 : 16 ≤ n) (h : ∀ j, j < n → f j = g j) : nxt f n = nxt g n := by
  unfold nxt
  rw [h (n - 16) (by omega), h (n - 15) (by omega), h (n - 7) (by omega), h (n - 2) (by omega)]
theorem W_high (B : Nat → Int) {n : Nat} (h : 16 ≤ n) : W B n = nxt (W B) n := by
  have l := wrow_len B n
  have e : W B n = nxt (fun j => (wrow B n).getD j 0) n := by
    unfold W
    rw [wrow, if_neg (by omega)]
    simp [List.getD_eq_getElem?_getD, l]
  rw [e]
  exact nxt_cong h (fun j hj => wrow_get B j n hj)

/-- The table of the rounds. -/
def rootsZ : List Int := [1116352408, 1899447441, 3049323471, 3921009573, 961987163, 1508970993, 2453635748, 2870763221, 3624381080, 310598401, 607225278, 1426881987, 1925078388, 2162078206, 2614888103, 3248222580, 3835390401, 4022224774, 264347078, 604807628, 770255983, 1249150122, 1555081692, 1996064986, 2554220882, 2821834349, 2952996808, 3210313671, 3336571891, 3584528711, 113926993, 338241895, 666307205, 773529912, 1294757372, 1396182291, 1695183700, 1986661051, 2177026350, 2456956037, 2730485921, 2820302411, 3259730800, 3345764771, 3516065817, 3600352804, 4094571909, 275423344, 430227734, 506948616, 659060556, 883997877, 958139571, 1322822218, 1537002063, 1747873779, 1955562222, 2024104815, 2227730452, 2361852424, 2428436474, 2756734187, 3204031479, 3329325298]
def rt (i : Nat) : Int := rootsZ.getD i 0

/-- The state: eight words. -/
structure St8 where
  a : Int
  b : Int
  c : Int
  d : Int
  e : Int
  f : Int
  g : Int
  h : Int
def fa (x : Int) : Int := bits .xor .u32 (bits .xor .u32 (rk (-2) x) (rk (-13) x)) (rk (-22) x)
def fe (x : Int) : Int := bits .xor .u32 (bits .xor .u32 (rk (-6) x) (rk (-11) x)) (rk (-25) x)
def notI (x : Int) : Int := bits .xor .u32 (if IntKind.u32.signed = true then -1 else IntKind.u32.max) x
def fch (e f g : Int) : Int := bits .xor .u32 (bits .and .u32 e f) (bits .and .u32 (notI e) g)
def fmj (a b c : Int) : Int := bits .xor .u32 (bits .xor .u32 (bits .and .u32 a b) (bits .and .u32 a c)) (bits .and .u32 b c)
def St8.u1 (s : St8) (k w : Int) : Int := s.h + fe s.e + fch s.e s.f s.g + k + w
def St8.u2 (s : St8) : Int := fa s.a + fmj s.a s.b s.c
def St8.rnd (s : St8) (k w : Int) : St8 := ⟨(s.u1 k w % 4294967296 + s.u2 % 4294967296) % 4294967296, s.a, s.b, s.c, (s.d + s.u1 k w % 4294967296) % 4294967296, s.e, s.f, s.g⟩
def St8.rounds (s : St8) (B : Nat → Int) : Nat → St8
  | 0 => s
  | i + 1 => (s.rounds B i).rnd (rt i) (W B i)
def St8.add (s t : St8) : St8 := ⟨p32 s.a t.a, p32 s.b t.b, p32 s.c t.c, p32 s.d t.d, p32 s.e t.e, p32 s.f t.f, p32 s.g t.g, p32 s.h t.h⟩
def St8.mix (s : St8) (B : Nat → Int) : St8 := s.add (s.rounds B 64)
def St8.lst (s : St8) : List Int := [s.a, s.b, s.c, s.d, s.e, s.f, s.g, s.h]
def St8.agg (s : St8) : Value := .agg #[.int .u32 s.a, .int .u32 s.b, .int .u32 s.c, .int .u32 s.d, .int .u32 s.e, .int .u32 s.f, .int .u32 s.g, .int .u32 s.h]
end Go.Proofs.YtjgfjmkfcippcaaDoor
