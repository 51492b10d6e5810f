/-
  The way up from a leaf, alone in a sparse tree: plain, and over naturals, so that the kernel reckons it.
-/
import Derived.Test.YtjgfjmkfcippcaaDoorSmNode
import Derived.Test.YtjgfjmkfcippcaaDoorShaN
namespace Go.Proofs.YtjgfjmkfcippcaaDoor
open Go.RowKit
set_option maxRecDepth 100000

/-- Bit i of a hash, the highest one first. -/
def bitI (K : List Int) (i : Nat) : Int := K.getD (i / 8) 0 / 2 ^ (7 - i % 8) % 2
/-- One level up, from level i + 1 to level i, with nothing beside. -/
def stp (K : List Int) (i : Nat) (h : List Int) : List Int := if bitI K i = 0 then abH h zero32 else abH zero32 h
/-- k levels up from the level f. -/
def upH (K : List Int) (f : Nat) (h : List Int) : Nat → List Int
  | 0 => h
  | k + 1 => stp K (f - 1 - k) (upH K f h k)
theorem stp_len (K : List Int) (i : Nat) (h : List Int) : (stp K i h).length = 32 := by unfold stp; split <;> exact abH_len _ _
theorem stp_bytes (K : List Int) (i : Nat) (h : List Int) : Bytes (stp K i h) := by unfold stp; split <;> exact abH_bytes _ _
theorem upH_len (K : List Int) (f : Nat) {h : List Int} (hh : h.length = 32) : ∀ k, (upH K f h k).length = 32
  | 0 => hh
  | _ + 1 => stp_len _ _ _
theorem upH_bytes (K : List Int) (f : Nat) {h : List Int} (hh : Bytes h) : ∀ k, Bytes (upH K f h k)
  | 0 => hh
  | _ + 1 => stp_bytes _ _ _
theorem stp_zero (K : List Int) (i : Nat) : stp K i zero32 = zero32 := by unfold stp; split <;> exact abH_zero
theorem upH_zero (K : List Int) (f : Nat) : ∀ k, upH K f zero32 k = zero32
  | 0 => rfl
  | k + 1 => by rw [upH, upH_zero K f k, stp_zero]
def upI (K : List Int) (f : Nat) : Nat → Nat → List Int → List Int
  | _, 0, h => h
  | k, n + 1, h => upI K f (k + 1) n (stp K (f - 1 - k) h)
theorem upH_add (K : List Int) (f : Nat) (h : List Int) : ∀ n k, upH K f h (k + n) = upI K f k n (upH K f h k)
  | 0, _ => rfl
  | n + 1, k => by
    rw [show k + (n + 1) = (k + 1) + n by omega, upH_add K f h n (k + 1)]
    rfl

/-! ### Over naturals -/
def z32N : List Nat := [0, 0, 0, 0, 0, 0, 0, 0, 0, 0, 0, 0, 0, 0, 0, 0, 0, 0, 0, 0, 0, 0, 0, 0, 0, 0, 0, 0, 0, 0, 0, 0]
theorem z32N_to : castL z32N = zero32 := by rfl
theorem z32N_by : ByN z32N := by
  intro x hx
  simp only [z32N, List.mem_cons, List.not_mem_nil, or_false, or_self] at hx
  omega
theorem castL_inj : ∀ {a b : List Nat}, castL a = castL b → a = b
  | [], [], _ => rfl
  | [], _ :: _, h => by simp [castL] at h
  | _ :: _, [], h => by simp [castL] at h
  | x :: a, y :: b, h => by
    simp only [castL, List.map_cons, List.cons.injEq] at h
    rw [castL_inj (a := a) (b := b) h.2, show x = y by omega]
def eqN : List Nat → List Nat → Bool
  | [], [] => true
  | a :: l, b :: m => cond (Nat.beq a b) (eqN l m) false
  | _, _ => false
theorem eqN_iff : ∀ {a b : List Nat}, eqN a b = true ↔ a = b
  | [], [] => by simp [eqN]
  | [], _ :: _ => by simp [eqN]
  | _ :: _, [] => by simp [eqN]
  | x :: a, y :: b => by
    have ih := eqN_iff (a := a) (b := b)
    by_cases e : x = y
    · subst e
      simp [eqN, ih]
    · have : Nat.beq x y = false := by
        rw [Bool.eq_false_iff]
        exact fun h => e (Nat.eq_of_beq_eq_true h)
      simp [eqN, this, e]
def frmN (t a b : List Nat) : List Nat := (t.length :: t) ++ ((be8N a.length ++ a) ++ (be8N b.length ++ b))
theorem frmN_to {s : ByteArray} {t : List Nat} (ht : sn s = castL t) (a b : List Nat) : frm (sn s) [castL a, castL b] = castL (frmN t a b) := by
  rw [ht]
  unfold frm frmN
  simp only [castL_app, castL_len, blobs, List.flatMap_cons, List.flatMap_nil, List.append_nil, be8_N]
  rfl
theorem be8N_by (n : Nat) : ByN (be8N n) := by
  intro x hx
  simp only [be8N, List.mem_cons, List.not_mem_nil, or_false] at hx
  rcases hx with rfl | rfl | rfl | rfl | rfl | rfl | rfl | rfl <;> exact Nat.mod_lt _ (by decide)
theorem ByN.app {a b : List Nat} (ha : ByN a) (hb : ByN b) : ByN (a ++ b) := by
  intro x hx
  rcases List.mem_append.1 hx with h | h
  · exact ha x h
  · exact hb x h
theorem frmN_by {t a b : List Nat} (ht : ByN t) (h255 : t.length < 256) (ha : ByN a) (hb : ByN b) : ByN (frmN t a b) := by
  refine ByN.app ?_ (((be8N_by _).app ha).app ((be8N_by _).app hb))
  intro x hx
  rcases List.mem_cons.1 hx with rfl | h
  · exact h255
  · exact ht x h
theorem be4N_by (n : Nat) : ByN (be4N n) := by
  intro x hx
  simp only [be4N, List.mem_cons, List.not_mem_nil, or_false] at hx
  rcases hx with rfl | rfl | rfl | rfl <;> exact Nat.mod_lt _ (by decide)
theorem shaN_by (xs : List Nat) : ByN (shaN xs) :=
  (((((((be4N_by _).app (be4N_by _)).app (be4N_by _)).app (be4N_by _)).app (be4N_by _)).app (be4N_by _)).app (be4N_by _)).app (be4N_by _)
def leafT : List Nat := [108, 101, 97, 102]
def pairT : List Nat := [112, 97, 105, 114]
theorem leafT_by : ByN leafT := by
  intro x hx
  simp only [leafT, List.mem_cons, List.not_mem_nil, or_false] at hx
  omega
theorem pairT_by : ByN pairT := by
  intro x hx
  simp only [pairT, List.mem_cons, List.not_mem_nil, or_false] at hx
  omega
def lfN (k v : List Nat) : List Nat := cond (eqN v z32N) z32N (shaN (frmN leafT k v))
def abN (a b : List Nat) : List Nat := cond (and (eqN a z32N) (eqN b z32N)) z32N (shaN (frmN pairT a b))
theorem eq_z32 (v : List Nat) : castL v = zero32 ↔ eqN v z32N = true := by
  rw [eqN_iff, ← z32N_to]
  exact ⟨castL_inj, fun h => by rw [h]⟩
theorem lfN_to {k v : List Nat} (hk : ByN k) (hv : ByN v) : lfH (castL k) (castL v) = castL (lfN k v) := by
  unfold lfH lfN
  by_cases h : eqN v z32N = true
  · rw [if_pos ((eq_z32 v).2 h), h]; exact z32N_to.symm
  · rw [if_neg (fun e => h ((eq_z32 v).1 e)), Bool.eq_false_iff.2 h, frmN_to (t := leafT) leaf_sn, sha_N (frmN_by leafT_by (by decide) hk hv)]
    rfl
theorem abN_to {a b : List Nat} (ha : ByN a) (hb : ByN b) : abH (castL a) (castL b) = castL (abN a b) := by
  unfold abH abN
  by_cases h : (and (eqN a z32N) (eqN b z32N)) = true
  · rw [h]
    rw [Bool.and_eq_true] at h
    rw [if_pos ⟨(eq_z32 a).2 h.1, (eq_z32 b).2 h.2⟩]
    exact z32N_to.symm
  · rw [if_neg (fun e => h (by rw [(eq_z32 a).1 e.1, (eq_z32 b).1 e.2]; rfl)), Bool.eq_false_iff.2 h, frmN_to (t := pairT) pair_sn, sha_N (frmN_by pairT_by (by decide) ha hb)]
    rfl
theorem abN_by (a b : List Nat) : ByN (abN a b) := by
  unfold abN
  cases and (eqN a z32N) (eqN b z32N)
  · exact shaN_by _
  · exact z32N_by
theorem lfN_by (k v : List Nat) : ByN (lfN k v) := by
  unfold lfN
  cases eqN v z32N
  · exact shaN_by _
  · exact z32N_by
def bitN (K : List Nat) (i : Nat) : Nat := Nat.mod (Nat.div (K.getD (i / 8) 0) (2 ^ (7 - i % 8))) 2
theorem bitN_to (K : List Nat) (i : Nat) : bitI (castL K) i = ((bitN K i : Nat) : Int) := by
  unfold bitI bitN
  rw [castL_get]
  show _ = ((K.getD (i / 8) 0 / 2 ^ (7 - i % 8) % 2 : Nat) : Int)
  rw [Int.natCast_emod, Int.natCast_ediv, Int.natCast_pow]
  rfl
def stpN (K : List Nat) (i : Nat) (h : List Nat) : List Nat := cond (Nat.beq (bitN K i) 0) (abN h z32N) (abN z32N h)
theorem stpN_to (K : List Nat) (i : Nat) {h : List Nat} (hh : ByN h) : stp (castL K) i (castL h) = castL (stpN K i h) := by
  unfold stp stpN
  rw [bitN_to, ← z32N_to, abN_to hh z32N_by, abN_to z32N_by hh]
  by_cases e : bitN K i = 0
  · rw [e]; rfl
  · rw [if_neg (by omega)]
    have : Nat.beq (bitN K i) 0 = false := by
      rw [Bool.eq_false_iff]
      exact fun h => e (Nat.eq_of_beq_eq_true h)
    rw [this]; rfl
theorem stpN_by (K : List Nat) (i : Nat) (h : List Nat) : ByN (stpN K i h) := by
  unfold stpN
  cases Nat.beq (bitN K i) 0 <;> exact abN_by _ _
def upN (K : List Nat) (f : Nat) : Nat → Nat → List Nat → List Nat
  | _, 0, h => h
  | k, n + 1, h => upN K f (k + 1) n (stpN K (f - 1 - k) h)
theorem upN_to (K : List Nat) (f : Nat) : ∀ n k {h : List Nat}, ByN h → upI (castL K) f k n (castL h) = castL (upN K f k n h) ∧ ByN (upN K f k n h)
  | 0, _, _, hh => ⟨rfl, hh⟩
  | n + 1, k, h, hh => by
    unfold upI upN
    rw [stpN_to K _ hh]
    exact upN_to K f n (k + 1) (stpN_by _ _ _)
/-- A further piece of the way, as the kernel reckoned it. -/
theorem up_more {K : List Nat} {f k n : Nat} {h : List Int} {a b : List Nat} (ha : upH (castL K) f h k = castL a ∧ ByN a) (hab : eqN (upN K f k n a) b = true) : upH (castL K) f h (k + n) = castL b ∧ ByN b := by
  have e := upN_to K f n k ha.2
  rw [eqN_iff.1 hab] at e
  exact ⟨by rw [upH_add, ha.1, e.1], e.2⟩
def k1N : List Nat := [1, 0, 0, 0, 0, 0, 0, 0, 0, 0, 0, 0, 0, 0, 0, 0, 0, 0, 0, 0, 0, 0, 0, 0, 0, 0, 0, 0, 0, 0, 0, 0]
def v2N : List Nat := [2, 0, 0, 0, 0, 0, 0, 0, 0, 0, 0, 0, 0, 0, 0, 0, 0, 0, 0, 0, 0, 0, 0, 0, 0, 0, 0, 0, 0, 0, 0, 0]
def rd0 : List Nat := [230, 229, 92, 170, 123, 30, 238, 46, 54, 112, 202, 237, 174, 145, 20, 36, 240, 231, 216, 209, 220, 222, 27, 30, 46, 86, 205, 164, 113, 153, 172, 249]
def rd1 : List Nat := [25, 239, 0, 162, 44, 12, 174, 186, 71, 4, 88, 74, 127, 17, 37, 124, 110, 106, 19, 44, 226, 245, 18, 86, 94, 205, 3, 254, 156, 235, 103, 85]
def rd2 : List Nat := [79, 138, 132, 187, 24, 192, 188, 176, 200, 111, 35, 115, 179, 123, 252, 173, 33, 69, 153, 138, 19, 239, 240, 12, 222, 137, 131, 83, 124, 70, 128, 26]
def rd3 : List Nat := [242, 253, 175, 213, 110, 4, 112, 42, 14, 132, 126, 125, 4, 63, 105, 63, 137, 132, 112, 177, 3, 195, 167, 43, 250, 121, 193, 164, 16, 218, 20, 66]
def rd4 : List Nat := [220, 194, 78, 75, 148, 177, 166, 211, 154, 192, 235, 99, 6, 145, 66, 198, 20, 7, 199, 101, 242, 165, 227, 74, 125, 50, 55, 27, 244, 188, 77, 158]
def rd5 : List Nat := [224, 140, 102, 57, 29, 138, 0, 136, 57, 138, 9, 80, 221, 188, 21, 83, 220, 37, 251, 255, 222, 77, 145, 237, 152, 188, 175, 208, 218, 166, 131, 35]
def rd6 : List Nat := [171, 41, 97, 128, 56, 191, 27, 76, 135, 61, 79, 43, 218, 129, 23, 239, 131, 11, 154, 186, 123, 52, 168, 157, 92, 208, 131, 20, 221, 200, 2, 182]
def rd7 : List Nat := [161, 139, 172, 96, 181, 146, 222, 124, 240, 218, 152, 141, 3, 150, 246, 28, 40, 37, 16, 10, 74, 165, 10, 21, 14, 162, 213, 79, 3, 114, 6, 190]
def rd8 : List Nat := [50, 144, 104, 165, 232, 128, 45, 255, 172, 234, 206, 52, 44, 79, 63, 187, 189, 36, 154, 37, 48, 174, 143, 96, 88, 13, 211, 147, 239, 73, 51, 205]
def rd9 : List Nat := [200, 58, 224, 59, 246, 176, 91, 181, 231, 71, 168, 191, 237, 241, 224, 196, 236, 209, 149, 35, 123, 74, 126, 74, 62, 74, 85, 138, 74, 178, 184, 119]
def rd10 : List Nat := [203, 225, 59, 251, 99, 112, 64, 203, 8, 117, 54, 253, 66, 105, 185, 141, 16, 3, 194, 39, 23, 88, 29, 160, 133, 207, 219, 99, 194, 206, 30, 236]
def rd11 : List Nat := [16, 10, 32, 3, 66, 159, 156, 181, 148, 117, 216, 109, 123, 236, 58, 90, 17, 11, 40, 210, 71, 163, 178, 100, 100, 182, 188, 151, 196, 126, 59, 239]
def rd12 : List Nat := [140, 40, 206, 227, 231, 74, 243, 254, 34, 35, 161, 184, 138, 69, 12, 218, 61, 72, 59, 196, 17, 255, 48, 64, 153, 147, 157, 47, 175, 8, 243, 13]
def rd13 : List Nat := [163, 51, 108, 154, 145, 72, 165, 60, 54, 108, 8, 190, 146, 251, 240, 79, 95, 35, 97, 71, 154, 95, 36, 109, 143, 63, 127, 228, 33, 244, 49, 186]
def rd14 : List Nat := [219, 253, 121, 90, 114, 203, 1, 120, 192, 3, 32, 22, 37, 200, 27, 90, 114, 50, 45, 36, 125, 164, 164, 254, 145, 58, 141, 12, 150, 214, 170, 33]
def rd15 : List Nat := [84, 249, 136, 209, 37, 104, 173, 203, 38, 61, 115, 193, 75, 162, 131, 132, 72, 145, 91, 136, 113, 109, 187, 75, 118, 106, 34, 75, 52, 93, 217, 34]
def rd16 : List Nat := [20, 73, 153, 86, 233, 54, 200, 240, 135, 61, 7, 183, 141, 95, 132, 96, 207, 134, 57, 108, 234, 115, 154, 208, 32, 229, 153, 198, 182, 24, 59, 102]
end Go.Proofs.YtjgfjmkfcippcaaDoor
