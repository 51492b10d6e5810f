/-
  Digits, and what hashes are written with.
-/
import Derived.Test.YtlmpmnngheifkaaDoorShaSt
import Derived.Test.YtlmpmnngheifkaaDoorLists
namespace Go.Proofs.YtlmpmnngheifkaaDoor
open Go.RowKit
set_option maxRecDepth 100000

/-- What a digit is worth. -/
def dgt (c : Int) : Option Int := if 48 ≤ c ∧ c ≤ 57 then some (c - 48) else if 97 ≤ c ∧ c ≤ 102 then some (c - 87) else none
def dv (c : Int) : Int := (dgt c).getD 0
theorem dv_bounds (c : Int) : 0 ≤ dv c ∧ dv c < 16 := by
  unfold dv dgt
  split
  · simp; omega
  · split
    · simp; omega
    · simp
/-- The first i digits, two to a byte. -/
def pf (xs : List Int) (i j : Nat) : Int := if 2 * j + 1 < i then 16 * dv (xs.getD (2 * j) 0) + dv (xs.getD (2 * j + 1) 0) else if 2 * j < i then dv (xs.getD (2 * j) 0) else 0
theorem pf_zero (xs : List Int) (j : Nat) : pf xs 0 j = 0 := by simp [pf]
theorem pf_bounds (xs : List Int) (i j : Nat) : 0 ≤ pf xs i j ∧ pf xs i j < 256 := by
  have h1 := dv_bounds (xs.getD (2 * j) 0)
  have h2 := dv_bounds (xs.getD (2 * j + 1) 0)
  unfold pf
  split
  · omega
  · split
    · omega
    · omega
/-- One digit more. -/
theorem pf_step (xs : List Int) (i j : Nat) : updK (pf xs i) (i / 2) (pf xs i (i / 2) * 16 % 256 + dv (xs.getD i 0)) j = pf xs (i + 1) j := by
  have h1 := dv_bounds (xs.getD (2 * j) 0)
  by_cases hj : j = i / 2
  · subst hj
    rw [updK_same]
    unfold pf
    rcases Nat.mod_two_eq_zero_or_one i with e | e
    · have e2 : 2 * (i / 2) = i := by omega
      rw [e2, if_neg (by omega), if_neg (by omega), if_neg (by omega), if_pos (by omega)]
      omega
    · have e2 : 2 * (i / 2) + 1 = i := by omega
      rw [if_neg (by omega), if_pos (by omega), if_pos (by omega), e2]
      omega
  · rw [updK_ne _ _ hj]
    unfold pf
    by_cases h2 : 2 * j + 1 < i
    · rw [if_pos h2, if_pos (by omega)]
    · rw [if_neg h2, if_neg (by omega), if_neg (by omega), if_neg (by omega)]
theorem or_all : ∀ a : Fin 16, ∀ b : Fin 16, bits .or .u8 ((a.val : Int) * 16) (b.val : Int) = (a.val : Int) * 16 + b.val := by decide +kernel
theorem or_dv {a b : Int} (ha : 0 ≤ a) (ha2 : a < 16) (hb : 0 ≤ b) (hb2 : b < 16) : bits .or .u8 (a * 16) b = a * 16 + b := by
  have := or_all ⟨a.toNat, by omega⟩ ⟨b.toNat, by omega⟩
  simp only at this
  rwa [Int.toNat_of_nonneg ha, Int.toNat_of_nonneg hb] at this
/-- Do the digits tell a hash? -/
def prsB (xs : List Int) : Bool := xs.length == 64 && (List.range 64).all fun k => (dgt (xs.getD k 0)).isSome
def prsF (xs : List Int) : List Int := if prsB xs then (List.range 32).map (pf xs 64) else zero32
def prsE (xs : List Int) : Int := if prsB xs then 0 else 21
theorem prsF_len (xs : List Int) : (prsF xs).length = 32 := by unfold prsF; split <;> simp [zero32]
theorem prsF_bytes (xs : List Int) : Bytes (prsF xs) := by
  unfold prsF
  split
  · intro x hx
    obtain ⟨j, _, rfl⟩ := List.mem_map.1 hx
    exact pf_bounds xs 64 j
  · intro x hx; simp [zero32] at hx; omega
theorem prs_yes {xs : List Int} (hl : xs.length = 64) (h : ∀ k, k < 64 → (dgt (xs.getD k 0)).isSome = true) : prsB xs = true := by
  unfold prsB
  rw [Bool.and_eq_true]
  exact ⟨by simp [hl], List.all_eq_true.2 fun k hk => h k (by simpa using hk)⟩
theorem prs_len {xs : List Int} (hl : ¬ xs.length = 64) : prsB xs = false := by simp [prsB, hl]
theorem prs_no {xs : List Int} {k : Nat} (hk : k < 64) (h : (dgt (xs.getD k 0)).isSome = false) : prsB xs = false := by
  unfold prsB
  rw [Bool.and_eq_false_iff]
  right
  rw [Bool.eq_false_iff]
  intro e
  have := List.all_eq_true.1 e k (by simpa using hk)
  rw [h] at this
  exact Bool.noConfusion this
/-- The digit of a number. -/
def hxd (n : Int) : Int := if n < 10 then 48 + n else 87 + n
def prt (F : List Int) : List Int := F.flatMap fun x => [hxd (x / 16), hxd (x % 16)]
theorem dgt_hxd {n : Int} (h : 0 ≤ n) (h2 : n < 16) : dgt (hxd n) = some n := by
  unfold hxd dgt
  split
  · rw [if_pos (by omega)]; congr 1; omega
  · rw [if_neg (by omega), if_pos (by omega)]; congr 1; omega
theorem hxd_dv {c : Int} (h : (dgt c).isSome = true) : hxd (dv c) = c := by
  unfold dv hxd
  unfold dgt at h ⊢
  split
  · simp; split <;> omega
  · rename_i h1
    simp only [h1, if_false] at h
    split
    · simp; split <;> omega
    · rename_i h2; simp [h2] at h
theorem prt_len (F : List Int) : (prt F).length = 2 * F.length := by
  induction F with
  | nil => rfl
  | cons x F ih => simp [prt] at ih ⊢; omega
theorem prt_get : ∀ (F : List Int) (j : Nat), j < F.length → (prt F).getD (2 * j) 0 = hxd (F.getD j 0 / 16) ∧ (prt F).getD (2 * j + 1) 0 = hxd (F.getD j 0 % 16)
  | [], j, h => by simp at h
  | x :: F, 0, _ => ⟨rfl, rfl⟩
  | x :: F, j + 1, h => by
    have := prt_get F j (by simpa using h)
    have e : prt (x :: F) = hxd (x / 16) :: hxd (x % 16) :: prt F := rfl
    rw [e, show 2 * (j + 1) + 1 = (2 * j + 1) + 1 + 1 by omega, show 2 * (j + 1) = 2 * j + 1 + 1 by omega]
    simpa using this
theorem hxd_bytes {n : Int} (h : 0 ≤ n) (h2 : n < 16) : 0 ≤ hxd n ∧ hxd n < 256 := by
  unfold hxd; split <;> omega
theorem prt_bytes {F : List Int} (h : Bytes F) : Bytes (prt F) := by
  intro c hc
  obtain ⟨x, hx, h2⟩ := List.mem_flatMap.1 hc
  have := h x hx
  simp only [List.mem_cons, List.not_mem_nil, or_false] at h2
  rcases h2 with rfl | rfl
  · exact hxd_bytes (by omega) (by omega)
  · exact hxd_bytes (by omega) (by omega)
theorem ext32 {F G : List Int} (hF : F.length = 32) (hG : G.length = 32) (h : ∀ j, j < 32 → F.getD j 0 = G.getD j 0) : F = G := by
  apply List.ext_getElem (by omega)
  intro i h1 h2
  have := h i (by omega)
  simpa [List.getD, h1, h2] using this
/-- There and back. -/
theorem prs_prt {F : List Int} (hF : F.length = 32) (hb : Bytes F) : prsB (prt F) = true ∧ prsF (prt F) = F := by
  have hl : (prt F).length = 64 := by rw [prt_len, hF]
  have key : ∀ j, j < 32 → 0 ≤ F.getD j 0 ∧ F.getD j 0 < 256 := fun j hj => by
    have h : F.getD j 0 ∈ F := by simp [List.getD, show j < F.length by omega]
    exact hb _ h
  have h1 : prsB (prt F) = true := prs_yes hl fun k hk => by
    have hg := prt_get F (k / 2) (by omega)
    have hk2 := key (k / 2) (by omega)
    rcases Nat.mod_two_eq_zero_or_one k with e | e
    · rw [show 2 * (k / 2) = k by omega] at hg
      rw [hg.1, dgt_hxd (by omega) (by omega)]; rfl
    · rw [show 2 * (k / 2) + 1 = k by omega] at hg
      rw [hg.2, dgt_hxd (by omega) (by omega)]; rfl
  refine ⟨h1, ?_⟩
  unfold prsF
  rw [if_pos h1]
  apply ext32 (by simp) hF
  intro j hj
  have hg := prt_get F j (by omega)
  have hk := key j hj
  have e1 : dv (hxd (F.getD j 0 / 16)) = F.getD j 0 / 16 := by unfold dv; rw [dgt_hxd (by omega) (by omega)]; rfl
  have e2 : dv (hxd (F.getD j 0 % 16)) = F.getD j 0 % 16 := by unfold dv; rw [dgt_hxd (by omega) (by omega)]; rfl
  have e3 : ((List.range 32).map (pf (prt F) 64)).getD j 0 = pf (prt F) 64 j := by simp [List.getD, hj]
  rw [e3]
  unfold pf
  rw [if_pos (by omega), hg.1, hg.2, e1, e2]
  omega
theorem prt_prs {xs : List Int} (h : prsB xs = true) : prt (prsF xs) = xs := by
  have h0 := h
  unfold prsB at h
  rw [Bool.and_eq_true] at h
  have hl : xs.length = 64 := by simpa using h.1
  have ha : ∀ k, k < 64 → (dgt (xs.getD k 0)).isSome = true := fun k hk => List.all_eq_true.1 h.2 k (by simpa using hk)
  have hpl : (prt (prsF xs)).length = 64 := by rw [prt_len, prsF_len]
  apply List.ext_getElem (by omega)
  intro k h1 h2
  have hg := prt_get (prsF xs) (k / 2) (by rw [prsF_len]; omega)
  have e3 : (prsF xs).getD (k / 2) 0 = 16 * dv (xs.getD (2 * (k / 2)) 0) + dv (xs.getD (2 * (k / 2) + 1) 0) := by
    unfold prsF
    rw [if_pos h0]
    have : ((List.range 32).map (pf xs 64)).getD (k / 2) 0 = pf xs 64 (k / 2) := by simp [List.getD, show k / 2 < 32 by omega]
    rw [this]
    unfold pf
    rw [if_pos (by omega)]
  have b1 := dv_bounds (xs.getD (2 * (k / 2)) 0)
  have b2 := dv_bounds (xs.getD (2 * (k / 2) + 1) 0)
  rw [e3, show (16 * dv (xs.getD (2 * (k / 2)) 0) + dv (xs.getD (2 * (k / 2) + 1) 0)) / 16 = dv (xs.getD (2 * (k / 2)) 0) by omega,
    show (16 * dv (xs.getD (2 * (k / 2)) 0) + dv (xs.getD (2 * (k / 2) + 1) 0)) % 16 = dv (xs.getD (2 * (k / 2) + 1) 0) by omega] at hg
  have g1 : (prt (prsF xs)).getD k 0 = (prt (prsF xs))[k] := by simp [List.getD, h1]
  have g2 : xs.getD k 0 = xs[k] := by simp [List.getD, h2]
  rw [← g1, ← g2]
  rcases Nat.mod_two_eq_zero_or_one k with e | e
  · rw [show 2 * (k / 2) = k by omega] at hg
    rw [hg.1, hxd_dv (ha k (by omega))]
  · rw [show 2 * (k / 2) + 1 = k by omega] at hg
    rw [hg.2, hxd_dv (ha k (by omega))]

set_option maxHeartbeats 4000000 in
theorem digit_any (w : World) {c : Int} (h0 : 0 ≤ c) (h1 : c < 256) : Calls Tryd.prog 36 #[.int .u8 c] w fun e w' => e = .returned (.tuple #[.int .u8 (dv c), .bool (dgt c).isSome]) ∧ w' = w := by
  go_enter Tryd.func36, Tryd.ntmps36
  by_cases a1 : 48 ≤ c
  · by_cases a2 : c ≤ 57
    · have e : dgt c = some (c - 48) := by unfold dgt; rw [if_pos ⟨a1, a2⟩]
      rw [show dv c = c - 48 by unfold dv; rw [e]; rfl, e]
      have ew : IntKind.u8.wrap (c - 48) = c - 48 := by rw [IntKind.wrap_u8]; omega
      go_wp2_with fail
      refine bodyPost_ret (v := .tuple #[.int .u8 (c - 48), .bool true]) (by simp [results, Tryd.results36, go_sem]) rfl ⟨rfl, rfl⟩
    · by_cases b1 : 97 ≤ c
      · by_cases b2 : c ≤ 102
        · have e : dgt c = some (c - 87) := by unfold dgt; rw [if_neg (by omega), if_pos ⟨b1, b2⟩]
          rw [show dv c = c - 87 by unfold dv; rw [e]; rfl, e]
          have ew : IntKind.u8.wrap (IntKind.u8.wrap (c - 97) + 10) = c - 87 := by rw [IntKind.wrap_u8, IntKind.wrap_u8]; omega
          go_wp2_with fail
          refine bodyPost_ret (v := .tuple #[.int .u8 (c - 87), .bool true]) (by simp [results, Tryd.results36, go_sem]; omega) rfl ⟨rfl, rfl⟩
        · have e : dgt c = none := by unfold dgt; rw [if_neg (by omega), if_neg (by omega)]
          rw [show dv c = 0 by unfold dv; rw [e]; rfl, e]
          go_wp2_with fail
          refine bodyPost_ret (v := .tuple #[.int .u8 (0), .bool false]) (by simp [results, Tryd.results36, go_sem]) rfl ⟨rfl, rfl⟩
      · have e : dgt c = none := by unfold dgt; rw [if_neg (by omega), if_neg (by omega)]
        rw [show dv c = 0 by unfold dv; rw [e]; rfl, e]
        go_wp2_with fail
        refine bodyPost_ret (v := .tuple #[.int .u8 (0), .bool false]) (by simp [results, Tryd.results36, go_sem]) rfl ⟨rfl, rfl⟩
  · have e : dgt c = none := by unfold dgt; rw [if_neg (by omega), if_neg (by omega)]
    rw [show dv c = 0 by unfold dv; rw [e]; rfl, e]
    go_wp2_with fail
    refine bodyPost_ret (v := .tuple #[.int .u8 (0), .bool false]) (by simp [results, Tryd.results36, go_sem]) rfl ⟨rfl, rfl⟩
end Go.Proofs.YtlmpmnngheifkaaDoor
