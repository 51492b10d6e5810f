/-
  A step keeps a state's ranges.
-/
import Derived.Test.YtamkmeigcmpkjaaMcMs
namespace Go.Proofs.Ytamkmeigcmpkjaa
open Go.RowKit

theorem U64s.take {xs : List Int} (h : U64s xs) : U64s xs.dropLast := fun x hx => h x ((List.dropLast_sublist xs).subset hx)
theorem U64s.push {xs : List Int} (h : U64s xs) {v : Int} (hv : 0 ≤ v ∧ v < 18446744073709551616) : U64s (xs ++ [v]) := fun x hx => by
  rcases List.mem_append.1 hx with hx | hx
  · exact h x hx
  · obtain rfl : x = v := by simpa using hx
    exact hv
theorem U64s.set {xs : List Int} (h : U64s xs) {i : Nat} {v : Int} (hv : 0 ≤ v ∧ v < 18446744073709551616) : U64s (xs.set i v) := fun x hx => by
  rcases List.mem_or_eq_of_mem_set hx with hx | rfl
  · exact h x hx
  · exact hv
/-- An instruction's, a code's, a context's ranges. -/
def Ins.ok (i : Ins) : Prop := 0 ≤ i.a ∧ i.a < 18446744073709551616
structure Cx.ok (c : Cx) : Prop where
  who : 0 ≤ c.who ∧ c.who < 18446744073709551616
  val : 0 ≤ c.val ∧ c.val < 18446744073709551616
  inp : U64s c.inp
  len : c.inp.length ≤ 140737488355328
theorem fetchM_in {c : Cx} {i : Ins} {s : Ms} (hc : c.ok) (hi : i.ok) (hs : s.ok) : 0 ≤ fetchM c i s ∧ fetchM c i s < 18446744073709551616 := by
  unfold fetchM
  repeat' split
  · exact hi
  · exact hs.stk.get _
  · exact hs.wds.get _
  · exact hc.val
  · exact hc.who
  · exact hc.inp.get _
  · omega
theorem rkV_in {op b a : Int} (hb : 0 ≤ b ∧ b < 18446744073709551616) (ha : 0 ≤ a ∧ a < 18446744073709551616) : 0 ≤ rkV op b a ∧ rkV op b a < 18446744073709551616 := by
  unfold rkV tru
  repeat' split
  all_goals try (rw [IntKind.wrap_u64]; omega)
  all_goals try omega
  · rename_i h0 _
    rw [Int.tdiv_eq_ediv_of_nonneg hb.1]
    have := Int.ediv_nonneg hb.1 ha.1
    have := Int.ediv_le_self a hb.1
    omega
  · rename_i h0 _
    rw [Int.tmod_eq_emod_of_nonneg hb.1]
    have := Int.emod_nonneg b h0
    have := Int.emod_lt_of_pos b (show 0 < a by omega)
    omega
theorem payG_in {i : Ins} {s : Ms} (hs : s.ok) : 0 ≤ payG i s ∧ payG i s < 18446744073709551616 := by
  have h1 := costM_pos i.op
  have h2 := hs.gas
  unfold payG
  split <;> omega
theorem Ms.ok.pay {i : Ins} {s : Ms} (hs : s.ok) : ({ s with gas := payG i s } : Ms).ok := ⟨payG_in hs, hs.stk, hs.wds, hs.w16, hs.len⟩
theorem doM_ok {c : Cx} {i : Ins} {s : Ms} (hc : c.ok) (hi : i.ok) (hs : s.ok) (hl : (s.stk.length : Int) + moreM i ≤ 32) : (doM c i s).ok := by
  have ht := hs.stk.get (s.stk.length - 1)
  have h2 := hs.stk.get (s.stk.length - 2)
  have hd : ∀ xs : List Int, xs.length ≤ 1000000000000 → xs.dropLast.length ≤ 1000000000000 := fun xs h => by rw [List.length_dropLast]; omega
  unfold doM Ms.fail
  split
  · exact ⟨hs.gas, hs.stk, hs.wds, hs.w16, hs.len⟩
  split
  · exact ⟨hs.gas, hs.stk, hs.wds, hs.w16, hs.len⟩
  split
  · exact ⟨hs.gas, hs.stk, hs.wds, hs.w16, hs.len⟩
  split
  · split
    · exact ⟨hs.gas, hs.stk.take, hs.wds, hs.w16, hd _ hs.len⟩
    · exact ⟨hs.gas, hs.stk.take, hs.wds, hs.w16, hd _ hs.len⟩
  split
  · exact ⟨hs.gas, hs.stk.take, hs.wds, hs.w16, hd _ hs.len⟩
  split
  · exact ⟨hs.gas, (hs.stk.set (hs.stk.get _)).set ht, hs.wds, hs.w16, by simp only [List.length_set]; exact hs.len⟩
  split
  · exact ⟨hs.gas, hs.stk.take, hs.wds.set ht, by simp only [List.length_set]; exact hs.w16, hd _ hs.len⟩
  split
  · rename_i h
    refine ⟨hs.gas, hs.stk.push (fetchM_in hc hi hs), hs.wds, hs.w16, ?_⟩
    simp only [List.length_append, List.length_singleton]
    have : moreM i = 1 := by
      unfold moreM
      split
      · rfl
      · rw [if_neg (by omega), if_pos (by omega)]
    omega
  split
  · refine ⟨hs.gas, hs.stk.take.take.push (rkV_in h2 ht), hs.wds, hs.w16, ?_⟩
    simp only [List.length_append, List.length_singleton, List.length_dropLast]
    have := hs.len
    omega
  · exact ⟨hs.gas, hs.stk, hs.wds, hs.w16, hs.len⟩
theorem payE_ok {i : Ins} {s : Ms} (h : payE i s = 0) : ¬ s.gas < costM i.op ∧ needsM i ≤ (s.stk.length : Int) ∧ (s.stk.length : Int) + moreM i ≤ 32 := by
  unfold payE at h
  split at h
  · omega
  · split at h
    · omega
    · omega
theorem stepM_ok {L : List Ins} {c : Cx} {s : Ms} (hc : c.ok) (hL : ∀ i ∈ L, i.ok) (hs : s.ok) : (stepM L c s).ok := by
  unfold stepM insM
  split
  · have hi : (L.getD s.pc.toNat ins0).ok := by
      by_cases h : s.pc.toNat < L.length
      · have e : L.getD s.pc.toNat ins0 = L[s.pc.toNat] := by simp [List.getD, h]
        rw [e]
        exact hL _ (List.getElem_mem h)
      · have e : L.getD s.pc.toNat ins0 = ins0 := by simp [List.getD, Nat.not_lt.1 h]
        rw [e]
        exact ⟨by simp [ins0], by simp [ins0]⟩
    split
    · rename_i h
      exact doM_ok hc hi hs.pay (payE_ok h).2.2
    · exact ⟨payG_in hs, hs.stk, hs.wds, hs.w16, hs.len⟩
  · exact ⟨hs.gas, hs.stk, hs.wds, hs.w16, hs.len⟩
theorem goM_ok {L : List Ins} {c : Cx} (hc : c.ok) (hL : ∀ i ∈ L, i.ok) : ∀ {k : Nat} {s : Ms}, s.ok → (goM L c k s).1.ok
  | 0, _, h => h
  | k + 1, s, h => by
    unfold goM
    split
    · exact goM_ok hc hL (stepM_ok hc hL h)
    · exact h
theorem goM_succ {L : List Ins} {c : Cx} {M n : Nat} {s t : Ms} (hs : t.st = 0) (hlt : n < M) (h : goM L c M s = ((goM L c (M - n) t).1, (goM L c (M - n) t).2 + n)) : goM L c M s = ((goM L c (M - (n + 1)) (stepM L c t)).1, (goM L c (M - (n + 1)) (stepM L c t)).2 + (n + 1)) := by
  rw [h, show M - n = (M - (n + 1)) + 1 by omega]
  simp only [goM, if_pos hs]
  rw [Nat.add_assoc, Nat.add_comm 1 n]
theorem codeOk_in {L : List Ins} (h : codeOk L = true) : L.length ≤ 128 ∧ ∀ i ∈ L, insOk i = true := by
  unfold codeOk at h
  simp only [Bool.and_eq_true, decide_eq_true_eq, List.all_eq_true] at h
  exact h
theorem insOk_in {op x : Int} (h : insOk ⟨op, x⟩ = true) : (op = 3 ∨ op = 4 → x < 32) ∧ (op = 14 ∨ op = 15 → x < 16) := by
  unfold insOk at h
  refine ⟨fun h1 => ?_, fun h1 => ?_⟩
  · simp only at h
    rw [if_neg (by omega), if_pos h1] at h
    simpa using h
  · simp only at h
    rw [if_neg (by omega), if_neg (by omega), if_pos h1] at h
    simpa using h
end Go.Proofs.Ytamkmeigcmpkjaa
