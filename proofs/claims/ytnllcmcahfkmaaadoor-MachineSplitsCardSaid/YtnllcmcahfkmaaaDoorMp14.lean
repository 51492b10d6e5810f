/-
  What a run leaves within bounds; basculelaw08.long.
-/
import Derived.Deep.CutRange
import Derived.Test.YtnllcmcahfkmaaaDoorMp13
namespace Go.Proofs.YtnllcmcahfkmaaaDoor
set_option maxRecDepth 100000
open Go.RowKit

theorem st_row {w : World} {b : Nat} {s : Ms} {q : Option Addr} {c : Nat} {T : TypeId} {fr : Nat × Nat} (h : w.heap[b]? = some (.cells (stRow s q c).toArray T fr)) (hw : s.wds.length = 16) : rowOf w b 0 21 = stRow s q c := by
  rw [rowOf_block h]
  have e := stRow_len (q := q) (c := c) hw
  simp [List.take_of_length_le (Nat.le_of_eq e)]
theorem hashM_len (s : Ms) : (hashM s).length = 32 := sha_len _
theorem runM_okR {L : List Ins} {c : Cx} {s : Ms} {M : Int} (hc : c.ok) (hL : ∀ i ∈ L, i.ok) (h : s.ok) : (runM L c s M).1.ok := by
  unfold runM
  split
  · exact h
  · split
    · exact goM_ok hc hL h
    · exact ⟨h.gas, h.stk, h.wds, h.w16, h.len⟩
theorem stepM_stk {L : List Ins} {c : Cx} {s : Ms} (_h : s.stk.length ≤ 900) : (stepM L c s).stk.length ≤ s.stk.length + 1 := by
  unfold stepM insM
  split
  · split
    · unfold doM Ms.fail
      repeat' split
      all_goals simp
      all_goals omega
    · simp [Ms.fail]
  · simp [Ms.fail]
theorem goM_stk {L : List Ins} {c : Cx} : ∀ (k : Nat) {s : Ms}, s.stk.length + k ≤ 900 → (goM L c k s).1.stk.length ≤ s.stk.length + k
  | 0, s, _ => Nat.le_refl _
  | k + 1, s, h => by
    unfold goM
    by_cases hs : s.st = 0
    · rw [if_pos hs]
      have h1 := stepM_stk (L := L) (c := c) (s := s) (by omega)
      have h2 := goM_stk (L := L) (c := c) k (s := stepM L c s) (by omega)
      show (goM L c k (stepM L c s)).1.stk.length ≤ _
      omega
    · rw [if_neg hs]
      show s.stk.length ≤ _
      omega
theorem runM_stk {L : List Ins} {c : Cx} {s : Ms} {M : Int} (h0 : 0 ≤ M) (h : (s.stk.length : Int) + M ≤ 900) : ((runM L c s M).1.stk.length : Int) ≤ s.stk.length + M := by
  unfold runM
  split
  · show (s.stk.length : Int) ≤ _
    omega
  · split
    · have := goM_stk (L := L) (c := c) M.toNat (s := s) (by omega)
      omega
    · show (s.stk.length : Int) ≤ _
      omega
def lgB (L : List Ins) (c : Cx) (s : Ms) : Bool := decide (L.length > 200) || (decide (c.inp.length > 200) || decide (s.stk.length > 100))
set_option maxHeartbeats 4000000 in
theorem long8_any {w : World} {L : List Ins} {qL : Option Addr} {cL : Nat} {c : Cx} {qi : Option Addr} {ki : Nat} {s : Ms} {qs : Option Addr} {cs : Nat} :
    Calls Tryd.prog 4 #[.slice qL L.length cL, .agg #[.int .u64 c.who, .int .u64 c.val, .slice qi c.inp.length ki], .agg (stRow s qs cs).toArray] w fun e w' => e = .returned (.bool (lgB L c s)) ∧ Below w.heap.size w w' := by
  have b1 : Below w.heap.size w (w.alloc (.cells #[.int .u64 c.who, .int .u64 c.val, .slice qi c.inp.length ki] 26)) := (Below.refl _ _).alloc (Nat.le_refl _) _
  have b2 : Below w.heap.size w ((w.alloc (.cells #[.int .u64 c.who, .int .u64 c.val, .slice qi c.inp.length ki] 26)).alloc (.cells (stRow s qs cs).toArray 29)) := b1.alloc b1.size _
  have hz : (w.alloc (.cells #[.int .u64 c.who, .int .u64 c.val, .slice qi c.inp.length ki] 26)).heap.size = w.heap.size + 1 := by simp
  have K1 : ((w.alloc (.cells #[.int .u64 c.who, .int .u64 c.val, .slice qi c.inp.length ki] 26)).alloc (.cells (stRow s qs cs).toArray 29)).heap[w.heap.size]? = some (.cells #[.int .u64 c.who, .int .u64 c.val, .slice qi c.inp.length ki] 26 (0, 0)) := by
    rw [Below.heap_alloc _ _ _ (by rw [hz]; omega)]
    exact heap_alloc_new w _
  have K2 : ((w.alloc (.cells #[.int .u64 c.who, .int .u64 c.val, .slice qi c.inp.length ki] 26)).alloc (.cells (stRow s qs cs).toArray 29)).heap[w.heap.size + 1]? = some (.cells (stRow s qs cs).toArray 29 (0, 0)) := by
    have := heap_alloc_new (w.alloc (.cells #[.int .u64 c.who, .int .u64 c.val, .slice qi c.inp.length ki] 26)) (.cells (stRow s qs cs).toArray 29)
    rw [hz] at this
    exact this
  have B2 := Lib.hid b2
  have c2 := (Joins.cell_of_block K1 2).trans (rfl : _ = some (Value.slice qi c.inp.length ki))
  have c4 := (Joins.cell_of_block K2 4).trans (rfl : _ = some (Value.slice qs s.stk.length cs))
  clear b1 b2 K1 K2
  by_cases g1 : L.length > 200
  · have d1 : decide ((L.length : Int) > 200) = true := decide_eq_true (by omega)
    have d2 : decide (200 < L.length) = true := decide_eq_true g1
    have E : lgB L c s = true := by unfold lgB; rw [show decide (L.length > 200) = true from d2]; rfl
    rw [E]
    clear E hz
    go_enter Tryd.func4, Tryd.ntmps4
    go_wp2_with fail
    go_ret
    exact ⟨rfl, B2.out⟩
  have d1 : decide ((L.length : Int) > 200) = false := decide_eq_false (by omega)
  have d2 : decide (200 < L.length) = false := decide_eq_false g1
  by_cases g2 : c.inp.length > 200
  · have d3 : decide ((c.inp.length : Int) > 200) = true := decide_eq_true (by omega)
    have d4 : decide (200 < c.inp.length) = true := decide_eq_true g2
    have E : lgB L c s = true := by unfold lgB; rw [show decide (c.inp.length > 200) = true from d4]; simp
    rw [E]
    clear E hz
    go_enter Tryd.func4, Tryd.ntmps4
    go_wp2_with fail
    go_ret
    exact ⟨rfl, B2.out⟩
  have d3 : decide ((c.inp.length : Int) > 200) = false := decide_eq_false (by omega)
  have d4 : decide (200 < c.inp.length) = false := decide_eq_false g2
  by_cases g3 : s.stk.length > 100
  · have d5 : decide ((s.stk.length : Int) > 100) = true := decide_eq_true (by omega)
    have d6 : decide (100 < s.stk.length) = true := decide_eq_true g3
    have E : lgB L c s = true := by unfold lgB; rw [show decide (s.stk.length > 100) = true from d6]; simp
    rw [E]
    clear E hz
    go_enter Tryd.func4, Tryd.ntmps4
    go_wp2_with fail
    go_ret
    exact ⟨rfl, B2.out⟩
  have d5 : decide ((s.stk.length : Int) > 100) = false := decide_eq_false (by omega)
  have d6 : decide (100 < s.stk.length) = false := decide_eq_false g3
  have E : lgB L c s = false := by unfold lgB; rw [show decide (L.length > 200) = false from d2, show decide (c.inp.length > 200) = false from d4, show decide (s.stk.length > 100) = false from d6]; rfl
  rw [E]
  clear E hz
  go_enter Tryd.func4, Tryd.ntmps4
  go_wp2_with fail
  go_ret
  exact ⟨rfl, B2.out⟩
end Go.Proofs.YtnllcmcahfkmaaaDoor
