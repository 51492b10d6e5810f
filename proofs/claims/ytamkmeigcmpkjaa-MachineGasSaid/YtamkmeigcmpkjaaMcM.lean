/-
  The machine as functions of lists: a step, a run; a run ends, and with more gas it does the same.
-/
import Derived.Lib.Hide
import Derived.ProofKit
namespace Go.Proofs.Ytamkmeigcmpkjaa

structure Ins where
  op : Int
  a : Int
def ins0 : Ins := ⟨0, 0⟩
structure Cx where
  who : Int
  val : Int
  inp : List Int
structure Ms where
  pc : Int
  gas : Int
  st : Int
  e : Int
  stk : List Int
  wds : List Int

/-- May an instruction be? -/
def insOk (i : Ins) : Bool :=
  if i.op = 1 ∨ i.op = 12 ∨ i.op = 13 ∨ i.op = 16 then true
  else if i.op = 3 ∨ i.op = 4 then decide (i.a < 32)
  else if i.op = 14 ∨ i.op = 15 then decide (i.a < 16)
  else decide (0 ≤ i.op) && (decide (i.op ≤ 19) && (i.a == 0))
def codeOk (L : List Ins) : Bool := decide (L.length ≤ 128) && L.all insOk
def costM (op : Int) : Int := if op = 14 then 2 else if op = 15 then 5 else 1
def needsM (i : Ins) : Int :=
  if i.op = 1 ∨ i.op = 14 ∨ i.op = 16 ∨ i.op = 17 ∨ i.op = 18 then 0
  else if i.op = 2 ∨ i.op = 13 ∨ i.op = 15 then 1
  else if i.op = 3 then i.a + 1
  else if i.op = 4 then i.a + 2
  else if i.op = 0 ∨ i.op = 12 ∨ i.op = 19 then 0
  else 2
def moreM (i : Ins) : Int :=
  if i.op = 1 ∨ i.op = 14 ∨ i.op = 16 ∨ i.op = 17 ∨ i.op = 18 then 1
  else if i.op = 2 ∨ i.op = 13 ∨ i.op = 15 then -1
  else if i.op = 3 then 1
  else if i.op = 4 then 0
  else if i.op = 0 ∨ i.op = 12 ∨ i.op = 19 then 0
  else -1
def payE (i : Ins) (s : Ms) : Int := if s.gas < costM i.op then 35 else if (s.stk.length : Int) < needsM i ∨ (s.stk.length : Int) + moreM i > 32 then 36 else 0
def payG (i : Ins) (s : Ms) : Int := if s.gas < costM i.op then 0 else s.gas - costM i.op
def fetchM (c : Cx) (i : Ins) (s : Ms) : Int :=
  if i.op = 1 then i.a
  else if i.op = 3 then s.stk.getD (s.stk.length - 1 - i.a.toNat) 0
  else if i.op = 14 then s.wds.getD i.a.toNat 0
  else if i.op = 17 then c.val
  else if i.op = 18 then c.who
  else if i.a < (c.inp.length : Int) then c.inp.getD i.a.toNat 0 else 0
def tru (b : Bool) : Int := if b then 1 else 0
def rkV (op b a : Int) : Int :=
  if op = 5 then IntKind.u64.wrap (b + a) else if op = 6 then IntKind.u64.wrap (b - a) else if op = 7 then IntKind.u64.wrap (b * a)
  else if op = 10 then tru (decide (b < a)) else if op = 11 then tru (b == a)
  else if a = 0 then 0 else if op = 8 then b.tdiv a else b.tmod a
def rkE (op a : Int) : Int := if op = 5 ∨ op = 6 ∨ op = 7 ∨ op = 10 ∨ op = 11 then 0 else if a = 0 then 32 else 0
def Ms.fail (s : Ms) (e : Int) : Ms := { s with st := 2, e := e }
def Ms.top (s : Ms) : Int := s.stk.getD (s.stk.length - 1) 0
def Ms.snd (s : Ms) : Int := s.stk.getD (s.stk.length - 2) 0
def jmp (a : Int) : Int := min a 128
/-- What an operation does that was paid for. -/
def doM (c : Cx) (i : Ins) (s : Ms) : Ms :=
  if i.op = 0 then { s with st := 1 }
  else if i.op = 19 then s.fail 38
  else if i.op = 12 then { s with pc := jmp i.a }
  else if i.op = 13 then (if s.top = 0 then { s with stk := s.stk.dropLast, pc := s.pc + 1 } else { s with stk := s.stk.dropLast, pc := jmp i.a })
  else if i.op = 2 then { s with stk := s.stk.dropLast, pc := s.pc + 1 }
  else if i.op = 4 then { s with stk := (s.stk.set (s.stk.length - 1) (s.stk.getD (s.stk.length - 2 - i.a.toNat) 0)).set (s.stk.length - 2 - i.a.toNat) s.top, pc := s.pc + 1 }
  else if i.op = 15 then { s with stk := s.stk.dropLast, wds := s.wds.set i.a.toNat s.top, pc := s.pc + 1 }
  else if i.op = 1 ∨ i.op = 3 ∨ i.op = 14 ∨ i.op = 16 ∨ i.op = 17 ∨ i.op = 18 then { s with stk := s.stk ++ [fetchM c i s], pc := s.pc + 1 }
  else if rkE i.op s.top = 0 then { s with stk := s.stk.dropLast.dropLast ++ [rkV i.op s.snd s.top], pc := s.pc + 1 }
  else s.fail (rkE i.op s.top)
def insM (c : Cx) (i : Ins) (s : Ms) : Ms :=
  if payE i s = 0 then doM c i { s with gas := payG i s } else { s with gas := payG i s }.fail (payE i s)
def stepM (L : List Ins) (c : Cx) (s : Ms) : Ms :=
  if 0 ≤ s.pc ∧ s.pc < (L.length : Int) then insM c (L.getD s.pc.toNat ins0) s else s.fail 37
def goM (L : List Ins) (c : Cx) : Nat → Ms → Ms × Nat
  | 0, s => (s, 0)
  | k + 1, s => if s.st = 0 then ((goM L c k (stepM L c s)).1, (goM L c k (stepM L c s)).2 + 1) else (s, 0)
def runM (L : List Ins) (c : Cx) (s : Ms) (most : Int) : Ms × Nat :=
  if s.st ≠ 0 ∨ most < 1 then (s, 0) else if codeOk L = true then goM L c most.toNat s else (s.fail 37, 1)
def startM (gas : Int) (W : List Int) : Ms := ⟨0, gas, 0, 0, [], W⟩

/-! ### what stays, and what falls -/
theorem costM_pos (op : Int) : 1 ≤ costM op := by unfold costM; split <;> (try split) <;> omega
theorem doM_gas (c : Cx) (i : Ins) (s : Ms) : (doM c i s).gas = s.gas := by
  unfold doM Ms.fail
  repeat' split
  all_goals rfl
/-- Stopped or failed, and which. -/
def Ms.fine (s : Ms) : Prop := (s.st = 0 ∧ s.e = 0) ∨ (s.st = 1 ∧ s.e = 0) ∨ (s.st = 2 ∧ s.e ≠ 0)
theorem rkE_in (op a : Int) : rkE op a = 0 ∨ rkE op a = 32 := by unfold rkE; split <;> (try split) <;> omega
theorem doM_fine {c : Cx} {i : Ins} {s : Ms} (h0 : s.st = 0) (he : s.e = 0) : (doM c i s).fine := by
  unfold doM Ms.fail Ms.fine
  repeat' split
  all_goals simp_all
theorem stepM_fine {L : List Ins} {c : Cx} {s : Ms} (h0 : s.st = 0) (he : s.e = 0) : (stepM L c s).fine := by
  unfold stepM insM
  split
  · split
    · exact doM_fine h0 he
    · rename_i h
      exact .inr (.inr ⟨rfl, h⟩)
  · exact .inr (.inr ⟨rfl, by simp [Ms.fail]⟩)
theorem stepM_gas {L : List Ins} {c : Cx} {s : Ms} (hg : 0 ≤ s.gas) : 0 ≤ (stepM L c s).gas ∧ (stepM L c s).gas ≤ s.gas ∧ ((stepM L c s).st ≠ 0 ∨ (stepM L c s).gas < s.gas) := by
  have hc := costM_pos (L.getD s.pc.toNat ins0).op
  unfold stepM insM
  split
  · split
    · rename_i h
      rw [doM_gas]
      unfold payE at h
      unfold payG
      simp only
      split at h
      · omega
      · rename_i h1
        rw [if_neg h1]
        omega
    · unfold payG Ms.fail
      simp only
      split <;> omega
  · unfold Ms.fail
    simp only
    omega
theorem goM_ends {L : List Ins} {c : Cx} : ∀ {k : Nat} {s : Ms}, 0 ≤ s.gas → s.gas < (k : Int) → s.fine → ((goM L c k s).2 : Int) ≤ s.gas + 1 ∧ (goM L c k s).1.st ≠ 0 ∧ (goM L c k s).1.gas ≤ s.gas ∧ (goM L c k s).1.fine
  | 0, s, h0, h1, _ => by omega
  | k + 1, s, h0, h1, hf => by
    unfold goM
    by_cases hs : s.st = 0
    · rw [if_pos hs]
      have he : s.e = 0 := by
        rcases hf with h | h | h
        · exact h.2
        · omega
        · omega
      obtain ⟨g1, g2, g3⟩ := stepM_gas (L := L) (c := c) h0
      have f1 := stepM_fine (L := L) (c := c) hs he
      rcases g3 with g3 | g3
      · have e : goM L c k (stepM L c s) = (stepM L c s, 0) := by
          cases k with
          | zero => rfl
          | succ k => unfold goM; rw [if_neg g3]
        rw [e]
        exact ⟨by simp only; omega, g3, g2, f1⟩
      · obtain ⟨a1, a2, a3, a4⟩ := goM_ends (k := k) g1 (by omega) f1
        exact ⟨by simp only; omega, a2, by simp only; omega, a4⟩
    · rw [if_neg hs]
      exact ⟨by simp only; omega, hs, Int.le_refl _, hf⟩
theorem runM_ends {L : List Ins} {c : Cx} {gas : Int} {W : List Int} (h0 : 0 ≤ gas) (h1 : gas < 200) : ((runM L c (startM gas W) 500).2 : Int) ≤ gas + 1 ∧ (runM L c (startM gas W) 500).1.st ≠ 0 ∧ (runM L c (startM gas W) 500).1.gas ≤ gas ∧ (runM L c (startM gas W) 500).1.fine := by
  unfold runM
  rw [if_neg (by simp [startM])]
  split
  · exact goM_ends (k := 500) (s := startM gas W) h0 (by show gas < 500; omega) (.inl ⟨rfl, rfl⟩)
  · exact ⟨by simp only; omega, by simp [Ms.fail], Int.le_refl _, .inr (.inr ⟨rfl, by simp [Ms.fail]⟩)⟩

/-! ### more gas -/
def Ms.more (s : Ms) (m : Int) : Ms := { s with gas := s.gas + m }
theorem doM_more (c : Cx) (i : Ins) (s : Ms) (m : Int) : doM c i (s.more m) = (doM c i s).more m := by
  unfold doM
  simp only [apply_ite (fun t : Ms => t.more m)]
  rfl
theorem stepM_more {L : List Ins} {c : Cx} {s : Ms} {m : Int} (hm : 0 ≤ m) (h0 : s.st = 0) (he : s.e = 0) : (stepM L c s).e = 35 ∧ (stepM L c s).st = 2 ∨ stepM L c (s.more m) = (stepM L c s).more m := by
  have _ := h0
  have _ := he
  unfold stepM
  have e1 : (s.more m).pc = s.pc := rfl
  rw [e1]
  split
  · obtain ⟨i, hi⟩ : ∃ i, L.getD s.pc.toNat ins0 = i := ⟨_, rfl⟩
    rw [hi]
    unfold insM
    by_cases hg : s.gas < costM i.op
    · have ep : payE i s = 35 := by unfold payE; rw [if_pos hg]
      rw [ep]
      left
      exact ⟨rfl, rfl⟩
    · right
      have hg2 : ¬ (s.more m).gas < costM i.op := by show ¬ s.gas + m < _; omega
      have e2 : payE i (s.more m) = payE i s := by
        unfold payE
        rw [if_neg hg, if_neg hg2]
        rfl
      have e3 : payG i (s.more m) = payG i s + m := by
        unfold payG
        rw [if_neg hg, if_neg hg2]
        show s.gas + m - _ = _
        omega
      rw [e2, e3]
      split
      · exact doM_more c i { s with gas := payG i s } m
      · rfl
  · right
    rfl
/-- How a run with more gas ends. -/
def Alike (x y : Ms × Nat) (m : Int) : Prop := (x.1.e = 35 ∧ x.1.st = 2) ∨ y = (x.1.more m, x.2)
theorem goM_more {L : List Ins} {c : Cx} {m : Int} (hm : 0 ≤ m) : ∀ {k : Nat} {s : Ms}, s.fine → Alike (goM L c k s) (goM L c k (s.more m)) m
  | 0, s, _ => .inr rfl
  | k + 1, s, hf => by
    unfold goM
    have e1 : (s.more m).st = s.st := rfl
    rw [e1]
    by_cases hs : s.st = 0
    · rw [if_pos hs, if_pos hs]
      have he : s.e = 0 := by
        rcases hf with h | h | h
        · exact h.2
        · omega
        · omega
      rcases stepM_more (L := L) (c := c) hm hs he with ⟨h1, h2⟩ | h
      · have e : goM L c k (stepM L c s) = (stepM L c s, 0) := by
          cases k with
          | zero => rfl
          | succ k => unfold goM; rw [if_neg (by omega)]
        rw [e]
        exact .inl ⟨h1, h2⟩
      · rw [h]
        rcases goM_more hm (k := k) (stepM_fine (L := L) (c := c) hs he) with h3 | h3
        · exact .inl h3
        · rw [h3]; exact .inr rfl
    · rw [if_neg hs, if_neg hs]
      exact .inr rfl
theorem runM_more {L : List Ins} {c : Cx} {gas m : Int} {W : List Int} (hm : 0 ≤ m) : Alike (runM L c (startM gas W) 500) (runM L c (startM (gas + m) W) 500) m := by
  have e1 : ¬ ((startM gas W).st ≠ 0 ∨ (500 : Int) < 1) := by simp [startM]
  have e2 : ¬ ((startM (gas + m) W).st ≠ 0 ∨ (500 : Int) < 1) := by simp [startM]
  unfold runM
  rw [if_neg e1, if_neg e2]
  split
  · exact goM_more (s := startM gas W) hm (.inl ⟨rfl, rfl⟩)
  · exact .inr rfl
end Go.Proofs.Ytamkmeigcmpkjaa
