/-
  The machine as functions of lists: a step, a run; a run ends, and with more gas it does the same.; What a call changes of memory: the blocks of a list, and nothing else of what there was. Rows of bytes; bytes and numbers, plain.; The machine's helpers that touch no state.; A row of numbers of one kind in memory, by an index function.; Rows behind calls that change blocks; a copy into a row; put32 and put64.; Lists of slices of bytes; the bytes of blobs. Copies out of a string.; math/bits.RotateLeft32, walked.; SHA-256, plain, as the program's walk spells it.
-/
import Derived.Lib.Hide
import Derived.ProofKit
import Derived.Test.YtnllcmcahfkmaaaDoorRows
import Derived.WalkKit
import Derived.Below
import Derived.Lib.SmallJoins
import Derived.Deep.DeepAppendWide
import Derived.Laws.BytesArg
import Derived.Deep.AppendSrc
import Derived.Laws.IdiomCopy
import Derived.BigQuiet
import Derived.BigRegion
import Derived.Deep.QuietTactic
import Derived.Laws.CopyOwn
import Derived.Lib.BufferWrite
import Derived.OwnWalk
namespace Go.Proofs.YtnllcmcahfkmaaaDoor

structure Ins where
  op : Int
  a : Int
def ins0 : Ins := ⟨0, 0⟩
structure Cx where
  who : Int
  val : Int
  inp : List Int
structure Ms where
  pc : Int
  gas : Int
  st : Int
  e : Int
  stk : List Int
  wds : List Int

/-- May an instruction be? -/
def insOk (i : Ins) : Bool :=
  if i.op = 1 ∨ i.op = 12 ∨ i.op = 13 ∨ i.op = 16 then true
  else if i.op = 3 ∨ i.op = 4 then decide (i.a < 32)
  else if i.op = 14 ∨ i.op = 15 then decide (i.a < 16)
  else decide (0 ≤ i.op) && (decide (i.op ≤ 19) && (i.a == 0))
def codeOk (L : List Ins) : Bool := decide (L.length ≤ 128) && L.all insOk
def costM (op : Int) : Int := if op = 14 then 2 else if op = 15 then 5 else 1
def needsM (i : Ins) : Int :=
  if i.op = 1 ∨ i.op = 14 ∨ i.op = 16 ∨ i.op = 17 ∨ i.op = 18 then 0
  else if i.op = 2 ∨ i.op = 13 ∨ i.op = 15 then 1
  else if i.op = 3 then i.a + 1
  else if i.op = 4 then i.a + 2
  else if i.op = 0 ∨ i.op = 12 ∨ i.op = 19 then 0
  else 2
def moreM (i : Ins) : Int :=
  if i.op = 1 ∨ i.op = 14 ∨ i.op = 16 ∨ i.op = 17 ∨ i.op = 18 then 1
  else if i.op = 2 ∨ i.op = 13 ∨ i.op = 15 then -1
  else if i.op = 3 then 1
  else if i.op = 4 then 0
  else if i.op = 0 ∨ i.op = 12 ∨ i.op = 19 then 0
  else -1
def payE (i : Ins) (s : Ms) : Int := if s.gas < costM i.op then 35 else if (s.stk.length : Int) < needsM i ∨ (s.stk.length : Int) + moreM i > 32 then 36 else 0
def payG (i : Ins) (s : Ms) : Int := if s.gas < costM i.op then 0 else s.gas - costM i.op
def fetchM (c : Cx) (i : Ins) (s : Ms) : Int :=
  if i.op = 1 then i.a
  else if i.op = 3 then s.stk.getD (s.stk.length - 1 - i.a.toNat) 0
  else if i.op = 14 then s.wds.getD i.a.toNat 0
  else if i.op = 17 then c.val
  else if i.op = 18 then c.who
  else if i.a < (c.inp.length : Int) then c.inp.getD i.a.toNat 0 else 0
def tru (b : Bool) : Int := if b then 1 else 0
def rkV (op b a : Int) : Int :=
  if op = 5 then IntKind.u64.wrap (b + a) else if op = 6 then IntKind.u64.wrap (b - a) else if op = 7 then IntKind.u64.wrap (b * a)
  else if op = 10 then tru (decide (b < a)) else if op = 11 then tru (b == a)
  else if a = 0 then 0 else if op = 8 then b.tdiv a else b.tmod a
def rkE (op a : Int) : Int := if op = 5 ∨ op = 6 ∨ op = 7 ∨ op = 10 ∨ op = 11 then 0 else if a = 0 then 32 else 0
def Ms.fail (s : Ms) (e : Int) : Ms := { s with st := 2, e := e }
def Ms.top (s : Ms) : Int := s.stk.getD (s.stk.length - 1) 0
def Ms.snd (s : Ms) : Int := s.stk.getD (s.stk.length - 2) 0
def jmp (a : Int) : Int := min a 128
/-- What an operation does that was paid for. -/
def doM (c : Cx) (i : Ins) (s : Ms) : Ms :=
  if i.op = 0 then { s with st := 1 }
  else if i.op = 19 then s.fail 38
  else if i.op = 12 then { s with pc := jmp i.a }
  else if i.op = 13 then (if s.top = 0 then { s with stk := s.stk.dropLast, pc := s.pc + 1 } else { s with stk := s.stk.dropLast, pc := jmp i.a })
  else if i.op = 2 then { s with stk := s.stk.dropLast, pc := s.pc + 1 }
  else if i.op = 4 then { s with stk := (s.stk.set (s.stk.length - 1) (s.stk.getD (s.stk.length - 2 - i.a.toNat) 0)).set (s.stk.length - 2 - i.a.toNat) s.top, pc := s.pc + 1 }
  else if i.op = 15 then { s with stk := s.stk.dropLast, wds := s.wds.set i.a.toNat s.top, pc := s.pc + 1 }
  else if i.op = 1 ∨ i.op = 3 ∨ i.op = 14 ∨ i.op = 16 ∨ i.op = 17 ∨ i.op = 18 then { s with stk := s.stk ++ [fetchM c i s], pc := s.pc + 1 }
  else if rkE i.op s.top = 0 then { s with stk := s.stk.dropLast.dropLast ++ [rkV i.op s.snd s.top], pc := s.pc + 1 }
  else s.fail (rkE i.op s.top)
def insM (c : Cx) (i : Ins) (s : Ms) : Ms :=
  if payE i s = 0 then doM c i { s with gas := payG i s } else { s with gas := payG i s }.fail (payE i s)
def stepM (L : List Ins) (c : Cx) (s : Ms) : Ms :=
  if 0 ≤ s.pc ∧ s.pc < (L.length : Int) then insM c (L.getD s.pc.toNat ins0) s else s.fail 37
def goM (L : List Ins) (c : Cx) : Nat → Ms → Ms × Nat
  | 0, s => (s, 0)
  | k + 1, s => if s.st = 0 then ((goM L c k (stepM L c s)).1, (goM L c k (stepM L c s)).2 + 1) else (s, 0)
def runM (L : List Ins) (c : Cx) (s : Ms) (most : Int) : Ms × Nat :=
  if s.st ≠ 0 ∨ most < 1 then (s, 0) else if codeOk L = true then goM L c most.toNat s else (s.fail 37, 1)
def startM (gas : Int) (W : List Int) : Ms := ⟨0, gas, 0, 0, [], W⟩

/-! ### what stays, and what falls -/
theorem costM_pos (op : Int) : 1 ≤ costM op := by unfold costM; split <;> (try split) <;> omega
theorem doM_gas (c : Cx) (i : Ins) (s : Ms) : (doM c i s).gas = s.gas := by
  unfold doM Ms.fail
  repeat' split
  all_goals rfl
/-- Stopped or failed, and which. -/
def Ms.fine (s : Ms) : Prop := (s.st = 0 ∧ s.e = 0) ∨ (s.st = 1 ∧ s.e = 0) ∨ (s.st = 2 ∧ s.e ≠ 0)
theorem rkE_in (op a : Int) : rkE op a = 0 ∨ rkE op a = 32 := by unfold rkE; split <;> (try split) <;> omega
theorem doM_fine {c : Cx} {i : Ins} {s : Ms} (h0 : s.st = 0) (he : s.e = 0) : (doM c i s).fine := by
  unfold doM Ms.fail Ms.fine
  repeat' split
  all_goals simp_all
theorem stepM_fine {L : List Ins} {c : Cx} {s : Ms} (h0 : s.st = 0) (he : s.e = 0) : (stepM L c s).fine := by
  unfold stepM insM
  split
  · split
    · exact doM_fine h0 he
    · rename_i h
      exact .inr (.inr ⟨rfl, h⟩)
  · exact .inr (.inr ⟨rfl, by simp [Ms.fail]⟩)
theorem stepM_gas {L : List Ins} {c : Cx} {s : Ms} (hg : 0 ≤ s.gas) : 0 ≤ (stepM L c s).gas ∧ (stepM L c s).gas ≤ s.gas ∧ ((stepM L c s).st ≠ 0 ∨ (stepM L c s).gas < s.gas) := by
  have hc := costM_pos (L.getD s.pc.toNat ins0).op
  unfold stepM insM
  split
  · split
    · rename_i h
      rw [doM_gas]
      unfold payE at h
      unfold payG
      simp only
      split at h
      · omega
      · rename_i h1
        rw [if_neg h1]
        omega
    · unfold payG Ms.fail
      simp only
      split <;> omega
  · unfold Ms.fail
    simp only
    omega
theorem goM_ends {L : List Ins} {c : Cx} : ∀ {k : Nat} {s : Ms}, 0 ≤ s.gas → s.gas < (k : Int) → s.fine → ((goM L c k s).2 : Int) ≤ s.gas + 1 ∧ (goM L c k s).1.st ≠ 0 ∧ (goM L c k s).1.gas ≤ s.gas ∧ (goM L c k s).1.fine
  | 0, s, h0, h1, _ => by omega
  | k + 1, s, h0, h1, hf => by
    unfold goM
    by_cases hs : s.st = 0
    · rw [if_pos hs]
      have he : s.e = 0 := by
        rcases hf with h | h | h
        · exact h.2
        · omega
        · omega
      obtain ⟨g1, g2, g3⟩ := stepM_gas (L := L) (c := c) h0
      have f1 := stepM_fine (L := L) (c := c) hs he
      rcases g3 with g3 | g3
      · have e : goM L c k (stepM L c s) = (stepM L c s, 0) := by
          cases k with
          | zero => rfl
          | succ k => unfold goM; rw [if_neg g3]
        rw [e]
        exact ⟨by simp only; omega, g3, g2, f1⟩
      · obtain ⟨a1, a2, a3, a4⟩ := goM_ends (k := k) g1 (by omega) f1
        exact ⟨by simp only; omega, a2, by simp only; omega, a4⟩
    · rw [if_neg hs]
      exact ⟨by simp only; omega, hs, Int.le_refl _, hf⟩
theorem runM_ends {L : List Ins} {c : Cx} {gas : Int} {W : List Int} (h0 : 0 ≤ gas) (h1 : gas < 200) : ((runM L c (startM gas W) 500).2 : Int) ≤ gas + 1 ∧ (runM L c (startM gas W) 500).1.st ≠ 0 ∧ (runM L c (startM gas W) 500).1.gas ≤ gas ∧ (runM L c (startM gas W) 500).1.fine := by
  unfold runM
  rw [if_neg (by simp [startM])]
  split
  · exact goM_ends (k := 500) (s := startM gas W) h0 (by show gas < 500; omega) (.inl ⟨rfl, rfl⟩)
  · exact ⟨by simp only; omega, by simp [Ms.fail], Int.le_refl _, .inr (.inr ⟨rfl, by simp [Ms.fail]⟩)⟩

/-! ### more gas -/
def Ms.more (s : Ms) (m : Int) : Ms := { s with gas := s.gas + m }
theorem doM_more (c : Cx) (i : Ins) (s : Ms) (m : Int) : doM c i (s.more m) = (doM c i s).more m := by
  unfold doM
  simp only [apply_ite (fun t : Ms => t.more m)]
  rfl
theorem stepM_more {L : List Ins} {c : Cx} {s : Ms} {m : Int} (hm : 0 ≤ m) (h0 : s.st = 0) (he : s.e = 0) : (stepM L c s).e = 35 ∧ (stepM L c s).st = 2 ∨ stepM L c (s.more m) = (stepM L c s).more m := by
  have _ := h0
  have _ := he
  unfold stepM
  have e1 : (s.more m).pc = s.pc := rfl
  rw [e1]
  split
  · obtain ⟨i, hi⟩ : ∃ i, L.getD s.pc.toNat ins0 = i := ⟨_, rfl⟩
    rw [hi]
    unfold insM
    by_cases hg : s.gas < costM i.op
    · have ep : payE i s = 35 := by unfold payE; rw [if_pos hg]
      rw [ep]
      left
      exact ⟨rfl, rfl⟩
    · right
      have hg2 : ¬ (s.more m).gas < costM i.op := by show ¬ s.gas + m < _; omega
      have e2 : payE i (s.more m) = payE i s := by
        unfold payE
        rw [if_neg hg, if_neg hg2]
        rfl
      have e3 : payG i (s.more m) = payG i s + m := by
        unfold payG
        rw [if_neg hg, if_neg hg2]
        show s.gas + m - _ = _
        omega
      rw [e2, e3]
      split
      · exact doM_more c i { s with gas := payG i s } m
      · rfl
  · right
    rfl
/-- How a run with more gas ends. -/
def Alike (x y : Ms × Nat) (m : Int) : Prop := (x.1.e = 35 ∧ x.1.st = 2) ∨ y = (x.1.more m, x.2)
theorem goM_more {L : List Ins} {c : Cx} {m : Int} (hm : 0 ≤ m) : ∀ {k : Nat} {s : Ms}, s.fine → Alike (goM L c k s) (goM L c k (s.more m)) m
  | 0, s, _ => .inr rfl
  | k + 1, s, hf => by
    unfold goM
    have e1 : (s.more m).st = s.st := rfl
    rw [e1]
    by_cases hs : s.st = 0
    · rw [if_pos hs, if_pos hs]
      have he : s.e = 0 := by
        rcases hf with h | h | h
        · exact h.2
        · omega
        · omega
      rcases stepM_more (L := L) (c := c) hm hs he with ⟨h1, h2⟩ | h
      · have e : goM L c k (stepM L c s) = (stepM L c s, 0) := by
          cases k with
          | zero => rfl
          | succ k => unfold goM; rw [if_neg (by omega)]
        rw [e]
        exact .inl ⟨h1, h2⟩
      · rw [h]
        rcases goM_more hm (k := k) (stepM_fine (L := L) (c := c) hs he) with h3 | h3
        · exact .inl h3
        · rw [h3]; exact .inr rfl
    · rw [if_neg hs, if_neg hs]
      exact .inr rfl
theorem runM_more {L : List Ins} {c : Cx} {gas m : Int} {W : List Int} (hm : 0 ≤ m) : Alike (runM L c (startM gas W) 500) (runM L c (startM (gas + m) W) 500) m := by
  have e1 : ¬ ((startM gas W).st ≠ 0 ∨ (500 : Int) < 1) := by simp [startM]
  have e2 : ¬ ((startM (gas + m) W).st ≠ 0 ∨ (500 : Int) < 1) := by simp [startM]
  unfold runM
  rw [if_neg e1, if_neg e2]
  split
  · exact goM_more (s := startM gas W) hm (.inl ⟨rfl, rfl⟩)
  · exact .inr rfl
end Go.Proofs.YtnllcmcahfkmaaaDoor
namespace Go.Proofs.YtnllcmcahfkmaaaDoor
open Go.RowKit

/-- Of what there was in w the blocks of S alone may have changed. -/
structure Chg (w w' : World) (S : List Nat) : Prop where
  os : w'.os = w.os
  tape : w'.tape = w.tape
  output : w'.output = w.output
  size : w.heap.size ≤ w'.heap.size
  block : ∀ k, k < w.heap.size → k ∉ S → w'.heap[k]? = w.heap[k]?

theorem Chg.refl (w : World) (S : List Nat) : Chg w w S := ⟨rfl, rfl, rfl, Nat.le_refl _, fun _ _ _ => rfl⟩
theorem Chg.trans {a b c : World} {S T : List Nat} (h : Chg a b S) (k : Chg b c T) (hT : ∀ x, x ∈ T → x < a.heap.size → x ∈ S) : Chg a c S :=
  ⟨k.os.trans h.os, k.tape.trans h.tape, k.output.trans h.output, Nat.le_trans h.size k.size, fun i hi hn =>
    (k.block i (Nat.lt_of_lt_of_le hi h.size) (fun hx => hn (hT i hx hi))).trans (h.block i hi hn)⟩
theorem Chg.below {w w' : World} {B : Nat} (h : Below B w w') (hB : w.heap.size ≤ B) (S : List Nat) : Chg w w' S := ⟨h.os, h.tape, h.output, h.size, fun k hk _ => h.block k (by omega)⟩
theorem Chg.grown {w w' : World} {row : Option Nat} (h : w.grownBy w' row) {S : List Nat} (hS : ∀ k, row = some k → k ∈ S) : Chg w w' S :=
  ⟨h.os, h.tape, h.output, h.size, fun k hk hn => h.block k hk (fun e => hn (hS k e.symm))⟩
theorem Chg.alloc {a w : World} {S : List Nat} (h : Chg a w S) (o : Obj) : Chg a (w.alloc o) S :=
  h.trans (T := []) (Chg.below ((Below.refl _ _).alloc (Nat.le_refl _) o) (Nat.le_refl _) []) (fun _ h => by cases h)
theorem Chg.drew {a w : World} {S : List Nat} (h : Chg a w S) : Chg a w.drew S := ⟨h.os, h.tape, h.output, h.size, h.block⟩
theorem Chg.setCell {a w : World} {S : List Nat} (h : Chg a w S) {p : Addr} (hp : p.block ∈ S ∨ a.heap.size ≤ p.block) (u : Value) : Chg a (w.setCell p u) S := by
  refine h.trans (T := [p.block]) ⟨rfl, rfl, rfl, by simp [World.setCell], fun k hk hn => Below.heap_setCell _ _ _ _ (by simpa using hn)⟩ ?_
  intro x hx hl
  obtain rfl := List.mem_singleton.1 hx
  rcases hp with hp | hp
  · exact hp
  · omega
theorem Chg.toBelow {w w' : World} {S : List Nat} {B : Nat} (h : Chg w w' S) (hB : B ≤ w.heap.size) (hS : ∀ k, k ∈ S → B ≤ k) : Below B w w' :=
  ⟨h.os, h.tape, h.output, h.size, fun k hk => h.block k (by omega) (fun hx => by have := hS k hx; omega)⟩
theorem Chg.mono {w w' : World} {S T : List Nat} (h : Chg w w' S) (hS : ∀ k, k ∈ S → k < w.heap.size → k ∈ T) : Chg w w' T :=
  ⟨h.os, h.tape, h.output, h.size, fun k hk hn => h.block k hk (fun hx => hn (hS k hx hk))⟩

/-- Cells of bytes. -/
def bc (xs : List Int) : List Value := xs.map (Value.int .u8)
@[simp] theorem bc_len (xs : List Int) : (bc xs).length = xs.length := by simp [bc]
theorem bc_append (xs ys : List Int) : bc (xs ++ ys) = bc xs ++ bc ys := by simp [bc]
theorem bc_one (xs : List Int) : ∀ u ∈ bc xs, u.oneCell' = true := by
  intro u hu
  obtain ⟨x, _, rfl⟩ := List.mem_map.1 hu
  rfl
theorem bc_get {xs : List Int} {j : Nat} {u : Value} (h : (bc xs)[j]? = some u) : ∃ x, xs[j]? = some x ∧ u = .int .u8 x := by
  simp only [bc, List.getElem?_map, Option.map_eq_some_iff] at h
  obtain ⟨x, hx, rfl⟩ := h
  exact ⟨x, hx, rfl⟩

/-- Whether all are bytes. -/
def Bytes (xs : List Int) : Prop := ∀ x ∈ xs, 0 ≤ x ∧ x < 256

/-- A number's eight bytes, the highest first. -/
def be8 (n : Int) : List Int := [n / 72057594037927936 % 256, n / 281474976710656 % 256, n / 1099511627776 % 256, n / 4294967296 % 256, n / 16777216 % 256, n / 65536 % 256, n / 256 % 256, n % 256]
/-- The number of bytes, the highest first. -/
def num (xs : List Int) : Int := xs.foldl (fun a x => a * 256 + x) 0
@[simp] theorem be8_len (n : Int) : (be8 n).length = 8 := rfl
theorem be8_bytes (n : Int) : Bytes (be8 n) := by
  intro x hx
  simp only [be8, List.mem_cons, List.not_mem_nil, or_false] at hx
  omega
theorem num_be8 {n : Int} (h0 : 0 ≤ n) (h1 : n < 18446744073709551616) : num (be8 n) = n := by
  simp only [num, be8, List.foldl_cons, List.foldl_nil]
  omega

/-! ### Slices that read as bytes -/
/-- The slice v reads as the bytes xs. -/
def Rd (w : World) (v : Value) (xs : List Int) : Prop := ∃ q c, v = .slice q xs.length c ∧ (xs = [] ∨ ∃ b off, q = some ⟨b, off, none⟩ ∧ ∀ i, i < xs.length → w.cell? ⟨b, off + i, none⟩ = some (.int .u8 (xs.getD i 0)))

section
variable {w w' : World} {v : Value} {xs : List Int}
theorem Rd.nil (w : World) : Rd w (.slice none 0 0) [] := ⟨none, 0, rfl, .inl rfl⟩
theorem lt_of_cell {a : Addr} {u : Value} (h : w.cell? a = some u) : a.block < w.heap.size := World.block_lt_of_cell? w a h
theorem Rd.chg {S : List Nat} (h : Rd w v xs) (hc : Chg w w' S) (hS : xs ≠ [] → ∀ k, v.ownBlock = some k → k < w.heap.size → k ∉ S) : Rd w' v xs := by
  obtain ⟨q, c, rfl, hq | ⟨b, off, rfl, hx⟩⟩ := h
  · exact ⟨q, c, rfl, .inl hq⟩
  · refine ⟨_, c, rfl, .inr ⟨b, off, rfl, fun i hi => ?_⟩⟩
    have hb := lt_of_cell (hx i hi)
    rw [World.cell?_of_block (w := w) (hc.block b hb (hS (by rintro rfl; simp at hi) b rfl hb))]
    exact hx i hi
theorem Rd.on (h : Rd w v xs) (hb : Below w.heap.size w w') : Rd w' v xs := h.chg (Chg.below hb (Nat.le_refl _) []) (fun _ _ _ _ h => by cases h)
theorem Rd.alloc (h : Rd w v xs) (o : Obj) : Rd (w.alloc o) v xs := h.on ((Below.refl _ _).alloc (Nat.le_refl _) o)
theorem Rd.drew (h : Rd w v xs) : Rd w.drew v xs := h
theorem Rd.setCell (h : Rd w v xs) {a : Addr} (ha : v.ownBlock ≠ some a.block) (u : Value) : Rd (w.setCell a u) v xs := by
  refine h.chg (S := [a.block]) ((Chg.refl w [a.block]).setCell (.inl (by simp)) u) ?_
  intro _ k hk _ hm
  obtain rfl := List.mem_singleton.1 hm
  exact ha hk
theorem Rd.lt (h : Rd w v xs) (hx : xs ≠ []) {k : Nat} (hk : v.ownBlock = some k) : k < w.heap.size := by
  obtain ⟨q, c, rfl, rfl | ⟨b, off, rfl, hc⟩⟩ := h
  · exact absurd rfl hx
  · have := lt_of_cell (hc 0 (List.length_pos_iff.2 hx))
    simp [Value.ownBlock] at hk
    simpa [← hk] using this
theorem Rd.len (h : Rd w v xs) : ∃ q c, v = .slice q xs.length c := by
  obtain ⟨q, c, e, _⟩ := h
  exact ⟨q, c, e⟩
theorem addr_add (b off i : Nat) : (⟨b, off, none⟩ : Addr).add i = ⟨b, off + i, none⟩ := by unfold Addr.add; split <;> simp_all
theorem getD_of {xs : List Int} {j : Nat} {x : Int} (h : xs[j]? = some x) : xs.getD j 0 = x := by simp [List.getD, h]
theorem Rd.src {P : Program} {tx e' : TypeId} (hk : P.underlying tx = some (.slice e')) (h : Rd w v xs) : Src P 1 tx v xs.length (bc xs) w := by
  obtain ⟨q, c, rfl, rfl | ⟨b, off, rfl, hx⟩⟩ := h
  · cases q with
    | none => exact Src.ofNil w hk c
    | some a => exact Src.ofSlice w hk a 0 c [] (by simp) (fun j u hu => by simp at hu) (by simp)
  · refine Src.ofSlice w hk _ _ _ _ (by simp) (fun j u hu => ?_) (bc_one xs)
    obtain ⟨x, hj, rfl⟩ := bc_get hu
    have hl : j < xs.length := (List.getElem?_eq_some_iff.1 hj).1
    rw [addr_add, hx j hl, getD_of hj]
theorem Rd.str {P : Program} {src e dst : TypeId} (h : Rd w v xs) (hs : P.underlying src = some (.slice e)) (he : P.underlying e = some (.int .u8)) (hd : P.underlying dst = some .string) :
    (convert src dst v).run P w = .ok (.string (strOfNums xs)) w := by
  obtain ⟨q, c, rfl, rfl | ⟨b, off, rfl, hx⟩⟩ := h
  · cases q with
    | none => exact run_convert_bytes_nil w src e hs he _ _ dst hd
    | some a =>
      have hl : (loadCells a 0).run P w = .ok (([] : List Int).map (Value.int .u8)).toArray w := run_loadCells_list (P := P) w a [] (fun j v hj => by simp at hj)
      rw [run_convert_bytes_string w src dst e _ _ c hs he hd, show ([] : List Int).length = 0 from rfl, run_bytesToString w a 0 c [] hl]
      rfl
  · exact run_convert_bytes_arg w src e hs he b off _ c xs rfl hx dst hd
end

/-! ### A row of the call's own, appended to -/
theorem setCells_in {b : Nat} {t : TypeId} {fr : Nat × Nat} : ∀ (vs : List Value) {o : Nat} {w : World} {pre mid post : List Value}, w.heap[b]? = some (.cells (pre ++ (mid ++ post)).toArray t fr) → pre.length = o → mid.length = vs.length →
    (w.setCells b o vs).heap[b]? = some (.cells (pre ++ (vs ++ post)).toArray t fr)
  | [], o, w, pre, mid, post, h, _, hm => by
    obtain rfl : mid = [] := by simpa using hm
    exact h
  | v :: vs, o, w, pre, [], post, h, _, hm => by simp at hm
  | v :: vs, o, w, pre, m :: mid, post, h, hp, hm => by
    have h1 : (w.setCell ⟨b, o, none⟩ v).heap[b]? = some (.cells ((pre ++ [v]) ++ (mid ++ post)).toArray t fr) := by
      rw [Joins.block_setCell h v]
      congr 2
      apply Array.ext'
      simp [hp.symm]
    have := setCells_in vs (o := o + 1) h1 (by simp [hp]) (by simpa using hm)
    rw [World.setCells, this]
    simp
theorem setCells_apart {b c : Nat} (hne : c ≠ b) : ∀ (vs : List Value) (o : Nat) (w : World), (w.setCells b o vs).heap[c]? = w.heap[c]?
  | [], _, _ => rfl
  | v :: vs, o, w => by
    rw [World.setCells, setCells_apart hne vs (o + 1) _, Below.heap_setCell _ _ _ _ hne]
theorem setCells_same (b : Nat) : ∀ (vs : List Value) (o : Nat) (w : World), (w.setCells b o vs).heap.size = w.heap.size ∧ (w.setCells b o vs).os = w.os ∧ (w.setCells b o vs).tape = w.tape ∧ (w.setCells b o vs).output = w.output
  | [], _, _ => ⟨rfl, rfl, rfl, rfl⟩
  | v :: vs, o, w => by
    obtain ⟨a, b', c, d⟩ := setCells_same b vs (o + 1) (w.setCell ⟨b, o, none⟩ v)
    rw [World.setCells]
    exact ⟨by rw [a]; simp [World.setCell], b', c, d⟩

section
variable {P : Program} {w : World}
theorem append_row {t tx ty e : TypeId} {i : TypeInfo} {z : Value} {size bytes : Nat} (ht : P.underlying t = some (.slice e)) (hi : P.info? e = some i) (hz : i.zero = some z)
    (hsize : i.size = size) (hby : i.bytes = bytes) (hzs : z.cells.size = size)
    {v : Value} {n : Nat} {xs : List Value} (hown : w.ownsRow 0 e size v n xs) {x : Value} {m : Nat} {news : List Value} (hs : Src P size tx x m news w)
    (h63 : n + m ≤ maxLen) (hbytes : (n + m) * bytes ≤ 140737488355328) :
    ∃ v' w', (Builtin.append_ #[t, tx] ty #[v, x]).run P w = .ok v' w' ∧ w'.ownsRow 0 e size v' (n + m) (xs ++ news) ∧ w.grownBy w' v.ownBlock ∧
      (v'.ownBlock = v.ownBlock ∨ v'.ownBlock = some w.heap.size) := by
  subst hsize
  subst hby
  have hsmall : n + m ≤ 9223372036854775807 := by simp only [maxLen] at h63; omega
  have hlen : (xs ++ news).length = (n + m) * i.size := by rw [List.length_append, hown.1, hs.newsLen, Nat.add_mul]
  have grown : ∀ (old : Nat), old < n + m → ∀ (row : Option Nat),
      (w.drew.alloc (.cells ((xs ++ news).toArray ++ Builtin.zeroCells z.cells (grownCap w (n + m) old e - (n + m))) e)).ownsRow 0 e i.size
        (.slice (some ⟨w.heap.size, 0, none⟩) (n + m) (grownCap w (n + m) old e)) (n + m) (xs ++ news) ∧
      w.grownBy (w.drew.alloc (.cells ((xs ++ news).toArray ++ Builtin.zeroCells z.cells (grownCap w (n + m) old e - (n + m))) e)) row := by
    intro old ho row
    have hge := grownCap_ge w (n + m) old e
    have hcm : grownCap w (n + m) old e ≤ maxLen := grownCap_le_maxLen w (n + m) old e h63
    refine ⟨⟨hlen, .inr ⟨w.heap.size, _, _, rfl, Nat.zero_le _, heap_alloc_new w.drew _, hge, hcm, ?_, ?_⟩⟩, ⟨rfl, rfl, rfl, by simp, fun k hk _ => Below.heap_alloc w.drew _ k hk⟩⟩
    · rw [Array.size_append, List.size_toArray, size_zeroCells, hzs, hlen, ← Nat.add_mul]
      congr 1
      omega
    · rw [Array.toList_append]
      exact List.take_left' hlen
  rcases hown.2 with ⟨rfl, rfl⟩ | ⟨g, cap, cur, rfl, _, hg, hnc, hcm, hcs, htake⟩
  · obtain rfl : xs = [] := List.eq_nil_of_length_eq_zero (by simpa using hown.1)
    by_cases hm : m = 0
    · subst hm
      obtain rfl : news = [] := List.eq_nil_of_length_eq_zero (by simpa using hs.newsLen)
      refine ⟨.slice none 0 0, w, ?_, World.ownsRow_nil w 0 e i.size, ⟨rfl, rfl, rfl, Nat.le_refl _, fun _ _ _ => rfl⟩, .inl rfl⟩
      have hc := hs.cells
      rcases hs.kind with ⟨e', hk⟩ | hk <;> simp [Builtin.append_, run_underlying ht, run_underlying hk, sizeOf, typeInfo, hi, hs.len, hc]
    · have hr := run_append_grow_src (P := P) w t tx ty e i z ht hi hz none 0 0 [] (run_firstCells_none w.drew i.size 0 0 0) x m news hs (by omega) (by omega) (growslice_fits (by omega) (by simpa using hbytes))
      have hgr := grown 0 (by omega) (Value.ownBlock (.slice none 0 0))
      simp only [Nat.zero_add, List.nil_append] at hgr hr ⊢
      exact ⟨_, _, hr, hgr.1, hgr.2, .inr rfl⟩
  · have hfrozen : ∀ j, w.frozen? ⟨g, j, none⟩ = false := fun j => Joins.unfrozen_of_block hg j
    by_cases hroom : n + m ≤ cap
    · have hfit : n * i.size + news.length ≤ cur.size := by rw [hs.newsLen, hcs, ← Nat.add_mul]; exact Nat.mul_le_mul_right _ hroom
      have hr := run_append_room_src (P := P) w t tx ty e i ht hi g 0 n cap x m news hs hroom
        (fun j hj => by
          rw [cell_of_row w g _ cur e (0, 0) hg]
          have : n * i.size + j < cur.size := by omega
          simp [this]) (fun j hj => hfrozen _)
      have hsplit : cur = (xs ++ ((cur.toList.drop (n * i.size)).take news.length ++ cur.toList.drop (n * i.size + news.length))).toArray := by
        apply Array.ext'
        show cur.toList = xs ++ ((cur.toList.drop (n * i.size)).take news.length ++ cur.toList.drop (n * i.size + news.length))
        rw [← List.drop_drop, List.take_append_drop, ← htake, List.take_append_drop]
      have hblk := setCells_in (w := w) (b := g) (t := e) (fr := (0, 0)) (o := 0 + n * i.size) (pre := xs) (mid := (cur.toList.drop (n * i.size)).take news.length) (post := cur.toList.drop (n * i.size + news.length)) news
        (by rw [← hsplit]; exact hg) (by rw [hown.1]; omega) (by have hL : cur.toList.length = cur.size := Array.length_toList; rw [List.length_take, List.length_drop]; omega)
      obtain ⟨s1, s2, s3, s4⟩ := setCells_same g news (0 + n * i.size) w
      refine ⟨_, _, hr, ⟨hlen, .inr ⟨g, cap, _, rfl, Nat.zero_le _, hblk, hroom, hcm, ?_, ?_⟩⟩, ⟨s2, s3, s4, by omega, fun k _ hk => setCells_apart (fun e => hk (by simp [Value.ownBlock, e])) news _ w⟩, .inl rfl⟩
      · have hL : cur.toList.length = cur.size := Array.length_toList
        have hx := hown.1
        rw [List.size_toArray, List.length_append, List.length_append, List.length_drop]
        omega
      · show ((xs ++ (news ++ cur.toList.drop (n * i.size + news.length)))).take ((n + m) * i.size) = xs ++ news
        rw [← List.append_assoc]
        exact List.take_left' hlen
    · have holds : ∀ j u, xs[j]? = some u → w.cell? ((⟨g, 0, none⟩ : Addr).add j) = some u := hown.cells (g := g) rfl
      have hr := run_append_grow_src (P := P) w t tx ty e i z ht hi hz (some ⟨g, 0, none⟩) n cap xs (run_firstCells_some w.drew i.size n ⟨g, 0, none⟩ n cap xs hown.1 (by simpa using holds)) x m news hs (by omega) (by omega) (growslice_fits (by omega) hbytes)
      have hgr := grown cap (by omega) (Value.ownBlock (.slice (some ⟨g, 0, none⟩) n cap))
      exact ⟨_, _, hr, hgr.1, hgr.2, .inr rfl⟩

/-- At the operation. -/
theorem wp_append_row {o : Oper} {a : Act} {K : Act → World → Prop} {Q : Exit → Act → World → Prop} (s x : Operand) {t tx e : TypeId}
    (ho : o.op = .call { callee := .builtin .append, args := #[s, x], argTypes := #[t, tx] })
    {i : TypeInfo} {z : Value} {size bytes : Nat} (ht : P.underlying t = some (.slice e)) (hi : P.info? e = some i) (hz : i.zero = some z)
    (hsize : i.size = size) (hby : i.bytes = bytes) (hzs : z.cells.size = size)
    {n : Nat} {xs : List Value} (hown : w.ownsRow 0 e size (a.eval s) n xs) {m : Nat} {news : List Value} (hs : Src P size tx (a.eval x) m news w)
    (h63 : n + m ≤ maxLen) (hbytes : (n + m) * bytes ≤ 140737488355328)
    (h : ∀ q c w', w'.ownsRow 0 e size (.slice q (n + m) c) (n + m) (xs ++ news) → w.grownBy w' (a.eval s).ownBlock → ((Value.slice q (n + m) c).ownBlock = (a.eval s).ownBlock ∨ (Value.slice q (n + m) c).ownBlock = some w.heap.size) → K (a.put o.dst (.slice q (n + m) c)) w') : o.wp P a w K Q := by
  obtain ⟨v', w', hr, h2, h3, h4⟩ := append_row (ty := o.type) ht hi hz hsize hby hzs hown hs h63 hbytes
  unfold Oper.wp execOp
  simp only [ho, resolve, invoke, builtin, Sem.run_bind, Sem.run_pure, Result.andThen_ok, List.map_toArray, List.map_cons, List.map_nil, hr]
  rcases h2.2 with ⟨rfl, h0⟩ | ⟨g, cap, cur, rfl, _⟩
  · have := h none 0 w'
    rw [h0] at this h2
    exact this h2 h3 h4
  · exact h _ cap w' h2 h3 h4
theorem wpList_append_row {ops : Array Oper} {rest : List Oper} {o : Oper} {a : Act} {Q : Exit → Act → World → Prop} (hgd : o.guard = none) (s x : Operand) {t tx e : TypeId}
    (ho : o.op = .call { callee := .builtin .append, args := #[s, x], argTypes := #[t, tx] })
    {i : TypeInfo} {z : Value} {size bytes : Nat} (ht : P.underlying t = some (.slice e)) (hi : P.info? e = some i) (hz : i.zero = some z)
    (hsize : i.size = size) (hby : i.bytes = bytes) (hzs : z.cells.size = size)
    {n : Nat} {xs : List Value} (hown : w.ownsRow 0 e size (a.eval s) n xs) {m : Nat} {news : List Value} (hs : Src P size tx (a.eval x) m news w)
    (h63 : n + m ≤ maxLen) (hbytes : (n + m) * bytes ≤ 140737488355328)
    (h : ∀ q c w', w'.ownsRow 0 e size (.slice q (n + m) c) (n + m) (xs ++ news) → w.grownBy w' (a.eval s).ownBlock → ((Value.slice q (n + m) c).ownBlock = (a.eval s).ownBlock ∨ (Value.slice q (n + m) c).ownBlock = some w.heap.size) → wpList P ops Q rest (a.put o.dst (.slice q (n + m) c)) w') : wpList P ops Q (o :: rest) a w :=
  wpList_plain hgd fun _ hK => wp_append_row s x ho ht hi hz hsize hby hzs hown hs h63 hbytes fun q c w' h2 h3 h4 => hK _ _ (h q c w' h2 h3 h4)
end
/-- A row of bytes of one's own reads as these. -/
theorem rd_of_row {w : World} {e : TypeId} {v : Value} {n : Nat} {xs : List Int} (h : w.ownsRow 0 e 1 v n (bc xs)) : Rd w v xs := by
  have hl : xs.length = n := by have := h.1; simpa using this
  subst hl
  rcases h.2 with ⟨rfl, h0⟩ | ⟨g, cap, cur, rfl, _, hg, _, _, _, htake⟩
  · obtain rfl : xs = [] := List.eq_nil_of_length_eq_zero h0
    exact Rd.nil w
  · refine ⟨_, cap, rfl, .inr ⟨g, 0, rfl, fun i hi => ?_⟩⟩
    have := h.cells (g := g) rfl i (.int .u8 (xs.getD i 0)) (by simp [bc, List.getD, hi])
    rw [addr_add] at this
    exact this
end Go.Proofs.YtnllcmcahfkmaaaDoor
namespace Go.Proofs.YtnllcmcahfkmaaaDoor
set_option maxRecDepth 100000
open Go.RowKit

theorem truth_any (w : World) (b : Bool) : Calls Tryd.prog 35 #[.bool b] w fun e w' => e = .returned (.int .u64 (tru b)) ∧ w' = w := by
  cases b with
  | false =>
    go_enter Tryd.func35, Tryd.ntmps35
    go_wp2_with fail
    go_ret
    exact ⟨rfl, rfl⟩
  | true =>
    go_enter Tryd.func35, Tryd.ntmps35
    go_wp2_with fail
    go_ret
    exact ⟨rfl, rfl⟩

set_option maxHeartbeats 4000000 in
theorem rightInstr_any (w : World) (op a : Int) : Calls Tryd.prog 19 #[.agg #[.int .i64 op, .int .u64 a]] w fun e w' => e = .returned (.bool (insOk ⟨op, a⟩)) ∧ Below w.heap.size w w' := by
  have B := Lib.hid ((Below.refl w.heap.size w).alloc (Nat.le_refl _) (.cells #[.int .i64 op, .int .u64 a] 47))
  by_cases h1 : op = 1
  · subst h1
    have E : insOk ⟨1, a⟩ = true := rfl
    rw [E]
    clear E
    go_enter Tryd.func19, Tryd.ntmps19
    go_wp2_with fail
    go_ret
    exact ⟨rfl, B.out⟩
  have x1 : (op == 1) = false := by simp [h1]
  by_cases h12 : op = 12
  · subst h12
    have E : insOk ⟨12, a⟩ = true := rfl
    rw [E]
    clear E
    go_enter Tryd.func19, Tryd.ntmps19
    go_wp2_with fail
    go_ret
    exact ⟨rfl, B.out⟩
  have x12 : (op == 12) = false := by simp [h12]
  by_cases h13 : op = 13
  · subst h13
    have E : insOk ⟨13, a⟩ = true := rfl
    rw [E]
    clear E
    go_enter Tryd.func19, Tryd.ntmps19
    go_wp2_with fail
    go_ret
    exact ⟨rfl, B.out⟩
  have x13 : (op == 13) = false := by simp [h13]
  by_cases h16 : op = 16
  · subst h16
    have E : insOk ⟨16, a⟩ = true := rfl
    rw [E]
    clear E
    go_enter Tryd.func19, Tryd.ntmps19
    go_wp2_with fail
    go_ret
    exact ⟨rfl, B.out⟩
  have x16 : (op == 16) = false := by simp [h16]
  by_cases h3 : op = 3
  · subst h3
    have E : insOk ⟨3, a⟩ = decide (a < 32) := rfl
    rw [E]
    clear E
    go_enter Tryd.func19, Tryd.ntmps19
    go_wp2_with fail
    go_ret
    exact ⟨rfl, B.out⟩
  have x3 : (op == 3) = false := by simp [h3]
  by_cases h4 : op = 4
  · subst h4
    have E : insOk ⟨4, a⟩ = decide (a < 32) := rfl
    rw [E]
    clear E
    go_enter Tryd.func19, Tryd.ntmps19
    go_wp2_with fail
    go_ret
    exact ⟨rfl, B.out⟩
  have x4 : (op == 4) = false := by simp [h4]
  by_cases h14 : op = 14
  · subst h14
    have E : insOk ⟨14, a⟩ = decide (a < 16) := rfl
    rw [E]
    clear E
    go_enter Tryd.func19, Tryd.ntmps19
    go_wp2_with fail
    go_ret
    exact ⟨rfl, B.out⟩
  have x14 : (op == 14) = false := by simp [h14]
  by_cases h15 : op = 15
  · subst h15
    have E : insOk ⟨15, a⟩ = decide (a < 16) := rfl
    rw [E]
    clear E
    go_enter Tryd.func19, Tryd.ntmps19
    go_wp2_with fail
    go_ret
    exact ⟨rfl, B.out⟩
  have x15 : (op == 15) = false := by simp [h15]
  have E : insOk ⟨op, a⟩ = (decide (0 ≤ op) && (decide (op ≤ 19) && (a == 0))) := by
    unfold insOk
    simp only
    rw [if_neg (by omega), if_neg (by omega), if_neg (by omega)]
  rw [E]
  clear E h1 h12 h13 h16 h3 h4 h14 h15
  by_cases g1 : 0 ≤ op
  · have d1 : decide (0 ≤ op) = true := decide_eq_true g1
    have d1' : decide (op ≥ 0) = true := decide_eq_true g1
    by_cases g2 : op ≤ 19
    · have d2 : decide (op ≤ 19) = true := decide_eq_true g2
      rw [d1, d2]
      clear g1 g2
      go_enter Tryd.func19, Tryd.ntmps19
      go_wp2_with fail
      go_ret
      exact ⟨rfl, B.out⟩
    · have d2 : decide (op ≤ 19) = false := decide_eq_false g2
      rw [d1, d2]
      clear g1 g2
      go_enter Tryd.func19, Tryd.ntmps19
      go_wp2_with fail
      go_ret
      exact ⟨rfl, B.out⟩
  have d1 : decide (0 ≤ op) = false := decide_eq_false g1
  have d1' : decide (op ≥ 0) = false := decide_eq_false g1
  rw [d1]
  clear g1
  go_enter Tryd.func19, Tryd.ntmps19
  go_wp2_with fail
  go_ret
  exact ⟨rfl, B.out⟩

set_option maxHeartbeats 4000000 in
theorem effect_any (w : World) (op a : Int) (ha0 : 0 ≤ a) (ha3 : op = 3 ∨ op = 4 → a < 32) : Calls Tryd.prog 34 #[.agg #[.int .i64 op, .int .u64 a]] w fun e w' => e = .returned (.tuple #[.int .i64 (needsM ⟨op, a⟩), .int .i64 (moreM ⟨op, a⟩)]) ∧ Below w.heap.size w w' := by
  have B := Lib.hid ((Below.refl w.heap.size w).alloc (Nat.le_refl _) (.cells #[.int .i64 op, .int .u64 a] 47))
  by_cases h1 : op = 1
  · subst h1
    have E1 : needsM ⟨1, a⟩ = 0 := rfl
    have E2 : moreM ⟨1, a⟩ = 1 := rfl
    rw [E1, E2]
    clear E1 E2
    clear ha3 ha0
    go_enter Tryd.func34, Tryd.ntmps34
    go_wp2_with fail
    go_ret2
    exact ⟨rfl, B.out⟩
  have x1 : (op == 1) = false := by simp [h1]
  by_cases h14 : op = 14
  · subst h14
    have E1 : needsM ⟨14, a⟩ = 0 := rfl
    have E2 : moreM ⟨14, a⟩ = 1 := rfl
    rw [E1, E2]
    clear E1 E2
    clear ha3 ha0
    go_enter Tryd.func34, Tryd.ntmps34
    go_wp2_with fail
    go_ret2
    exact ⟨rfl, B.out⟩
  have x14 : (op == 14) = false := by simp [h14]
  by_cases h16 : op = 16
  · subst h16
    have E1 : needsM ⟨16, a⟩ = 0 := rfl
    have E2 : moreM ⟨16, a⟩ = 1 := rfl
    rw [E1, E2]
    clear E1 E2
    clear ha3 ha0
    go_enter Tryd.func34, Tryd.ntmps34
    go_wp2_with fail
    go_ret2
    exact ⟨rfl, B.out⟩
  have x16 : (op == 16) = false := by simp [h16]
  by_cases h17 : op = 17
  · subst h17
    have E1 : needsM ⟨17, a⟩ = 0 := rfl
    have E2 : moreM ⟨17, a⟩ = 1 := rfl
    rw [E1, E2]
    clear E1 E2
    clear ha3 ha0
    go_enter Tryd.func34, Tryd.ntmps34
    go_wp2_with fail
    go_ret2
    exact ⟨rfl, B.out⟩
  have x17 : (op == 17) = false := by simp [h17]
  by_cases h18 : op = 18
  · subst h18
    have E1 : needsM ⟨18, a⟩ = 0 := rfl
    have E2 : moreM ⟨18, a⟩ = 1 := rfl
    rw [E1, E2]
    clear E1 E2
    clear ha3 ha0
    go_enter Tryd.func34, Tryd.ntmps34
    go_wp2_with fail
    go_ret2
    exact ⟨rfl, B.out⟩
  have x18 : (op == 18) = false := by simp [h18]
  by_cases h2 : op = 2
  · subst h2
    have E1 : needsM ⟨2, a⟩ = 1 := rfl
    have E2 : moreM ⟨2, a⟩ = -1 := rfl
    rw [E1, E2]
    clear E1 E2
    clear ha3 ha0
    go_enter Tryd.func34, Tryd.ntmps34
    go_wp2_with fail
    go_ret2
    exact ⟨rfl, B.out⟩
  have x2 : (op == 2) = false := by simp [h2]
  by_cases h13 : op = 13
  · subst h13
    have E1 : needsM ⟨13, a⟩ = 1 := rfl
    have E2 : moreM ⟨13, a⟩ = -1 := rfl
    rw [E1, E2]
    clear E1 E2
    clear ha3 ha0
    go_enter Tryd.func34, Tryd.ntmps34
    go_wp2_with fail
    go_ret2
    exact ⟨rfl, B.out⟩
  have x13 : (op == 13) = false := by simp [h13]
  by_cases h15 : op = 15
  · subst h15
    have E1 : needsM ⟨15, a⟩ = 1 := rfl
    have E2 : moreM ⟨15, a⟩ = -1 := rfl
    rw [E1, E2]
    clear E1 E2
    clear ha3 ha0
    go_enter Tryd.func34, Tryd.ntmps34
    go_wp2_with fail
    go_ret2
    exact ⟨rfl, B.out⟩
  have x15 : (op == 15) = false := by simp [h15]
  by_cases h3 : op = 3
  · subst h3
    have E1 : needsM ⟨3, a⟩ = a + 1 := rfl
    have E2 : moreM ⟨3, a⟩ = 1 := rfl
    rw [E1, E2]
    clear E1 E2
    have ha := ha3 (by omega)
    have w1 : IntKind.i64.wrap a = a := IntWalk.i64_in _ (by omega)
    have w2 : IntKind.i64.wrap (a + 1) = a + 1 := IntWalk.i64_in _ (by omega)
    clear ha
    clear ha3 ha0
    go_enter Tryd.func34, Tryd.ntmps34
    go_wp2_with fail
    go_ret2
    exact ⟨rfl, B.out⟩
  have x3 : (op == 3) = false := by simp [h3]
  by_cases h4 : op = 4
  · subst h4
    have E1 : needsM ⟨4, a⟩ = a + 2 := rfl
    have E2 : moreM ⟨4, a⟩ = 0 := rfl
    rw [E1, E2]
    clear E1 E2
    have ha := ha3 (by omega)
    have w1 : IntKind.i64.wrap a = a := IntWalk.i64_in _ (by omega)
    have w2 : IntKind.i64.wrap (a + 2) = a + 2 := IntWalk.i64_in _ (by omega)
    clear ha
    clear ha3 ha0
    go_enter Tryd.func34, Tryd.ntmps34
    go_wp2_with fail
    go_ret2
    exact ⟨rfl, B.out⟩
  have x4 : (op == 4) = false := by simp [h4]
  by_cases h0 : op = 0
  · subst h0
    have E1 : needsM ⟨0, a⟩ = 0 := rfl
    have E2 : moreM ⟨0, a⟩ = 0 := rfl
    rw [E1, E2]
    clear E1 E2
    clear ha3 ha0
    go_enter Tryd.func34, Tryd.ntmps34
    go_wp2_with fail
    go_ret2
    exact ⟨rfl, B.out⟩
  have x0 : (op == 0) = false := by simp [h0]
  by_cases h12 : op = 12
  · subst h12
    have E1 : needsM ⟨12, a⟩ = 0 := rfl
    have E2 : moreM ⟨12, a⟩ = 0 := rfl
    rw [E1, E2]
    clear E1 E2
    clear ha3 ha0
    go_enter Tryd.func34, Tryd.ntmps34
    go_wp2_with fail
    go_ret2
    exact ⟨rfl, B.out⟩
  have x12 : (op == 12) = false := by simp [h12]
  by_cases h19 : op = 19
  · subst h19
    have E1 : needsM ⟨19, a⟩ = 0 := rfl
    have E2 : moreM ⟨19, a⟩ = 0 := rfl
    rw [E1, E2]
    clear E1 E2
    clear ha3 ha0
    go_enter Tryd.func34, Tryd.ntmps34
    go_wp2_with fail
    go_ret2
    exact ⟨rfl, B.out⟩
  have x19 : (op == 19) = false := by simp [h19]
  have E1 : needsM ⟨op, a⟩ = 2 := by
    unfold needsM
    simp only
    rw [if_neg (by omega), if_neg (by omega), if_neg (by omega), if_neg (by omega), if_neg (by omega)]
  have E2 : moreM ⟨op, a⟩ = -1 := by
    unfold moreM
    simp only
    rw [if_neg (by omega), if_neg (by omega), if_neg (by omega), if_neg (by omega), if_neg (by omega)]
  rw [E1, E2]
  clear E1 E2
  clear ha3 ha0 h1 h14 h16 h17 h18 h2 h13 h15 h3 h4 h0 h12 h19
  go_enter Tryd.func34, Tryd.ntmps34
  go_wp2_with fail
  go_ret2
  exact ⟨rfl, B.out⟩

set_option maxHeartbeats 4000000 in
theorem reckon_any (w : World) (op b a : Int) (hb : 0 ≤ b ∧ b < 18446744073709551616) (ha : 0 ≤ a ∧ a < 18446744073709551616) : Calls Tryd.prog 25 #[.int .i64 op, .int .u64 b, .int .u64 a] w fun e w' => e = .returned (.tuple #[.int .u64 (rkV op b a), .int .i64 (rkE op a)]) ∧ w' = w := by
  by_cases h5 : op = 5
  · subst h5
    clear ha hb
    go_enter Tryd.func25, Tryd.ntmps25
    go_wp2_with fail
    go_ret2
    exact ⟨rfl, rfl⟩
  have x5 : (op == 5) = false := by simp [h5]
  by_cases h6 : op = 6
  · subst h6
    clear ha hb
    go_enter Tryd.func25, Tryd.ntmps25
    go_wp2_with fail
    go_ret2
    exact ⟨rfl, rfl⟩
  have x6 : (op == 6) = false := by simp [h6]
  by_cases h7 : op = 7
  · subst h7
    clear ha hb
    go_enter Tryd.func25, Tryd.ntmps25
    go_wp2_with fail
    go_ret2
    exact ⟨rfl, rfl⟩
  have x7 : (op == 7) = false := by simp [h7]
  by_cases h10 : op = 10
  · subst h10
    clear ha hb
    go_enter Tryd.func25, Tryd.ntmps25
    go_wp2_with fail
    refine (truth_any _ _).mono ?_
    rintro e w1 ⟨rfl, h⟩
    obtain rfl := h.symm
    go_wp2_with fail
    go_ret2
    exact ⟨rfl, rfl⟩
  have x10 : (op == 10) = false := by simp [h10]
  by_cases h11 : op = 11
  · subst h11
    clear ha hb
    go_enter Tryd.func25, Tryd.ntmps25
    go_wp2_with fail
    refine (truth_any _ _).mono ?_
    rintro e w1 ⟨rfl, h⟩
    obtain rfl := h.symm
    go_wp2_with fail
    go_ret2
    exact ⟨rfl, rfl⟩
  have x11 : (op == 11) = false := by simp [h11]
  have E1 : rkE op a = if a = 0 then 32 else 0 := by unfold rkE; rw [if_neg (by omega)]
  have E2 : rkV op b a = if a = 0 then 0 else if op = 8 then b.tdiv a else b.tmod a := by unfold rkV; rw [if_neg h5, if_neg h6, if_neg h7, if_neg h10, if_neg h11]
  rw [E1, E2]
  clear E1 E2 h5 h6 h7 h10 h11
  by_cases h0 : a = 0
  · subst h0
    rw [if_pos rfl, if_pos rfl]
    clear ha hb
    go_enter Tryd.func25, Tryd.ntmps25
    go_wp2_with fail
    go_ret2
    exact ⟨rfl, rfl⟩
  have z0 : (a == 0) = false := by simp [h0]
  rw [if_neg h0, if_neg h0]
  by_cases h8 : op = 8
  · subst h8
    rw [if_pos rfl]
    have q1 : IntKind.u64.wrap (b.tdiv a) = b.tdiv a := by
      rw [IntKind.wrap_u64]
      rw [Int.tdiv_eq_ediv_of_nonneg hb.1]
      have := Int.ediv_nonneg hb.1 ha.1
      have := Int.ediv_le_self a hb.1
      omega
    clear ha hb
    go_enter Tryd.func25, Tryd.ntmps25
    go_wp2_with fail
    go_ret2
    exact ⟨rfl, rfl⟩
  have x8 : (op == 8) = false := by simp [h8]
  rw [if_neg h8]
  have q1 : IntKind.u64.wrap (b.tmod a) = b.tmod a := by
    rw [IntKind.wrap_u64]
    rw [Int.tmod_eq_emod_of_nonneg hb.1]
    have := Int.emod_nonneg b h0
    have := Int.emod_lt_of_pos b (show 0 < a by omega)
    omega
  clear ha hb h8
  go_enter Tryd.func25, Tryd.ntmps25
  go_wp2_with fail
  go_ret2
  exact ⟨rfl, rfl⟩
end Go.Proofs.YtnllcmcahfkmaaaDoor
namespace Go.Proofs.YtnllcmcahfkmaaaDoor
open Go.RowKit

/-- Block b holds n numbers. -/
def RwK (k : IntKind) (w : World) (b n : Nat) (T : TypeId) (f : Nat → Int) : Prop := ∃ cs : Array Value, w.heap[b]? = some (.cells cs T (0, 0)) ∧ cs.size = n ∧ ∀ i, i < n → cs[i]? = some (.int k (f i))
def updK (f : Nat → Int) (k : Nat) (v : Int) : Nat → Int := fun i => if i = k then v else f i
theorem updK_same (f : Nat → Int) (k : Nat) (v : Int) : updK f k v k = v := by simp [updK]
theorem updK_ne (f : Nat → Int) {k i : Nat} (v : Int) (h : i ≠ k) : updK f k v i = f i := by simp [updK, h]

section
variable {k : IntKind} {w w1 : World} {b n : Nat} {T : TypeId} {f : Nat → Int}
theorem RwK.lt (h : RwK k w b n T f) : b < w.heap.size := by
  obtain ⟨cs, hb, _⟩ := h
  exact lt_of_block hb
theorem RwK.cell (h : RwK k w b n T f) (i : Nat) (hi : i < n) : w.cell? ⟨b, i, none⟩ = some (.int k (f i)) := by
  obtain ⟨cs, hb, _, hx⟩ := h
  rw [Joins.cell_of_block hb]; exact hx i hi
theorem RwK.free (h : RwK k w b n T f) (i : Nat) : w.frozen? ⟨b, i, none⟩ = false := by
  obtain ⟨cs, hb, _, hx⟩ := h
  exact Joins.unfrozen_of_block hb i
theorem RwK.on (h : RwK k w b n T f) (hb : Below w.heap.size w w1) : RwK k w1 b n T f := by
  have := h.lt
  obtain ⟨cs, h1, h2⟩ := h
  exact ⟨cs, by rw [hb.block _ this]; exact h1, h2⟩
theorem RwK.alloc (h : RwK k w b n T f) (o : Obj) : RwK k (w.alloc o) b n T f := by
  have l := h.lt
  obtain ⟨cs, h1, h2⟩ := h
  exact ⟨cs, by rw [Below.heap_alloc _ _ _ l]; exact h1, h2⟩
theorem RwK.drew (h : RwK k w b n T f) : RwK k w.drew b n T f := h
theorem RwK.other (h : RwK k w b n T f) {a : Addr} (ha : b ≠ a.block) (v : Value) : RwK k (w.setCell a v) b n T f := by
  obtain ⟨cs, h1, h2⟩ := h
  exact ⟨cs, by rw [Below.heap_setCell _ _ _ _ ha]; exact h1, h2⟩
theorem RwK.store (h : RwK k w b n T f) {j : Nat} (hj : j < n) (v : Int) : RwK k (w.setCell ⟨b, j, none⟩ (.int k v)) b n T (updK f j v) := by
  obtain ⟨cs, h1, h2, h3⟩ := h
  refine ⟨cs.setIfInBounds j (.int k v), Joins.block_setCell h1 _, by simp [h2], fun i hi => ?_⟩
  by_cases e : j = i
  · subst e; rw [Array.getElem?_setIfInBounds_self_of_lt (by omega), updK_same]
  · rw [Array.getElem?_setIfInBounds_ne e, updK_ne _ _ (fun h => e h.symm)]; exact h3 i hi
theorem RwK.new (k : IntKind) (w : World) (n : Nat) (T : TypeId) : RwK k (w.alloc (.cells (Array.replicate n (.int k 0)) T)) w.heap.size n T fun _ => 0 :=
  ⟨_, heap_alloc_new _ _, by simp, fun i hi => by simp [hi]⟩
theorem RwK.newL (k : IntKind) (w : World) (L : List Int) (T : TypeId) : RwK k (w.alloc (.cells (L.map (Value.int k)).toArray T)) w.heap.size L.length T fun i => L.getD i 0 :=
  ⟨_, heap_alloc_new _ _, by simp, fun i hi => by simp [hi, List.getD]⟩
theorem RwK.same {g : Nat → Int} (h : RwK k w b n T f) (e : ∀ i, i < n → f i = g i) : RwK k w b n T g := by
  obtain ⟨cs, h1, h2, h3⟩ := h
  exact ⟨cs, h1, h2, fun i hi => by rw [← e i hi]; exact h3 i hi⟩
/-- The block itself. -/
theorem RwK.block (h : RwK k w b n T f) : w.heap[b]? = some (.cells ((List.range n).map fun i => Value.int k (f i)).toArray T (0, 0)) := by
  obtain ⟨cs, h1, h2, h3⟩ := h
  rw [h1]
  congr 2
  apply Array.ext_getElem?
  intro i
  by_cases hi : i < n
  · rw [h3 i hi]; simp [hi]
  · rw [Array.getElem?_eq_none (by omega), Array.getElem?_eq_none (by simp; omega)]
end
end Go.Proofs.YtnllcmcahfkmaaaDoor
namespace Go.Proofs.YtnllcmcahfkmaaaDoor
open Go.RowKit
set_option maxRecDepth 100000

theorem RwK.chg {k : IntKind} {w w' : World} {b n : Nat} {T : TypeId} {f : Nat → Int} {S : List Nat} (h : RwK k w b n T f) (hc : Chg w w' S) (hS : b ∉ S) : RwK k w' b n T f := by
  have l := h.lt
  obtain ⟨cs, h1, h2⟩ := h
  exact ⟨cs, by rw [hc.block b l hS]; exact h1, h2⟩
/-- The index function behind a copy. -/
def cpf (f : Nat → Int) (off : Nat) (xs : List Int) : Nat → Int := fun i => if off ≤ i ∧ i < off + xs.length then xs.getD (i - off) 0 else f i
theorem cpf_nil (f : Nat → Int) (off : Nat) : cpf f off [] = f := by
  funext i; unfold cpf; rw [if_neg (by simp only [List.length_nil]; omega)]
theorem cpf_in {f : Nat → Int} {off : Nat} {xs : List Int} {i : Nat} (h0 : off ≤ i) (h1 : i < off + xs.length) : cpf f off xs i = xs.getD (i - off) 0 := if_pos ⟨h0, h1⟩
theorem cpf_out {f : Nat → Int} {off : Nat} {xs : List Int} {i : Nat} (h : i < off ∨ off + xs.length ≤ i) : cpf f off xs i = f i := if_neg (by omega)
theorem list_ext_K {k : IntKind} {l : List Value} {n : Nat} {f : Nat → Int} (hl : l.length = n) (h : ∀ i, i < n → l[i]? = some (.int k (f i))) : l = (List.range n).map fun i => .int k (f i) := by
  apply List.ext_getElem?
  intro i
  by_cases hi : i < n
  · rw [h i hi]; simp [hi]
  · rw [List.getElem?_eq_none (by omega), List.getElem?_eq_none (by simp; omega)]

theorem wp_copy_rw {P : Program} {w : World} {o : Oper} {a : Act} {K : Act → World → Prop} {Q : Exit → Act → World → Prop} (d s : Operand) (dT sT : TypeId)
    (ho : o.op = .call { callee := .builtin .copy, args := #[d, s], argTypes := #[dT, sT] }) (elem : TypeId) (hu : P.underlying dT = some (.slice elem)) (hsz : (P.info? elem).map (·.size) = some 1)
    (dp sp : Option Addr) (dLen dCap sLen sCap : Nat) (hd : a.eval d = .slice dp dLen dCap) (hs : a.eval s = .slice sp sLen sCap)
    {k : IntKind} {g N : Nat} {T : TypeId} {f : Nat → Int} (hg : RwK k w g N T f) (off : Nat) (xs : List Int) (hn : xs.length = Nat.min sLen dLen)
    (hpos : 0 < xs.length → dp = some ⟨g, off, none⟩ ∧ ∃ ad, sp = some ad ∧ ∀ j, j < xs.length → w.cell? (ad.add j) = some (.int k (xs.getD j 0)))
    (hfit : off + xs.length ≤ N)
    (h : ∀ w', RwK k w' g N T (cpf f off xs) → Chg w w' [g] → K (a.put o.dst (goInt xs.length)) w') : o.wp P a w K Q := by
  by_cases h0 : xs.length = 0
  · obtain rfl : xs = [] := List.eq_nil_of_length_eq_zero h0
    have hrun := run_copy_none (P := P) w dT sT o.type elem dp sp dLen dCap sLen sCap hu hsz (by simpa using hn.symm)
    unfold Oper.wp
    simp [execOp, ho, resolve, invoke, builtin, hd, hs, hrun, Result.andThen]
    exact h w (by rw [cpf_nil]; exact hg) (Chg.refl _ _)
  · obtain ⟨rfl, ad, rfl, hsrc⟩ := hpos (by omega)
    obtain ⟨cs, h1, h2, h3⟩ := hg
    have hrun := run_copy_row (P := P) w dT sT o.type elem g off dLen dCap ad sLen sCap cs T (xs.map (Value.int k)) hu hsz h1 (by simpa using hn) (by
      intro j v hv
      simp only [List.getElem?_map, Option.map_eq_some_iff] at hv
      obtain ⟨x, hx, rfl⟩ := hv
      have hj : j < xs.length := (List.getElem?_eq_some_iff.1 hx).1
      rw [hsrc j hj, getD_of hx]) (by simpa [h2] using hfit) (by intro v hv; simp at hv; obtain ⟨x, _, rfl⟩ := hv; rfl)
    have e : (goInt (xs.map (Value.int k)).length) = goInt xs.length := by simp
    rw [e] at hrun
    unfold Oper.wp
    simp [execOp, ho, resolve, invoke, builtin, hd, hs, hrun, Result.andThen]
    refine h _ ⟨_, setRow_heap w g _ _ T _ h1, ?_, ?_⟩ ⟨rfl, rfl, rfl, by simp, fun j hj hn => ?_⟩
    · have : cs.toList.length = N := by simpa using h2
      simp; omega
    · intro i hi
      have hc : cs.toList.length = N := by simpa using h2
      have h3' : cs.toList[i]? = some (.int k (f i)) := by simpa using h3 i hi
      rw [List.getElem?_toArray]
      by_cases hlo : i < off
      · rw [List.getElem?_append_left (by simp; omega), List.getElem?_take, if_pos hlo, h3', cpf_out (Or.inl hlo)]
      · rw [List.getElem?_append_right (by simp; omega)]
        have e1 : (cs.toList.take off).length = off := by simp; omega
        rw [e1]
        by_cases hin : i < off + xs.length
        · rw [List.getElem?_append_left (by simp; omega), cpf_in (by omega) hin]
          simp only [List.getElem?_map]
          have : i - off < xs.length := by omega
          simp [List.getD, this]
        · rw [List.getElem?_append_right (by simp; omega), List.getElem?_drop, cpf_out (Or.inr (by omega)), ← h3']
          congr 1
          simp; omega
    · have hne : g ≠ j := fun e => hn (by simp [e])
      show (w.heap.modify g _)[j]? = _
      rw [Array.getElem?_modify, if_neg hne]
theorem wpList_copy_rw {P : Program} {w : World} {ops : Array Oper} {rest : List Oper} {o : Oper} {a : Act} {Q : Exit → Act → World → Prop} (hgd : o.guard = none) (d s : Operand) (dT sT : TypeId)
    (ho : o.op = .call { callee := .builtin .copy, args := #[d, s], argTypes := #[dT, sT] }) (elem : TypeId) (hu : P.underlying dT = some (.slice elem)) (hsz : (P.info? elem).map (·.size) = some 1)
    (dp sp : Option Addr) (dLen dCap sLen sCap : Nat) (hd : a.eval d = .slice dp dLen dCap) (hs : a.eval s = .slice sp sLen sCap)
    {k : IntKind} {g N : Nat} {T : TypeId} {f : Nat → Int} (hg : RwK k w g N T f) (off : Nat) (xs : List Int) (hn : xs.length = Nat.min sLen dLen)
    (hpos : 0 < xs.length → dp = some ⟨g, off, none⟩ ∧ ∃ ad, sp = some ad ∧ ∀ j, j < xs.length → w.cell? (ad.add j) = some (.int k (xs.getD j 0)))
    (hfit : off + xs.length ≤ N)
    (h : ∀ w', RwK k w' g N T (cpf f off xs) → Chg w w' [g] → wpList P ops Q rest (a.put o.dst (goInt xs.length)) w') :
    wpList P ops Q (o :: rest) a w :=
  wpList_plain hgd fun _ hK => wp_copy_rw d s dT sT ho elem hu hsz dp sp dLen dCap sLen sCap hd hs hg off xs hn hpos hfit fun w' h1 h2 => hK _ _ (h w' h1 h2)

/-- A word's four bytes, the highest first. -/
def put4 (f : Nat → Int) (off : Nat) (n : Int) : Nat → Int := updK (updK (updK (updK f off (n / 16777216 % 256)) (off + 1) (n / 65536 % 256)) (off + 2) (n / 256 % 256)) (off + 3) (n % 256)
def put8 (f : Nat → Int) (off : Nat) (n : Int) : Nat → Int := put4 (put4 f off (n / 4294967296 % 4294967296)) (off + 4) (n % 4294967296)
theorem put4_out {f : Nat → Int} {off : Nat} (n : Int) {i : Nat} (h : i < off ∨ off + 4 ≤ i) : put4 f off n i = f i := by
  unfold put4
  rw [updK_ne _ _ (by omega), updK_ne _ _ (by omega), updK_ne _ _ (by omega), updK_ne _ _ (by omega)]
theorem put4_0 (f : Nat → Int) (off : Nat) (n : Int) : put4 f off n off = n / 16777216 % 256 := by
  unfold put4
  rw [updK_ne _ _ (by omega), updK_ne _ _ (by omega), updK_ne _ _ (by omega), updK_same]
theorem put4_1 (f : Nat → Int) (off : Nat) (n : Int) : put4 f off n (off + 1) = n / 65536 % 256 := by
  unfold put4
  rw [updK_ne _ _ (by omega), updK_ne _ _ (by omega), updK_same]
theorem put4_2 (f : Nat → Int) (off : Nat) (n : Int) : put4 f off n (off + 2) = n / 256 % 256 := by
  unfold put4
  rw [updK_ne _ _ (by omega), updK_same]
theorem put4_3 (f : Nat → Int) (off : Nat) (n : Int) : put4 f off n (off + 3) = n % 256 := by
  unfold put4
  rw [updK_same]
theorem put8_out {f : Nat → Int} {off : Nat} (n : Int) {i : Nat} (h : i < off ∨ off + 8 ≤ i) : put8 f off n i = f i := by
  unfold put8
  rw [put4_out _ (by omega), put4_out _ (by omega)]
theorem put8_in (f : Nat → Int) (off : Nat) (n : Int) {k : Nat} (h : k < 8) : put8 f off n (off + k) = (be8 n).getD k 0 := by
  unfold put8
  have e : k = 0 ∨ k = 1 ∨ k = 2 ∨ k = 3 ∨ k = 4 ∨ k = 5 ∨ k = 6 ∨ k = 7 := by omega
  rcases e with rfl | rfl | rfl | rfl | rfl | rfl | rfl | rfl
  · rw [put4_out _ (by omega), Nat.add_zero, put4_0]; simp [be8] <;> omega
  · rw [put4_out _ (by omega), put4_1]; simp [be8] <;> omega
  · rw [put4_out _ (by omega), put4_2]; simp [be8] <;> omega
  · rw [put4_out _ (by omega), put4_3]; simp [be8] <;> omega
  · rw [put4_0]; simp [be8] <;> omega
  · rw [show off + 5 = off + 4 + 1 by omega, put4_1]; simp [be8] <;> omega
  · rw [show off + 6 = off + 4 + 2 by omega, put4_2]; simp [be8] <;> omega
  · rw [show off + 7 = off + 4 + 3 by omega, put4_3]; simp [be8] <;> omega

set_option maxHeartbeats 1000000 in
theorem put32_any {w : World} {b N : Nat} {T : TypeId} {f : Nat → Int} (h : RwK .u8 w b N T f) {off len cap : Nat} (hl : 4 ≤ len) (ho : off + 4 ≤ N) (n : Int) :
    Calls Tryd.prog 49 #[.slice (some ⟨b, off, none⟩) len cap, .int .u32 n] w fun e w' => e = .returned (.tuple #[]) ∧ RwK .u8 w' b N T (put4 f off n) ∧ Chg w w' [b] := by
  have c0 := h.cell off (by omega)
  have c1 := h.cell (off + 1) (by omega)
  have c2 := h.cell (off + 2) (by omega)
  have c3 := h.cell (off + 3) (by omega)
  have f0 := h.free off
  have f1 := h.free (off + 1)
  have f2 := h.free (off + 2)
  have f3 := h.free (off + 3)
  have H := Lib.hid (And.intro ((((h.store (j := off) (by omega) (n / 16777216 % 256)).store (j := off + 1) (by omega) (n / 65536 % 256)).store (j := off + 2) (by omega) (n / 256 % 256)).store (j := off + 3) (by omega) (n % 256))
    ((((((Chg.refl w [b]).setCell (p := ⟨b, off, none⟩) (.inl (by simp)) (.int .u8 (n / 16777216 % 256))).setCell (p := ⟨b, off + 1, none⟩) (.inl (by simp)) (.int .u8 (n / 65536 % 256))).setCell (p := ⟨b, off + 2, none⟩) (.inl (by simp)) (.int .u8 (n / 256 % 256))).setCell (p := ⟨b, off + 3, none⟩) (.inl (by simp)) (.int .u8 (n % 256)))))
  clear h
  go_enter Tryd.func49, Tryd.ntmps49
  go_wp2_with fail
  go_end0
  exact ⟨rfl, H.out⟩

set_option maxHeartbeats 1000000 in
theorem put64_any {w : World} {b N : Nat} {T : TypeId} {f : Nat → Int} (h : RwK .u8 w b N T f) {off len cap : Nat} (hl : 8 ≤ len) (hcap : len ≤ cap) (ho : off + 8 ≤ N) (n : Int) :
    Calls Tryd.prog 50 #[.slice (some ⟨b, off, none⟩) len cap, .int .u64 n] w fun e w' => e = .returned (.tuple #[]) ∧ RwK .u8 w' b N T (put8 f off n) ∧ Chg w w' [b] := by
  have H := Lib.hid h
  clear h
  go_enter Tryd.func50, Tryd.ntmps50
  go_wp2_with fail
  refine (put32_any H.out (by omega) (by omega) _).mono ?_
  rintro e w1 ⟨rfl, h1, k1⟩
  have H1 := Lib.hid h1
  have K1 := Lib.hid k1
  clear h1 k1
  go_wp2_with fail
  refine (put32_any H1.out (by omega) (by omega) _).mono ?_
  rintro e w2 ⟨rfl, h2, k2⟩
  have H2 := Lib.hid h2
  have K2 := Lib.hid (K1.out.trans k2 (fun _ h _ => h))
  clear h2 k2
  go_wp2_with fail
  go_end0
  exact ⟨rfl, H2.out, K2.out⟩
end Go.Proofs.YtnllcmcahfkmaaaDoor
namespace Go.Proofs.YtnllcmcahfkmaaaDoor
set_option maxRecDepth 100000
open Go.RowKit

/-! ### Lists of slices -/
/-- The slice v holds slices that read as these, none of them in a block of S. -/
def RdL (w : World) (v : Value) (L : List (List Int)) (S : List Nat) : Prop := ∃ q c, v = .slice q L.length c ∧ (L = [] ∨ ∃ b off, q = some ⟨b, off, none⟩ ∧ b ∉ S ∧
  ∀ i, i < L.length → ∃ u, w.cell? ⟨b, off + i, none⟩ = some u ∧ Rd w u (L.getD i []) ∧ (L.getD i [] ≠ [] → ∀ k, u.ownBlock = some k → k ∉ S))
theorem RdL.chg {w w' : World} {v : Value} {L : List (List Int)} {S : List Nat} (h : RdL w v L S) (hc : Chg w w' S) : RdL w' v L S := by
  obtain ⟨q, c, rfl, hq | ⟨b, off, rfl, hb, hx⟩⟩ := h
  · exact ⟨q, c, rfl, .inl hq⟩
  · refine ⟨_, c, rfl, .inr ⟨b, off, rfl, hb, fun i hi => ?_⟩⟩
    obtain ⟨u, h1, h2, h3⟩ := hx i hi
    have hl := lt_of_cell h1
    exact ⟨u, by rw [World.cell?_of_block (w := w) (hc.block b hl hb)]; exact h1, h2.chg hc (fun hn k hk _ => h3 hn k hk), h3⟩
theorem RdL.at {w : World} {q : Option Addr} {n c : Nat} {L : List (List Int)} {S : List Nat} (h : RdL w (.slice q n c) L S) {i : Nat} (hi : i < L.length) :
    ∃ b off r m k, n = L.length ∧ q = some ⟨b, off, none⟩ ∧ b ∉ S ∧ w.cell? ⟨b, off + i, none⟩ = some (.slice r m k) ∧ m = (L.getD i []).length ∧ Rd w (.slice r m k) (L.getD i []) ∧ (L.getD i [] ≠ [] → ∀ x, (Value.slice r m k).ownBlock = some x → x ∉ S) := by
  obtain ⟨q', c', e, rfl | ⟨b, off, rfl, hb, hx⟩⟩ := h
  · simp at hi
  · obtain ⟨u, h1, h2, h3⟩ := hx i hi
    obtain ⟨r, k, rfl⟩ := h2.len
    simp only [Value.slice.injEq] at e
    exact ⟨b, off, r, _, k, e.2.1, e.1, hb, h1, rfl, h2, h3⟩

/-- The bytes of blobs. -/
def blobs (L : List (List Int)) : List Int := L.flatMap fun b => be8 b.length ++ b
theorem blobs_take {L : List (List Int)} {i : Nat} (hi : i < L.length) : blobs (L.take (i + 1)) = blobs (L.take i) ++ be8 (L.getD i []).length ++ L.getD i [] := by
  have e : L.take (i + 1) = L.take i ++ [L.getD i []] := by
    rw [List.take_add_one]
    simp [List.getD, hi]
  rw [e, blobs, List.flatMap_append]
  simp [blobs]
theorem blobs_le (L : List (List Int)) (i : Nat) : (blobs (L.take i)).length ≤ (blobs L).length := by
  have e : blobs L = blobs (L.take i) ++ blobs (L.drop i) := by
    conv => lhs; rw [← List.take_append_drop i L]
    rw [blobs, List.flatMap_append]; rfl
  rw [e]; simp
theorem blobs_len {L : List (List Int)} {i : Nat} (hi : i < L.length) : (blobs (L.take (i + 1))).length = (blobs (L.take i)).length + 8 + (L.getD i []).length := by
  rw [blobs_take hi]; simp; omega
theorem blobs_many : ∀ L : List (List Int), L.length ≤ (blobs L).length
  | [] => by simp
  | b :: L => by have := blobs_many L; simp [blobs] at this ⊢; omega

/-- A string's bytes, as numbers. -/
def sn (s : ByteArray) : List Int := s.data.toList.map fun c => (c.toNat : Int)
theorem sn_len (s : ByteArray) : (sn s).length = s.size := by
  simp only [sn, List.length_map, Array.length_toList]
  rfl
theorem sn_bytes (s : ByteArray) : Bytes (sn s) := by
  intro x hx
  obtain ⟨c, _, rfl⟩ := List.mem_map.1 hx
  have := c.toNat_lt
  omega
theorem sn_inj {s t : ByteArray} (h : sn s = sn t) : s = t := by
  have := congrArg strOfNums h
  unfold sn at this
  rw [show ∀ u : ByteArray, strOfNums (u.data.toList.map fun c => (c.toNat : Int)) = u from fun u => by
    apply ByteArray.ext
    apply Array.ext'
    show (u.data.toList.map fun c => (c.toNat : Int)).map (fun n => UInt8.ofNat n.toNat) = u.data.toList
    rw [List.map_map]
    conv => rhs; rw [← List.map_id u.data.toList]
    apply List.map_congr_left
    intro c _
    simp] at this
  rw [show ∀ u : ByteArray, strOfNums (u.data.toList.map fun c => (c.toNat : Int)) = u from fun u => by
    apply ByteArray.ext
    apply Array.ext'
    show (u.data.toList.map fun c => (c.toNat : Int)).map (fun n => UInt8.ofNat n.toNat) = u.data.toList
    rw [List.map_map]
    conv => rhs; rw [← List.map_id u.data.toList]
    apply List.map_congr_left
    intro c _
    simp] at this
  exact this

theorem wpList_copy_str {P : Program} {w : World} {ops : Array Oper} {rest : List Oper} {o : Oper} {a : Act} {Q : Exit → Act → World → Prop} (hgd : o.guard = none) (d s : Operand) (dT sT : TypeId)
    (ho : o.op = .call { callee := .builtin .copy, args := #[d, s], argTypes := #[dT, sT] }) (elem : TypeId) (hu : P.underlying dT = some (.slice elem)) (hsz : (P.info? elem).map (·.size) = some 1)
    (dp : Option Addr) (dLen dCap : Nat) (t : ByteArray) (hd : a.eval d = .slice dp dLen dCap) (hs : a.eval s = .string t)
    {g N : Nat} {T : TypeId} {f : Nat → Int} (hg : RwK .u8 w g N T f) (off : Nat) (hle : t.size ≤ dLen) (hpos : 0 < t.size → dp = some ⟨g, off, none⟩) (hfit : off + t.size ≤ N)
    (h : ∀ w', RwK .u8 w' g N T (cpf f off (sn t)) → Chg w w' [g] → wpList P ops Q rest (a.put o.dst (goInt t.size)) w') :
    wpList P ops Q (o :: rest) a w := by
  have hl := sn_len t
  by_cases h0 : t.size = 0
  · have e : sn t = [] := List.eq_nil_of_length_eq_zero (by omega)
    refine wpList_plain hgd fun K hK => ?_
    have hrun := Lib.run_copy_empty_string (P := P) w dT sT o.type elem dp dLen dCap t hu (by rw [hsz]; rfl) h0
    unfold Oper.wp
    simp [execOp, ho, resolve, invoke, builtin, hd, hs, hrun, Result.andThen]
    refine hK _ _ ?_
    have := h w (by rw [e, cpf_nil]; exact hg) (Chg.refl _ _)
    rw [h0] at this
    exact this
  · obtain rfl := hpos (by omega)
    obtain ⟨cs, h1, h2, h3⟩ := hg
    refine wpList_plain hgd fun K hK => ?_
    have hrun := Lib.run_copy_row_string (P := P) w dT sT o.type elem g off dLen dCap t cs T hu hsz h1 hle (by omega)
    unfold Oper.wp
    simp [execOp, ho, resolve, invoke, builtin, hd, hs, hrun, Result.andThen]
    refine hK _ _ ?_
    have eb : Lib.byteCells t.data.toList = (sn t).map (Value.int .u8) := by simp [Lib.byteCells, sn]
    rw [eb]
    refine h _ ⟨_, setRow_heap w g _ _ T _ h1, ?_, ?_⟩ ⟨rfl, rfl, rfl, by simp, fun j hj hn => ?_⟩
    · have : cs.toList.length = N := by simpa using h2
      simp; omega
    · intro i hi
      have hc : cs.toList.length = N := by simpa using h2
      have h3' : cs.toList[i]? = some (.int .u8 (f i)) := by simpa using h3 i hi
      rw [List.getElem?_toArray]
      by_cases hlo : i < off
      · rw [List.getElem?_append_left (by simp; omega), List.getElem?_take, if_pos hlo, h3', cpf_out (Or.inl hlo)]
      · rw [List.getElem?_append_right (by simp; omega)]
        have e1 : (cs.toList.take off).length = off := by simp; omega
        rw [e1]
        by_cases hin : i < off + (sn t).length
        · rw [List.getElem?_append_left (by simp; omega), cpf_in (by omega) hin]
          simp only [List.getElem?_map]
          have : i - off < (sn t).length := by omega
          simp [List.getD, this]
        · rw [List.getElem?_append_right (by simp; omega), List.getElem?_drop, cpf_out (Or.inr (by omega)), ← h3']
          congr 1
          simp; omega
    · have hne : g ≠ j := fun e => hn (by simp [e])
      show (w.heap.modify g _)[j]? = _
      rw [Array.getElem?_modify, if_neg hne]

/-- A row out of make. -/
theorem rw_of_made {w : World} {e : TypeId} {g n : Nat} {k : IntKind} (h : w.ownsRow 0 e 1 (.slice (some ⟨g, 0, none⟩) n n) n (madeCells #[.int k 0] n).toList) : RwK k w g n e (fun _ => 0) := by
  rcases h.2 with ⟨h0, _⟩ | ⟨g', cap, cur, h1, _, hg, hnc, hcm, hcs, htake⟩
  · simp at h0
  · simp only [Value.slice.injEq, Option.some.injEq, Addr.mk.injEq, true_and, and_true] at h1
    obtain ⟨rfl, rfl⟩ := h1
    refine ⟨cur, hg, by simpa using hcs, fun i hi => ?_⟩
    have hl : cur.toList.length = n := by simpa using hcs
    have := congrArg (·[i]?) htake
    simp only [Nat.mul_one] at this
    rw [List.take_of_length_le (by omega)] at this
    rw [← Array.getElem?_toList, this]
    simp [madeCells, hi, Nat.mod_one]
end Go.Proofs.YtnllcmcahfkmaaaDoor
namespace Go.Proofs.YtnllcmcahfkmaaaDoor
open Go.RowKit
set_option maxRecDepth 100000

/-- How far to the left. -/
def rsh (k : Int) : Nat := (bits .and .u64 (IntKind.u64.wrap k) 31).toNat
theorem rsh_lt (k : Int) : ∃ s : Nat, bits .and .u64 (IntKind.u64.wrap k) 31 = (s : Int) ∧ s ≤ 31 := by
  refine ⟨(BitVec.ofInt 64 (IntKind.u64.wrap k) &&& BitVec.ofInt 64 31).toNat, ?_, ?_⟩
  · show IntKind.u64.wrap _ = _
    have h : (BitVec.ofInt 64 (IntKind.u64.wrap k) &&& BitVec.ofInt 64 31).toNat < 2 ^ 64 := BitVec.isLt _
    rw [IntKind.wrap_u64]
    show ((((BitVec.ofInt 64 (IntKind.u64.wrap k) &&& BitVec.ofInt 64 31).toNat : Nat) : Int)) % _ = _
    omega
  · rw [BitVec.toNat_and]
    have : (BitVec.ofInt 64 31).toNat = 31 := by decide
    rw [this]
    have := Nat.and_lt_two_pow (n := 5) (BitVec.ofInt 64 (IntKind.u64.wrap k)).toNat (y := 31) (by decide)
    omega
/-- Turned to the left, as the library does it. -/
def rk (k x : Int) : Int := bits .or .u32 (x * 2 ^ rsh k % 4294967296) (x / 2 ^ (32 - rsh k))

theorem rot_any (x k : Int) (w : World) : Calls Tryd.prog 55 #[.int .u32 x, .int .i64 k] w fun e w' => e = .returned (.int .u32 (rk k x)) ∧ w' = w := by
  obtain ⟨s, hs, h1⟩ := rsh_lt k
  have HR : Hid (rk k x = bits .or .u32 (x * 2 ^ s % 4294967296) (x / 2 ^ (32 - s))) := by
    unfold rk rsh
    rw [hs]
    rfl
  have e1 : min s 32 = s := by omega
  have e2 : min ((32 : Int) - (s : Int)).toNat 32 = 32 - s := by omega
  have h0 : (0 : Int) ≤ 32 - (s : Int) := by omega
  go_enter Tryd.func55, Tryd.ntmps55
  go_wp2_with fail
  rw [← HR.out]
  go_ret
  exact ⟨rfl, rfl⟩
end Go.Proofs.YtnllcmcahfkmaaaDoor
namespace Go.Proofs.YtnllcmcahfkmaaaDoor
open Go.RowKit

/-- A word out of four bytes. -/
def wd (B : Nat → Int) (i : Nat) : Int := bits .or .u32 (bits .or .u32 (bits .or .u32 (B (4 * i) * 16777216) (B (4 * i + 1) * 65536)) (B (4 * i + 2) * 256)) (B (4 * i + 3))
def sg0 (x : Int) : Int := bits .xor .u32 (bits .xor .u32 (rk (-7) x) (rk (-18) x)) (x / 8)
def sg1 (x : Int) : Int := bits .xor .u32 (bits .xor .u32 (rk (-17) x) (rk (-19) x)) (x / 1024)
def p32 (x y : Int) : Int := (x + y) % 4294967296
def nxt (f : Nat → Int) (i : Nat) : Int := (f (i - 16) + sg0 (f (i - 15)) + f (i - 7) + sg1 (f (i - 2))) % 4294967296
/-- The words of a block. -/
def wrow (B : Nat → Int) : Nat → List Int
  | 0 => []
  | n + 1 => wrow B n ++ [if n < 16 then wd B n else nxt (fun j => (wrow B n).getD j 0) n]
def W (B : Nat → Int) (j : Nat) : Int := (wrow B (j + 1)).getD j 0
theorem wrow_len (B : Nat → Int) : ∀ n, (wrow B n).length = n
  | 0 => rfl
  | n + 1 => by simp [wrow, wrow_len B n]
theorem wrow_get (B : Nat → Int) (j : Nat) : ∀ n, j < n → (wrow B n).getD j 0 = W B j
  | 0, h => by omega
  | n + 1, h => by
    by_cases e : j = n
    · subst e; rfl
    · have l := wrow_len B n
      have hj : j < (wrow B n).length := by omega
      rw [← wrow_get B j n (by omega), wrow]
      simp only [List.getD_eq_getElem?_getD]
      rw [List.getElem?_append_left hj]
theorem W_low (B : Nat → Int) {n : Nat} (h : n < 16) : W B n = wd B n := by
  unfold W
  rw [wrow, if_pos h]
  have l := wrow_len B n
  simp [List.getD_eq_getElem?_getD, l]
theorem nxt_cong {f g : Nat → Int} {n : Nat} (h0 : 16 ≤ n) (h : ∀ j, j < n → f j = g j) : nxt f n = nxt g n := by
  unfold nxt
  rw [h (n - 16) (by omega), h (n - 15) (by omega), h (n - 7) (by omega), h (n - 2) (by omega)]
theorem W_high (B : Nat → Int) {n : Nat} (h : 16 ≤ n) : W B n = nxt (W B) n := by
  have l := wrow_len B n
  have e : W B n = nxt (fun j => (wrow B n).getD j 0) n := by
    unfold W
    rw [wrow, if_neg (by omega)]
    simp [List.getD_eq_getElem?_getD, l]
  rw [e]
  exact nxt_cong h (fun j hj => wrow_get B j n hj)

/-- The table of the rounds. -/
def rootsZ : List Int := [1116352408, 1899447441, 3049323471, 3921009573, 961987163, 1508970993, 2453635748, 2870763221, 3624381080, 310598401, 607225278, 1426881987, 1925078388, 2162078206, 2614888103, 3248222580, 3835390401, 4022224774, 264347078, 604807628, 770255983, 1249150122, 1555081692, 1996064986, 2554220882, 2821834349, 2952996808, 3210313671, 3336571891, 3584528711, 113926993, 338241895, 666307205, 773529912, 1294757372, 1396182291, 1695183700, 1986661051, 2177026350, 2456956037, 2730485921, 2820302411, 3259730800, 3345764771, 3516065817, 3600352804, 4094571909, 275423344, 430227734, 506948616, 659060556, 883997877, 958139571, 1322822218, 1537002063, 1747873779, 1955562222, 2024104815, 2227730452, 2361852424, 2428436474, 2756734187, 3204031479, 3329325298]
def rt (i : Nat) : Int := rootsZ.getD i 0

/-- The state: eight words. -/
structure St8 where
  a : Int
  b : Int
  c : Int
  d : Int
  e : Int
  f : Int
  g : Int
  h : Int
def fa (x : Int) : Int := bits .xor .u32 (bits .xor .u32 (rk (-2) x) (rk (-13) x)) (rk (-22) x)
def fe (x : Int) : Int := bits .xor .u32 (bits .xor .u32 (rk (-6) x) (rk (-11) x)) (rk (-25) x)
def notI (x : Int) : Int := bits .xor .u32 (if IntKind.u32.signed = true then -1 else IntKind.u32.max) x
def fch (e f g : Int) : Int := bits .xor .u32 (bits .and .u32 e f) (bits .and .u32 (notI e) g)
def fmj (a b c : Int) : Int := bits .xor .u32 (bits .xor .u32 (bits .and .u32 a b) (bits .and .u32 a c)) (bits .and .u32 b c)
def St8.u1 (s : St8) (k w : Int) : Int := s.h + fe s.e + fch s.e s.f s.g + k + w
def St8.u2 (s : St8) : Int := fa s.a + fmj s.a s.b s.c
def St8.rnd (s : St8) (k w : Int) : St8 := ⟨(s.u1 k w % 4294967296 + s.u2 % 4294967296) % 4294967296, s.a, s.b, s.c, (s.d + s.u1 k w % 4294967296) % 4294967296, s.e, s.f, s.g⟩
def St8.rounds (s : St8) (B : Nat → Int) : Nat → St8
  | 0 => s
  | i + 1 => (s.rounds B i).rnd (rt i) (W B i)
def St8.add (s t : St8) : St8 := ⟨p32 s.a t.a, p32 s.b t.b, p32 s.c t.c, p32 s.d t.d, p32 s.e t.e, p32 s.f t.f, p32 s.g t.g, p32 s.h t.h⟩
def St8.mix (s : St8) (B : Nat → Int) : St8 := s.add (s.rounds B 64)
def St8.lst (s : St8) : List Int := [s.a, s.b, s.c, s.d, s.e, s.f, s.g, s.h]
def St8.agg (s : St8) : Value := .agg #[.int .u32 s.a, .int .u32 s.b, .int .u32 s.c, .int .u32 s.d, .int .u32 s.e, .int .u32 s.f, .int .u32 s.g, .int .u32 s.h]
end Go.Proofs.YtnllcmcahfkmaaaDoor
