/-
  The machine's fetch; the closure that tells an instruction.
-/
import Derived.Test.YtamkmeigcmpkjaaMcPy
namespace Go.Proofs.Ytamkmeigcmpkjaa
set_option maxRecDepth 100000
open Go.RowKit

theorem below_drewN8 {B : Nat} {a w : World} (h : Below B a w) (n : Nat) : Below B a (w.drewN n) := ⟨h.os, h.tape, h.output, h.size, h.block⟩
/-- An instruction's two cells. -/
def PIs (_ : World) (_ : Fp) (x : Ins) (r : List Value) : Prop := r = [.int .i64 x.op, .int .u64 x.a]
theorem PIs_ok : FpOk PIs where
  mono := fun h _ => h
  agr := fun h _ => h
  lt := fun h => h
/-- A context as an argument. -/
def cxV (c : Cx) (q : Option Addr) (k : Nat) : Value := .agg #[.int .u64 c.who, .int .u64 c.val, .slice q c.inp.length k]
set_option maxHeartbeats 4000000 in
theorem fetch_any {a w : World} {p : Nat} {s : Ms} (h : McS a w p s) (ok : s.ok) {c : Cx} {qi : Option Addr} {ki : Nat} (hi : RdU w (.slice qi c.inp.length ki) c.inp) (hil : c.inp.length ≤ 140737488355328) (op x : Int) (h0 : 0 ≤ x ∧ x < 18446744073709551616) (hn : op = 3 → x < (s.stk.length : Int)) (hw : op = 14 → x < 16) : Calls Try.prog 20 #[.pointer (some ⟨p, 0, none⟩), cxV c qi ki, .agg #[.int .i64 op, .int .u64 x]] w (Ret (.int .u64 (fetchM c ⟨op, x⟩ s)) a w p s) := by
  have hl := ok.len
  have b1 : Below w.heap.size w (w.alloc (.cells #[.int .u64 c.who, .int .u64 c.val, .slice qi c.inp.length ki] 36)) := (Below.refl _ _).alloc (Nat.le_refl _) _
  have b2 : Below w.heap.size w ((w.alloc (.cells #[.int .u64 c.who, .int .u64 c.val, .slice qi c.inp.length ki] 36)).alloc (.cells #[.int .i64 op, .int .u64 x] 43)) := b1.alloc b1.size _
  have hb := h.on b2
  have R := Lib.hid hb
  obtain ⟨q, k, h1, h2, -⟩ := hb.ex
  have C : McC ((w.alloc (.cells #[.int .u64 c.who, .int .u64 c.val, .slice qi c.inp.length ki] 36)).alloc (.cells #[.int .i64 op, .int .u64 x] 43)) p s q k := ⟨h1, h2⟩
  have c4 := C.c4
  have HC := Lib.hid C
  have HI := Lib.hid (hi.on b2)
  have W16 := Lib.hid ok.w16
  have RN := Lib.hid (fun (m : Nat) => hb.on (below_drewN8 (Below.refl _ _) m))
  have KB := Lib.hid (Kept.below (p := p) b2)
  unfold cxV
  clear h hb h1 h2 C b1 b2 hi ok
  by_cases h1 : op = 1
  · subst h1
    have E : fetchM c ⟨1, x⟩ s = x := rfl
    rw [E]
    clear E
    clear hn hw h0 hil hl c4
    go_enter Try.func20, Try.ntmps20
    go_wp2_with fail
    go_ret
    exact ⟨rfl, R.out, KB.out⟩
  have x1 : (op == 1) = false := by simp [h1]
  by_cases h3 : op = 3
  · subst h3
    have hx := hn rfl
    obtain ⟨n, rfl⟩ : ∃ n : Nat, x = n := ⟨x.toNat, by omega⟩
    obtain ⟨i, hi⟩ : ∃ i, s.stk.length - 1 - n = i := ⟨_, rfl⟩
    have E : fetchM c ⟨3, (n : Int)⟩ s = s.stk.getD i 0 := by rw [← hi]; rfl
    obtain ⟨g, rfl, cg, -⟩ := HC.out.at (i := i) (by omega)
    rw [E]
    obtain ⟨v, hv⟩ : ∃ v, s.stk.getD i 0 = v := ⟨_, rfl⟩
    rw [hv] at cg ⊢
    have w0 : IntKind.i64.wrap ((s.stk.length : Int) - 1) = (s.stk.length : Int) - 1 := IntWalk.i64_in _ (by omega)
    have w1 : IntKind.i64.wrap (n : Int) = (n : Int) := IntWalk.i64_in _ (by omega)
    have w2 : IntKind.i64.wrap ((s.stk.length : Int) - 1 - (n : Int)) = (i : Int) := by
      rw [show (s.stk.length : Int) - 1 - (n : Int) = (i : Int) by omega]; exact IntWalk.i64_in _ (by omega)
    have il : i < s.stk.length := by omega
    clear E hn hw h0 hil hx hi hv HC
    go_enter Try.func20, Try.ntmps20
    go_wp2_with fail
    go_quiet (fail)
    go_wp2_with fail
    go_ret
    exact ⟨rfl, RN.out _, KB.out.trans (Kept.below (below_drewN8 (Below.refl _ _) _))⟩
  have x3 : (op == 3) = false := by simp [h3]
  by_cases h14 : op = 14
  · subst h14
    have hx := hw rfl
    obtain ⟨n, rfl⟩ : ∃ n : Nat, x = n := ⟨x.toNat, by omega⟩
    have E : fetchM c ⟨14, (n : Int)⟩ s = s.wds.getD n 0 := rfl
    have cg := HC.out.word (i := n) (by have := W16.out; omega)
    rw [E]
    obtain ⟨v, hv⟩ : ∃ v, s.wds.getD n 0 = v := ⟨_, rfl⟩
    rw [hv] at cg ⊢
    have il : n < 16 := by omega
    clear E hn hw h0 hil hx hv HC hl c4
    go_enter Try.func20, Try.ntmps20
    go_wp2_with fail
    go_quiet (fail)
    go_wp2_with fail
    go_ret
    exact ⟨rfl, RN.out _, KB.out.trans (Kept.below (below_drewN8 (Below.refl _ _) _))⟩
  have x14 : (op == 14) = false := by simp [h14]
  by_cases h17 : op = 17
  · subst h17
    have E : fetchM c ⟨17, x⟩ s = c.val := rfl
    rw [E]
    clear E
    clear hn hw h0 hil hl c4
    go_enter Try.func20, Try.ntmps20
    go_wp2_with fail
    go_ret
    exact ⟨rfl, R.out, KB.out⟩
  have x17 : (op == 17) = false := by simp [h17]
  by_cases h18 : op = 18
  · subst h18
    have E : fetchM c ⟨18, x⟩ s = c.who := rfl
    rw [E]
    clear E
    clear hn hw h0 hil hl c4
    go_enter Try.func20, Try.ntmps20
    go_wp2_with fail
    go_ret
    exact ⟨rfl, R.out, KB.out⟩
  have x18 : (op == 18) = false := by simp [h18]
  have E : fetchM c ⟨op, x⟩ s = if x < (c.inp.length : Int) then c.inp.getD x.toNat 0 else 0 := by
    unfold fetchM
    simp only
    rw [if_neg h1, if_neg h3, if_neg h14, if_neg h17, if_neg h18]
  rw [E]
  have wl : IntKind.u64.wrap (c.inp.length : Int) = (c.inp.length : Int) := by rw [IntKind.wrap_u64]; omega
  clear E hn hw h1 h3 h14 h17 h18 c4
  by_cases hlt : x < (c.inp.length : Int)
  · rw [if_pos hlt]
    obtain ⟨n, rfl⟩ : ∃ n : Nat, x = n := ⟨x.toNat, by omega⟩
    have hn : n < c.inp.length := by omega
    obtain ⟨b, off, rfl, -, cg⟩ := HI.out.at hn
    have e2 : (n : Int).toNat = n := rfl
    rw [e2]
    obtain ⟨v, hv⟩ : ∃ v, c.inp.getD n 0 = v := ⟨_, rfl⟩
    rw [hv] at cg ⊢
    have d : decide ((n : Int) < (c.inp.length : Int)) = true := decide_eq_true hlt
    have d2 : decide (n < c.inp.length) = true := decide_eq_true hn
    clear hv e2 h0 hlt hl
    go_enter Try.func20, Try.ntmps20
    go_wp2_with fail
    go_ret
    exact ⟨rfl, R.out, KB.out⟩
  rw [if_neg hlt]
  have d : decide (x < (c.inp.length : Int)) = false := decide_eq_false hlt
  clear h0 hlt hl
  go_enter Try.func20, Try.ntmps20
  go_wp2_with fail
  go_ret
  exact ⟨rfl, R.out, KB.out⟩

/-- What the closure tells: the instruction at a place, or none. -/
def atV (L : List Ins) (pc : Int) : Value := if 0 ≤ pc ∧ pc < (L.length : Int) then .tuple #[.agg #[.int .i64 (L.getD pc.toNat ins0).op, .int .u64 (L.getD pc.toNat ins0).a], .bool true] else .tuple #[.agg #[.int .i64 0, .int .u64 0], .bool false]
set_option maxHeartbeats 4000000 in
theorem At_any {w : World} {F : Fp} {L : List Ins} {q : Option Addr} {c bl : Nat} (hc : w.heap[bl]? = some (.cells #[.slice q L.length c] 34 (0, 0))) (hr : RwF 2 ins0 PIs w F q L) (hl : L.length ≤ 1000) (pc : Int) :
    Calls Try.prog 14 #[.int .i64 pc, .pointer (some ⟨bl, 0, none⟩)] w fun e w' => e = .returned (atV L pc) ∧ Below w.heap.size w w' := by
  have ba : Below w.heap.size w (w.alloc (.cells #[.int .i64 0, .int .u64 0] 43)) := (Below.refl _ _).alloc (Nat.le_refl _) _
  have K1 : (w.alloc (.cells #[.int .i64 0, .int .u64 0] 43)).heap[bl]? = some (.cells #[.slice q L.length c] 34 (0, 0)) := by
    rw [ba.block _ (Array.getElem?_eq_some_iff.1 hc).1]; exact hc
  have k0 := (Joins.cell_of_block K1 0).trans (rfl : _ = some _)
  have BN := Lib.hid (fun (x y : Int) => (Below.refl w.heap.size w).alloc (Nat.le_refl _) (.cells #[.int .i64 x, .int .u64 y] 43))
  have Z := Lib.hid (fun (x y : Int) => heap_alloc_new w (.cells #[.int .i64 x, .int .u64 y] 43))
  have ZN : ∀ x y : Int, (w.alloc (.cells #[.int .i64 x, .int .u64 y] 43)).cell? ⟨w.heap.size, 0, none⟩ = some (.int .i64 x) ∧ (w.alloc (.cells #[.int .i64 x, .int .u64 y] 43)).cell? ⟨w.heap.size, 1, none⟩ = some (.int .u64 y) := fun x y => ⟨(Joins.cell_of_block (Z.out x y) 0).trans rfl, (Joins.cell_of_block (Z.out x y) 1).trans rfl⟩
  have ZN := Lib.hid ZN
  by_cases h0 : pc < 0
  · have d : decide (pc < 0) = true := decide_eq_true h0
    have E : atV L pc = .tuple #[.agg #[.int .i64 0, .int .u64 0], .bool false] := by unfold atV; rw [if_neg (by omega)]
    rw [E]
    clear E h0 hr hc K1 ba
    go_enter Try.func14, Try.ntmps14
    go_wp2_with fail
    obtain ⟨z0, z1⟩ := ZN.out 0 0
    refine bodyPost_ret (v := .tuple #[.agg #[.int .i64 0, .int .u64 0], .bool false]) (by simp [results, Try.results14, go_sem, z0, z1]) rfl ⟨rfl, BN.out _ _⟩
  have d : decide (pc < 0) = false := decide_eq_false h0
  by_cases h1 : pc ≥ (L.length : Int)
  · have d1 : decide (pc ≥ (L.length : Int)) = true := decide_eq_true h1
    have d2 : decide ((L.length : Int) ≤ pc) = true := decide_eq_true h1
    have E : atV L pc = .tuple #[.agg #[.int .i64 0, .int .u64 0], .bool false] := by unfold atV; rw [if_neg (by omega)]
    rw [E]
    clear E h0 h1 hr hc K1 ba
    go_enter Try.func14, Try.ntmps14
    go_wp2_with fail
    obtain ⟨z0, z1⟩ := ZN.out 0 0
    refine bodyPost_ret (v := .tuple #[.agg #[.int .i64 0, .int .u64 0], .bool false]) (by simp [results, Try.results14, go_sem, z0, z1]) rfl ⟨rfl, BN.out _ _⟩
  have d1 : decide (pc ≥ (L.length : Int)) = false := decide_eq_false h1
  have d2 : decide ((L.length : Int) ≤ pc) = false := decide_eq_false h1
  obtain ⟨n, rfl⟩ : ∃ n : Nat, pc = n := ⟨pc.toNat, by omega⟩
  have hn : n < L.length := by omega
  have E : atV L (n : Int) = .tuple #[.agg #[.int .i64 (L.getD n ins0).op, .int .u64 (L.getD n ins0).a], .bool true] := by
    unfold atV
    rw [if_pos ⟨by omega, by omega⟩]
    rfl
  rw [E]
  obtain ⟨b, off, r, rfl, _, hr2, hrow, hp⟩ := hr.get hn
  subst hp
  have cw0 := row_cellG hrow hr2 (j := 0) (v := .int .i64 (L.getD n ins0).op) rfl
  have cw1 := row_cellG hrow hr2 (j := 1) (v := .int .u64 (L.getD n ins0).a) rfl
  rw [Nat.add_zero] at cw0
  have g0 := (ba.cell (lt_of_cell cw0)).trans cw0
  have g1 := (ba.cell (lt_of_cell cw1)).trans cw1
  obtain ⟨x, hx⟩ : ∃ x, (L.getD n ins0).op = x := ⟨_, rfl⟩
  obtain ⟨y, hy⟩ : ∃ x, (L.getD n ins0).a = x := ⟨_, rfl⟩
  rw [hx] at g0 ⊢
  rw [hy] at g1 ⊢
  clear E h0 h1 hc K1 ba hr2 hrow cw0 cw1 hx hy
  go_enter Try.func14, Try.ntmps14
  go_wp2_with fail
  obtain ⟨z0, z1⟩ := ZN.out x y
  refine bodyPost_ret (v := .tuple #[.agg #[.int .i64 x, .int .u64 y], .bool true]) (by simp [results, Try.results14, go_sem, z0, z1]) rfl ⟨rfl, BN.out _ _⟩
end Go.Proofs.Ytamkmeigcmpkjaa
