/-
  The machine's pay and fetch; the closure that tells an instruction.
-/
import Derived.Test.YtamkmeigcmpkjaaMcFx
import Derived.Deep.CutRange
namespace Go.Proofs.Ytamkmeigcmpkjaa
set_option maxRecDepth 100000
open Go.RowKit

/-- A slice of numbers, read. -/
def RdU (w : World) (v : Value) (xs : List Int) : Prop := ∃ q c, v = .slice q xs.length c ∧ (xs = [] ∨ ∃ b off, q = some ⟨b, off, none⟩ ∧ ∀ i, i < xs.length → w.cell? ⟨b, off + i, none⟩ = some (.int .u64 (xs.getD i 0)))
theorem RdU.on {w w' : World} {v : Value} {xs : List Int} (h : RdU w v xs) (hb : Below w.heap.size w w') : RdU w' v xs := by
  obtain ⟨q, c, rfl, hq | ⟨b, off, rfl, hx⟩⟩ := h
  · exact ⟨q, c, rfl, .inl hq⟩
  · exact ⟨_, c, rfl, .inr ⟨b, off, rfl, fun i hi => (hb.cell (lt_of_cell (hx i hi))).trans (hx i hi)⟩⟩
theorem RdU.at {w : World} {q : Option Addr} {n c : Nat} {xs : List Int} (h : RdU w (.slice q n c) xs) {i : Nat} (hi : i < xs.length) : ∃ b off, q = some ⟨b, off, none⟩ ∧ n = xs.length ∧ w.cell? ⟨b, off + i, none⟩ = some (.int .u64 (xs.getD i 0)) := by
  obtain ⟨q', c', e, hq | ⟨b, off, rfl, hx⟩⟩ := h
  · rw [hq] at hi; simp at hi
  · simp only [Value.slice.injEq] at e
    obtain ⟨rfl, rfl, -⟩ := e
    exact ⟨b, off, rfl, rfl, hx i hi⟩

theorem needs_in (op a : Int) (h0 : 0 ≤ a) (h3 : op = 3 ∨ op = 4 → a < 32) : 0 ≤ needsM ⟨op, a⟩ ∧ needsM ⟨op, a⟩ ≤ 40 := by
  unfold needsM
  simp only
  repeat' split
  all_goals omega
theorem more_in (op a : Int) : -1 ≤ moreM ⟨op, a⟩ ∧ moreM ⟨op, a⟩ ≤ 1 := by
  unfold moreM
  simp only
  repeat' split
  all_goals omega
set_option maxHeartbeats 4000000 in
theorem pay_any {a w : World} {p : Nat} {s : Ms} (h : McS a w p s) (ok : s.ok) (op x : Int) (h0 : 0 ≤ x) (h3 : op = 3 ∨ op = 4 → x < 32) : Calls Try.prog 16 #[.pointer (some ⟨p, 0, none⟩), .agg #[.int .i64 op, .int .u64 x]] w (Ret (.int .i64 (payE ⟨op, x⟩ s)) a w p { s with gas := payG ⟨op, x⟩ s }) := by
  have hg := ok.gas
  have hl := ok.len
  have ba : Below w.heap.size w (w.alloc (.cells #[.int .i64 op, .int .u64 x] 43)) := (Below.refl _ _).alloc (Nat.le_refl _) _
  have ha := h.on ba
  have HA := Lib.hid ha
  obtain ⟨q, c, h1, h2, -⟩ := ha.ex
  have C : McC (w.alloc (.cells #[.int .i64 op, .int .u64 x] 43)) p s q c := ⟨h1, h2⟩
  have c1 := C.c1
  have u1 := C.un 1
  have hp : p ≠ w.heap.size := by have := h.lt; omega
  have KB := heap_alloc_new w (.cells #[.int .i64 op, .int .u64 x] 43)
  obtain ⟨n0, n1⟩ := needs_in op x h0 h3
  obtain ⟨m0, m1⟩ := more_in op x
  have EF := Lib.hid (fun (W : World) => effect_any W op x h0 h3)
  have KP0 := Lib.hid (Kept.below (p := p) ba)
  clear h ha h1 h2 C ba h0 h3 ok
  by_cases h14 : op = 14
  · subst h14
    have ec : costM 14 = 2 := rfl
    have x14 : (14 == 14) = true := by rfl
    have x15 : (14 == 15) = false := by rfl
    by_cases hlt : s.gas < 2
    · have d : decide (s.gas < 2) = true := decide_eq_true hlt
      have e1 : payE ⟨14, x⟩ s = 35 := by unfold payE; rw [ec, if_pos hlt]
      have e2 : payG ⟨14, x⟩ s = 0 := by unfold payG; rw [ec, if_pos hlt]
      rw [e1, e2]
      have R := Lib.hid (HA.out.gas 0)
      clear hlt e1 e2 ec n0 n1 m0 m1 hg EF
      go_enter Try.func16, Try.ntmps16
      go_wp2_with fail
      go_ret
      exact ⟨rfl, R.out, KP0.out.trans (Kept.setCell _ _ _ _)⟩
    have d : decide (s.gas < 2) = false := decide_eq_false hlt
    have e1 : payE ⟨14, x⟩ s = if (s.stk.length : Int) < needsM ⟨14, x⟩ ∨ (s.stk.length : Int) + moreM ⟨14, x⟩ > 32 then 36 else 0 := by unfold payE; rw [ec, if_neg hlt]
    have e2 : payG ⟨14, x⟩ s = s.gas - 2 := by unfold payG; rw [ec, if_neg hlt]
    rw [e1, e2]
    clear e1 e2 ec
    have w1 : IntKind.u64.wrap (s.gas - 2) = s.gas - 2 := by rw [IntKind.wrap_u64]; omega
    obtain ⟨G, hG⟩ : ∃ G, s.gas - 2 = G := ⟨_, rfl⟩
    rw [hG] at w1 ⊢
    obtain ⟨N, hN⟩ : ∃ N, needsM ⟨14, x⟩ = N := ⟨_, rfl⟩
    obtain ⟨Q, hQ⟩ : ∃ Q, moreM ⟨14, x⟩ = Q := ⟨_, rfl⟩
    rw [hN, hQ] at EF ⊢
    rw [hN] at n0 n1
    rw [hQ] at m0 m1
    replace w1 : IntKind.u64.wrap (s.gas - 2) = G := by rw [hG]; exact w1
    clear hN hQ hlt hG
    obtain ⟨E, hE⟩ : ∃ E : Int, (if (s.stk.length : Int) < N ∨ (s.stk.length : Int) + Q > 32 then 36 else 0) = E := ⟨_, rfl⟩
    rw [hE]
    have HE := Lib.hid hE
    clear hE
    go_enter Try.func16, Try.ntmps16
    go_upto_region 11 with fail
    have R2 := Lib.hid (HA.out.gas G)
    have KB2 : Hid (((w.alloc (.cells #[.int .i64 14, .int .u64 x] 43)).setCell ⟨p, 1, none⟩ (.int .u64 G)).heap[w.heap.size]? = some (.cells #[.int .i64 14, .int .u64 x] 43 (0, 0))) := by
      show _ = _
      rw [Below.heap_setCell _ _ _ _ (by simpa using Ne.symm hp)]
      exact KB
    have KP2 := Lib.hid (KP0.out.trans (Kept.setCell p _ 1 (.int .u64 G)))
    clear HA c1 u1 KB w1 d KP0
    generalize ((w.alloc (.cells #[.int .i64 14, .int .u64 x] 43)).setCell ⟨p, 1, none⟩ (.int .u64 G)) = w2 at *
    have kb0 := (Joins.cell_of_block KB2.out 0).trans (rfl : _ = some _)
    have kb1 := (Joins.cell_of_block KB2.out 1).trans (rfl : _ = some _)
    go_wp2_with fail
    refine (EF.out w2).mono ?_
    rintro e w3 ⟨rfl, b3⟩
    have R3 := R2.out.on b3
    have KP3 := Lib.hid (KP2.out.trans (Kept.below b3))
    obtain ⟨q3, c3, h31, h32, -⟩ := R3.ex
    have C3 : McC w3 p { s with gas := G } q3 c3 := ⟨h31, h32⟩
    have c4 : w3.cell? ⟨p, 4, none⟩ = some (.slice q3 s.stk.length c3) := C3.c4
    replace R3 := Lib.hid R3
    clear b3 h31 h32 C3 kb0 kb1 KB2 R2 EF
    have w5 : IntKind.i64.wrap ((s.stk.length : Int) + Q) = (s.stk.length : Int) + Q := IntWalk.i64_in _ (by omega)
    by_cases g1 : (s.stk.length : Int) < N
    · have d1 : decide ((s.stk.length : Int) < N) = true := decide_eq_true g1
      go_wp2_with fail
      go_ret
      exact ⟨by rw [← HE.out, if_pos (.inl g1)]; rfl, R3.out, KP3.out⟩
    have d1 : decide ((s.stk.length : Int) < N) = false := decide_eq_false g1
    by_cases g2 : (s.stk.length : Int) + Q > 32
    · have d2 : decide ((s.stk.length : Int) + Q > 32) = true := decide_eq_true g2
      go_wp2_with fail
      go_ret
      exact ⟨by rw [← HE.out, if_pos (.inr g2)]; rfl, R3.out, KP3.out⟩
    have d2 : decide ((s.stk.length : Int) + Q > 32) = false := decide_eq_false g2
    go_wp2_with fail
    go_ret
    exact ⟨by rw [← HE.out, if_neg (by omega)]; rfl, R3.out, KP3.out⟩
  by_cases h15 : op = 15
  · subst h15
    have ec : costM 15 = 5 := rfl
    have x14 : (15 == 14) = false := by rfl
    have x15 : (15 == 15) = true := by rfl
    by_cases hlt : s.gas < 5
    · have d : decide (s.gas < 5) = true := decide_eq_true hlt
      have e1 : payE ⟨15, x⟩ s = 35 := by unfold payE; rw [ec, if_pos hlt]
      have e2 : payG ⟨15, x⟩ s = 0 := by unfold payG; rw [ec, if_pos hlt]
      rw [e1, e2]
      have R := Lib.hid (HA.out.gas 0)
      clear hlt e1 e2 ec n0 n1 m0 m1 hg EF
      go_enter Try.func16, Try.ntmps16
      go_wp2_with fail
      go_ret
      exact ⟨rfl, R.out, KP0.out.trans (Kept.setCell _ _ _ _)⟩
    have d : decide (s.gas < 5) = false := decide_eq_false hlt
    have e1 : payE ⟨15, x⟩ s = if (s.stk.length : Int) < needsM ⟨15, x⟩ ∨ (s.stk.length : Int) + moreM ⟨15, x⟩ > 32 then 36 else 0 := by unfold payE; rw [ec, if_neg hlt]
    have e2 : payG ⟨15, x⟩ s = s.gas - 5 := by unfold payG; rw [ec, if_neg hlt]
    rw [e1, e2]
    clear e1 e2 ec
    have w1 : IntKind.u64.wrap (s.gas - 5) = s.gas - 5 := by rw [IntKind.wrap_u64]; omega
    obtain ⟨G, hG⟩ : ∃ G, s.gas - 5 = G := ⟨_, rfl⟩
    rw [hG] at w1 ⊢
    obtain ⟨N, hN⟩ : ∃ N, needsM ⟨15, x⟩ = N := ⟨_, rfl⟩
    obtain ⟨Q, hQ⟩ : ∃ Q, moreM ⟨15, x⟩ = Q := ⟨_, rfl⟩
    rw [hN, hQ] at EF ⊢
    rw [hN] at n0 n1
    rw [hQ] at m0 m1
    replace w1 : IntKind.u64.wrap (s.gas - 5) = G := by rw [hG]; exact w1
    clear hN hQ hlt hG
    obtain ⟨E, hE⟩ : ∃ E : Int, (if (s.stk.length : Int) < N ∨ (s.stk.length : Int) + Q > 32 then 36 else 0) = E := ⟨_, rfl⟩
    rw [hE]
    have HE := Lib.hid hE
    clear hE
    go_enter Try.func16, Try.ntmps16
    go_upto_region 11 with fail
    have R2 := Lib.hid (HA.out.gas G)
    have KB2 : Hid (((w.alloc (.cells #[.int .i64 15, .int .u64 x] 43)).setCell ⟨p, 1, none⟩ (.int .u64 G)).heap[w.heap.size]? = some (.cells #[.int .i64 15, .int .u64 x] 43 (0, 0))) := by
      show _ = _
      rw [Below.heap_setCell _ _ _ _ (by simpa using Ne.symm hp)]
      exact KB
    have KP2 := Lib.hid (KP0.out.trans (Kept.setCell p _ 1 (.int .u64 G)))
    clear HA c1 u1 KB w1 d KP0
    generalize ((w.alloc (.cells #[.int .i64 15, .int .u64 x] 43)).setCell ⟨p, 1, none⟩ (.int .u64 G)) = w2 at *
    have kb0 := (Joins.cell_of_block KB2.out 0).trans (rfl : _ = some _)
    have kb1 := (Joins.cell_of_block KB2.out 1).trans (rfl : _ = some _)
    go_wp2_with fail
    refine (EF.out w2).mono ?_
    rintro e w3 ⟨rfl, b3⟩
    have R3 := R2.out.on b3
    have KP3 := Lib.hid (KP2.out.trans (Kept.below b3))
    obtain ⟨q3, c3, h31, h32, -⟩ := R3.ex
    have C3 : McC w3 p { s with gas := G } q3 c3 := ⟨h31, h32⟩
    have c4 : w3.cell? ⟨p, 4, none⟩ = some (.slice q3 s.stk.length c3) := C3.c4
    replace R3 := Lib.hid R3
    clear b3 h31 h32 C3 kb0 kb1 KB2 R2 EF
    have w5 : IntKind.i64.wrap ((s.stk.length : Int) + Q) = (s.stk.length : Int) + Q := IntWalk.i64_in _ (by omega)
    by_cases g1 : (s.stk.length : Int) < N
    · have d1 : decide ((s.stk.length : Int) < N) = true := decide_eq_true g1
      go_wp2_with fail
      go_ret
      exact ⟨by rw [← HE.out, if_pos (.inl g1)]; rfl, R3.out, KP3.out⟩
    have d1 : decide ((s.stk.length : Int) < N) = false := decide_eq_false g1
    by_cases g2 : (s.stk.length : Int) + Q > 32
    · have d2 : decide ((s.stk.length : Int) + Q > 32) = true := decide_eq_true g2
      go_wp2_with fail
      go_ret
      exact ⟨by rw [← HE.out, if_pos (.inr g2)]; rfl, R3.out, KP3.out⟩
    have d2 : decide ((s.stk.length : Int) + Q > 32) = false := decide_eq_false g2
    go_wp2_with fail
    go_ret
    exact ⟨by rw [← HE.out, if_neg (by omega)]; rfl, R3.out, KP3.out⟩
  have ec : costM op = 1 := by unfold costM; rw [if_neg h14, if_neg h15]
  have x14 : (op == 14) = false := by simp [h14]
  have x15 : (op == 15) = false := by simp [h15]
  by_cases hlt : s.gas < 1
  · have d : decide (s.gas < 1) = true := decide_eq_true hlt
    have e1 : payE ⟨op, x⟩ s = 35 := by unfold payE; rw [ec, if_pos hlt]
    have e2 : payG ⟨op, x⟩ s = 0 := by unfold payG; rw [ec, if_pos hlt]
    rw [e1, e2]
    have R := Lib.hid (HA.out.gas 0)
    clear hlt e1 e2 ec n0 n1 m0 m1 hg EF
    go_enter Try.func16, Try.ntmps16
    go_wp2_with fail
    go_ret
    exact ⟨rfl, R.out, KP0.out.trans (Kept.setCell _ _ _ _)⟩
  have d : decide (s.gas < 1) = false := decide_eq_false hlt
  have e1 : payE ⟨op, x⟩ s = if (s.stk.length : Int) < needsM ⟨op, x⟩ ∨ (s.stk.length : Int) + moreM ⟨op, x⟩ > 32 then 36 else 0 := by unfold payE; rw [ec, if_neg hlt]
  have e2 : payG ⟨op, x⟩ s = s.gas - 1 := by unfold payG; rw [ec, if_neg hlt]
  rw [e1, e2]
  clear e1 e2 ec
  have w1 : IntKind.u64.wrap (s.gas - 1) = s.gas - 1 := by rw [IntKind.wrap_u64]; omega
  obtain ⟨G, hG⟩ : ∃ G, s.gas - 1 = G := ⟨_, rfl⟩
  rw [hG] at w1 ⊢
  obtain ⟨N, hN⟩ : ∃ N, needsM ⟨op, x⟩ = N := ⟨_, rfl⟩
  obtain ⟨Q, hQ⟩ : ∃ Q, moreM ⟨op, x⟩ = Q := ⟨_, rfl⟩
  rw [hN, hQ] at EF ⊢
  rw [hN] at n0 n1
  rw [hQ] at m0 m1
  replace w1 : IntKind.u64.wrap (s.gas - 1) = G := by rw [hG]; exact w1
  clear hN hQ hlt hG
  obtain ⟨E, hE⟩ : ∃ E : Int, (if (s.stk.length : Int) < N ∨ (s.stk.length : Int) + Q > 32 then 36 else 0) = E := ⟨_, rfl⟩
  rw [hE]
  have HE := Lib.hid hE
  clear hE
  go_enter Try.func16, Try.ntmps16
  go_upto_region 11 with fail
  have R2 := Lib.hid (HA.out.gas G)
  have KB2 : Hid (((w.alloc (.cells #[.int .i64 op, .int .u64 x] 43)).setCell ⟨p, 1, none⟩ (.int .u64 G)).heap[w.heap.size]? = some (.cells #[.int .i64 op, .int .u64 x] 43 (0, 0))) := by
    show _ = _
    rw [Below.heap_setCell _ _ _ _ (by simpa using Ne.symm hp)]
    exact KB
  have KP2 := Lib.hid (KP0.out.trans (Kept.setCell p _ 1 (.int .u64 G)))
  clear HA c1 u1 KB w1 d KP0
  generalize ((w.alloc (.cells #[.int .i64 op, .int .u64 x] 43)).setCell ⟨p, 1, none⟩ (.int .u64 G)) = w2 at *
  have kb0 := (Joins.cell_of_block KB2.out 0).trans (rfl : _ = some _)
  have kb1 := (Joins.cell_of_block KB2.out 1).trans (rfl : _ = some _)
  go_wp2_with fail
  refine (EF.out w2).mono ?_
  rintro e w3 ⟨rfl, b3⟩
  have R3 := R2.out.on b3
  have KP3 := Lib.hid (KP2.out.trans (Kept.below b3))
  obtain ⟨q3, c3, h31, h32, -⟩ := R3.ex
  have C3 : McC w3 p { s with gas := G } q3 c3 := ⟨h31, h32⟩
  have c4 : w3.cell? ⟨p, 4, none⟩ = some (.slice q3 s.stk.length c3) := C3.c4
  replace R3 := Lib.hid R3
  clear b3 h31 h32 C3 kb0 kb1 KB2 R2 EF
  have w5 : IntKind.i64.wrap ((s.stk.length : Int) + Q) = (s.stk.length : Int) + Q := IntWalk.i64_in _ (by omega)
  by_cases g1 : (s.stk.length : Int) < N
  · have d1 : decide ((s.stk.length : Int) < N) = true := decide_eq_true g1
    go_wp2_with fail
    go_ret
    exact ⟨by rw [← HE.out, if_pos (.inl g1)]; rfl, R3.out, KP3.out⟩
  have d1 : decide ((s.stk.length : Int) < N) = false := decide_eq_false g1
  by_cases g2 : (s.stk.length : Int) + Q > 32
  · have d2 : decide ((s.stk.length : Int) + Q > 32) = true := decide_eq_true g2
    go_wp2_with fail
    go_ret
    exact ⟨by rw [← HE.out, if_pos (.inr g2)]; rfl, R3.out, KP3.out⟩
  have d2 : decide ((s.stk.length : Int) + Q > 32) = false := decide_eq_false g2
  go_wp2_with fail
  go_ret
  exact ⟨by rw [← HE.out, if_neg (by omega)]; rfl, R3.out, KP3.out⟩
end Go.Proofs.Ytamkmeigcmpkjaa
