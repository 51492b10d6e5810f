/-
  Package claim, the document's side: '==' on segments.
-/
import Derived.Test.YtcogoncekbiacaaSeg
namespace Go.Proofs.Ytcogoncekbiacaa
open Go.RowKit


theorem run_part_bool {P : Program} (w : World) {t : TypeId} {cs : Array Value} {o : Nat} {v : Value} (hp : P.plainKey t = true) (h : cs[o]? = some v) : (part t cs o).run P w = .ok v w := run_part_plain w hp h

theorem Try.part_hash (w : World) {cs : List Value} {o : Nat} {F : List Int} (h : (cs.drop o).take 32 = hc F) : (part 23 cs.toArray o).run Try.prog w = .ok (.agg (hc F).toArray) w := by
  have h1 : (isAgg 23).run Try.prog w = .ok true w := by
    unfold isAgg
    rw [Sem.run_bind, run_underlying Try.underlying23 w]
    rfl
  have h2 : (sizeOf 23).run Try.prog w = .ok 32 w := by kernel_rfl
  unfold part
  simp only [Sem.run_bind, h1, Result.andThen_ok, ↓reduceIte, h2, Sem.run_pure]
  congr 2
  rw [← h]
  simp

theorem row_parts (s : Seg) (hs : s.ok) : s.row.toArray[0]? = some (.int .i64 s.lo) ∧ s.row.toArray[1]? = some (.int .i64 s.hi) ∧ (s.row.drop 2).take 32 = hc s.f ∧ (s.row.drop 34).take 32 = hc s.t ∧ (s.row.drop 66).take 32 = hc s.m ∧ s.row.toArray[98]? = some (.bool s.p) := by
  have e1 := take_mid [.int .i64 s.lo, .int .i64 s.hi] (hc s.f) (hc s.t ++ (hc s.m ++ [.bool s.p])) (o := 2) (n := 32) rfl (by simp [hc_len, hs.f])
  have e2 := take_mid (.int .i64 s.lo :: .int .i64 s.hi :: hc s.f) (hc s.t) (hc s.m ++ [.bool s.p]) (o := 34) (n := 32) (by simp [hc_len, hs.f]) (by simp [hc_len, hs.t])
  have e3 := take_mid (.int .i64 s.lo :: .int .i64 s.hi :: (hc s.f ++ hc s.t)) (hc s.m) [.bool s.p] (o := 66) (n := 32) (by simp [hc_len, hs.f, hs.t]) (by simp [hc_len, hs.m])
  refine ⟨by simp [Seg.row], by simp [Seg.row], by simpa [Seg.row] using e1, by simpa [Seg.row] using e2, by simpa [Seg.row] using e3, by simp [Seg.row, hc_len, hs.f, hs.t, hs.m]⟩

/-- '==' on segments. -/
def Seg.same (s r : Seg) : Bool := s.lo == r.lo && (s.hi == r.hi && (s.f == r.f && (s.t == r.t && (s.m == r.m && s.p == r.p))))

theorem Seg.same_self (s : Seg) : s.same s = true := by simp [Seg.same]
theorem Seg.same_eq {s r : Seg} (h : s.same r = true) : s = r := by
  obtain ⟨a, b, c, d, e, f⟩ := s
  obtain ⟨a', b', c', d', e', f'⟩ := r
  simp [Seg.same] at h
  obtain ⟨rfl, rfl, rfl, rfl, rfl, rfl⟩ := h
  rfl

theorem Try.eq_segR (w : World) (s r : Seg) (hs : s.ok) (hr : r.ok) : (Op.equalIn 10000 25 (.agg s.row.toArray) (.agg r.row.toArray)).run Try.prog w = .ok (s.same r) w := by
  have hst : Try.prog.stoodInHeld 25 = false := by kernel_rfl
  obtain ⟨a0, a1, a2, a3, a4, a5⟩ := row_parts s hs
  obtain ⟨b0, b1, b2, b3, b4, b5⟩ := row_parts r hr
  have p0 : (part 3 s.row.toArray 0).run Try.prog w = .ok (.int .i64 s.lo) w := run_part_plain w (by kernel_rfl) a0
  have p1 : (part 3 s.row.toArray 1).run Try.prog w = .ok (.int .i64 s.hi) w := run_part_plain w (by kernel_rfl) a1
  have p2 := Try.part_hash w a2
  have p3 := Try.part_hash w a3
  have p4 := Try.part_hash w a4
  have p5 : (part 4 s.row.toArray 98).run Try.prog w = .ok (.bool s.p) w := run_part_plain w (by kernel_rfl) a5
  have r0 : (part 3 r.row.toArray 0).run Try.prog w = .ok (.int .i64 r.lo) w := run_part_plain w (by kernel_rfl) b0
  have r1 : (part 3 r.row.toArray 1).run Try.prog w = .ok (.int .i64 r.hi) w := run_part_plain w (by kernel_rfl) b1
  have r2 := Try.part_hash w b2
  have r3 := Try.part_hash w b3
  have r4 := Try.part_hash w b4
  have r5 : (part 4 r.row.toArray 98).run Try.prog w = .ok (.bool r.p) w := run_part_plain w (by kernel_rfl) b5
  have q : ∀ x y : Int, (Op.equalIn 9999 3 (.int .i64 x) (.int .i64 y)).run Try.prog w = .ok (x == y) w := fun x y => by
    have := run_equalIn_int (P := Try.prog) w 9998 3 .i64 .i64 x y Try.underlying3
    simpa using this
  have qh : ∀ F G : List Int, F.length = 32 → G.length = 32 → (Op.equalIn 9999 23 (.agg (hc F).toArray) (.agg (hc G).toArray)).run Try.prog w = .ok (F == G) w := fun F G hF hG =>
    run_equalIn_ints (P := Try.prog) w 9997 Try.underlying23 Try.underlying5 (by kernel_rfl) F G hF hG
  have q0 := q s.lo r.lo
  have q1 := q s.hi r.hi
  have q2 := qh s.f r.f hs.f hr.f
  have q3 := qh s.t r.t hs.t hr.t
  have q4 := qh s.m r.m hs.m hr.m
  have q5 : (Op.equalIn 9999 4 (.bool s.p) (.bool r.p)).run Try.prog w = .ok (s.p == r.p) w := by
    show (Op.equalIn (9998 + 1) 4 (.bool s.p) (.bool r.p)).run Try.prog w = _
    rw [Op.equalIn]
    simp only [Sem.run_bind, run_underlying Try.underlying4, Result.andThen_ok]
    simp
  refine (?_ : ∀ e0 e1 e2 e3 e4 e5 : Bool, (Op.equalIn 9999 3 (.int .i64 s.lo) (.int .i64 r.lo)).run Try.prog w = .ok e0 w → (Op.equalIn 9999 3 (.int .i64 s.hi) (.int .i64 r.hi)).run Try.prog w = .ok e1 w → (Op.equalIn 9999 23 (.agg (hc s.f).toArray) (.agg (hc r.f).toArray)).run Try.prog w = .ok e2 w → (Op.equalIn 9999 23 (.agg (hc s.t).toArray) (.agg (hc r.t).toArray)).run Try.prog w = .ok e3 w → (Op.equalIn 9999 23 (.agg (hc s.m).toArray) (.agg (hc r.m).toArray)).run Try.prog w = .ok e4 w → (Op.equalIn 9999 4 (.bool s.p) (.bool r.p)).run Try.prog w = .ok e5 w → (Op.equalIn 10000 25 (.agg s.row.toArray) (.agg r.row.toArray)).run Try.prog w = .ok (e0 && (e1 && (e2 && (e3 && (e4 && e5))))) w) _ _ _ _ _ _ q0 q1 q2 q3 q4 q5
  clear q qh q0 q1 q2 q3 q4 q5
  intro e0 e1 e2 e3 e4 e5 q0 q1 q2 q3 q4 q5
  show (Op.equalIn (9999 + 1) 25 (.agg s.row.toArray) (.agg r.row.toArray)).run Try.prog w = _
  rw [Op.equalIn]
  simp only [Sem.run_bind, run_underlying Try.underlying25, Result.andThen_ok]
  rw [run_program, Result.andThen_ok, hst]
  simp only [Bool.false_eq_true, ↓reduceIte, List.forIn_toArray]
  rw [List.forIn_cons]
  cases e0
  · simp only [Sem.run_bind, ne_eq, String.reduceEq, not_false_eq_true, ↓reduceIte]
    rw [p0, Result.andThen_ok, r0, Result.andThen_ok, q0, Result.andThen_ok]
    simp only [Bool.not_false, ↓reduceIte, Sem.run_pure, Result.andThen_ok, Bool.false_and]
  simp only [Sem.run_bind, ne_eq, String.reduceEq, not_false_eq_true, ↓reduceIte]
  rw [p0, Result.andThen_ok, r0, Result.andThen_ok, q0, Result.andThen_ok]
  simp only [Bool.not_true, Bool.false_eq_true, ↓reduceIte, Sem.run_pure, Result.andThen_ok, Bool.true_and]
  rw [List.forIn_cons]
  cases e1
  · simp only [Sem.run_bind, String.reduceEq, not_false_eq_true, ↓reduceIte]
    rw [p1, Result.andThen_ok, r1, Result.andThen_ok, q1, Result.andThen_ok]
    simp only [Bool.not_false, ↓reduceIte, Sem.run_pure, Result.andThen_ok, Bool.false_and]
  simp only [Sem.run_bind, String.reduceEq, not_false_eq_true, ↓reduceIte]
  rw [p1, Result.andThen_ok, r1, Result.andThen_ok, q1, Result.andThen_ok]
  simp only [Bool.not_true, Bool.false_eq_true, ↓reduceIte, Sem.run_pure, Result.andThen_ok, Bool.true_and]
  rw [List.forIn_cons]
  cases e2
  · simp only [Sem.run_bind, String.reduceEq, not_false_eq_true, ↓reduceIte]
    rw [p2, Result.andThen_ok, r2, Result.andThen_ok, q2, Result.andThen_ok]
    simp only [Bool.not_false, ↓reduceIte, Sem.run_pure, Result.andThen_ok, Bool.false_and]
  simp only [Sem.run_bind, String.reduceEq, not_false_eq_true, ↓reduceIte]
  rw [p2, Result.andThen_ok, r2, Result.andThen_ok, q2, Result.andThen_ok]
  simp only [Bool.not_true, Bool.false_eq_true, ↓reduceIte, Sem.run_pure, Result.andThen_ok, Bool.true_and]
  rw [List.forIn_cons]
  cases e3
  · simp only [Sem.run_bind, String.reduceEq, not_false_eq_true, ↓reduceIte]
    rw [p3, Result.andThen_ok, r3, Result.andThen_ok, q3, Result.andThen_ok]
    simp only [Bool.not_false, ↓reduceIte, Sem.run_pure, Result.andThen_ok, Bool.false_and]
  simp only [Sem.run_bind, String.reduceEq, not_false_eq_true, ↓reduceIte]
  rw [p3, Result.andThen_ok, r3, Result.andThen_ok, q3, Result.andThen_ok]
  simp only [Bool.not_true, Bool.false_eq_true, ↓reduceIte, Sem.run_pure, Result.andThen_ok, Bool.true_and]
  rw [List.forIn_cons]
  cases e4
  · simp only [Sem.run_bind, String.reduceEq, not_false_eq_true, ↓reduceIte]
    rw [p4, Result.andThen_ok, r4, Result.andThen_ok, q4, Result.andThen_ok]
    simp only [Bool.not_false, ↓reduceIte, Sem.run_pure, Result.andThen_ok, Bool.false_and]
  simp only [Sem.run_bind, String.reduceEq, not_false_eq_true, ↓reduceIte]
  rw [p4, Result.andThen_ok, r4, Result.andThen_ok, q4, Result.andThen_ok]
  simp only [Bool.not_true, Bool.false_eq_true, ↓reduceIte, Sem.run_pure, Result.andThen_ok, Bool.true_and]
  rw [List.forIn_cons]
  cases e5
  · simp only [Sem.run_bind, String.reduceEq, not_false_eq_true, ↓reduceIte]
    rw [p5, Result.andThen_ok, r5, Result.andThen_ok, q5, Result.andThen_ok]
    simp only [Bool.not_false, ↓reduceIte, Sem.run_pure, Result.andThen_ok]
  simp only [Sem.run_bind, String.reduceEq, not_false_eq_true, ↓reduceIte]
  rw [p5, Result.andThen_ok, r5, Result.andThen_ok, q5, Result.andThen_ok]
  simp only [Bool.not_true, Bool.false_eq_true, ↓reduceIte, Sem.run_pure, Result.andThen_ok]
  simp

theorem Try.eq_seg (w : World) (s r : Seg) (hs : s.ok) (hr : r.ok) : (Op.equalIn 10000 26 (.agg s.row.toArray) (.agg r.row.toArray)).run Try.prog w = .ok (s.same r) w := by
  have hst : Try.prog.stoodInHeld 26 = false := by kernel_rfl
  obtain ⟨a0, a1, a2, a3, a4, a5⟩ := row_parts s hs
  obtain ⟨b0, b1, b2, b3, b4, b5⟩ := row_parts r hr
  have p0 : (part 3 s.row.toArray 0).run Try.prog w = .ok (.int .i64 s.lo) w := run_part_plain w (by kernel_rfl) a0
  have p1 : (part 3 s.row.toArray 1).run Try.prog w = .ok (.int .i64 s.hi) w := run_part_plain w (by kernel_rfl) a1
  have p2 := Try.part_hash w a2
  have p3 := Try.part_hash w a3
  have p4 := Try.part_hash w a4
  have p5 : (part 4 s.row.toArray 98).run Try.prog w = .ok (.bool s.p) w := run_part_plain w (by kernel_rfl) a5
  have r0 : (part 3 r.row.toArray 0).run Try.prog w = .ok (.int .i64 r.lo) w := run_part_plain w (by kernel_rfl) b0
  have r1 : (part 3 r.row.toArray 1).run Try.prog w = .ok (.int .i64 r.hi) w := run_part_plain w (by kernel_rfl) b1
  have r2 := Try.part_hash w b2
  have r3 := Try.part_hash w b3
  have r4 := Try.part_hash w b4
  have r5 : (part 4 r.row.toArray 98).run Try.prog w = .ok (.bool r.p) w := run_part_plain w (by kernel_rfl) b5
  have q : ∀ x y : Int, (Op.equalIn 9999 3 (.int .i64 x) (.int .i64 y)).run Try.prog w = .ok (x == y) w := fun x y => by
    have := run_equalIn_int (P := Try.prog) w 9998 3 .i64 .i64 x y Try.underlying3
    simpa using this
  have qh : ∀ F G : List Int, F.length = 32 → G.length = 32 → (Op.equalIn 9999 23 (.agg (hc F).toArray) (.agg (hc G).toArray)).run Try.prog w = .ok (F == G) w := fun F G hF hG =>
    run_equalIn_ints (P := Try.prog) w 9997 Try.underlying23 Try.underlying5 (by kernel_rfl) F G hF hG
  have q0 := q s.lo r.lo
  have q1 := q s.hi r.hi
  have q2 := qh s.f r.f hs.f hr.f
  have q3 := qh s.t r.t hs.t hr.t
  have q4 := qh s.m r.m hs.m hr.m
  have q5 : (Op.equalIn 9999 4 (.bool s.p) (.bool r.p)).run Try.prog w = .ok (s.p == r.p) w := by
    show (Op.equalIn (9998 + 1) 4 (.bool s.p) (.bool r.p)).run Try.prog w = _
    rw [Op.equalIn]
    simp only [Sem.run_bind, run_underlying Try.underlying4, Result.andThen_ok]
    simp
  refine (?_ : ∀ e0 e1 e2 e3 e4 e5 : Bool, (Op.equalIn 9999 3 (.int .i64 s.lo) (.int .i64 r.lo)).run Try.prog w = .ok e0 w → (Op.equalIn 9999 3 (.int .i64 s.hi) (.int .i64 r.hi)).run Try.prog w = .ok e1 w → (Op.equalIn 9999 23 (.agg (hc s.f).toArray) (.agg (hc r.f).toArray)).run Try.prog w = .ok e2 w → (Op.equalIn 9999 23 (.agg (hc s.t).toArray) (.agg (hc r.t).toArray)).run Try.prog w = .ok e3 w → (Op.equalIn 9999 23 (.agg (hc s.m).toArray) (.agg (hc r.m).toArray)).run Try.prog w = .ok e4 w → (Op.equalIn 9999 4 (.bool s.p) (.bool r.p)).run Try.prog w = .ok e5 w → (Op.equalIn 10000 26 (.agg s.row.toArray) (.agg r.row.toArray)).run Try.prog w = .ok (e0 && (e1 && (e2 && (e3 && (e4 && e5))))) w) _ _ _ _ _ _ q0 q1 q2 q3 q4 q5
  clear q qh q0 q1 q2 q3 q4 q5
  intro e0 e1 e2 e3 e4 e5 q0 q1 q2 q3 q4 q5
  show (Op.equalIn (9999 + 1) 26 (.agg s.row.toArray) (.agg r.row.toArray)).run Try.prog w = _
  rw [Op.equalIn]
  simp only [Sem.run_bind, run_underlying Try.underlying26, Result.andThen_ok]
  rw [run_program, Result.andThen_ok, hst]
  simp only [Bool.false_eq_true, ↓reduceIte, List.forIn_toArray]
  rw [List.forIn_cons]
  cases e0
  · simp only [Sem.run_bind, ne_eq, String.reduceEq, not_false_eq_true, ↓reduceIte]
    rw [p0, Result.andThen_ok, r0, Result.andThen_ok, q0, Result.andThen_ok]
    simp only [Bool.not_false, ↓reduceIte, Sem.run_pure, Result.andThen_ok, Bool.false_and]
  simp only [Sem.run_bind, ne_eq, String.reduceEq, not_false_eq_true, ↓reduceIte]
  rw [p0, Result.andThen_ok, r0, Result.andThen_ok, q0, Result.andThen_ok]
  simp only [Bool.not_true, Bool.false_eq_true, ↓reduceIte, Sem.run_pure, Result.andThen_ok, Bool.true_and]
  rw [List.forIn_cons]
  cases e1
  · simp only [Sem.run_bind, String.reduceEq, not_false_eq_true, ↓reduceIte]
    rw [p1, Result.andThen_ok, r1, Result.andThen_ok, q1, Result.andThen_ok]
    simp only [Bool.not_false, ↓reduceIte, Sem.run_pure, Result.andThen_ok, Bool.false_and]
  simp only [Sem.run_bind, String.reduceEq, not_false_eq_true, ↓reduceIte]
  rw [p1, Result.andThen_ok, r1, Result.andThen_ok, q1, Result.andThen_ok]
  simp only [Bool.not_true, Bool.false_eq_true, ↓reduceIte, Sem.run_pure, Result.andThen_ok, Bool.true_and]
  rw [List.forIn_cons]
  cases e2
  · simp only [Sem.run_bind, String.reduceEq, not_false_eq_true, ↓reduceIte]
    rw [p2, Result.andThen_ok, r2, Result.andThen_ok, q2, Result.andThen_ok]
    simp only [Bool.not_false, ↓reduceIte, Sem.run_pure, Result.andThen_ok, Bool.false_and]
  simp only [Sem.run_bind, String.reduceEq, not_false_eq_true, ↓reduceIte]
  rw [p2, Result.andThen_ok, r2, Result.andThen_ok, q2, Result.andThen_ok]
  simp only [Bool.not_true, Bool.false_eq_true, ↓reduceIte, Sem.run_pure, Result.andThen_ok, Bool.true_and]
  rw [List.forIn_cons]
  cases e3
  · simp only [Sem.run_bind, String.reduceEq, not_false_eq_true, ↓reduceIte]
    rw [p3, Result.andThen_ok, r3, Result.andThen_ok, q3, Result.andThen_ok]
    simp only [Bool.not_false, ↓reduceIte, Sem.run_pure, Result.andThen_ok, Bool.false_and]
  simp only [Sem.run_bind, String.reduceEq, not_false_eq_true, ↓reduceIte]
  rw [p3, Result.andThen_ok, r3, Result.andThen_ok, q3, Result.andThen_ok]
  simp only [Bool.not_true, Bool.false_eq_true, ↓reduceIte, Sem.run_pure, Result.andThen_ok, Bool.true_and]
  rw [List.forIn_cons]
  cases e4
  · simp only [Sem.run_bind, String.reduceEq, not_false_eq_true, ↓reduceIte]
    rw [p4, Result.andThen_ok, r4, Result.andThen_ok, q4, Result.andThen_ok]
    simp only [Bool.not_false, ↓reduceIte, Sem.run_pure, Result.andThen_ok, Bool.false_and]
  simp only [Sem.run_bind, String.reduceEq, not_false_eq_true, ↓reduceIte]
  rw [p4, Result.andThen_ok, r4, Result.andThen_ok, q4, Result.andThen_ok]
  simp only [Bool.not_true, Bool.false_eq_true, ↓reduceIte, Sem.run_pure, Result.andThen_ok, Bool.true_and]
  rw [List.forIn_cons]
  cases e5
  · simp only [Sem.run_bind, String.reduceEq, not_false_eq_true, ↓reduceIte]
    rw [p5, Result.andThen_ok, r5, Result.andThen_ok, q5, Result.andThen_ok]
    simp only [Bool.not_false, ↓reduceIte, Sem.run_pure, Result.andThen_ok]
  simp only [Sem.run_bind, String.reduceEq, not_false_eq_true, ↓reduceIte]
  rw [p5, Result.andThen_ok, r5, Result.andThen_ok, q5, Result.andThen_ok]
  simp only [Bool.not_true, Bool.false_eq_true, ↓reduceIte, Sem.run_pure, Result.andThen_ok]
  simp

end Go.Proofs.Ytcogoncekbiacaa
