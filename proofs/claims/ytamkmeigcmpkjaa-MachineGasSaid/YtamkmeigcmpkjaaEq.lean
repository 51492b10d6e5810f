/-
  A law for '==' on arrays of integers, of whatever program.
-/
import Derived.Test.YtamkmeigcmpkjaaRows
import Derived.WalkKit
import Derived.DeepKeys3
namespace Go.Proofs.Ytamkmeigcmpkjaa
open Go.RowKit

theorem all_range_beq : ∀ (n : Nat) (xs ys : List Int), xs.length = n → ys.length = n → ((List.range' 0 n).all fun i => xs[i]? == ys[i]?) = (xs == ys) := by
  intro n xs ys hx hy
  rw [Bool.eq_iff_iff]
  simp only [List.all_eq_true, beq_iff_eq]
  constructor
  · intro h
    refine List.ext_getElem? fun i => ?_
    by_cases hi : i < n
    · exact h i (by simp [List.mem_range'_1]; omega)
    · rw [List.getElem?_eq_none (by omega), List.getElem?_eq_none (by omega)]
  · rintro rfl _ _; rfl

theorem run_equalIn_ints {P : Program} (w : World) (d : Nat) {t e : TypeId} {n : Nat} {k : IntKind} (ht : P.underlying t = some (.array n e)) (he : P.underlying e = some (.int k)) (hc : P.cellsOf e = 1) (xs ys : List Int) (hx : xs.length = n) (hy : ys.length = n) :
    (Op.equalIn (d + 2) t (.agg (xs.map (Value.int k)).toArray) (.agg (ys.map (Value.int k)).toArray)).run P w = .ok (xs == ys) w := by
  rw [← all_range_beq n xs ys hx hy]
  obtain ⟨i, hi⟩ := info_of_underlying he
  have hs := run_sizeOf w hi
  rw [hc] at hs
  rw [Op.equalIn]
  simp only [Sem.run_bind, run_underlying ht, Result.andThen_ok, hs]
  simp only [Std.Legacy.Range.forIn_eq_forIn_range', Std.Legacy.Range.size, Nat.sub_zero, Nat.add_one_sub_one, Nat.div_one, Nat.mul_one]
  have hb : ∀ j ∈ List.range' 0 n, j < n := fun j hj => by simp [List.mem_range'_1] at hj; omega
  generalize List.range' 0 n = is at hb ⊢
  induction is with
  | nil => simp
  | cons j is ih =>
    have hj := hb j (by simp)
    have hp : P.plainKey e = true := by unfold Program.plainKey; rw [he]
    have p1 : (part e (xs.map (Value.int k)).toArray j).run P w = .ok (.int k xs[j]) w := run_part_plain w hp (by simp [hx, hj])
    have p2 : (part e (ys.map (Value.int k)).toArray j).run P w = .ok (.int k ys[j]) w := run_part_plain w hp (by simp [hy, hj])
    have p3 := run_equalIn_int (P := P) w d e k k xs[j] ys[j] he
    simp only [List.forIn_cons, Sem.run_bind, p1, p2, p3, Result.andThen_ok]
    have ih' := ih fun y hy => hb y (by simp [hy])
    have e1 : (xs[j]? == ys[j]?) = (xs[j] == ys[j]) := by rw [List.getElem?_eq_getElem, List.getElem?_eq_getElem]; rfl
    simp only [List.all_cons, e1]
    cases xs[j] == ys[j]
    · simp
    · simpa using ih'
end Go.Proofs.Ytamkmeigcmpkjaa
