/-
  A literal slice of one row.
-/
import Derived.Test.YtamkmeigcmpkjaaHash
namespace Go.Proofs.Ytamkmeigcmpkjaa
set_option maxRecDepth 100000
open Go.RowKit

theorem fill_at {place : Nat → Option (Nat × Nat)} {rest : List (Nat × Value)} {i off size : Nat} {v : Value} {pre mid post vs : List Value} (hp : place i = some (off, size)) (hv : v.cells = vs.toArray)
    (h1 : pre.length = off) (h2 : mid.length = size) (h3 : vs.length = size) :
    Instr.fill place (pre ++ (mid ++ post)).toArray ((i, v) :: rest) = Instr.fill place (pre ++ (vs ++ post)).toArray rest := by
  rw [Instr.fill, hp]
  have e1 : v.cells.size = size := by rw [hv]; simpa using h3
  have e2 : off + size ≤ (pre ++ (mid ++ post)).toArray.size := by simp; omega
  have e3 : (decide (v.cells.size ≠ size) || decide (off + v.cells.size > (pre ++ (mid ++ post)).toArray.size)) = false := by
    rw [e1]; simp at e2 ⊢; omega
  simp only [e3]
  rw [if_neg (by simp), hv, fold_put off size vs pre mid post h1 h2 h3]
/-- A new row of one element. -/
theorem run_bs_one {P : Program} {t e : TypeId} {n : Nat} {zs xs : List Value} (w : World) (ht : P.underlying t = some (.slice e)) (hs : (sizeOf e).run P w = .ok n w) (hz : (zeroValue e).run P w = .ok (.agg zs.toArray) w)
    (hn : 0 < n) (hm : n ≤ 65536) (hx : xs.length = n) :
    (Instr.buildSlice t 1 #[(0, .agg xs.toArray)]).run P w = .ok (.slice (some ⟨w.heap.size, 0, none⟩) 1 1) (w.alloc (.cells xs.toArray e)) := by
  have hf : ∀ m : List Value, m.length = n → Instr.fill (fun i => some (i * n, n)) m.toArray #[(0, Value.agg xs.toArray)].toList = some xs.toArray := by
    intro m hm
    have := fill_at (place := fun i => some (i * n, n)) (rest := []) (i := 0) (off := 0) (size := n) (v := .agg xs.toArray) (pre := []) (mid := m) (post := []) (vs := xs) (by simp) rfl rfl hm hx
    simpa [Instr.fill] using this
  have hf' := hf ((Array.range (1 * n)).map (zs.toArray[· % zs.toArray.size]!)).toList (by simp)
  rw [Array.toArray_toList] at hf'
  unfold Instr.buildSlice
  simp only [Sem.run_bind, run_underlying ht, Result.andThen_ok, hs]
  rw [if_neg (by omega)]
  rw [if_neg (by omega)]
  simp only [Sem.run_bind, Sem.run_pure, Result.andThen_ok, hz, Value.cells]
  rw [hf']
  simp [newRow]
def rowNew (t : TypeId) (ps : Array (Nat × Value)) : Sem Value := Instr.buildSlice t 1 ps
end Go.Proofs.Ytamkmeigcmpkjaa
