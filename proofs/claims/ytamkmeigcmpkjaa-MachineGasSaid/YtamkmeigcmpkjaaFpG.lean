/-
  Small lemmas on rows.
-/
import Derived.Test.YtamkmeigcmpkjaaFpA
namespace Go.Proofs.Ytamkmeigcmpkjaa
set_option maxRecDepth 100000
open Go.RowKit

theorem getD_memG {α : Type} {L : List α} {d : α} {i : Nat} (hi : i < L.length) : L.getD i d ∈ L := by
  have e : L.getD i d = L[i] := by simp [List.getD, hi]
  rw [e]
  exact List.getElem_mem hi
theorem take_snocG {α : Type} {L M : List α} {d : α} (h : L = M.take L.length) (hl : L.length < M.length) : L ++ [M.getD L.length d] = M.take (L.length + 1) := by
  rw [List.take_succ_eq_append_getElem hl, ← h]
  simp [List.getD, hl]
theorem cell_rowOfG {w : World} {b o n : Nat} {cs : List Value} (h : rowOf w b o n = cs) {j : Nat} {v : Value} (hj : cs[j]? = some v) : w.cell? ⟨b, o + j, none⟩ = some v := by
  have hr := range_rowOf w b o n j v (by rw [h]; exact hj)
  exact hr
theorem row_cellG {n : Nat} {w : World} {b off i j : Nat} {r : List Value} {v : Value} (h : rowOf w b (off + i * n) n = r) (hr : r.length = n) (hj : r[j]? = some v) : w.cell? ⟨b, off + i * n + j, none⟩ = some v := by
  have _ := hr
  exact cell_rowOfG h hj
end Go.Proofs.Ytamkmeigcmpkjaa
