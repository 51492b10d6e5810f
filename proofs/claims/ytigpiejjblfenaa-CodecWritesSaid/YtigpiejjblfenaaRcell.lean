/-
  Cells that make a row.
-/
import Derived.Test.YtigpiejjblfenaaHash
import Derived.RangeFuncOwn
namespace Go.Proofs.Ytigpiejjblfenaa
theorem rowOf_cells {w : World} {b o : Nat} {F : List Int} (h : ∀ i, i < F.length → w.cell? ⟨b, o + i, none⟩ = some (.int .u8 (F.getD i 0))) : rowOf w b o F.length = hc F := by
  by_cases h0 : F.length = 0
  · obtain rfl := List.eq_nil_of_length_eq_zero h0
    unfold rowOf
    split <;> simp [hc]
  · obtain ⟨x, hb, hx⟩ := cells_of_cell (h 0 (by omega))
    obtain ⟨cs, t, fr, rfl⟩ : ∃ cs t fr, x = .cells cs t fr := by
      cases x <;> first | exact ⟨_, _, _, rfl⟩ | simp [Obj.isCells] at hx
    rw [rowOf_block hb]
    apply List.ext_getElem?
    intro i
    by_cases hi : i < F.length
    · have := h i hi
      rw [Joins.cell_of_block hb] at this
      have e1 : (cs.extract o (o + F.length)).toList[i]? = cs[o + i]? := by
        simp [List.getElem?_take, List.getElem?_drop, hi]
      rw [e1, this]
      simp [hc, List.getD, hi]
    · have hs : cs.size ≥ o + F.length := by
        have := h (F.length - 1) (by omega)
        rw [Joins.cell_of_block hb] at this
        have := (Array.getElem?_eq_some_iff.1 this).1
        omega
      rw [List.getElem?_eq_none (by simp; omega), List.getElem?_eq_none (by rw [hc_len]; omega)]
end Go.Proofs.Ytigpiejjblfenaa
