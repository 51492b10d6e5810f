/-
  Package oracle: Finalise.
-/
import Derived.Test.YtppaallnanodhaaGreatDoorOrProp
namespace Go.Proofs.YtppaallnanodhaaGreatDoor
set_option maxRecDepth 100000
open Go.RowKit

theorem own_set {w : World} {e : TypeId} {size g n c : Nat} {xs : List Value} (h : w.ownsRow 0 e size (.slice (some ⟨g, 0, none⟩) n c) n xs) (j : Nat) (u : Value) :
    (w.setCell ⟨g, j, none⟩ u).ownsRow 0 e size (.slice (some ⟨g, 0, none⟩) n c) n (xs.set j u) := by
  rcases h.2 with ⟨e0, _⟩ | ⟨g', cap, cur, e0, hb, hg, hn, hm, hs, htake⟩
  · simp at e0
  · obtain ⟨rfl, rfl⟩ : g' = g ∧ cap = c := by simp at e0; exact ⟨e0.1.symm, e0.2.symm⟩
    refine ⟨by rw [List.length_set]; exact h.1, .inr ⟨g', cap, cur.setIfInBounds j u, rfl, hb, ?_, hn, hm, by simpa using hs, ?_⟩⟩
    · rw [Joins.block_setCell (i := j) hg u]
    · rw [Array.toList_setIfInBounds, List.take_set, htake]
theorem flat_set {L : List Pr} (h : ∀ x ∈ L, x.ok) {i : Nat} (hi : i < L.length) (s : Int) : (L.set i { L[i] with st := s }).flatMap Pr.row = (L.flatMap Pr.row).set (i * 69 + 3) (.int .i64 s) := by
  induction L generalizing i with
  | nil => simp at hi
  | cons x L ih =>
    have hx := (h x (by simp)).len
    cases i with
    | zero =>
      simp only [List.set_cons_zero, List.flatMap_cons, List.getElem_cons_zero]
      rw [List.set_append_left _ _ (by omega)]
      rfl
    | succ i =>
      simp only [List.set_cons_succ, List.flatMap_cons, List.getElem_cons_succ]
      rw [ih (fun y hy => h y (by simp [hy])) (by simpa using hi), List.set_append_right _ _ (by omega), hx, show (i + 1) * 69 + 3 - 69 = i * 69 + 3 by omega]
theorem OSt.setSt {a w : World} {p : Nat} {o : Or} {L : List Pr} {Y : List (Int × Int)} (h : OSt a w p o L Y) {i : Nat} (hi : i < L.length) {g c : Nat} (e : o.vP = .slice (some ⟨g, 0, none⟩) L.length c) (s : Int) :
    OSt a (w.setCell ⟨g, i * 69 + 3, none⟩ (.int .i64 s)) p o (L.set i { L[i] with st := s }) Y := by
  have hg : o.vP.ownBlock = some g := by rw [e]; rfl
  have hgp : g ≠ p := fun e' => h.neP (by rw [hg, e'])
  have hc : Chg w (w.setCell ⟨g, i * 69 + 3, none⟩ (.int .i64 s)) [g] := (Chg.refl w _).setCell (.inl (by simp)) _
  refine ⟨h.blk.chg hc (by simpa using fun e => hgp e.symm), h.root, ?_, ?_, own_chg h.pay hc ?_, h.hp, h.hP, h.hY, h.below.trans (hc.toBelow h.below.size (by simpa using h.hP g hg))⟩
  · intro x hx
    rcases List.mem_or_eq_of_mem_set hx with hx | rfl
    · exact h.all x hx
    · have := h.all _ (List.getElem_mem hi)
      exact ⟨this.rt, this.fr⟩
  · have := h.pr
    rw [e] at this ⊢
    rw [List.length_set, flat_set h.all hi s]
    exact own_set this _ _
  · intro k hk hm
    obtain rfl := List.mem_singleton.1 hm
    exact own_two h.pay h.pr (by decide) hk hg

theorem pr_facts {w : World} {b : Nat} {x : Pr} {t : TypeId} (hx : x.ok) (h : w.heap[b]? = some (.cells x.row.toArray t (0, 0))) :
    w.cell? ⟨b, 0, none⟩ = some (.int .i64 x.nb) ∧ w.cell? ⟨b, 1, none⟩ = some (.int .i64 x.bs) ∧ w.cell? ⟨b, 2, none⟩ = some (.int .i64 x.at_) ∧ w.cell? ⟨b, 3, none⟩ = some (.int .i64 x.st) ∧
    rowOf w b 4 32 = hc x.rt ∧ rowOf w b 36 32 = hc x.fr ∧ w.cell? ⟨b, 68, none⟩ = some (.int .u64 x.who) := by
  have h1 := hx.rt
  have h2 := hx.fr
  refine ⟨?_, ?_, ?_, ?_, ?_, ?_, ?_⟩
  · rw [cell_of_row _ _ _ _ _ _ h]; rfl
  · rw [cell_of_row _ _ _ _ _ _ h]; rfl
  · rw [cell_of_row _ _ _ _ _ _ h]; rfl
  · rw [cell_of_row _ _ _ _ _ _ h]; rfl
  · rw [rowOf_block h]
    simp [Pr.row, hc_len, h1]
  · rw [rowOf_block h]
    simp [Pr.row, hc_len, h1, h2]
  · rw [cell_of_row _ _ _ _ _ _ h]
    simp only [Pr.row]
    rw [List.getElem?_toArray, List.getElem?_append_right (by simp), List.getElem?_append_right (by simp [hc_len, h1]), List.getElem?_append_right (by simp [hc_len, h1, h2])]
    simp [hc_len, h1, h2]
end Go.Proofs.YtppaallnanodhaaGreatDoor
