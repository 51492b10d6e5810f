/-
  ClaimMoves returns true for every trace and segment, and leaves its arguments: the law out of its walk.
-/
import Derived.Test.YtcogoncekbiacaaMoves0
import Derived.SizedLaws
namespace Go.Proofs.Ytcogoncekbiacaa
open Go.ChangeShapes Go.WideShapes Go.ChangeAt Go.RowKit

set_option maxRecDepth 100000 in
theorem ClaimMoves_lifted (os : Os) (started : os.Started) (H : Type) (enc : TypeId × Value → H) :
    ReturnsInHanded {} Try.checked os 4 .any (Rows.claimMovesSpec.pre6 enc Try.prog Try.f4 Rows.claimMovesRow.domain false) (Rows.claimMovesSpec.post enc Try.prog Try.f4 false true false false) := by
  refine returnsInHanded_of_change_sized (C := Try.checked) Try.ownNone started (by kernel_rfl) Try.func4
    (ChangeSpec.witness6 (enc := enc) (C := Try.checked) false ⟨#[], #[.slice none 0 0, .agg seg0.row.toArray], []⟩ 8 (by kernel_rfl) (by kernel_rfl) (by kernel_rfl) (by kernel_rfl)) ?_
  intro W base args ds gs before hval0 hW hcnd hsz0 _
  have hval : ∀ (j : Nat) t v, Try.f4.params[j]? = some t → args[j]? = some v → Value.okWide Try.prog W .any base t v := hval0
  have hW' := hW
  obtain ⟨p, q, hA0, hV, rfl, hfz, hnd⟩ := hW
  have hA : DataW.TrodAll enc Try.prog W 0 (fun _ => true) true Try.f4.params.toList args.toList ds p := hA0
  rw [Try.params4] at hA hval
  obtain ⟨v0, v1, d0, d1, p0, p1, rfl, rfl, rfl, h0, h1⟩ := trodAll_two hA
  have h0' := h0
  obtain ⟨a, n, cap, T, rfl, hn, hT⟩ := open_trace (hval 0 46 v0 rfl rfl) h0
  obtain ⟨s, hs, rfl⟩ := open_seg (hval 1 25 v1 rfl rfl) h1
  have walk : Calls Try.prog 4 #[.slice a n cap, .agg s.row.toArray] W fun e w' => e = .returned (.bool true) ∧ Below W.heap.size W w' := by
    obtain ⟨fuel, hf⟩ := h0'
    rcases Deep.open_slice Try.underlying46 hf with ⟨hcs, _⟩ | ⟨a', len, cap', m, k, D, Pl, hcs, _, _, _, _, hx, _⟩
    · simp [Value.cells] at hcs
      obtain ⟨rfl, rfl, rfl⟩ := hcs
      exact Moves_walk0 hs W
    · simp [Value.cells] at hcs
      obtain ⟨e1, e2, e3⟩ := hcs
      subst e1
      have hd := congrArg Prod.fst hx
      simp only at hd
      have hsz := sized_slice hsz0 (j := 0) (t := 46) (e := 23) (by rw [Try.params4]; rfl) (by rw [hd]; rfl) Try.underlying46
      have hby : Try.checked.prog.bytesOf 23 = 32 := by kernel_rfl
      have hr : reachBytes = 140737488351232 := by decide
      rw [hby, hr, List.length_map, List.length_range] at hsz
      exact Moves_walk hs (by omega) W hT
  refine (walk).mono fun e W' ⟨he, hw⟩ => ?_
  subst he
  exact ⟨_, rfl, law_post (tb := 4) Try.laidOutTrue hW' rfl (by kernel_rfl) (by kernel_rfl) Try.underlying4 rfl rfl rfl hw⟩

theorem ClaimMoves_holds : Rows.ClaimMovesSaid :=
  OpenClaim.holds_of_wide 4 Try.f4 rfl rfl rfl rfl rfl rfl rfl ⟨rfl, rfl, rfl, rfl, rfl⟩ rfl rfl rfl rfl rfl (by kernel_rfl) Try.func4 (by kernel_rfl)
    (of_decide_eq_true (by kernel_rfl)) (by unfold Func.isWrapper; rw [if_neg (of_decide_eq_false (by kernel_rfl))]; exact ⟨rfl, rfl⟩)
    (fun os started H enc _ => ClaimMoves_lifted os started H enc)
end Go.Proofs.Ytcogoncekbiacaa
