/-
  ClaimHolds returns true for every trace and every choices, and leaves its arguments: the law out of its walk.
-/
import Derived.Test.YtcogoncekbiacaaOpenTrace
namespace Go.Proofs.Ytcogoncekbiacaa
open Go.ChangeShapes Go.WideShapes Go.ChangeAt Go.RowKit

set_option maxRecDepth 100000 in
theorem ClaimHolds_lifted (os : Os) (started : os.Started) (H : Type) (enc : TypeId × Value → H) :
    ReturnsInHanded {} Try.checked os 6 .any (Rows.claimHoldsSpec.pre6 enc Try.prog Try.f6 Rows.claimHoldsRow.domain false) (Rows.claimHoldsSpec.post enc Try.prog Try.f6 false true false false) := by
  refine returnsInHanded_of_change (C := Try.checked) Try.ownNone started (by kernel_rfl) Try.func6
    (ChangeSpec.witness6 (enc := enc) (C := Try.checked) false ⟨#[], #[.slice none 0 0, .slice none 0 0], []⟩ 8 (by kernel_rfl) (by kernel_rfl) (by kernel_rfl) (by kernel_rfl)) ?_
  intro W base args ds gs before hval0 hW hcnd _
  have hval : ∀ (j : Nat) t v, Try.f6.params[j]? = some t → args[j]? = some v → Value.okWide Try.prog W .any base t v := hval0
  have hW' := hW
  obtain ⟨p, q, hA0, hV, rfl, hfz, hnd⟩ := hW
  have hA : DataW.TrodAll enc Try.prog W 0 (fun _ => true) true Try.f6.params.toList args.toList ds p := hA0
  rw [Try.params6] at hA hval
  obtain ⟨v0, v1, d0, d1, p0, p1, rfl, rfl, rfl, h0, h1⟩ := trodAll_two hA
  obtain ⟨a, n, cap, T, rfl, hn, hT⟩ := open_trace (hval 0 46 v0 rfl rfl) h0
  obtain ⟨b, m, capc, C, rfl, hm, hC⟩ := open_choices (hval 1 55 v1 rfl rfl) h1
  refine (Holds_walk hn hm W hT hC).mono fun e W' ⟨he, hw⟩ => ?_
  subst he
  exact ⟨_, rfl, law_post (tb := 4) Try.laidOutTrue hW' rfl (by kernel_rfl) (by kernel_rfl) Try.underlying4 rfl rfl rfl hw⟩

theorem ClaimHolds_holds : Rows.ClaimHoldsSaid :=
  OpenClaim.holds_of_wide 6 Try.f6 rfl rfl rfl rfl rfl rfl rfl ⟨rfl, rfl, rfl, rfl, rfl⟩ rfl rfl rfl rfl rfl (by kernel_rfl) Try.func6 (by kernel_rfl)
    (of_decide_eq_true (by kernel_rfl)) (by unfold Func.isWrapper; rw [if_neg (of_decide_eq_false (by kernel_rfl))]; exact ⟨rfl, rfl⟩)
    (fun os started H enc _ => ClaimHolds_lifted os started H enc)
end Go.Proofs.Ytcogoncekbiacaa
