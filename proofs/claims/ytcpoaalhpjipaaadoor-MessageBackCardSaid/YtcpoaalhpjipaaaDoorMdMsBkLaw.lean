/-
  MessageBack returns true for all inputs, batches and bytes, and leaves its arguments: what is written is read as it was, and what is read is written as it was. The law out of its walk, and its tied card.
-/
import Derived.Test.YtcpoaalhpjipaaaDoorMd16
import Derived.Test.YtcpoaalhpjipaaaDoorMd26
import Derived.Test.YtcpoaalhpjipaaaDoorMd27
namespace Go.Proofs.YtcpoaalhpjipaaaDoor
open Go.ChangeShapes Go.WideShapes Go.ChangeAt Go.RowKit
open Go.ChangeMaps (open_string)

set_option maxRecDepth 100000 in
theorem MessageBack_lifted (os : Os) (started : os.Started) (H : Type) (enc : TypeId × Value → H) :
    ReturnsInHanded {} Tryd.checked os 5 .any (fun w args => (Rows.messageBackSpec.pre enc Tryd.prog Tryd.f5 [] false w args ∧ laidMetH Tryd.prog rootsL w) ∧ sizedMet enc Tryd.prog Tryd.f5 (OpenSpec.ofChange Rows.messageBackSpec) false w args)
      (Rows.messageBackSpec.post enc Tryd.prog Tryd.f5 false true false false) := by
  refine returnsInHanded_of_change_and (C := Tryd.checked) (X := fun w _ => laidMetH Tryd.prog rootsL w) (fun _ _ _ hh h => h.of_heap hh) Tryd.ownNone started (by kernel_rfl) Tryd.func5
    (ChangeSpec.witness_shaped (enc := enc) (C := Tryd.checked) (os := os) (X := fun w _ => laidMetH Tryd.prog rootsL w) false (World.doorLaid Tryd.prog 400 os) #[.agg (inRow inp0 none 0 0 none 0 0).toArray, .int .u64 0, .slice none 0 0, .slice none 0 0] 10 rfl (World.shaped_of_RefB (by kernel_rfl) (by kernel_rfl)) (by kernel_rfl) (by kernel_rfl) (by kernel_rfl) (door_met os _)) ?_
  intro W base args ds gs before hval0 hW _ hsz0 hL _
  have hval : ∀ (j : Nat) t v, Tryd.f5.params[j]? = some t → args[j]? = some v → Value.okWide Tryd.prog W .any base t v := hval0
  have hW' := hW
  obtain ⟨p, q, hA0, hV, rfl, hfz, hnd⟩ := hW
  have hA : DataW.TrodAll enc Tryd.prog W 0 (fun _ => true) true Tryd.f5.params.toList args.toList ds p := hA0
  rw [Tryd.params5] at hA hval
  obtain ⟨v0, v1, v2, v3, d0, d1, d2, d3, p0, p1, p2, p3, rfl, rfl, rfl, h0, h1, h2, h3⟩ := trodAll_four hA
  have hs0 : ∀ n ∈ d0.weights Tryd.prog 70, n ≤ reachBytes := fun n hn => by
    have := List.all_eq_true.1 hsz0 n (DataW.weights_mem_each (j := 0) (t := 70) (d := d0) (by rw [Tryd.params5]; rfl) rfl n hn)
    simpa using this
  have hs2 : ∀ n ∈ d2.weights Tryd.prog 52, n ≤ reachBytes := fun n hn => by
    have := List.all_eq_true.1 hsz0 n (DataW.weights_mem_each (j := 2) (t := 52) (d := d2) (by rw [Tryd.params5]; rfl) rfl n hn)
    simpa using this
  have hs3 : ∀ n ∈ d3.weights Tryd.prog 25, n ≤ reachBytes := fun n hn => by
    have := List.all_eq_true.1 hsz0 n (DataW.weights_mem_each (j := 3) (t := 25) (d := d3) (by rw [Tryd.params5]; rfl) rfl n hn)
    simpa using this
  obtain ⟨x, qm, km, qt', kt, rfl, okx, rm, lm, rt, lt⟩ := open_inp (hval 0 70 v0 rfl rfl) h0 hs0
  obtain ⟨ep, rfl, _, _, hwf⟩ := open_int Tryd.underlying22 (hval 1 22 v1 rfl rfl) h1
  obtain ⟨qt, ct, L, rfl, rT, okT9, nT⟩ := open_txs (hval 2 52 v2 rfl rfl) h2 hs2
  obtain ⟨xs, rX, bX, lX⟩ := open_bytesS (hval 3 25 v3 rfl rfl) h3 hs3
  refine (Back9_walk (tbl_of hL) okx rm lm rt lt (u64_bd hwf) rT okT9 nT rX bX lX).mono fun e W' ⟨he, hw⟩ => ?_
  subst he
  exact ⟨_, rfl, law_post (tb := 4) Tryd.laidOutTrue hW' rfl (by kernel_rfl) (by kernel_rfl) Tryd.underlying4 rfl rfl rfl hw⟩

theorem MessageBack_row : Rows.MessageBackSaid :=
  OpenClaim.holds_of_wide 5 Tryd.f5 rfl rfl rfl rfl rfl rfl rfl ⟨rfl, rfl, rfl, rfl, rfl⟩ rfl rfl rfl rfl rfl (by kernel_rfl) Tryd.func5 (by kernel_rfl)
    (of_decide_eq_true (by kernel_rfl)) (by unfold Func.isWrapper; first | (rw [if_pos (by decide +kernel)]; kernel_rfl) | (rw [if_neg (by decide +kernel)]; exact ⟨rfl, rfl⟩))
    (fun os started H enc _ => MessageBack_lifted os started H enc)

theorem MessageBack_holds : Rows.MessageBackCardSaid :=
  Claim7.holds_tied_plain_at .later [] _ _ _ _
    MessageBack_row (fun _ h => by cases h) (by kernel_rfl) (fun _ h => by cases h) messageBack_row_tie rfl ⟨rfl, rfl⟩ (by kernel_rfl) rfl
    (fun f fn hf hfn => by
      obtain rfl : f = 5 := Option.some.inj ((show Tryd.prog.funcNamed "bascule/basculelaw09.MessageBack" = some 5 by kernel_rfl).symm.trans hf) |>.symm
      obtain rfl : fn = Tryd.f5 := (Option.some.inj (Tryd.func5.symm.trans hfn)).symm
      exact ⟨by kernel_rfl, fun j t ht => by
        rw [Tryd.params5] at ht
        have hm : t ∈ [70, 22, 52, 25] := by simpa using Array.mem_of_getElem? ht
        have hall : ([70, 22, 52, 25].all fun u => !Tryd.prog.wantsStandIn u) = true := by kernel_rfl
        exact (show Tryd.prog.wantsStandIn t = false by simpa using List.all_eq_true.1 hall t hm)⟩)
    (by kernel_rfl)
end Go.Proofs.YtcpoaalhpjipaaaDoor
