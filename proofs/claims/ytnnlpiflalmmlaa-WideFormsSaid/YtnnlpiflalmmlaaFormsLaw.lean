/-
  WideForms returns true for every number, every slice of bytes and every string, and leaves its arguments: bytes and text, there and back, are what the document says. No condition.
-/
import Derived.Test.YtnnlpiflalmmlaaForms
import Derived.Test.YtnnlpiflalmmlaaOpenWide
import Derived.Test.YtnnlpiflalmmlaaOpenBytes
import Derived.Carry
namespace Go.Proofs.Ytnnlpiflalmmlaa
open Go.ChangeShapes Go.WideShapes Go.ChangeAt Go.RowKit
open Go.WideMaps Go.WideElems
open Go.ChangeMaps (open_string)

set_option maxRecDepth 100000 in
theorem WideForms_lifted (os : Os) (started : os.Started) (H : Type) (enc : TypeId × Value → H) :
    ReturnsInHanded {} Try.checked os 5 .any (Rows.wideFormsSpec.pre6 enc Try.prog Try.f5 Rows.wideFormsRow.domain false) (Rows.wideFormsSpec.post enc Try.prog Try.f5 false true false false) := by
  refine returnsInHanded_of_change_sized (C := Try.checked) Try.ownNone started (by kernel_rfl) Try.func5
    (ChangeSpec.witness6 (enc := enc) (C := Try.checked) false ⟨#[], #[.agg #[.int .u64 0, .int .u64 0, .int .u64 0, .int .u64 0], .slice none 0 0, .string ByteArray.empty], []⟩ 8 (by kernel_rfl) (by kernel_rfl) (by kernel_rfl) (by kernel_rfl)) ?_
  intro W base args ds gs before hval0 hW hcnd hsz0 _
  have hval : ∀ (j : Nat) t v, Try.f5.params[j]? = some t → args[j]? = some v → Value.okWide Try.prog W .any base t v := hval0
  have hW' := hW
  obtain ⟨p, q, hA0, hV, rfl, hfz, hnd⟩ := hW
  have hA : DataW.TrodAll enc Try.prog W 0 (fun _ => true) true Try.f5.params.toList args.toList ds p := hA0
  rw [Try.params5] at hA hval
  obtain ⟨v0, v1, v2, d0, d1, d2, p0, p1, p2, rfl, rfl, rfl, h0, h1, h2⟩ := trodAll_three hA
  obtain ⟨a0, a1, a2, a3, rfl, ha⟩ := open_wide Try.underlying24 Try.underlying22 Try.wide4Cells Try.wideCells (hval 0 24 v0 rfl rfl) h0
  obtain ⟨xs, hr, bx, hx⟩ := open_bytes (hval 1 42 v1 rfl rfl) h1
  obtain ⟨s, rfl, rfl, rfl, hs⟩ := open_string Try.underlying9 (hval 2 9 v2 rfl rfl) h2
  have hl : xs.length ≤ 140737488355328 := by
    obtain ⟨q', c', rfl⟩ := hr.len
    obtain ⟨fuel, hf⟩ := h1
    rcases Deep.open_slice Try.underlying42 hf with ⟨hcs, _⟩ | ⟨a', len, cap', m, k, D, Pl, hcs, _, _, _, _, hx, _⟩
    · simp [Value.cells] at hcs
      obtain ⟨_, rfl, _⟩ := hcs
      simp
    · simp [Value.cells] at hcs
      obtain ⟨e1, e2, e3⟩ := hcs
      have hd := congrArg Prod.fst hx
      simp only at hd
      have hsz := sized_slice hsz0 (j := 1) (t := 42) (e := 5) (by rw [Try.params5]; rfl) (by rw [hd]; rfl) Try.underlying42
      have hby : Try.checked.prog.bytesOf 5 = 1 := by kernel_rfl
      have hr : reachBytes = 140737488351232 := by decide
      rw [hby, hr, List.length_map, List.length_range] at hsz
      omega
  refine (Forms_walk ha hr bx hl hs).mono fun e W' ⟨he, hw⟩ => ?_
  subst he
  exact ⟨_, rfl, law_post (tb := 4) Try.laidOutTrue hW' rfl (by kernel_rfl) (by kernel_rfl) Try.underlying4 rfl rfl rfl hw⟩

theorem WideForms_holds : Rows.WideFormsSaid :=
  OpenClaim.holds_of_wide 5 Try.f5 rfl rfl rfl rfl rfl rfl rfl ⟨rfl, rfl, rfl, rfl, rfl⟩ rfl rfl rfl rfl rfl (by kernel_rfl) Try.func5 (by kernel_rfl)
    (of_decide_eq_true (by kernel_rfl)) (by unfold Func.isWrapper; first | (rw [if_neg (of_decide_eq_false (by kernel_rfl))]; exact ⟨rfl, rfl⟩) | (rw [if_pos (by decide +kernel)]; kernel_rfl))
    (fun os started H enc _ => WideForms_lifted os started H enc)
end Go.Proofs.Ytnnlpiflalmmlaa
