/-
  The walk of digest.end.
-/
import Derived.Test.YtjgfjmkfcippcaaDoorShaPad
namespace Go.Proofs.YtjgfjmkfcippcaaDoor
open Go.RowKit
set_option maxRecDepth 100000

theorem Tryd.size_u8 : (Tryd.prog.info? 5).map (·.size) = some 1 := by kernel_rfl

set_option maxHeartbeats 2000000 in
theorem end_any {w : World} {b : Nat} (h : RwK .u8 w b 128 149 (fun _ => 0)) {v : Value} {rs : List Int} (hr : Rd w v rs) (h64 : rs.length < 64) (L : Nat) :
    Calls Tryd.prog 94 #[.pointer (some ⟨b, 0, none⟩), v, .int .i64 L] w fun e w' => e = .returned (.int .i64 (64 * (if 64 < rs.length + 9 then 2 else 1 : Nat) : Nat)) ∧ RwK .u8 w' b 128 149 (endF rs L (64 * (if 64 < rs.length + 9 then 2 else 1))) ∧ Chg w w' [b] := by
  obtain ⟨q, c, rfl, hx⟩ := hr
  have HN := Lib.hid (show rs.length = Nat.min rs.length 128 from (Nat.min_eq_left (by omega)).symm)
  have HP : Hid (0 < rs.length → (some ⟨b, 0, none⟩ : Option Addr) = some ⟨b, 0, none⟩ ∧ ∃ ad, q = some ad ∧ ∀ j, j < rs.length → w.cell? (ad.add j) = some (.int .u8 (rs.getD j 0))) := by
    intro h0
    rcases hx with rfl | ⟨b', off, rfl, hc⟩
    · simp at h0
    · exact ⟨rfl, _, rfl, fun j hj => by rw [addr_add]; exact hc j hj⟩
  have H := Lib.hid h
  clear h hx
  by_cases hlt : 64 < rs.length + 9
  all_goals
    simp only [hlt, if_true, if_false]
    go_enter Tryd.func94, Tryd.ntmps94
    go_wp2_with (with_reducible refine wpList_copy_rw rfl _ _ _ _ rfl 5 Tryd.underlying64 Tryd.size_u8 _ _ _ _ _ _ rfl rfl H.out 0 rs HN.out HP.out (by omega) ?_)
    intro w1 h1 k1
    have c1 := h1.cell rs.length (by omega)
    have f1 := h1.free rs.length
    have H1 := Lib.hid (h1.store (j := rs.length) (by omega) 128)
    have K1 := Lib.hid (k1.setCell (p := ⟨b, rs.length, none⟩) (.inl (by simp)) (.int .u8 128))
    clear h1 k1
    go_wp2_with fail
    refine (put64_any H1.out (by omega) (by omega) (by omega) _).mono ?_
    rintro e w2 ⟨rfl, h2, k2⟩
    have H2 := Lib.hid h2
    have K2 := Lib.hid (K1.out.trans k2 (fun _ h _ => h))
    clear h2 k2
    go_wp2_with fail
    go_ret
    refine ⟨rfl, ?_, K2.out⟩
    have h2 := H2.out
    rw [show IntKind.u64.wrap (IntKind.u64.wrap (L : Int) * 8) = (8 * (L : Int)) % 18446744073709551616 by rw [IntKind.wrap_u64, IntKind.wrap_u64]; omega, put8_mod] at h2
    exact h2
theorem end_two {w : World} {b : Nat} (h : RwK .u8 w b 128 149 (fun _ => 0)) {v : Value} {rs : List Int} (hr : Rd w v rs) (h64 : rs.length < 64) (L : Nat) (hlt : 64 < rs.length + 9) :
    Calls Tryd.prog 94 #[.pointer (some ⟨b, 0, none⟩), v, .int .i64 L] w fun e w' => e = .returned (.int .i64 128) ∧ RwK .u8 w' b 128 149 (endF rs L 128) ∧ Chg w w' [b] := by
  have := end_any h hr h64 L
  simp only [hlt, if_true] at this
  exact this
theorem end_one {w : World} {b : Nat} (h : RwK .u8 w b 128 149 (fun _ => 0)) {v : Value} {rs : List Int} (hr : Rd w v rs) (h64 : rs.length < 64) (L : Nat) (hlt : ¬ 64 < rs.length + 9) :
    Calls Tryd.prog 94 #[.pointer (some ⟨b, 0, none⟩), v, .int .i64 L] w fun e w' => e = .returned (.int .i64 64) ∧ RwK .u8 w' b 128 149 (endF rs L 64) ∧ Chg w w' [b] := by
  have := end_any h hr h64 L
  simp only [hlt, if_false] at this
  exact this
end Go.Proofs.YtjgfjmkfcippcaaDoor
