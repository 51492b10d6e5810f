/-
  The walk of ClaimMoves where there is no trace.
-/
import Derived.Test.YtcogoncekbiacaaMoves
namespace Go.Proofs.Ytcogoncekbiacaa
open Go.RowKit

set_option maxHeartbeats 4000000 in
theorem Moves_walk0 {s : Seg} (hs : s.ok) (w : World) :
    Calls Try.prog 4 #[.slice none 0 0, .agg s.row.toArray] w fun e w' => e = .returned (.bool true) ∧ Below w.heap.size w w' := by
  obtain ⟨ih, hi, _, _, _⟩ := Try.info_hash
  have T : Nat → List Int := fun _ => []
  have hown : World.ownsRow ((w.alloc (.cells s.row.toArray 25)).alloc (.cells #[] 23)) w.heap.size 23 32 (.slice (some ⟨w.heap.size + 1, 0, none⟩) 0 0) 0 [] := by
    refine ⟨rfl, Or.inr ⟨w.heap.size + 1, 0, #[], rfl, by omega, ?_, Nat.le_refl _, by unfold maxLen; omega, rfl, rfl⟩⟩
    have := heap_alloc_last (w.alloc (.cells s.row.toArray 25)) (.cells #[] 23)
    simpa using this
  have S1 := (SegAt.new w 25 s).alloc (.cells #[] 23)
  have B1 : Below w.heap.size w ((w.alloc (.cells s.row.toArray 25)).alloc (.cells #[] 23)) := by repeat (first | with_reducible exact Below.refl _ _ | with_reducible refine Below.alloc ?_ (by simp; try omega) _)
  have KC : TrP ((w.alloc (.cells s.row.toArray 25)).alloc (.cells #[] 23)) (some ⟨w.heap.size + 1, 0, none⟩) 0 T := fun i hi => by omega
  have KT : TrP ((w.alloc (.cells s.row.toArray 25)).alloc (.cells #[] 23)) none 0 T := fun i hi => by omega
  have cw := S1.whole hs
  have ⟨hf, ht, hm⟩ : s.f.length = 32 ∧ s.t.length = 32 ∧ s.m.length = 32 := ⟨hs.f, hs.t, hs.m⟩
  have hH : (s.honest 0 T).1.length = 32 := by
    unfold Seg.honest
    cases hx : (!s.right || s.p || s.last || decide (((0 : Nat) : Int) ≤ s.middle))
    · have h0 : 0 ≤ s.middle ∧ s.middle < 0 := by
        simp only [Bool.or_eq_false_iff, Bool.not_eq_false', decide_eq_false_iff_not] at hx
        have := Seg.middle_lo hx.1.1.1
        omega
      omega
    · exact zero32_len
  go_enter Try.func4, Try.ntmps4
  go_wp2_with (refine wpList_append_own_none rfl _ _ 46 rfl w.heap.size 23 ih 32 Try.underlying46 hi (.slice (some ⟨w.heap.size + 1, 0, none⟩) 0 0) 0 [] rfl hown rfl ?_)
  clear hown hi
  refine (Own_any hs _).mono ?_
  rintro e w2 ⟨rfl, hb⟩
  have S2 := S1.on hb
  have KC2 := KC.on hb
  have KT2 := KT.on hb
  have B2 := cthen B1 hb B1.size
  have zl := zero32_len
  clear S1 KC KT B1 cw hb
  go_wp2_with fail
  refine (Honest_any hs _ KC2).mono ?_
  rintro e w3 ⟨rfl, hb⟩
  generalize hHH : s.honest 0 T = hh at hH ⊢
  have HH := Lib.hid hHH
  clear hHH
  have S3 := (S2.on hb).alloc (.cells (hc hh.1).toArray 23)
  have KC3 := (KC2.on hb).alloc (.cells (hc hh.1).toArray 23)
  have KT3 := (KT2.on hb).alloc (.cells (hc hh.1).toArray 23)
  have H3 := HashAt.new w3 hh.1
  have B3 := (cthen B2 hb B2.size).alloc (by have := B2.size; have := hb.size; omega) (.cells (hc hh.1).toArray 23)
  have cw := S3.whole hs
  clear S2 KC2 KT2 B2 hb
  go_wp2_with fail
  refine (refHonest_any hs _ KT3).mono ?_
  rintro e w4 ⟨rfl, hb⟩
  rw [HH.out]
  have S4 := (S3.on hb).alloc (.cells (hc hh.1).toArray 23)
  have KC4 := (KC3.on hb).alloc (.cells (hc hh.1).toArray 23)
  have KT4 := (KT3.on hb).alloc (.cells (hc hh.1).toArray 23)
  have H4 := (H3.on hb).alloc (.cells (hc hh.1).toArray 23)
  have G4 := HashAt.new w4 hh.1
  have B4 := (cthen B3 hb B3.size).alloc (by have := B3.size; have := hb.size; omega) (.cells (hc hh.1).toArray 23)
  have cw := S4.whole hs
  clear S3 KC3 KT3 H3 B3 hb
  go_wp2_with fail
  refine (Own_any hs _).mono ?_
  rintro e w5 ⟨rfl, hb⟩
  have S5 := S4.on hb
  have KC5 := KC4.on hb
  have KT5 := KT4.on hb
  have H5 := H4.on hb
  have G5 := G4.on hb
  have B5 := cthen B4 hb B4.size
  clear S4 KC4 KT4 H4 G4 B4 hb cw
  go_wp2_with fail
  refine (Judge_any hs _ KC5).mono ?_
  rintro e w6 ⟨rfl, hb⟩
  have S6 := S5.on hb
  have KT6 := KT5.on hb
  have H6 := H5.on hb
  have G6 := G5.on hb
  have B6 := cthen B5 hb B5.size
  have cw := S6.whole hs
  clear S5 KC5 KT5 H5 G5 B5 hb
  go_wp2_with fail
  refine (refJudge_any hs _ KT6).mono ?_
  rintro e w7 ⟨rfl, hb⟩
  have ch := (H6.on hb).row hH
  have cg := (G6.on hb).row hH
  have B7 := cthen B6 hb B6.size
  generalize s.judge 0 T = jj
  clear S6 KT6 H6 G6 B6 hb cw
  go_wp2_with fail
  refine (knows_any _).mono ?_
  rintro e w8 ⟨rfl, hb⟩
  have B8 := cthen B7 hb B7.size
  clear hb ch cg B7
  go_wp2_with fail
  go_ret
  exact ⟨rfl, B8⟩
end Go.Proofs.Ytcogoncekbiacaa
