/-
  ClaimHalves returns true for every segment, hash and choice, and leaves its arguments: a choice leaves one half, no more than half of the steps, rounded up.
-/
import Derived.Test.YtcogoncekbiacaaKnows16
import Derived.Test.YtcogoncekbiacaaOpenSeg
import Derived.Deep.RegionHeld3
namespace Go.Proofs.Ytcogoncekbiacaa
open Go.ChangeShapes Go.WideShapes Go.ChangeAt Go.RowKit

theorem bthen {B : Nat} {a w w' : World} (h : Below B a w) (k : Below w.heap.size w w') (hB : B ≤ w.heap.size) : Below B a w' := h.trans (k.mono hB)

abbrev HS (w : World) (b : Nat) (ty : TypeId) (s : Seg) (W : World) : Prop := rowOf W b 0 99 = s.row ∧ SegAt W b ty s ∧ Below w.heap.size w W
section
variable {w W W' : World} {b : Nat} {ty : TypeId} {s : Seg}
theorem HS_mk (hs : s.ok) (hS : SegAt W b ty s) (hB : Below w.heap.size w W) : HS w b ty s W := ⟨hS.whole hs, hS, hB⟩
theorem HS_drew (hs : s.ok) (h : HS w b ty s W) : HS w b ty s W.drew := HS_mk hs h.2.1.drew h.2.2.drew
theorem HS_call (hs : s.ok) (h : HS w b ty s W) (hW : Below W.heap.size W W') : HS w b ty s W' := HS_mk hs (h.2.1.on hW) (h.2.2.trans (hW.mono h.2.2.size))
end

theorem post_ok {s : Seg} {F : List Int} (hr : s.right = true) (hp : s.p = false) (hl : s.last = false) : s.post F = ({ s with m := F, p := true }, 0) := by simp [Seg.post, hr, hp, hl]

theorem half_facts {s : Seg} {F : List Int} (hs : s.ok) (hF : F.length = 32) (hr : s.right = true) (hl : s.last = false) (agree : Bool) :
    ∃ q : Seg, Seg.choose { s with m := F, p := true } agree = (q, 0) ∧ q.ok ∧ q.right = true ∧ 1 ≤ q.hi - q.lo ∧ 2 * (q.hi - q.lo) ≤ s.hi - s.lo + 1 ∧ 2 ≤ s.hi - s.lo ∧ s.hi - s.lo ≤ 4096 ∧ 0 ≤ q.lo ∧ q.hi ≤ 4096 ∧ (agree = true → q.f = F) ∧ (agree = false → q.t = F) := by
  have ⟨l1, l2, l3⟩ := Seg.right_lo hr
  have l4 : ¬ s.hi - s.lo = 1 := by simpa [Seg.last, hr] using hl
  have hr' : Seg.right { s with m := F, p := true } = true := by simp [Seg.right]; omega
  have hm : Seg.middle { s with m := F, p := true } = (s.lo + s.hi) / 2 := by simp [Seg.middle, hr']
  cases agree
  · refine ⟨⟨s.lo, (s.lo + s.hi) / 2, s.f, F, zero32, false⟩, by simp [Seg.choose, hr', hm], ⟨hs.lo1, hs.lo2, by show _ ≤ (s.lo + s.hi) / 2; omega, by show (s.lo + s.hi) / 2 < _; omega, hs.f, hF, zero32_len⟩, by simp [Seg.right]; omega, ?_, ?_, by omega, by omega, by show 0 ≤ s.lo; omega, ?_, by simp, fun _ => rfl⟩
    · show 1 ≤ (s.lo + s.hi) / 2 - s.lo; omega
    · show 2 * ((s.lo + s.hi) / 2 - s.lo) ≤ s.hi - s.lo + 1; omega
    · show (s.lo + s.hi) / 2 ≤ 4096; omega
  · refine ⟨⟨(s.lo + s.hi) / 2, s.hi, F, s.t, zero32, false⟩, by simp [Seg.choose, hr', hm], ⟨by show _ ≤ (s.lo + s.hi) / 2; omega, by show (s.lo + s.hi) / 2 < _; omega, hs.hi1, hs.hi2, hF, hs.t, zero32_len⟩, by simp [Seg.right]; omega, ?_, ?_, by omega, by omega, ?_, by show s.hi ≤ 4096; omega, fun _ => rfl, by simp⟩
    · show 1 ≤ s.hi - (s.lo + s.hi) / 2; omega
    · show 2 * (s.hi - (s.lo + s.hi) / 2) ≤ s.hi - s.lo + 1; omega
    · show 0 ≤ (s.lo + s.hi) / 2; omega

set_option maxHeartbeats 2000000 in
theorem Halves_walk {s : Seg} (hs : s.ok) {F : List Int} (hF : F.length = 32) (agree : Bool) (w : World) :
    Calls Try.prog 7 #[.agg s.row.toArray, .agg (hc F).toArray, .bool agree] w fun e w' => e = .returned (.bool true) ∧ Below w.heap.size w w' := by
  have S := (SegAt.new w 25 s).alloc (.cells (hc F).toArray 23)
  have H := HashAt.new (w.alloc (.cells s.row.toArray 25)) F
  have B : Below w.heap.size w ((w.alloc (.cells s.row.toArray 25)).alloc (.cells (hc F).toArray 23)) := by
    repeat (first | with_reducible exact Below.refl _ _ | with_reducible refine Below.alloc ?_ (by simp; try omega) _)
  simp only [World.size_alloc] at H
  have cs := S.whole hs
  have hf := hs.f
  have ht := hs.t
  have hm := hs.m
  go_enter Try.func7, Try.ntmps7
  go_wp2_with fail
  generalize (w.alloc (.cells s.row.toArray 25)).alloc (.cells (hc F).toArray 23) = wa at S H B cs ⊢
  refine (Own_any hs _).mono ?_
  rintro e w1 ⟨rfl, hb1⟩
  have S1 := (S.on hb1).alloc (.cells s.row.toArray 26)
  have H1 := (H.on hb1).alloc (.cells s.row.toArray 26)
  have X1 := SegAt.new w1 26 s
  have z1 : w.heap.size + 1 < w1.heap.size := (H.on hb1).lt
  have B1 := (bthen B hb1 B.size).alloc (by omega) (.cells s.row.toArray 26)
  have cx := X1.whole hs
  have ch := H1.row hF
  clear S H B cs hb1
  go_wp2_with fail
  refine (Post_any hs hF _).mono ?_
  rintro e w2 ⟨rfl, hb2⟩
  have zf := seg0_ok.f
  have zt := seg0_ok.t
  have zm := seg0_ok.m
  cases hr : s.right
  · rw [show s.post F = (seg0, 1) by simp [Seg.post, hr]]
    have S2 := (S1.on hb2).alloc (.cells seg0.row.toArray 26)
    have H2 := (H1.on hb2).alloc (.cells seg0.row.toArray 26)
    have X2 := (X1.on hb2).alloc (.cells seg0.row.toArray 26)
    have B2 := (bthen B1 hb2 B1.size).alloc (by have := B1.size; have := hb2.size; omega) (.cells seg0.row.toArray 26)
    clear S1 H1 X1 B1 hb2
    have hS0 : HS w w1.heap.size 26 s (w2.alloc (.cells seg0.row.toArray 26)) := HS_mk hs X2 B2
    clear S2 H2 X2 B2 cx ch
    go_wp2_with fail
    refine (num_any _ _).mono ?_
    rintro e w3 ⟨rfl, rfl⟩
    go_wp2_with fail
    go_region_held3 (HS w w1.heap.size 26 s)
      (first | assumption | (refine HS_drew hs ?_; assumption) | (refine HS_call hs ?_ hbR; assumption) | (refine HS_call hs ?_ hbK; assumption) | (refine ⟨?_, ?_, ?_⟩ <;> assumption))
      (first | (go_at_call 16; refine (num_any _ _).mono ?_; rintro e w' ⟨rfl, rfl⟩) | (go_at_call 17; refine (Right_any hs _).mono ?_; rintro e w' ⟨rfl, hbR⟩) | (go_at_call 25; refine (knows_any _).mono ?_; rintro e w' ⟨rfl, hbK⟩))
    all_goals
      go_wp2_with fail
      go_ret
      refine ⟨rfl, ?_⟩
      go_split_ands
      assumption
  · have hpl : s.p = true ∨ s.last = true ∨ (s.p = false ∧ s.last = false) := by cases s.p <;> cases s.last <;> simp
    rcases hpl with hp | hl | ⟨hp, hl⟩
    · rw [show s.post F = (seg0, 52) by simp [Seg.post, hr, hp]]
      have S2 := (S1.on hb2).alloc (.cells seg0.row.toArray 26)
      have H2 := (H1.on hb2).alloc (.cells seg0.row.toArray 26)
      have X2 := (X1.on hb2).alloc (.cells seg0.row.toArray 26)
      have B2 := (bthen B1 hb2 B1.size).alloc (by have := B1.size; have := hb2.size; omega) (.cells seg0.row.toArray 26)
      clear S1 H1 X1 B1 hb2
      have hS0 : HS w w1.heap.size 26 s (w2.alloc (.cells seg0.row.toArray 26)) := HS_mk hs X2 B2
      clear S2 H2 X2 B2 cx ch
      go_wp2_with fail
      refine (num_any _ _).mono ?_
      rintro e w3 ⟨rfl, rfl⟩
      go_wp2_with fail
      go_region_held3 (HS w w1.heap.size 26 s)
        (first | assumption | (refine HS_drew hs ?_; assumption) | (refine HS_call hs ?_ hbR; assumption) | (refine HS_call hs ?_ hbK; assumption) | (refine ⟨?_, ?_, ?_⟩ <;> assumption))
        (first | (go_at_call 16; refine (num_any _ _).mono ?_; rintro e w' ⟨rfl, rfl⟩) | (go_at_call 17; refine (Right_any hs _).mono ?_; rintro e w' ⟨rfl, hbR⟩) | (go_at_call 25; refine (knows_any _).mono ?_; rintro e w' ⟨rfl, hbK⟩))
      all_goals
        go_wp2_with fail
        go_ret
        refine ⟨rfl, ?_⟩
        go_split_ands
        assumption
    · rw [show s.post F = (seg0, 52) by simp [Seg.post, hr, hl]]
      have S2 := (S1.on hb2).alloc (.cells seg0.row.toArray 26)
      have H2 := (H1.on hb2).alloc (.cells seg0.row.toArray 26)
      have X2 := (X1.on hb2).alloc (.cells seg0.row.toArray 26)
      have B2 := (bthen B1 hb2 B1.size).alloc (by have := B1.size; have := hb2.size; omega) (.cells seg0.row.toArray 26)
      clear S1 H1 X1 B1 hb2
      have hS0 : HS w w1.heap.size 26 s (w2.alloc (.cells seg0.row.toArray 26)) := HS_mk hs X2 B2
      clear S2 H2 X2 B2 cx ch
      go_wp2_with fail
      refine (num_any _ _).mono ?_
      rintro e w3 ⟨rfl, rfl⟩
      go_wp2_with fail
      go_region_held3 (HS w w1.heap.size 26 s)
        (first | assumption | (refine HS_drew hs ?_; assumption) | (refine HS_call hs ?_ hbR; assumption) | (refine HS_call hs ?_ hbK; assumption) | (refine ⟨?_, ?_, ?_⟩ <;> assumption))
        (first | (go_at_call 16; refine (num_any _ _).mono ?_; rintro e w' ⟨rfl, rfl⟩) | (go_at_call 17; refine (Right_any hs _).mono ?_; rintro e w' ⟨rfl, hbR⟩) | (go_at_call 25; refine (knows_any _).mono ?_; rintro e w' ⟨rfl, hbK⟩))
      all_goals
        go_wp2_with fail
        go_ret
        refine ⟨rfl, ?_⟩
        go_split_ands
        assumption
    · rw [post_ok hr hp hl]
      obtain ⟨q, eq, hq, hqr, q1, q2, q3, q4, q5, q6, qt, qf⟩ := half_facts hs hF hr hl agree
      have hs' : Seg.ok { s with m := F, p := true } := ⟨hs.lo1, hs.lo2, hs.hi1, hs.hi2, hs.f, hs.t, hF⟩
      have E := Lib.hid eq
      generalize ({ s with m := F, p := true } : Seg) = p at E hs' ⊢
      clear eq
      have pf := hs'.f
      have pt := hs'.t
      have pm := hs'.m
      have S2 := (S1.on hb2).alloc (.cells p.row.toArray 26)
      have H2 := (H1.on hb2).alloc (.cells p.row.toArray 26)
      have P2 := SegAt.new w2 26 p
      have B2 := (bthen B1 hb2 B1.size).alloc (by have := B1.size; have := hb2.size; omega) (.cells p.row.toArray 26)
      have cp := P2.whole hs'
      clear S1 H1 X1 B1 hb2 cx ch
      go_wp2_with fail
      refine (num_any _ _).mono ?_
      rintro e w3 ⟨rfl, rfl⟩
      go_wp2_with fail
      refine (Choose_any hs' agree _).mono ?_
      rintro e w3 ⟨rfl, hb3⟩
      rw [E.out]
      have qf1 := hq.f
      have qt1 := hq.t
      have qm1 := hq.m
      have S3 := (S2.on hb3).alloc (.cells q.row.toArray 26)
      have H3 := (H2.on hb3).alloc (.cells q.row.toArray 26)
      have Q3 := SegAt.new w3 26 q
      have B3 := (bthen B2 hb3 B2.size).alloc (by have := B2.size; have := hb3.size; omega) (.cells q.row.toArray 26)
      have cq := Q3.whole hq
      clear S2 H2 P2 B2 hb3 cp
      go_wp2_with fail
      refine (num_any _ _).mono ?_
      rintro e w4 ⟨rfl, rfl⟩
      go_wp2_with fail
      refine (Right_any hq _).mono ?_
      rintro e w4 ⟨rfl, hb4⟩
      rw [hqr]
      have S4 := S3.on hb4
      have H4 := H3.on hb4
      have Q4 := Q3.on hb4
      have B4 := bthen B3 hb4 B3.size
      clear S3 H3 Q3 B3 hb4 cq
      obtain ⟨s0, s1, -, -, -, -, -⟩ := S4.facts hs
      obtain ⟨d0, d1, -, -, -, -, -⟩ := Q4.facts hq
      have cqf := (Q4.alloc (.cells (hc q.t).toArray 23)).from_ hq
      have cqt := Q4.to_ hq
      have zl := zero32_len
      have bs1 := hs.lo1
      have bs2 := hs.hi2
      have lo0 := (Seg.right_lo hr).1
      have BE := B4.alloc B4.size (.cells (hc F).toArray 23)
      have ch := (H4.alloc (.cells (hc F).toArray 23)).row hF
      have ce := (HashAt.new w4 F).row hF
      clear S4 H4 Q4 B4
      cases agree
      · have e1 := qf rfl
        rw [e1] at cqt qt1
        go_wp2_with fail
        refine (Rounds_any (by omega) (by omega) _).mono ?_
        rintro e w5 ⟨ra, rfl, hra, rfl⟩
        go_wp2_with fail
        refine (Rounds_any (by omega) (by omega) _).mono ?_
        rintro e w5 ⟨rb, rfl, hrb, rfl⟩
        have hlt := Rn_half hra hrb q1 q2 q3
        go_wp2_with fail
        refine (knows_any _).mono ?_
        rintro e w6 ⟨rfl, hb6⟩
        have B6 := bthen BE hb6 BE.size
        clear hb6 ch ce cqf cqt
        go_wp2_with fail
        go_ret
        exact ⟨rfl, B6⟩
      · have e1 := qt rfl
        rw [e1] at cqf qf1
        go_wp2_with fail
        refine (Rounds_any (by omega) (by omega) _).mono ?_
        rintro e w5 ⟨ra, rfl, hra, rfl⟩
        go_wp2_with fail
        refine (Rounds_any (by omega) (by omega) _).mono ?_
        rintro e w5 ⟨rb, rfl, hrb, rfl⟩
        have hlt := Rn_half hra hrb q1 q2 q3
        go_wp2_with fail
        refine (knows_any _).mono ?_
        rintro e w6 ⟨rfl, hb6⟩
        have B6 := bthen BE hb6 BE.size
        clear hb6 ch ce cqf cqt
        go_wp2_with fail
        go_ret
        exact ⟨rfl, B6⟩

set_option maxRecDepth 100000 in
theorem ClaimHalves_lifted (os : Os) (started : os.Started) (H : Type) (enc : TypeId × Value → H) :
    ReturnsInHanded {} Try.checked os 7 .any (Rows.claimHalvesSpec.pre6 enc Try.prog Try.f7 Rows.claimHalvesRow.domain false) (Rows.claimHalvesSpec.post enc Try.prog Try.f7 false true false false) := by
  refine returnsInHanded_of_change (C := Try.checked) Try.ownNone started (by kernel_rfl) Try.func7
    (ChangeSpec.witness6 (enc := enc) (C := Try.checked) false ⟨#[], #[.agg seg0.row.toArray, .agg (hc zero32).toArray, .bool false], []⟩ 8 (by kernel_rfl) (by kernel_rfl) (by kernel_rfl) (by kernel_rfl)) ?_
  intro W base args ds gs before hval0 hW hcnd _
  have hval : ∀ (j : Nat) t v, Try.f7.params[j]? = some t → args[j]? = some v → Value.okWide Try.prog W .any base t v := hval0
  have hW' := hW
  obtain ⟨p, q, hA0, hV, rfl, hfz, hnd⟩ := hW
  have hA : DataW.TrodAll enc Try.prog W 0 (fun _ => true) true Try.f7.params.toList args.toList ds p := hA0
  rw [Try.params7] at hA hval
  obtain ⟨v0, v1, v2, d0, d1, d2, p0, p1, p2, rfl, rfl, rfl, h0, h1, h2⟩ := trodAll_three hA
  obtain ⟨s, hs, rfl⟩ := open_seg (hval 0 25 v0 rfl rfl) h0
  obtain ⟨F, hF, rfl⟩ := open_hash (hval 1 23 v1 rfl rfl) h1
  obtain ⟨b, rfl, _⟩ := open_bool Try.underlying4 (hval 2 4 v2 rfl rfl) h2
  refine (Halves_walk hs hF b W).mono fun e W' ⟨he, hw⟩ => ?_
  subst he
  exact ⟨_, rfl, law_post (tb := 4) Try.laidOutTrue hW' rfl (by kernel_rfl) (by kernel_rfl) Try.underlying4 rfl rfl rfl hw⟩

theorem ClaimHalves_holds : Rows.ClaimHalvesSaid :=
  OpenClaim.holds_of_wide 7 Try.f7 rfl rfl rfl rfl rfl rfl rfl ⟨rfl, rfl, rfl, rfl, rfl⟩ rfl rfl rfl rfl rfl (by kernel_rfl) Try.func7 (by kernel_rfl)
    (of_decide_eq_true (by kernel_rfl)) (by unfold Func.isWrapper; rw [if_neg (of_decide_eq_false (by kernel_rfl))]; exact ⟨rfl, rfl⟩)
    (fun os started H enc _ => ClaimHalves_lifted os started H enc)
end Go.Proofs.Ytcogoncekbiacaa
