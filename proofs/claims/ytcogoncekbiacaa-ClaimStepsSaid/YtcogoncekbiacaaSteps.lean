/-
  ClaimSteps returns true for every segment, count, hash and choice, and leaves its arguments: Open, Right, Middle, Last, Post, Choose and Rounds answer as the document's do.
-/
import Derived.Test.YtcogoncekbiacaaKnows16
import Derived.Test.YtcogoncekbiacaaOpenSeg
import Derived.Test.YtcogoncekbiacaaRefChoose
import Derived.Test.YtcogoncekbiacaaRefRounds
import Derived.Test.YtcogoncekbiacaaEqSeg
import Derived.Deep.RegionHeld3
namespace Go.Proofs.Ytcogoncekbiacaa
open Go.ChangeShapes Go.WideShapes Go.ChangeAt Go.RowKit

theorem bthen' {B : Nat} {a w w' : World} (h : Below B a w) (k : Below w.heap.size w w') (hB : B ≤ w.heap.size) : Below B a w' := h.trans (k.mono hB)

theorem opened_ok (n : Int) {F G : List Int} (hF : F.length = 32) (hG : G.length = 32) : (Seg.opened n F G).1.ok := by
  unfold Seg.opened
  split
  · exact seg0_ok
  · exact ⟨by show _ ≤ (0 : Int); omega, by show (0 : Int) < _; omega, by show _ ≤ n; omega, by show n < _; omega, hF, hG, zero32_len⟩
theorem post_seg_ok {s : Seg} (hs : s.ok) {F : List Int} (hF : F.length = 32) : (s.post F).1.ok := by
  unfold Seg.post
  cases s.right
  · exact seg0_ok
  · cases (s.p || s.last)
    · exact ⟨hs.lo1, hs.lo2, hs.hi1, hs.hi2, hs.f, hs.t, hF⟩
    · exact seg0_ok
theorem choose_seg_ok {s : Seg} (hs : s.ok) (agree : Bool) : (s.choose agree).1.ok := by
  unfold Seg.choose
  cases hr : s.right
  · exact seg0_ok
  · have hm : 0 ≤ s.middle ∧ s.middle ≤ 4096 := by
      have := Seg.right_lo hr
      simp only [Seg.middle, hr, cond_true]; omega
    cases s.p
    · exact seg0_ok
    · cases agree
      · exact ⟨hs.lo1, hs.lo2, by show _ ≤ s.middle; omega, by show s.middle < _; omega, hs.f, hs.m, zero32_len⟩
      · exact ⟨by show _ ≤ s.middle; omega, by show s.middle < _; omega, hs.hi1, hs.hi2, hs.m, hs.t, zero32_len⟩

@[go_sem ↓] theorem Try.eq_segR_self (w : World) (s : Seg) (hs : s.ok) : (Op.equalIn 10000 25 (.agg s.row.toArray) (.agg s.row.toArray)).run Try.prog w = .ok true w := by
  rw [Try.eq_segR w s s hs hs, Seg.same_self]

/-- What stands while the law compares. -/
structure StL (w : World) (bs bx ba bb bc bd bi bk : Nat) (s a c i : Seg) (W : World) : Prop where
  S : SegAt W bs 25 s
  X : SegAt W bx 26 s
  A : SegAt W ba 26 a
  B1 : SegAt W bb 25 a
  C : SegAt W bc 26 c
  D : SegAt W bd 25 c
  I : SegAt W bi 26 i
  K : SegAt W bk 25 i
  B : Below w.heap.size w W
abbrev StS (w : World) (bs bx ba bb bc bd bi bk : Nat) (s a c i : Seg) (W : World) : Prop :=
  rowOf W bs 0 99 = s.row ∧ rowOf W bx 0 99 = s.row ∧ rowOf W ba 0 99 = a.row ∧ rowOf W bb 0 99 = a.row ∧ rowOf W bc 0 99 = c.row ∧ rowOf W bd 0 99 = c.row ∧ rowOf W bi 0 99 = i.row ∧ rowOf W bk 0 99 = i.row ∧ StL w bs bx ba bb bc bd bi bk s a c i W
section
variable {w W W' : World} {bs bx ba bb bc bd bi bk : Nat} {s a c i : Seg}
theorem StS_mk (hs : s.ok) (ha : a.ok) (hc : c.ok) (hi : i.ok) (h : StL w bs bx ba bb bc bd bi bk s a c i W) : StS w bs bx ba bb bc bd bi bk s a c i W :=
  ⟨h.S.whole hs, h.X.whole hs, h.A.whole ha, h.B1.whole ha, h.C.whole hc, h.D.whole hc, h.I.whole hi, h.K.whole hi, h⟩
theorem StS_last (h : StS w bs bx ba bb bc bd bi bk s a c i W) : StL w bs bx ba bb bc bd bi bk s a c i W := h.2.2.2.2.2.2.2.2
theorem StL_drew (h : StL w bs bx ba bb bc bd bi bk s a c i W) : StL w bs bx ba bb bc bd bi bk s a c i W.drew :=
  ⟨h.S.drew, h.X.drew, h.A.drew, h.B1.drew, h.C.drew, h.D.drew, h.I.drew, h.K.drew, h.B.drew⟩
theorem StL_call (h : StL w bs bx ba bb bc bd bi bk s a c i W) (hb : Below W.heap.size W W') : StL w bs bx ba bb bc bd bi bk s a c i W' :=
  ⟨h.S.on hb, h.X.on hb, h.A.on hb, h.B1.on hb, h.C.on hb, h.D.on hb, h.I.on hb, h.K.on hb, bthen' h.B hb h.B.size⟩
end

attribute [local irreducible] Seg.row hc

set_option maxHeartbeats 16000000 in
theorem Steps_walk {s : Seg} (hs : s.ok) {n : Int} (n1 : -9223372036854775808 ≤ n) (n2 : n < 9223372036854775808) {F : List Int} (hF : F.length = 32) (agree : Bool) (w : World) :
    Calls Try.prog 3 #[.agg s.row.toArray, .int .i64 n, .agg (hc F).toArray, .bool agree] w fun e w' => e = .returned (.bool true) ∧ Below w.heap.size w w' := by
  have S := (SegAt.new w 25 s).alloc (.cells (hc F).toArray 23)
  have H := HashAt.new (w.alloc (.cells s.row.toArray 25)) F
  have B : Below w.heap.size w ((w.alloc (.cells s.row.toArray 25)).alloc (.cells (hc F).toArray 23)) := by
    repeat (first | with_reducible exact Below.refl _ _ | with_reducible refine Below.alloc ?_ (by simp; try omega) _)
  simp only [World.size_alloc] at H
  have cs := S.whole hs
  have ⟨hf, ht, hm⟩ : s.f.length = 32 ∧ s.t.length = 32 ∧ s.m.length = 32 := ⟨hs.f, hs.t, hs.m⟩
  have hA := opened_ok n hf ht
  have hC := post_seg_ok hs hF
  have hI := choose_seg_ok hs agree
  have ⟨Af, At, Am⟩ : (Seg.opened n s.f s.t).1.f.length = 32 ∧ (Seg.opened n s.f s.t).1.t.length = 32 ∧ (Seg.opened n s.f s.t).1.m.length = 32 := ⟨hA.f, hA.t, hA.m⟩
  have ⟨Cf, Ct, Cm⟩ : (s.post F).1.f.length = 32 ∧ (s.post F).1.t.length = 32 ∧ (s.post F).1.m.length = 32 := ⟨hC.f, hC.t, hC.m⟩
  have ⟨If, It, Im⟩ : (s.choose agree).1.f.length = 32 ∧ (s.choose agree).1.t.length = 32 ∧ (s.choose agree).1.m.length = 32 := ⟨hI.f, hI.t, hI.m⟩
  have EA := Open_any (n := n) hf ht
  have EA' := refOpen_any (n := n) hf ht
  have EC := Post_any hs hF
  have EC' := refPost_any hs hF
  have EI := Choose_any hs agree
  have EI' := refChoose_any hs agree
  generalize Seg.opened n s.f s.t = pa at *
  generalize s.post F = pc at *
  generalize s.choose agree = pi at *
  go_enter Try.func3, Try.ntmps3
  go_wp2_with fail
  generalize (w.alloc (.cells s.row.toArray 25)).alloc (.cells (hc F).toArray 23) = wa at S H B cs ⊢
  refine (Own_any hs _).mono ?_
  rintro e w1 ⟨rfl, hb⟩
  replace S := (S.on hb).alloc (.cells s.row.toArray 26)
  replace H := (H.on hb).alloc (.cells s.row.toArray 26)
  have X := SegAt.new w1 26 s
  replace B := (bthen' B hb B.size).alloc (by have := B.size; have := hb.size; omega) (.cells s.row.toArray 26)
  clear hb cs
  have fa0 := S.from_ hs
  have fa1 := S.to_ hs
  go_wp2_with fail
  clear fa0 fa1
  refine (EA _).mono ?_
  rintro e w2 ⟨rfl, hb⟩
  replace S := (S.on hb).alloc (.cells pa.1.row.toArray 26)
  replace X := (X.on hb).alloc (.cells pa.1.row.toArray 26)
  replace H := (H.on hb).alloc (.cells pa.1.row.toArray 26)
  have A := SegAt.new w2 26 pa.1
  replace B := (bthen' B hb B.size).alloc (by have := B.size; have := hb.size; omega) (.cells pa.1.row.toArray 26)
  clear hb
  have fa0 := S.from_ hs
  have fa1 := S.to_ hs
  go_wp2_with fail
  clear fa0 fa1
  refine (EA' _).mono ?_
  rintro e w3 ⟨rfl, hb⟩
  replace S := (S.on hb).alloc (.cells pa.1.row.toArray 25)
  replace X := (X.on hb).alloc (.cells pa.1.row.toArray 25)
  replace A := (A.on hb).alloc (.cells pa.1.row.toArray 25)
  replace H := (H.on hb).alloc (.cells pa.1.row.toArray 25)
  have B1 := SegAt.new w3 25 pa.1
  replace B := (bthen' B hb B.size).alloc (by have := B.size; have := hb.size; omega) (.cells pa.1.row.toArray 25)
  clear hb
  have fa0 := X.whole hs
  have fa1 := H.row hF
  go_wp2_with fail
  clear fa0 fa1
  refine (EC _).mono ?_
  rintro e w4 ⟨rfl, hb⟩
  replace S := (S.on hb).alloc (.cells pc.1.row.toArray 26)
  replace X := (X.on hb).alloc (.cells pc.1.row.toArray 26)
  replace A := (A.on hb).alloc (.cells pc.1.row.toArray 26)
  replace B1 := (B1.on hb).alloc (.cells pc.1.row.toArray 26)
  replace H := (H.on hb).alloc (.cells pc.1.row.toArray 26)
  have C := SegAt.new w4 26 pc.1
  replace B := (bthen' B hb B.size).alloc (by have := B.size; have := hb.size; omega) (.cells pc.1.row.toArray 26)
  clear hb
  have fa0 := S.whole hs
  have fa1 := H.row hF
  go_wp2_with fail
  clear fa0 fa1
  refine (EC' _).mono ?_
  rintro e w5 ⟨rfl, hb⟩
  replace S := (S.on hb).alloc (.cells pc.1.row.toArray 25)
  replace X := (X.on hb).alloc (.cells pc.1.row.toArray 25)
  replace A := (A.on hb).alloc (.cells pc.1.row.toArray 25)
  replace B1 := (B1.on hb).alloc (.cells pc.1.row.toArray 25)
  replace C := (C.on hb).alloc (.cells pc.1.row.toArray 25)
  replace H := (H.on hb).alloc (.cells pc.1.row.toArray 25)
  have D := SegAt.new w5 25 pc.1
  replace B := (bthen' B hb B.size).alloc (by have := B.size; have := hb.size; omega) (.cells pc.1.row.toArray 25)
  clear hb
  have fa0 := X.whole hs
  go_wp2_with fail
  clear fa0
  refine (EI _).mono ?_
  rintro e w6 ⟨rfl, hb⟩
  replace S := (S.on hb).alloc (.cells pi.1.row.toArray 26)
  replace X := (X.on hb).alloc (.cells pi.1.row.toArray 26)
  replace A := (A.on hb).alloc (.cells pi.1.row.toArray 26)
  replace B1 := (B1.on hb).alloc (.cells pi.1.row.toArray 26)
  replace C := (C.on hb).alloc (.cells pi.1.row.toArray 26)
  replace D := (D.on hb).alloc (.cells pi.1.row.toArray 26)
  replace H := (H.on hb).alloc (.cells pi.1.row.toArray 26)
  have I := SegAt.new w6 26 pi.1
  replace B := (bthen' B hb B.size).alloc (by have := B.size; have := hb.size; omega) (.cells pi.1.row.toArray 26)
  clear hb
  have fa0 := S.whole hs
  go_wp2_with fail
  clear fa0
  refine (EI' _).mono ?_
  rintro e w7 ⟨rfl, hb⟩
  replace S := (S.on hb).alloc (.cells pi.1.row.toArray 25)
  replace X := (X.on hb).alloc (.cells pi.1.row.toArray 25)
  replace A := (A.on hb).alloc (.cells pi.1.row.toArray 25)
  replace B1 := (B1.on hb).alloc (.cells pi.1.row.toArray 25)
  replace C := (C.on hb).alloc (.cells pi.1.row.toArray 25)
  replace D := (D.on hb).alloc (.cells pi.1.row.toArray 25)
  replace I := (I.on hb).alloc (.cells pi.1.row.toArray 25)
  replace H := (H.on hb).alloc (.cells pi.1.row.toArray 25)
  have K := SegAt.new w7 25 pi.1
  replace B := (bthen' B hb B.size).alloc (by have := B.size; have := hb.size; omega) (.cells pi.1.row.toArray 25)
  clear hb
  have fa0 := A.whole hA
  have fa1 := B1.whole hA
  go_wp2_with fail
  clear fa0 fa1
  have L0 : StL w w.heap.size w1.heap.size w2.heap.size w3.heap.size w4.heap.size w5.heap.size w6.heap.size w7.heap.size s pa.1 pc.1 pi.1 _ := ⟨S, X, A, B1, C, D, I, K, B⟩
  have nr := s.right
  clear S X A B1 C D I K B H EA EA' EC EC' EI EI' nr
  simp only [List.append_eq, List.cons_append, List.nil_append]
  go_region_held3 (StS w w.heap.size w1.heap.size w2.heap.size w3.heap.size w4.heap.size w5.heap.size w6.heap.size w7.heap.size s pa.1 pc.1 pi.1)
    (first | assumption | (refine StS_mk hs hA hC hI (StL_drew ?_); assumption) | (refine StS_mk hs hA hC hI (StL_call (StS_last ?_) hbb); assumption) | (refine StS_mk hs hA hC hI ?_; assumption))
    (first
      | (go_at_call 15; refine (Ref_any (by first | exact hA | exact hC | exact hI) _).mono ?_; rintro e w' ⟨rfl, hbb⟩)
      | (go_at_call 16; refine (num_any _ _).mono ?_; rintro e w' ⟨rfl, rfl⟩)
      | (go_at_call 17; refine (Right_any hs _).mono ?_; rintro e w' ⟨rfl, hbb⟩)
      | (go_at_call 18; refine (refRight_any hs _).mono ?_; rintro e w' ⟨rfl, hbb⟩)
      | (go_at_call 19; refine (Middle_any hs _).mono ?_; rintro e w' ⟨rfl, hbb⟩)
      | (go_at_call 20; refine (refMiddle_any hs _).mono ?_; rintro e w' ⟨rfl, hbb⟩)
      | (go_at_call 21; refine (Last_any hs _).mono ?_; rintro e w' ⟨rfl, hbb⟩)
      | (go_at_call 22; refine (refLast_any hs _).mono ?_; rintro e w' ⟨rfl, hbb⟩)
      | (go_at_call 23; refine (Rounds_any n1 n2 _).mono ?_; rintro e w' ⟨ra, rfl, hra, rfl⟩)
      | (go_at_call 24; refine (refRounds_any n1 n2 _).mono ?_; rintro e w' ⟨rb, rfl, hrb, rfl⟩; obtain rfl := Rn_unique hra hrb)
      | (go_at_call 25; refine (knows_any _).mono ?_; rintro e w' ⟨rfl, hbb⟩))
  all_goals (go_wp2_with fail)
  all_goals go_ret
  all_goals (refine ⟨rfl, ?_⟩; go_split_ands)
  all_goals (have hL := StL.B (by assumption); exact hL)
end Go.Proofs.Ytcogoncekbiacaa
