/-
  Package claim, the document's side: the walks of Honest and Judge.
-/
import Derived.Test.YtcogoncekbiacaaRefWalks
import Derived.Test.YtcogoncekbiacaaJudge
import Derived.Deep.RegionHeld3
namespace Go.Proofs.Ytcogoncekbiacaa
open Go.RowKit

set_option maxHeartbeats 1000000 in
theorem refHonest_any {s : Seg} (hs : s.ok) {p : Option Addr} {n cap : Nat} {T : Nat → List Int} (w : World) (hT : TrP w p n T) : Calls Try.prog 27 #[.slice p n cap, .agg s.row.toArray] w
    fun e w' => e = .returned (.tuple #[.agg (hc (s.honest n T).1).toArray, .bool (s.honest n T).2]) ∧ Below w.heap.size w w' := by
  have S := (SegAt.new w 25 s).alloc (.cells (hc zero32).toArray 23)
  have R := HashAt.new (w.alloc (.cells s.row.toArray 25)) zero32
  have B : Below w.heap.size w ((w.alloc (.cells s.row.toArray 25)).alloc (.cells (hc zero32).toArray 23)) := by
    repeat (first | with_reducible exact Below.refl _ _ | with_reducible refine Below.alloc ?_ (by simp; try omega) _)
  have U := (hT.alloc (.cells s.row.toArray 25)).alloc (.cells (hc zero32).toArray 23)
  simp only [World.size_alloc] at R
  have cw := S.whole hs
  have ⟨hf, ht, hm⟩ : s.f.length = 32 ∧ s.t.length = 32 ∧ s.m.length = 32 := ⟨hs.f, hs.t, hs.m⟩
  have zl := zero32_len
  go_enter Try.func27, Try.ntmps27
  go_wp2_with fail
  generalize (w.alloc (.cells s.row.toArray 25)).alloc (.cells (hc zero32).toArray 23) = wa at S R B U cw ⊢
  refine (refRight_any hs _).mono ?_
  rintro e w1 ⟨rfl, hb⟩
  have S1 := S.on hb
  have R1 := R.on hb
  have U1 := U.on hb
  have B1 := B.trans (hb.mono B.size)
  clear S R U B cw hb
  obtain ⟨-, -, c98, cw, -, -, -⟩ := S1.facts hs
  cases hr : s.right
  · have eh : s.honest n T = (zero32, false) := by simp [Seg.honest, hr]
    have rt := R1.there zl
    have cr := (R1.set zl zl).row zl
    have B9 := below_setCells' (w.heap.size + 1) (by omega) (hc zero32) 0 B1
    go_wp2_with fail
    rw [eh]
    refine bodyPost_ret (v := .tuple #[.agg (hc zero32).toArray, .bool false]) (by simp [results, Try.results27, go_sem, cr, zl]) rfl ⟨rfl, B9⟩
  · have hmid := Seg.middle_lo hr
    cases hp : s.p
    · rw [hp] at c98
      go_wp2_with fail
      refine (refLast_any hs _).mono ?_
      rintro e w2 ⟨rfl, hb⟩
      have S2 := S1.on hb
      have R2 := R1.on hb
      have U2 := U1.on hb
      have B2 := B1.trans (hb.mono B1.size)
      clear S1 R1 U1 B1 hb cw c98
      have cw := S2.whole hs
      cases hl : s.last
      · go_wp2_with fail
        refine (refMiddle_any hs _).mono ?_
        rintro e w3 ⟨rfl, hb⟩
        have S3 := S2.on hb
        have R3 := R2.on hb
        have U3 := U2.on hb
        have B3 := B2.trans (hb.mono B2.size)
        clear S2 R2 U2 B2 hb cw
        by_cases hn : (n : Int) ≤ s.middle
        · have eh : s.honest n T = (zero32, false) := by simp [Seg.honest, hr, hp, hl, hn]
          have rt := R3.there zl
          have cr := (R3.set zl zl).row zl
          have B9 := below_setCells' (w.heap.size + 1) (by omega) (hc zero32) 0 B3
          go_wp2_with fail
          rw [eh]
          refine bodyPost_ret (v := .tuple #[.agg (hc zero32).toArray, .bool false]) (by simp [results, Try.results27, go_sem, cr, zl]) rfl ⟨rfl, B9⟩
        · have cw := S3.whole hs
          have hlt : s.middle < (n : Int) := by omega
          have h0 : 0 ≤ s.middle := hmid.1
          go_wp2_with fail
          refine (refMiddle_any hs _).mono ?_
          rintro e w4 ⟨rfl, hb⟩
          have R4 := R3.on hb
          have U4 := U3.on hb
          have B4 := B3.trans (hb.mono B3.size)
          clear S3 R3 U3 B3 hb cw
          obtain ⟨b, o, rfl, hlb, hlen, hrow⟩ := U4 s.middle.toNat (by omega)
          have hd : decide ((n : Int) ≤ s.middle) = false := by simpa using hlt
          have eh : s.honest n T = (T s.middle.toNat, true) := by unfold Seg.honest; rw [hr, hp, hl, hd]; rfl
          have rt := R4.there zl
          have cr := (R4.set zl hlen).row hlen
          have B9 := below_setCells' (w.heap.size + 1) (by omega) (hc (T s.middle.toNat)) 0 B4
          clear U4 R4
          obtain ⟨k, hk⟩ : ∃ k : Nat, s.middle = k := ⟨s.middle.toNat, by omega⟩
          rw [hk] at hlt h0 hrow cr B9 hlen eh ⊢
          simp only [Int.toNat_natCast] at hrow cr B9 hlen eh ⊢
          have E := Lib.hid eh
          clear eh
          go_wp2_with fail
          rw [E.out]
          refine bodyPost_ret (v := .tuple #[.agg (hc (T k)).toArray, .bool true]) (by simp [results, Try.results27, go_sem, cr, hlen]) rfl ⟨rfl, B9⟩
      · have eh : s.honest n T = (zero32, false) := by simp [Seg.honest, hr, hp, hl]
        have rt := R2.there zl
        have cr := (R2.set zl zl).row zl
        have B9 := below_setCells' (w.heap.size + 1) (by omega) (hc zero32) 0 B2
        go_wp2_with fail
        rw [eh]
        refine bodyPost_ret (v := .tuple #[.agg (hc zero32).toArray, .bool false]) (by simp [results, Try.results27, go_sem, cr, zl]) rfl ⟨rfl, B9⟩
    · rw [hp] at c98
      have eh : s.honest n T = (zero32, false) := by simp [Seg.honest, hr, hp]
      have rt := R1.there zl
      have cr := (R1.set zl zl).row zl
      have B9 := below_setCells' (w.heap.size + 1) (by omega) (hc zero32) 0 B1
      go_wp2_with fail
      rw [eh]
      refine bodyPost_ret (v := .tuple #[.agg (hc zero32).toArray, .bool false]) (by simp [results, Try.results27, go_sem, cr, zl]) rfl ⟨rfl, B9⟩
/-- What stands while Judge compares. -/
abbrev refJS (w : World) (b tb o : Nat) (s : Seg) (X : List Int) (W : World) : Prop :=
  rowOf W b 0 99 = s.row ∧ rowOf W b 66 32 = hc s.m ∧ rowOf W tb o 32 = hc X ∧ (SegAt W b 25 s ∧ tb < W.heap.size) ∧ Below w.heap.size w W
section
variable {w W W' : World} {b tb o : Nat} {s : Seg} {X : List Int}
theorem refJS_mk (hs : s.ok) (hS : SegAt W b 25 s) (ht : tb < W.heap.size) (hX : rowOf W tb o 32 = hc X) (hB : Below w.heap.size w W) : refJS w b tb o s X W := ⟨hS.whole hs, hS.mid hs, hX, ⟨hS, ht⟩, hB⟩
theorem refJS_drew (hs : s.ok) (h : refJS w b tb o s X W) : refJS w b tb o s X W.drew := refJS_mk hs h.2.2.2.1.1.drew h.2.2.2.1.2 h.2.2.1 h.2.2.2.2.drew
theorem refJS_call (hs : s.ok) (h : refJS w b tb o s X W) (hW : Below W.heap.size W W') : refJS w b tb o s X W' :=
  refJS_mk hs (h.2.2.2.1.1.on hW) (by have := hW.size; have := h.2.2.2.1.2; omega) (by rw [rowOf_below hW h.2.2.2.1.2]; exact h.2.2.1) (h.2.2.2.2.trans (hW.mono h.2.2.2.2.size))
end

set_option maxHeartbeats 2000000 in
theorem refJudge_any {s : Seg} (hs : s.ok) {p : Option Addr} {n cap : Nat} {T : Nat → List Int} (w : World) (hT : TrP w p n T) : Calls Try.prog 29 #[.slice p n cap, .agg s.row.toArray] w
    fun e w' => e = .returned (.tuple #[.bool (s.judge n T).1, .bool (s.judge n T).2]) ∧ Below w.heap.size w w' := by
  have S := SegAt.new w 25 s
  have B : Below w.heap.size w (w.alloc (.cells s.row.toArray 25)) := (Below.refl _ _).alloc (Nat.le_refl _) _
  have U := hT.alloc (.cells s.row.toArray 25)
  have cw := S.whole hs
  have ⟨hf, ht, hm⟩ : s.f.length = 32 ∧ s.t.length = 32 ∧ s.m.length = 32 := ⟨hs.f, hs.t, hs.m⟩
  go_enter Try.func29, Try.ntmps29
  go_wp2_with fail
  refine (refRight_any hs _).mono ?_
  rintro e w1 ⟨rfl, hb⟩
  have S1 := S.on hb
  have U1 := U.on hb
  have B1 := B.trans (hb.mono B.size)
  clear S U B cw hb
  obtain ⟨-, -, c98, cw, -, -, -⟩ := S1.facts hs
  cases hr : s.right
  · have eh : s.judge n T = (false, false) := by simp [Seg.judge, hr]
    go_wp2_with fail
    rw [eh]
    refine bodyPost_ret (v := .tuple #[.bool false, .bool false]) (by simp [results, Try.results29, go_sem]) rfl ⟨rfl, B1⟩
  · have hmid := Seg.middle_lo hr
    cases hp : s.p
    · rw [hp] at c98
      have eh : s.judge n T = (false, false) := by simp [Seg.judge, hp]
      go_wp2_with fail
      rw [eh]
      refine bodyPost_ret (v := .tuple #[.bool false, .bool false]) (by simp [results, Try.results29, go_sem]) rfl ⟨rfl, B1⟩
    · rw [hp] at c98
      go_wp2_with fail
      refine (refMiddle_any hs _).mono ?_
      rintro e w2 ⟨rfl, hb⟩
      have S2 := S1.on hb
      have U2 := U1.on hb
      have B2 := B1.trans (hb.mono B1.size)
      clear S1 U1 B1 hb cw c98
      by_cases hn : (n : Int) ≤ s.middle
      · have eh : s.judge n T = (false, false) := by simp [Seg.judge, hn]
        go_wp2_with fail
        rw [eh]
        refine bodyPost_ret (v := .tuple #[.bool false, .bool false]) (by simp [results, Try.results29, go_sem]) rfl ⟨rfl, B2⟩
      · have hlt : s.middle < (n : Int) := by omega
        have h0 : 0 ≤ s.middle := hmid.1
        have hd : decide ((n : Int) ≤ s.middle) = false := by simpa using hlt
        have eh : s.judge n T = (s.m == T s.middle.toNat, true) := by unfold Seg.judge; rw [hr, hp, hd]; rfl
        obtain ⟨b, o, rfl, hlb, hlen, hrow⟩ := U2 s.middle.toNat (by omega)
        obtain ⟨k, hk⟩ : ∃ k : Nat, s.middle = k := ⟨s.middle.toNat, by omega⟩
        go_wp2_with fail
        have hS0 : refJS w w.heap.size b (o + k * 32) s (T k) w2 := refJS_mk hs S2 hlb (by rw [hk] at hrow; exact hrow) B2
        rw [hk] at hlt h0 hlen eh
        simp only [Int.toNat_natCast] at hlen eh
        have E := Lib.hid eh
        clear eh U2 S2 B2 hrow hn hd hmid
        refine wp_region_held_drew (S := refJS w w.heap.size b (o + k * 32) s (T k)) (by kernel_rfl) (refJS_drew hs hS0) (fun hHeld => ?_)
        refine wpAnyH_take (i := 0) (v := ?_) rfl (by kernel_rfl) (by kernel_rfl) (by kernel_rfl) (fun _ _ _ h => h) (Or.inl ⟨by rfl, ?_⟩) hHeld ?_
        rotate_left
        · intro W hW
          obtain ⟨d0, d1, d2, -, -⟩ := hW
          go_simp
          all_goals with_reducible rfl
        refine wpAnyH_take (i := 1) (v := ?_) rfl (by kernel_rfl) (by kernel_rfl) (by kernel_rfl) (fun _ _ _ h => h) (Or.inl ⟨by rfl, ?_⟩) hHeld ?_
        rotate_left
        · intro W hW
          obtain ⟨d0, d1, d2, -, -⟩ := hW
          go_simp
          all_goals with_reducible rfl
        refine wpAnyH_take (i := 5) (v := ?_) rfl (by kernel_rfl) (by kernel_rfl) (by kernel_rfl) (fun _ _ _ h => h) (Or.inl ⟨by rfl, ?_⟩) hHeld ?_
        rotate_left
        · intro W hW
          obtain ⟨d0, d1, d2, -, -⟩ := hW
          go_simp
          all_goals with_reducible rfl
        refine wpAnyH_take (i := 6) (v := ?_) rfl (by kernel_rfl) (by kernel_rfl) (by kernel_rfl) (fun _ _ _ h => h) (Or.inl ⟨by rfl, ?_⟩) hHeld ?_
        rotate_left
        · intro W hW
          obtain ⟨d0, d1, d2, -, -⟩ := hW
          go_simp
          all_goals with_reducible rfl
        refine wpAnyH_ready (rs := [2]) (by kernel_rfl) (by simp) ?_
        refine AllReadyH.cons rfl (fun K hK => ?_) AllReadyH.nil
        simp only [List.getElem_toArray, List.getElem_cons_succ, List.getElem_cons_zero]
        go_wp2_with fail
        refine (refMiddle_any hs _).mono ?_
        rintro e w3 ⟨rfl, hb2⟩
        rw [hk]
        go_wp2_with fail
        refine hK.out _ _ (refJS_call hs hHeld hb2) (fun hHeld2 => ?_)
        clear hK K
        refine wpAnyH_take (i := 3) (v := ?_) rfl (by kernel_rfl) (by kernel_rfl) (by kernel_rfl) (fun _ _ _ h => h) (Or.inl ⟨by rfl, ?_⟩) hHeld2 ?_
        rotate_left
        · intro W hW
          obtain ⟨d0, d1, d2, -, -⟩ := hW
          go_simp
          all_goals with_reducible rfl
        refine wpAnyH_take (i := 4) (v := ?_) rfl (by kernel_rfl) (by kernel_rfl) (by kernel_rfl) (fun _ _ _ h => h) (Or.inl ⟨by rfl, ?_⟩) hHeld2 ?_
        rotate_left
        · intro W hW
          obtain ⟨d0, d1, d2, -, -⟩ := hW
          go_simp
          all_goals with_reducible rfl
        refine wpAnyH_take (i := 7) (v := ?_) rfl (by kernel_rfl) (by kernel_rfl) (by kernel_rfl) (fun _ _ _ h => h) (Or.inl ⟨by rfl, ?_⟩) hHeld2 ?_
        rotate_left
        · intro W hW
          obtain ⟨d0, d1, d2, -, -⟩ := hW
          go_simp
          all_goals with_reducible rfl
        refine wpAnyH_take (i := 8) (v := ?_) rfl (by kernel_rfl) (by kernel_rfl) (by kernel_rfl) (fun _ _ _ h => h) (Or.inl ⟨by rfl, ?_⟩) hHeld2 ?_
        rotate_left
        · intro W hW
          obtain ⟨d0, d1, d2, -, -⟩ := hW
          go_simp
          all_goals with_reducible rfl
        refine wpAnyH_take (i := 9) (v := ?_) rfl (by kernel_rfl) (by kernel_rfl) (by kernel_rfl) (fun _ _ _ h => h) (Or.inl ⟨by rfl, ?_⟩) hHeld2 ?_
        rotate_left
        · intro W hW
          obtain ⟨d0, d1, d2, -, -⟩ := hW
          go_simp
          all_goals with_reducible rfl
        refine wpAnyH_done (by kernel_rfl) ?_ _
        obtain ⟨-, -, -, -, B3⟩ := hHeld2
        go_wp2_with fail
        rw [E.out, BEq.comm]
        refine bodyPost_ret (v := .tuple #[.bool (T k == s.m), .bool true]) (by simp [results, Try.results29, go_sem]) rfl ⟨rfl, B3⟩
end Go.Proofs.Ytcogoncekbiacaa
