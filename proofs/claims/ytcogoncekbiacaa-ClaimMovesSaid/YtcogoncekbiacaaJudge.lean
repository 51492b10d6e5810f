/-
  The walk of package claim: Judge.
-/
import Derived.Test.YtcogoncekbiacaaTrace
import Derived.Deep.RegionHeld3
namespace Go.Proofs.Ytcogoncekbiacaa
open Go.RowKit

def Seg.judge (s : Seg) (n : Nat) (T : Nat → List Int) : Bool × Bool :=
  bif !s.right || !s.p || decide ((n : Int) ≤ s.middle) then (false, false) else (s.m == T s.middle.toNat, true)

/-- What stands while Judge compares. -/
abbrev JS (w : World) (b tb o : Nat) (s : Seg) (X : List Int) (W : World) : Prop :=
  rowOf W b 0 99 = s.row ∧ rowOf W b 66 32 = hc s.m ∧ rowOf W tb o 32 = hc X ∧ (SegAt W b 26 s ∧ tb < W.heap.size) ∧ Below w.heap.size w W
section
variable {w W W' : World} {b tb o : Nat} {s : Seg} {X : List Int}
theorem JS_mk (hs : s.ok) (hS : SegAt W b 26 s) (ht : tb < W.heap.size) (hX : rowOf W tb o 32 = hc X) (hB : Below w.heap.size w W) : JS w b tb o s X W := ⟨hS.whole hs, hS.mid hs, hX, ⟨hS, ht⟩, hB⟩
theorem JS_drew (hs : s.ok) (h : JS w b tb o s X W) : JS w b tb o s X W.drew := JS_mk hs h.2.2.2.1.1.drew h.2.2.2.1.2 h.2.2.1 h.2.2.2.2.drew
theorem JS_call (hs : s.ok) (h : JS w b tb o s X W) (hW : Below W.heap.size W W') : JS w b tb o s X W' :=
  JS_mk hs (h.2.2.2.1.1.on hW) (by have := hW.size; have := h.2.2.2.1.2; omega) (by rw [rowOf_below hW h.2.2.2.1.2]; exact h.2.2.1) (h.2.2.2.2.trans (hW.mono h.2.2.2.2.size))
end

set_option maxHeartbeats 2000000 in
theorem Judge_any {s : Seg} (hs : s.ok) {p : Option Addr} {n cap : Nat} {T : Nat → List Int} (w : World) (hT : TrP w p n T) : Calls Try.prog 28 #[.slice p n cap, .agg s.row.toArray] w
    fun e w' => e = .returned (.tuple #[.bool (s.judge n T).1, .bool (s.judge n T).2]) ∧ Below w.heap.size w w' := by
  have S := SegAt.new w 26 s
  have B : Below w.heap.size w (w.alloc (.cells s.row.toArray 26)) := (Below.refl _ _).alloc (Nat.le_refl _) _
  have U := hT.alloc (.cells s.row.toArray 26)
  have cw := S.whole hs
  have ⟨hf, ht, hm⟩ : s.f.length = 32 ∧ s.t.length = 32 ∧ s.m.length = 32 := ⟨hs.f, hs.t, hs.m⟩
  go_enter Try.func28, Try.ntmps28
  go_wp2_with fail
  refine (Right_any hs _).mono ?_
  rintro e w1 ⟨rfl, hb⟩
  have S1 := S.on hb
  have U1 := U.on hb
  have B1 := B.trans (hb.mono B.size)
  clear S U B cw hb
  obtain ⟨-, -, c98, cw, -, -, -⟩ := S1.facts hs
  cases hr : s.right
  · have eh : s.judge n T = (false, false) := by simp [Seg.judge, hr]
    go_wp2_with fail
    rw [eh]
    refine bodyPost_ret (v := .tuple #[.bool false, .bool false]) (by simp [results, Try.results28, go_sem]) rfl ⟨rfl, B1⟩
  · have hmid := Seg.middle_lo hr
    cases hp : s.p
    · rw [hp] at c98
      have eh : s.judge n T = (false, false) := by simp [Seg.judge, hp]
      go_wp2_with fail
      rw [eh]
      refine bodyPost_ret (v := .tuple #[.bool false, .bool false]) (by simp [results, Try.results28, go_sem]) rfl ⟨rfl, B1⟩
    · rw [hp] at c98
      go_wp2_with fail
      refine (Middle_any hs _).mono ?_
      rintro e w2 ⟨rfl, hb⟩
      have S2 := S1.on hb
      have U2 := U1.on hb
      have B2 := B1.trans (hb.mono B1.size)
      clear S1 U1 B1 hb cw c98
      by_cases hn : (n : Int) ≤ s.middle
      · have eh : s.judge n T = (false, false) := by simp [Seg.judge, hn]
        go_wp2_with fail
        rw [eh]
        refine bodyPost_ret (v := .tuple #[.bool false, .bool false]) (by simp [results, Try.results28, go_sem]) rfl ⟨rfl, B2⟩
      · have hlt : s.middle < (n : Int) := by omega
        have h0 : 0 ≤ s.middle := hmid.1
        have hd : decide ((n : Int) ≤ s.middle) = false := by simpa using hlt
        have eh : s.judge n T = (s.m == T s.middle.toNat, true) := by unfold Seg.judge; rw [hr, hp, hd]; rfl
        obtain ⟨b, o, rfl, hlb, hlen, hrow⟩ := U2 s.middle.toNat (by omega)
        obtain ⟨k, hk⟩ : ∃ k : Nat, s.middle = k := ⟨s.middle.toNat, by omega⟩
        go_wp2_with fail
        have hS0 : JS w w.heap.size b (o + k * 32) s (T k) w2 := JS_mk hs S2 hlb (by rw [hk] at hrow; exact hrow) B2
        rw [hk] at hlt h0 hlen eh
        simp only [Int.toNat_natCast] at hlen eh
        have E := Lib.hid eh
        clear eh U2 S2 B2 hrow hn hd hmid
        refine wp_region_held_drew (S := JS w w.heap.size b (o + k * 32) s (T k)) (by kernel_rfl) (JS_drew hs hS0) (fun hHeld => ?_)
        refine wpAnyH_take (i := 0) (v := ?_) rfl (by kernel_rfl) (by kernel_rfl) (by kernel_rfl) (fun _ _ _ h => h) (Or.inl ⟨by rfl, ?_⟩) hHeld ?_
        rotate_left
        · intro W hW
          obtain ⟨d0, d1, d2, -, -⟩ := hW
          go_simp
          all_goals with_reducible rfl
        refine wpAnyH_take (i := 1) (v := ?_) rfl (by kernel_rfl) (by kernel_rfl) (by kernel_rfl) (fun _ _ _ h => h) (Or.inl ⟨by rfl, ?_⟩) hHeld ?_
        rotate_left
        · intro W hW
          obtain ⟨d0, d1, d2, -, -⟩ := hW
          go_simp
          all_goals with_reducible rfl
        refine wpAnyH_take (i := 2) (v := ?_) rfl (by kernel_rfl) (by kernel_rfl) (by kernel_rfl) (fun _ _ _ h => h) (Or.inl ⟨by rfl, ?_⟩) hHeld ?_
        rotate_left
        · intro W hW
          obtain ⟨d0, d1, d2, -, -⟩ := hW
          go_simp
          all_goals with_reducible rfl
        refine wpAnyH_take (i := 3) (v := ?_) rfl (by kernel_rfl) (by kernel_rfl) (by kernel_rfl) (fun _ _ _ h => h) (Or.inl ⟨by rfl, ?_⟩) hHeld ?_
        rotate_left
        · intro W hW
          obtain ⟨d0, d1, d2, -, -⟩ := hW
          go_simp
          all_goals with_reducible rfl
        refine wpAnyH_ready (rs := [4]) (by kernel_rfl) (by simp) ?_
        refine AllReadyH.cons rfl (fun K hK => ?_) AllReadyH.nil
        simp only [List.getElem_toArray, List.getElem_cons_succ, List.getElem_cons_zero]
        go_wp2_with fail
        refine (Middle_any hs _).mono ?_
        rintro e w3 ⟨rfl, hb2⟩
        rw [hk]
        go_wp2_with fail
        refine hK.out _ _ (JS_call hs hHeld hb2) (fun hHeld2 => ?_)
        clear hK K
        refine wpAnyH_take (i := 5) (v := ?_) rfl (by kernel_rfl) (by kernel_rfl) (by kernel_rfl) (fun _ _ _ h => h) (Or.inl ⟨by rfl, ?_⟩) hHeld2 ?_
        rotate_left
        · intro W hW
          obtain ⟨d0, d1, d2, -, -⟩ := hW
          go_simp
          all_goals with_reducible rfl
        refine wpAnyH_take (i := 6) (v := ?_) rfl (by kernel_rfl) (by kernel_rfl) (by kernel_rfl) (fun _ _ _ h => h) (Or.inl ⟨by rfl, ?_⟩) hHeld2 ?_
        rotate_left
        · intro W hW
          obtain ⟨d0, d1, d2, -, -⟩ := hW
          go_simp
          all_goals with_reducible rfl
        refine wpAnyH_take (i := 7) (v := ?_) rfl (by kernel_rfl) (by kernel_rfl) (by kernel_rfl) (fun _ _ _ h => h) (Or.inl ⟨by rfl, ?_⟩) hHeld2 ?_
        rotate_left
        · intro W hW
          obtain ⟨d0, d1, d2, -, -⟩ := hW
          go_simp
          all_goals with_reducible rfl
        refine wpAnyH_take (i := 8) (v := ?_) rfl (by kernel_rfl) (by kernel_rfl) (by kernel_rfl) (fun _ _ _ h => h) (Or.inl ⟨by rfl, ?_⟩) hHeld2 ?_
        rotate_left
        · intro W hW
          obtain ⟨d0, d1, d2, -, -⟩ := hW
          go_simp
          all_goals with_reducible rfl
        refine wpAnyH_take (i := 9) (v := ?_) rfl (by kernel_rfl) (by kernel_rfl) (by kernel_rfl) (fun _ _ _ h => h) (Or.inl ⟨by rfl, ?_⟩) hHeld2 ?_
        rotate_left
        · intro W hW
          obtain ⟨d0, d1, d2, -, -⟩ := hW
          go_simp
          all_goals with_reducible rfl
        refine wpAnyH_done (by kernel_rfl) ?_ _
        obtain ⟨-, -, -, -, B3⟩ := hHeld2
        go_wp2_with fail
        rw [E.out]
        refine bodyPost_ret (v := .tuple #[.bool (s.m == T k), .bool true]) (by simp [results, Try.results28, go_sem]) rfl ⟨rfl, B3⟩
end Go.Proofs.Ytcogoncekbiacaa
