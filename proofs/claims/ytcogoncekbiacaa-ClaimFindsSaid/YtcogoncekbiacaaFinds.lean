/-
  ClaimFinds returns true for every trace, end and posts, and leaves its arguments: who judges honestly a claim with a true beginning and a false end comes, whatever is posted, within its rounds to one step with a true beginning and a false end.
-/
import Derived.Test.YtcogoncekbiacaaOpenTrace
namespace Go.Proofs.Ytcogoncekbiacaa
open Go.RowKit

/-- What stands all along: both slices, and what was there before. -/
structure Kf (w : World) (p : Option Addr) (n : Nat) (T : Nat → List Int) (q : Option Addr) (m : Nat) (C : Nat → List Int) (W : World) : Prop where
  T : TrP W p n T
  C : TrP W q m C
  B : Below w.heap.size w W
section
variable {w W W' : World} {p q : Option Addr} {n m : Nat} {T C : Nat → List Int}
theorem Kf.on (h : Kf w p n T q m C W) (hb : Below W.heap.size W W') : Kf w p n T q m C W' := ⟨h.T.on hb, h.C.on hb, cthen h.B hb h.B.size⟩
theorem Kf.drew (h : Kf w p n T q m C W) : Kf w p n T q m C W.drew := ⟨h.T, h.C, h.B.drew⟩
theorem Kf.alloc (h : Kf w p n T q m C W) (o : Obj) : Kf w p n T q m C (W.alloc o) := h.on ((Below.refl _ _).alloc (Nat.le_refl _) o)
end

theorem find_facts {s : Seg} {F : List Int} {T : Nat → List Int} (hs : s.ok) (hr : s.right = true) (hl : s.last = false) (ef : s.f = T s.lo.toNat) (et : s.t ≠ T s.hi.toNat) (hF : F.length = 32) :
    ∃ q : Seg, Seg.choose { s with m := F, p := true } (F == T s.middle.toNat) = (q, 0) ∧ q.ok ∧ q.right = true ∧ q.p = false ∧ q.f = T q.lo.toNat ∧ q.t ≠ T q.hi.toNat ∧ 0 ≤ q.lo ∧ q.lo < q.hi ∧ q.hi ≤ s.hi ∧ 2 * (q.hi - q.lo - 1) ≤ s.hi - s.lo - 1 := by
  have ⟨l1, l2, l3⟩ := Seg.right_lo hr
  have l4 : ¬ s.hi - s.lo = 1 := by simpa [Seg.last, hr] using hl
  have hr' : Seg.right { s with m := F, p := true } = true := by simp [Seg.right]; omega
  have hm : Seg.middle { s with m := F, p := true } = s.middle := by
    unfold Seg.middle at hr' ⊢
    rw [hr', hr]
  have e : s.middle = (s.lo + s.hi) / 2 := by simp [Seg.middle, hr]
  have b1 : s.lo < s.middle := by omega
  have b2 : s.middle < s.hi := by omega
  cases hx : (F == T s.middle.toNat)
  · refine ⟨⟨s.lo, s.middle, s.f, F, zero32, false⟩, by simp [Seg.choose, hr', hm], ⟨hs.lo1, hs.lo2, by show _ ≤ s.middle; omega, by show s.middle < _; omega, hs.f, hF, zero32_len⟩, by simp [Seg.right]; omega, rfl, ef, by simpa using hx, l1, b1, by show s.middle ≤ s.hi; omega, ?_⟩
    show 2 * (s.middle - s.lo - 1) ≤ s.hi - s.lo - 1; omega
  · refine ⟨⟨s.middle, s.hi, F, s.t, zero32, false⟩, by simp [Seg.choose, hr', hm], ⟨by show _ ≤ s.middle; omega, by show s.middle < _; omega, hs.hi1, hs.hi2, hF, hs.t, zero32_len⟩, by simp [Seg.right]; omega, rfl, by simpa using hx, et, by show 0 ≤ s.middle; omega, b2, by show s.hi ≤ s.hi; omega, ?_⟩
    show 2 * (s.hi - s.middle - 1) ≤ s.hi - s.lo - 1; omega

theorem judge_ok {s : Seg} {n : Nat} {T : Nat → List Int} (hr : s.right = true) (hp : s.p = true) (hn : s.middle < n) : s.judge n T = (s.m == T s.middle.toNat, true) := by
  have hd : decide ((n : Int) ≤ s.middle) = false := by simpa using hn
  unfold Seg.judge; rw [hr, hp, hd]; rfl

theorem judgeP {s : Seg} {X : List Int} {n : Nat} {T : Nat → List Int} (hr : s.right = true) (hl : s.last = false) (hn : s.middle < n) : Seg.judge { s with m := X, p := true } n T = (X == T s.middle.toNat, true) := by
  have ⟨l1, l2, l3⟩ := Seg.right_lo hr
  have l4 : ¬ s.hi - s.lo = 1 := by simpa [Seg.last, hr] using hl
  have hr' : Seg.right { s with m := X, p := true } = true := by simp [Seg.right]; omega
  have hm : Seg.middle { s with m := X, p := true } = s.middle := by
    unfold Seg.middle at hr' ⊢
    rw [hr', hr]
  have := judge_ok (s := { s with m := X, p := true }) (T := T) (n := n) hr' rfl (by rw [hm]; exact hn)
  rw [hm] at this
  exact this

/-- Between rounds: the segment in block b, i rounds old. -/
structure LF (w : World) (p : Option Addr) (n : Nat) (T : Nat → List Int) (q : Option Addr) (m : Nat) (C : Nat → List Int) (b i : Nat) (s : Seg) (W : World) : Prop where
  K : Kf w p (n + 1) T q m C W
  bb : w.heap.size ≤ b
  S : SegAt W b 26 s
  ok : s.ok
  rr : s.right = true
  pp : s.p = false
  ff : s.f = T s.lo.toNat
  tt : s.t ≠ T s.hi.toNat
  hh : s.hi ≤ n
  ii : i ≤ 12
  dd : (s.hi - s.lo - 1) * 2 ^ i ≤ n - 1
  gg : i = 0 ∨ (2 : Int) ^ (i - 1) < n

abbrev S2 (hb tb o n : Nat) (F : List Int) (T : Nat → List Int) (W : World) : Prop := rowOf W hb 0 32 = hc F ∧ rowOf W tb (o + n * 32) 32 = hc (T n)

abbrev S4f (w : World) (p : Option Addr) (n : Nat) (T : Nat → List Int) (q : Option Addr) (m : Nat) (C : Nat → List Int) (tb o hb : Nat) (F : List Int) (W : World) : Prop :=
  rowOf W tb o 32 = hc (T 0) ∧ rowOf W hb 0 32 = hc F ∧ (tb < W.heap.size ∧ hb < W.heap.size) ∧ Kf w p (n + 1) T q m C W
section
variable {w W W' : World} {p q : Option Addr} {n m tb o hb : Nat} {T C : Nat → List Int} {F : List Int}
theorem S4f_on (h : S4f w p n T q m C tb o hb F W) (hW : Below W.heap.size W W') : S4f w p n T q m C tb o hb F W' := by
  obtain ⟨a, b, ⟨c, d⟩, e⟩ := h
  exact ⟨by rw [rowOf_below hW c]; exact a, by rw [rowOf_below hW d]; exact b, ⟨by have := hW.size; omega, by have := hW.size; omega⟩, e.on hW⟩
theorem S4f_drew (h : S4f w p n T q m C tb o hb F W) : S4f w p n T q m C tb o hb F W.drew := ⟨h.1, h.2.1, h.2.2.1, h.2.2.2.drew⟩
end

/-- What stands while the end is looked at. -/
abbrev S21 (w : World) (p : Option Addr) (n : Nat) (T : Nat → List Int) (q : Option Addr) (m : Nat) (C : Nat → List Int) (tb o sb ql qh : Nat) (s : Seg) (W : World) : Prop :=
  W.cell? ⟨sb, 0, none⟩ = some (.int .i64 ql) ∧ W.cell? ⟨sb, 1, none⟩ = some (.int .i64 qh) ∧ rowOf W sb 0 99 = s.row ∧ rowOf W sb 2 32 = hc (T ql) ∧ rowOf W sb 34 32 = hc s.t ∧ rowOf W tb (o + ql * 32) 32 = hc (T ql) ∧ rowOf W tb (o + qh * 32) 32 = hc (T qh) ∧
    (SegAt W sb 26 s ∧ tb < W.heap.size) ∧ Kf w p (n + 1) T q m C W
section
variable {w W W' : World} {p q : Option Addr} {n m tb o sb ql qh : Nat} {T C : Nat → List Int} {s : Seg}
theorem S21_on (h : S21 w p n T q m C tb o sb ql qh s W) (hW : Below W.heap.size W W') : S21 w p n T q m C tb o sb ql qh s W' := by
  obtain ⟨a, b, c, d, e, f, g, ⟨x, y⟩, k⟩ := h
  have z := x.lt
  exact ⟨by rw [hW.cell z]; exact a, by rw [hW.cell z]; exact b, by rw [rowOf_below hW z]; exact c, by rw [rowOf_below hW z]; exact d, by rw [rowOf_below hW z]; exact e, by rw [rowOf_below hW y]; exact f, by rw [rowOf_below hW y]; exact g, ⟨x.on hW, by have := hW.size; omega⟩, k.on hW⟩
theorem S21_drew (h : S21 w p n T q m C tb o sb ql qh s W) : S21 w p n T q m C tb o sb ql qh s W.drew := by
  obtain ⟨a, b, c, d, e, f, g, ⟨x, y⟩, k⟩ := h
  exact ⟨a, b, c, d, e, f, g, ⟨x.drew, y⟩, k.drew⟩
end

set_option maxRecDepth 100000 in
set_option maxHeartbeats 16000000 in
theorem Finds_walk {p q : Option Addr} {n1 cap m capc : Nat} {T C : Nat → List Int} {F : List Int} (hF : F.length = 32) (hcap : n1 ≤ maxLen) (hm : m ≤ maxLen) (w : World) (hT : TrP w p n1 T) (hC : TrP w q m C) :
    Calls Try.prog 5 #[.slice p n1 cap, .agg (hc F).toArray, .slice q m capc] w fun e w' => e = .returned (.bool true) ∧ Below w.heap.size w w' := by
  have Hc := hcap
  have Hm := hm
  unfold maxLen at Hc Hm
  have B0 : Below w.heap.size w (w.alloc (.cells (hc F).toArray 23)) := (Below.refl _ _).alloc (Nat.le_refl _) _
  have H0 := HashAt.new w F
  by_cases hn : (n1 : Int) - 1 < 1 ∨ 4096 < (n1 : Int) - 1
  · rcases Int.lt_or_le ((n1 : Int) - 1) 1 with h1 | h1
    · have e1 : ((n1 : Int) - 1 < 1) = True := by simpa using h1
      go_enter Try.func5, Try.ntmps5
      go_upto_region 2 with fail
      refine wp_region_held_drew (S := (fun _ => True)) (by kernel_rfl) (trivial) (fun h0 => ?_)
      refine wpAnyH_take (i := 0) (v := ?_) (by rw [List.getElem?_toArray]; rfl) (by kernel_rfl) (by kernel_rfl) (by kernel_rfl) (by exact fun _ _ _ h => h) (Or.inl ⟨by rfl, ?_⟩) h0 ?_
      rotate_left
      · intro W _
        go_simp
        all_goals with_reducible rfl
      simp only [Act.put, List.setIfInBounds_toArray, List.set_cons_zero, List.set_cons_succ]
      refine wpAnyH_take (i := 1) (v := ?_) (by rw [List.getElem?_toArray]; rfl) (by kernel_rfl) (by kernel_rfl) (by kernel_rfl) (by exact fun _ _ _ h => h) (Or.inl ⟨by rfl, ?_⟩) h0 ?_
      rotate_left
      · intro W _
        go_simp
        all_goals with_reducible rfl
      simp only [Act.put, List.setIfInBounds_toArray, List.set_cons_zero, List.set_cons_succ]
      refine wpAnyH_take (i := 2) (v := ?_) (by rw [List.getElem?_toArray]; rfl) (by kernel_rfl) (by kernel_rfl) (by kernel_rfl) (by exact fun _ _ _ h => h) (Or.inl ⟨by rfl, ?_⟩) h0 ?_
      rotate_left
      · intro W _
        go_simp
        all_goals with_reducible rfl
      simp only [Act.put, List.setIfInBounds_toArray, List.set_cons_zero, List.set_cons_succ]
      refine wpAnyH_take (i := 3) (v := undef) (by rw [List.getElem?_toArray]; rfl) (by kernel_rfl) (by kernel_rfl) (by kernel_rfl) (by exact fun _ _ _ h => h) (Or.inr ⟨by rfl, rfl⟩) h0 ?_
      simp only [Act.put, List.setIfInBounds_toArray, List.set_cons_zero, List.set_cons_succ]
      refine wpAnyH_take (i := 4) (v := undef) (by rw [List.getElem?_toArray]; rfl) (by kernel_rfl) (by kernel_rfl) (by kernel_rfl) (by exact fun _ _ _ h => h) (Or.inr ⟨by rfl, rfl⟩) h0 ?_
      simp only [Act.put, List.setIfInBounds_toArray, List.set_cons_zero, List.set_cons_succ]
      refine wpAnyH_take (i := 5) (v := ?_) (by rw [List.getElem?_toArray]; rfl) (by kernel_rfl) (by kernel_rfl) (by kernel_rfl) (by exact fun _ _ _ h => h) (Or.inl ⟨by rfl, ?_⟩) h0 ?_
      rotate_left
      · intro W _
        go_simp
        all_goals with_reducible rfl
      simp only [Act.put, List.setIfInBounds_toArray, List.set_cons_zero, List.set_cons_succ]
      refine wpAnyH_take (i := 6) (v := ?_) (by rw [List.getElem?_toArray]; rfl) (by kernel_rfl) (by kernel_rfl) (by kernel_rfl) (by exact fun _ _ _ h => h) (Or.inl ⟨by rfl, ?_⟩) h0 ?_
      rotate_left
      · intro W _
        go_simp
        all_goals with_reducible rfl
      simp only [Act.put, List.setIfInBounds_toArray, List.set_cons_zero, List.set_cons_succ]
      refine wpAnyH_take (i := 7) (v := undef) (by rw [List.getElem?_toArray]; rfl) (by kernel_rfl) (by kernel_rfl) (by kernel_rfl) (by exact fun _ _ _ h => h) (Or.inr ⟨by rfl, rfl⟩) h0 ?_
      simp only [Act.put, List.setIfInBounds_toArray, List.set_cons_zero, List.set_cons_succ]
      refine wpAnyH_take (i := 8) (v := undef) (by rw [List.getElem?_toArray]; rfl) (by kernel_rfl) (by kernel_rfl) (by kernel_rfl) (by exact fun _ _ _ h => h) (Or.inr ⟨by rfl, rfl⟩) h0 ?_
      simp only [Act.put, List.setIfInBounds_toArray, List.set_cons_zero, List.set_cons_succ]
      refine wpAnyH_take (i := 9) (v := undef) (by rw [List.getElem?_toArray]; rfl) (by kernel_rfl) (by kernel_rfl) (by kernel_rfl) (by exact fun _ _ _ h => h) (Or.inr ⟨by rfl, rfl⟩) h0 ?_
      simp only [Act.put, List.setIfInBounds_toArray, List.set_cons_zero, List.set_cons_succ]
      refine wpAnyH_take (i := 10) (v := undef) (by rw [List.getElem?_toArray]; rfl) (by kernel_rfl) (by kernel_rfl) (by kernel_rfl) (by exact fun _ _ _ h => h) (Or.inr ⟨by rfl, rfl⟩) h0 ?_
      simp only [Act.put, List.setIfInBounds_toArray, List.set_cons_zero, List.set_cons_succ]
      refine wpAnyH_take (i := 11) (v := undef) (by rw [List.getElem?_toArray]; rfl) (by kernel_rfl) (by kernel_rfl) (by kernel_rfl) (by exact fun _ _ _ h => h) (Or.inr ⟨by rfl, rfl⟩) h0 ?_
      simp only [Act.put, List.setIfInBounds_toArray, List.set_cons_zero, List.set_cons_succ]
      refine wpAnyH_take (i := 12) (v := undef) (by rw [List.getElem?_toArray]; rfl) (by kernel_rfl) (by kernel_rfl) (by kernel_rfl) (by exact fun _ _ _ h => h) (Or.inr ⟨by rfl, rfl⟩) h0 ?_
      simp only [Act.put, List.setIfInBounds_toArray, List.set_cons_zero, List.set_cons_succ]
      refine wpAnyH_take (i := 13) (v := ?_) (by rw [List.getElem?_toArray]; rfl) (by kernel_rfl) (by kernel_rfl) (by kernel_rfl) (by exact fun _ _ _ h => h) (Or.inl ⟨by rfl, ?_⟩) h0 ?_
      rotate_left
      · intro W _
        go_simp
        all_goals with_reducible rfl
      simp only [Act.put, List.setIfInBounds_toArray, List.set_cons_zero, List.set_cons_succ]
      refine wpAnyH_done (by kernel_rfl) ?_ _
      clear h0
      go_wp2_with fail
      refine (knows_any _).mono ?_
      rintro e w1 ⟨rfl, hb⟩
      have B1 := cthen B0.drew hb B0.size
      go_wp2_with fail
      go_ret
      exact ⟨rfl, B1⟩
    · have h2 : 4096 < (n1 : Int) - 1 := by omega
      have e1 : ((n1 : Int) - 1 < 1) = False := by simp; omega
      have e2 : (4096 < (n1 : Int) - 1) = True := by simpa using h2
      go_enter Try.func5, Try.ntmps5
      go_upto_region 2 with fail
      refine wp_region_held_drew (S := (fun _ => True)) (by kernel_rfl) (trivial) (fun h0 => ?_)
      refine wpAnyH_take (i := 0) (v := ?_) (by rw [List.getElem?_toArray]; rfl) (by kernel_rfl) (by kernel_rfl) (by kernel_rfl) (by exact fun _ _ _ h => h) (Or.inl ⟨by rfl, ?_⟩) h0 ?_
      rotate_left
      · intro W _
        go_simp
        all_goals with_reducible rfl
      simp only [Act.put, List.setIfInBounds_toArray, List.set_cons_zero, List.set_cons_succ]
      refine wpAnyH_take (i := 1) (v := ?_) (by rw [List.getElem?_toArray]; rfl) (by kernel_rfl) (by kernel_rfl) (by kernel_rfl) (by exact fun _ _ _ h => h) (Or.inl ⟨by rfl, ?_⟩) h0 ?_
      rotate_left
      · intro W _
        go_simp
        all_goals with_reducible rfl
      simp only [Act.put, List.setIfInBounds_toArray, List.set_cons_zero, List.set_cons_succ]
      refine wpAnyH_take (i := 2) (v := ?_) (by rw [List.getElem?_toArray]; rfl) (by kernel_rfl) (by kernel_rfl) (by kernel_rfl) (by exact fun _ _ _ h => h) (Or.inl ⟨by rfl, ?_⟩) h0 ?_
      rotate_left
      · intro W _
        go_simp
        all_goals with_reducible rfl
      simp only [Act.put, List.setIfInBounds_toArray, List.set_cons_zero, List.set_cons_succ]
      refine wpAnyH_take (i := 3) (v := ?_) (by rw [List.getElem?_toArray]; rfl) (by kernel_rfl) (by kernel_rfl) (by kernel_rfl) (by exact fun _ _ _ h => h) (Or.inl ⟨by rfl, ?_⟩) h0 ?_
      rotate_left
      · intro W _
        go_simp
        all_goals with_reducible rfl
      simp only [Act.put, List.setIfInBounds_toArray, List.set_cons_zero, List.set_cons_succ]
      refine wpAnyH_take (i := 4) (v := ?_) (by rw [List.getElem?_toArray]; rfl) (by kernel_rfl) (by kernel_rfl) (by kernel_rfl) (by exact fun _ _ _ h => h) (Or.inl ⟨by rfl, ?_⟩) h0 ?_
      rotate_left
      · intro W _
        go_simp
        all_goals with_reducible rfl
      simp only [Act.put, List.setIfInBounds_toArray, List.set_cons_zero, List.set_cons_succ]
      refine wpAnyH_take (i := 5) (v := ?_) (by rw [List.getElem?_toArray]; rfl) (by kernel_rfl) (by kernel_rfl) (by kernel_rfl) (by exact fun _ _ _ h => h) (Or.inl ⟨by rfl, ?_⟩) h0 ?_
      rotate_left
      · intro W _
        go_simp
        all_goals with_reducible rfl
      simp only [Act.put, List.setIfInBounds_toArray, List.set_cons_zero, List.set_cons_succ]
      refine wpAnyH_take (i := 6) (v := ?_) (by rw [List.getElem?_toArray]; rfl) (by kernel_rfl) (by kernel_rfl) (by kernel_rfl) (by exact fun _ _ _ h => h) (Or.inl ⟨by rfl, ?_⟩) h0 ?_
      rotate_left
      · intro W _
        go_simp
        all_goals with_reducible rfl
      simp only [Act.put, List.setIfInBounds_toArray, List.set_cons_zero, List.set_cons_succ]
      refine wpAnyH_take (i := 7) (v := undef) (by rw [List.getElem?_toArray]; rfl) (by kernel_rfl) (by kernel_rfl) (by kernel_rfl) (by exact fun _ _ _ h => h) (Or.inr ⟨by rfl, rfl⟩) h0 ?_
      simp only [Act.put, List.setIfInBounds_toArray, List.set_cons_zero, List.set_cons_succ]
      refine wpAnyH_take (i := 8) (v := undef) (by rw [List.getElem?_toArray]; rfl) (by kernel_rfl) (by kernel_rfl) (by kernel_rfl) (by exact fun _ _ _ h => h) (Or.inr ⟨by rfl, rfl⟩) h0 ?_
      simp only [Act.put, List.setIfInBounds_toArray, List.set_cons_zero, List.set_cons_succ]
      refine wpAnyH_take (i := 9) (v := undef) (by rw [List.getElem?_toArray]; rfl) (by kernel_rfl) (by kernel_rfl) (by kernel_rfl) (by exact fun _ _ _ h => h) (Or.inr ⟨by rfl, rfl⟩) h0 ?_
      simp only [Act.put, List.setIfInBounds_toArray, List.set_cons_zero, List.set_cons_succ]
      refine wpAnyH_take (i := 10) (v := undef) (by rw [List.getElem?_toArray]; rfl) (by kernel_rfl) (by kernel_rfl) (by kernel_rfl) (by exact fun _ _ _ h => h) (Or.inr ⟨by rfl, rfl⟩) h0 ?_
      simp only [Act.put, List.setIfInBounds_toArray, List.set_cons_zero, List.set_cons_succ]
      refine wpAnyH_take (i := 11) (v := undef) (by rw [List.getElem?_toArray]; rfl) (by kernel_rfl) (by kernel_rfl) (by kernel_rfl) (by exact fun _ _ _ h => h) (Or.inr ⟨by rfl, rfl⟩) h0 ?_
      simp only [Act.put, List.setIfInBounds_toArray, List.set_cons_zero, List.set_cons_succ]
      refine wpAnyH_take (i := 12) (v := undef) (by rw [List.getElem?_toArray]; rfl) (by kernel_rfl) (by kernel_rfl) (by kernel_rfl) (by exact fun _ _ _ h => h) (Or.inr ⟨by rfl, rfl⟩) h0 ?_
      simp only [Act.put, List.setIfInBounds_toArray, List.set_cons_zero, List.set_cons_succ]
      refine wpAnyH_take (i := 13) (v := ?_) (by rw [List.getElem?_toArray]; rfl) (by kernel_rfl) (by kernel_rfl) (by kernel_rfl) (by exact fun _ _ _ h => h) (Or.inl ⟨by rfl, ?_⟩) h0 ?_
      rotate_left
      · intro W _
        go_simp
        all_goals with_reducible rfl
      simp only [Act.put, List.setIfInBounds_toArray, List.set_cons_zero, List.set_cons_succ]
      refine wpAnyH_done (by kernel_rfl) ?_ _
      clear h0
      go_wp2_with fail
      refine (knows_any _).mono ?_
      rintro e w1 ⟨rfl, hb⟩
      have B1 := cthen B0.drew hb B0.size
      go_wp2_with fail
      go_ret
      exact ⟨rfl, B1⟩
  · obtain ⟨n, rfl⟩ : ∃ n : Nat, n1 = n + 1 := ⟨n1 - 1, by omega⟩
    have h1 : 1 ≤ (n : Int) := by omega
    have h2 : (n : Int) ≤ 4096 := by omega
    clear hn hcap hm
    have hK : Kf w p (n + 1) T q m C (w.alloc (.cells (hc F).toArray 23)) := ⟨(hT.alloc _), (hC.alloc _), B0⟩
    have K0 := Lib.hid (show Kf w p (n + 1) T q m C w from ⟨hT, hC, Below.refl _ _⟩)
    obtain ⟨tb, o, rfl, hlb, hl0, hr0⟩ := hK.T 0 (by omega)
    obtain ⟨tb', o', e', _, hln, hrn⟩ := hK.T n (by omega)
    obtain ⟨rfl, rfl⟩ : tb = tb' ∧ o = o' := by simpa using e'
    clear e'
    have cF := H0.row hF
    have hS2 : S2 w.heap.size tb o n F T (w.alloc (.cells (hc F).toArray 23)) := ⟨cF, hrn⟩
    have hS0 : S4f w (some ⟨tb, o, none⟩) n T q m C tb o w.heap.size F (w.alloc (.cells (hc F).toArray 23)) := ⟨by simpa using hr0, cF, ⟨hlb, H0.lt⟩, hK⟩
    clear hT hC hK hr0 hrn cF
    have e1 : ((n : Int) < 1) = False := by simp; omega
    have e2 : (4096 < (n : Int)) = False := by simp; omega
    have hn1 : (n : Int) < (n : Int) + 1 := by omega
    cases he : (F == T n)
    · have hne : F ≠ T n := by simpa using he
      go_enter Try.func5, Try.ntmps5
      go_upto_region 2 with fail
      refine wp_region_held_drew (S := S2 w.heap.size tb o n F T) (by kernel_rfl) (hS2) (fun h0 => ?_)
      refine wpAnyH_take (i := 0) (v := ?_) (by rw [List.getElem?_toArray]; rfl) (by kernel_rfl) (by kernel_rfl) (by kernel_rfl) (by exact fun _ _ _ h => h) (Or.inl ⟨by rfl, ?_⟩) h0 ?_
      rotate_left
      · intro W hW
        obtain ⟨d0, d1⟩ := hW
        go_simp
        all_goals with_reducible rfl
      simp only [Act.put, List.setIfInBounds_toArray, List.set_cons_zero, List.set_cons_succ]
      refine wpAnyH_take (i := 1) (v := ?_) (by rw [List.getElem?_toArray]; rfl) (by kernel_rfl) (by kernel_rfl) (by kernel_rfl) (by exact fun _ _ _ h => h) (Or.inl ⟨by rfl, ?_⟩) h0 ?_
      rotate_left
      · intro W hW
        obtain ⟨d0, d1⟩ := hW
        go_simp
        all_goals with_reducible rfl
      simp only [Act.put, List.setIfInBounds_toArray, List.set_cons_zero, List.set_cons_succ]
      refine wpAnyH_take (i := 2) (v := ?_) (by rw [List.getElem?_toArray]; rfl) (by kernel_rfl) (by kernel_rfl) (by kernel_rfl) (by exact fun _ _ _ h => h) (Or.inl ⟨by rfl, ?_⟩) h0 ?_
      rotate_left
      · intro W hW
        obtain ⟨d0, d1⟩ := hW
        go_simp
        all_goals with_reducible rfl
      simp only [Act.put, List.setIfInBounds_toArray, List.set_cons_zero, List.set_cons_succ]
      refine wpAnyH_take (i := 3) (v := ?_) (by rw [List.getElem?_toArray]; rfl) (by kernel_rfl) (by kernel_rfl) (by kernel_rfl) (by exact fun _ _ _ h => h) (Or.inl ⟨by rfl, ?_⟩) h0 ?_
      rotate_left
      · intro W hW
        obtain ⟨d0, d1⟩ := hW
        go_simp
        all_goals with_reducible rfl
      simp only [Act.put, List.setIfInBounds_toArray, List.set_cons_zero, List.set_cons_succ]
      refine wpAnyH_take (i := 4) (v := ?_) (by rw [List.getElem?_toArray]; rfl) (by kernel_rfl) (by kernel_rfl) (by kernel_rfl) (by exact fun _ _ _ h => h) (Or.inl ⟨by rfl, ?_⟩) h0 ?_
      rotate_left
      · intro W hW
        obtain ⟨d0, d1⟩ := hW
        go_simp
        all_goals with_reducible rfl
      simp only [Act.put, List.setIfInBounds_toArray, List.set_cons_zero, List.set_cons_succ]
      refine wpAnyH_take (i := 5) (v := ?_) (by rw [List.getElem?_toArray]; rfl) (by kernel_rfl) (by kernel_rfl) (by kernel_rfl) (by exact fun _ _ _ h => h) (Or.inl ⟨by rfl, ?_⟩) h0 ?_
      rotate_left
      · intro W hW
        obtain ⟨d0, d1⟩ := hW
        go_simp
        all_goals with_reducible rfl
      simp only [Act.put, List.setIfInBounds_toArray, List.set_cons_zero, List.set_cons_succ]
      refine wpAnyH_take (i := 6) (v := ?_) (by rw [List.getElem?_toArray]; rfl) (by kernel_rfl) (by kernel_rfl) (by kernel_rfl) (by exact fun _ _ _ h => h) (Or.inl ⟨by rfl, ?_⟩) h0 ?_
      rotate_left
      · intro W hW
        obtain ⟨d0, d1⟩ := hW
        go_simp
        all_goals with_reducible rfl
      simp only [Act.put, List.setIfInBounds_toArray, List.set_cons_zero, List.set_cons_succ]
      refine wpAnyH_take (i := 7) (v := ?_) (by rw [List.getElem?_toArray]; rfl) (by kernel_rfl) (by kernel_rfl) (by kernel_rfl) (by exact fun _ _ _ h => h) (Or.inl ⟨by rfl, ?_⟩) h0 ?_
      rotate_left
      · intro W hW
        obtain ⟨d0, d1⟩ := hW
        go_simp
        all_goals with_reducible rfl
      simp only [Act.put, List.setIfInBounds_toArray, List.set_cons_zero, List.set_cons_succ]
      refine wpAnyH_take (i := 8) (v := ?_) (by rw [List.getElem?_toArray]; rfl) (by kernel_rfl) (by kernel_rfl) (by kernel_rfl) (by exact fun _ _ _ h => h) (Or.inl ⟨by rfl, ?_⟩) h0 ?_
      rotate_left
      · intro W hW
        obtain ⟨d0, d1⟩ := hW
        go_simp
        all_goals with_reducible rfl
      simp only [Act.put, List.setIfInBounds_toArray, List.set_cons_zero, List.set_cons_succ]
      refine wpAnyH_take (i := 9) (v := ?_) (by rw [List.getElem?_toArray]; rfl) (by kernel_rfl) (by kernel_rfl) (by kernel_rfl) (by exact fun _ _ _ h => h) (Or.inl ⟨by rfl, ?_⟩) h0 ?_
      rotate_left
      · intro W hW
        obtain ⟨d0, d1⟩ := hW
        go_simp
        all_goals with_reducible rfl
      simp only [Act.put, List.setIfInBounds_toArray, List.set_cons_zero, List.set_cons_succ]
      refine wpAnyH_take (i := 10) (v := ?_) (by rw [List.getElem?_toArray]; rfl) (by kernel_rfl) (by kernel_rfl) (by kernel_rfl) (by exact fun _ _ _ h => h) (Or.inl ⟨by rfl, ?_⟩) h0 ?_
      rotate_left
      · intro W hW
        obtain ⟨d0, d1⟩ := hW
        go_simp
        all_goals with_reducible rfl
      simp only [Act.put, List.setIfInBounds_toArray, List.set_cons_zero, List.set_cons_succ]
      refine wpAnyH_take (i := 11) (v := ?_) (by rw [List.getElem?_toArray]; rfl) (by kernel_rfl) (by kernel_rfl) (by kernel_rfl) (by exact fun _ _ _ h => h) (Or.inl ⟨by rfl, ?_⟩) h0 ?_
      rotate_left
      · intro W hW
        obtain ⟨d0, d1⟩ := hW
        go_simp
        all_goals with_reducible rfl
      simp only [Act.put, List.setIfInBounds_toArray, List.set_cons_zero, List.set_cons_succ]
      refine wpAnyH_take (i := 12) (v := ?_) (by rw [List.getElem?_toArray]; rfl) (by kernel_rfl) (by kernel_rfl) (by kernel_rfl) (by exact fun _ _ _ h => h) (Or.inl ⟨by rfl, ?_⟩) h0 ?_
      rotate_left
      · intro W hW
        obtain ⟨d0, d1⟩ := hW
        go_simp
        all_goals with_reducible rfl
      simp only [Act.put, List.setIfInBounds_toArray, List.set_cons_zero, List.set_cons_succ]
      refine wpAnyH_take (i := 13) (v := ?_) (by rw [List.getElem?_toArray]; rfl) (by kernel_rfl) (by kernel_rfl) (by kernel_rfl) (by exact fun _ _ _ h => h) (Or.inl ⟨by rfl, ?_⟩) h0 ?_
      rotate_left
      · intro W hW
        obtain ⟨d0, d1⟩ := hW
        go_simp
        all_goals with_reducible rfl
      simp only [Act.put, List.setIfInBounds_toArray, List.set_cons_zero, List.set_cons_succ]
      refine wpAnyH_done (by kernel_rfl) ?_ _
      clear h0
      go_upto_region 4 with fail
      have hS1 := S4f_drew hS0
      have B1' := B0.drew
      clear hS0 hS2 H0 B0 he
      generalize (w.alloc (.cells (hc F).toArray 23)).drew = W0 at hS1 ⊢
      have E := Lib.hid (show Seg.opened n (T 0) F = (⟨0, n, T 0, F, zero32, false⟩, 0) from if_neg (by omega))
      have hsok : Seg.ok ⟨0, n, T 0, F, zero32, false⟩ := ⟨by show _ ≤ (0 : Int); omega, by show (0 : Int) < _; omega, by show _ ≤ (n : Int); omega, by show (n : Int) < _; omega, hl0, hF, zero32_len⟩
      go_cut [8, 9] from 37 to 45 (fun s8 s9 wx => ∃ sb : Nat, s8 = .pointer (some ⟨sb, 0, none⟩) ∧ s9 = .int .i64 0 ∧ Hid (LF w (some ⟨tb, o, none⟩) n T q m C sb 0 ⟨0, n, T 0, F, zero32, false⟩ wx))
      case first =>
        refine wp_region_held_drew (S := S4f w (some ⟨tb, o, none⟩) n T q m C tb o w.heap.size F) (by kernel_rfl) (S4f_drew hS1) (fun h0 => ?_)
        refine wpAnyH_take (i := 0) (v := ?_) (by rw [List.getElem?_toArray]; rfl) (by kernel_rfl) (by kernel_rfl) (by kernel_rfl) (by exact fun _ _ _ h => h) (Or.inl ⟨by rfl, ?_⟩) h0 ?_
        rotate_left
        · intro W hW
          obtain ⟨d0, dF, -, -⟩ := hW
          go_simp
          all_goals with_reducible rfl
        simp only [Act.put, List.setIfInBounds_toArray, List.set_cons_zero, List.set_cons_succ]
        refine wpAnyH_take (i := 1) (v := ?_) (by rw [List.getElem?_toArray]; rfl) (by kernel_rfl) (by kernel_rfl) (by kernel_rfl) (by exact fun _ _ _ h => h) (Or.inl ⟨by rfl, ?_⟩) h0 ?_
        rotate_left
        · intro W hW
          obtain ⟨d0, dF, -, -⟩ := hW
          go_simp
          all_goals with_reducible rfl
        simp only [Act.put, List.setIfInBounds_toArray, List.set_cons_zero, List.set_cons_succ]
        refine wpAnyH_take (i := 2) (v := ?_) (by rw [List.getElem?_toArray]; rfl) (by kernel_rfl) (by kernel_rfl) (by kernel_rfl) (by exact fun _ _ _ h => h) (Or.inl ⟨by rfl, ?_⟩) h0 ?_
        rotate_left
        · intro W hW
          obtain ⟨d0, dF, -, -⟩ := hW
          go_simp
          all_goals with_reducible rfl
        simp only [Act.put, List.setIfInBounds_toArray, List.set_cons_zero, List.set_cons_succ]
        refine wpAnyH_take (i := 3) (v := ?_) (by rw [List.getElem?_toArray]; rfl) (by kernel_rfl) (by kernel_rfl) (by kernel_rfl) (by exact fun _ _ _ h => h) (Or.inl ⟨by rfl, ?_⟩) h0 ?_
        rotate_left
        · intro W hW
          obtain ⟨d0, dF, -, -⟩ := hW
          go_simp
          all_goals with_reducible rfl
        simp only [Act.put, List.setIfInBounds_toArray, List.set_cons_zero, List.set_cons_succ]
        refine wpAnyH_take (i := 4) (v := ?_) (by rw [List.getElem?_toArray]; rfl) (by kernel_rfl) (by kernel_rfl) (by kernel_rfl) (by exact fun _ _ _ h => h) (Or.inl ⟨by rfl, ?_⟩) h0 ?_
        rotate_left
        · intro W hW
          obtain ⟨d0, dF, -, -⟩ := hW
          go_simp
          all_goals with_reducible rfl
        simp only [Act.put, List.setIfInBounds_toArray, List.set_cons_zero, List.set_cons_succ]
        refine wpAnyH_ready (rs := [5, 9]) (by kernel_rfl) (by simp) ?_
        refine AllReadyH.cons (by rw [List.getElem?_toArray]; rfl) (fun K hK => ?_) (AllReadyH.cons (by rw [List.getElem?_toArray]; rfl) (fun K hK => ?_) AllReadyH.nil)
        · go_wp2_with fail
          refine (Open_any hl0 hF _).mono ?_
          rintro e w1 ⟨rfl, hb1⟩
          rw [E.out]
          clear E
          generalize hg : (⟨0, n, T 0, F, zero32, false⟩ : Seg) = s0 at hsok ⊢
          have Hg := Lib.hid hg
          clear hg
          go_wp2_with fail
          refine hK.out _ _ (S4f_on h0 hb1) (fun h01 => ?_)
          clear hK K
          refine wpAnyH_take (i := 6) (v := ?_) (by rw [List.getElem?_toArray]; rfl) (by kernel_rfl) (by kernel_rfl) (by kernel_rfl) (by exact fun _ _ _ h => h) (Or.inl ⟨by rfl, ?_⟩) h01 ?_
          rotate_left
          · intro W hW
            obtain ⟨d0, dF, -, -⟩ := hW
            go_simp
            all_goals with_reducible rfl
          simp only [Act.put, List.setIfInBounds_toArray, List.set_cons_zero, List.set_cons_succ]
          refine wpAnyH_take (i := 7) (v := ?_) (by rw [List.getElem?_toArray]; rfl) (by kernel_rfl) (by kernel_rfl) (by kernel_rfl) (by exact fun _ _ _ h => h) (Or.inl ⟨by rfl, ?_⟩) h01 ?_
          rotate_left
          · intro W hW
            obtain ⟨d0, dF, -, -⟩ := hW
            go_simp
            all_goals with_reducible rfl
          simp only [Act.put, List.setIfInBounds_toArray, List.set_cons_zero, List.set_cons_succ]
          refine wpAnyH_take (i := 8) (v := ?_) (by rw [List.getElem?_toArray]; rfl) (by kernel_rfl) (by kernel_rfl) (by kernel_rfl) (by exact fun _ _ _ h => h) (Or.inl ⟨by rfl, ?_⟩) h01 ?_
          rotate_left
          · intro W hW
            obtain ⟨d0, dF, -, -⟩ := hW
            go_simp
            all_goals with_reducible rfl
          simp only [Act.put, List.setIfInBounds_toArray, List.set_cons_zero, List.set_cons_succ]
          refine wpAnyH_ready (rs := [9]) (by kernel_rfl) (by simp) ?_
          refine AllReadyH.cons (by rw [List.getElem?_toArray]; rfl) (fun K hK => ?_) AllReadyH.nil
          rw [if_pos (by rfl)]
          go_wp2_with fail
          refine hK.out _ _ (S4f_on h01 ((Below.refl _ _).alloc (Nat.le_refl _) _)) (fun h02 => ?_)
          clear hK K
          have X1 := SegAt.new w1 26 seg0
          refine wpAnyH_ready (rs := [10]) (by kernel_rfl) (by simp) ?_
          refine AllReadyH.cons (by rw [List.getElem?_toArray]; rfl) (fun K hK => ?_) AllReadyH.nil
          have th := X1.there seg0_ok (o := 0) (n := 99) (by omega)
          rw [if_pos (by rfl)]
          refine wp_store_mid _ _ _ rfl _ _ (List.toArray s0.row) rfl rfl (by simpa [Seg.len hsok.f hsok.t hsok.m] using th) (by rw [List.size_toArray, Seg.len hsok.f hsok.t hsok.m]; kernel_rfl) (Seg.one s0) ?_
          refine hK.out _ _ (S4f_on h01 (below_setCells' w1.heap.size (Nat.le_refl _) _ _ ((Below.refl _ _).alloc (Nat.le_refl _) _))) (fun h03 => ?_)
          clear hK K
          simp only [Act.put]
          refine wpAnyH_take (i := 11) (v := ?_) (by rw [List.getElem?_toArray]; rfl) (by kernel_rfl) (by kernel_rfl) (by kernel_rfl) (by exact fun _ _ _ h => h) (Or.inl ⟨by rfl, ?_⟩) h03 ?_
          rotate_left
          · intro W hW
            obtain ⟨d0, dF, -, -⟩ := hW
            go_simp
            all_goals with_reducible rfl
          simp only [Act.put, List.setIfInBounds_toArray, List.set_cons_zero, List.set_cons_succ]
          refine wpAnyH_done (by kernel_rfl) ?_ _
          have X2 := X1.setAll seg0_ok hsok
          have K3 := h03.2.2.2
          go_wp2_with fail
          go_meet
          refine ⟨_, rfl, rfl, ?_⟩
          have hg := Hg.out
          subst hg
          exact Lib.hid ⟨K3, by first | exact h01.2.2.2.B.size | exact hS1.2.2.2.B.size, X2, hsok, by simp [Seg.right]; omega, rfl, rfl, by simpa using hne, by simp, by omega, by simp, Or.inl rfl⟩
        · rw [if_pos (by rfl)]
          go_wp2_with fail
          refine hK.out _ _ (S4f_on h0 ((Below.refl _ _).alloc (Nat.le_refl _) _)) (fun h01 => ?_)
          clear hK K
          have X0 := SegAt.new W0.drew 26 seg0
          refine wpAnyH_ready (rs := [5]) (by kernel_rfl) (by simp) ?_
          refine AllReadyH.cons (by rw [List.getElem?_toArray]; rfl) (fun K hK => ?_) AllReadyH.nil
          go_wp2_with fail
          refine (Open_any hl0 hF _).mono ?_
          rintro e w1 ⟨rfl, hb1⟩
          rw [E.out]
          clear E
          generalize hg : (⟨0, n, T 0, F, zero32, false⟩ : Seg) = s0 at hsok ⊢
          have Hg := Lib.hid hg
          clear hg
          go_wp2_with fail
          refine hK.out _ _ (S4f_on h01 hb1) (fun h02 => ?_)
          clear hK K
          have X1 := X0.on hb1
          refine wpAnyH_take (i := 6) (v := ?_) (by rw [List.getElem?_toArray]; rfl) (by kernel_rfl) (by kernel_rfl) (by kernel_rfl) (by exact fun _ _ _ h => h) (Or.inl ⟨by rfl, ?_⟩) h02 ?_
          rotate_left
          · intro W hW
            obtain ⟨d0, dF, -, -⟩ := hW
            go_simp
            all_goals with_reducible rfl
          simp only [Act.put, List.setIfInBounds_toArray, List.set_cons_zero, List.set_cons_succ]
          refine wpAnyH_take (i := 7) (v := ?_) (by rw [List.getElem?_toArray]; rfl) (by kernel_rfl) (by kernel_rfl) (by kernel_rfl) (by exact fun _ _ _ h => h) (Or.inl ⟨by rfl, ?_⟩) h02 ?_
          rotate_left
          · intro W hW
            obtain ⟨d0, dF, -, -⟩ := hW
            go_simp
            all_goals with_reducible rfl
          simp only [Act.put, List.setIfInBounds_toArray, List.set_cons_zero, List.set_cons_succ]
          refine wpAnyH_take (i := 8) (v := ?_) (by rw [List.getElem?_toArray]; rfl) (by kernel_rfl) (by kernel_rfl) (by kernel_rfl) (by exact fun _ _ _ h => h) (Or.inl ⟨by rfl, ?_⟩) h02 ?_
          rotate_left
          · intro W hW
            obtain ⟨d0, dF, -, -⟩ := hW
            go_simp
            all_goals with_reducible rfl
          simp only [Act.put, List.setIfInBounds_toArray, List.set_cons_zero, List.set_cons_succ]
          refine wpAnyH_ready (rs := [10]) (by kernel_rfl) (by simp) ?_
          refine AllReadyH.cons (by rw [List.getElem?_toArray]; rfl) (fun K hK => ?_) AllReadyH.nil
          have th := X1.there seg0_ok (o := 0) (n := 99) (by omega)
          rw [if_pos (by rfl)]
          refine wp_store_mid _ _ _ rfl _ _ (List.toArray s0.row) rfl rfl (by simpa [Seg.len hsok.f hsok.t hsok.m] using th) (by rw [List.size_toArray, Seg.len hsok.f hsok.t hsok.m]; kernel_rfl) (Seg.one s0) ?_
          refine hK.out _ _ (S4f_on hS1 (below_setCells' W0.heap.size (Nat.le_refl _) _ _ (cthen (((Below.refl _ _).alloc (Nat.le_refl _) _).drew) hb1 (by simp)))) (fun h03 => ?_)
          clear hK K
          simp only [Act.put]
          refine wpAnyH_take (i := 11) (v := ?_) (by rw [List.getElem?_toArray]; rfl) (by kernel_rfl) (by kernel_rfl) (by kernel_rfl) (by exact fun _ _ _ h => h) (Or.inl ⟨by rfl, ?_⟩) h03 ?_
          rotate_left
          · intro W hW
            obtain ⟨d0, dF, -, -⟩ := hW
            go_simp
            all_goals with_reducible rfl
          simp only [Act.put, List.setIfInBounds_toArray, List.set_cons_zero, List.set_cons_succ]
          refine wpAnyH_done (by kernel_rfl) ?_ _
          have X2 := X1.setAll seg0_ok hsok
          have K3 := h03.2.2.2
          go_wp2_with fail
          go_meet
          refine ⟨_, rfl, rfl, ?_⟩
          have hg := Hg.out
          subst hg
          exact Lib.hid ⟨K3, by first | exact hS1.2.2.2.B.size, X2, hsok, by simp [Seg.right]; omega, rfl, rfl, by simpa using hne, by simp, by omega, by simp, Or.inl rfl⟩
      case rest =>
        obtain ⟨sb, rfl, rfl, hL⟩ := hcut
        clear E hsok hS1 hne
        go_wp2_with fail
        refine (num_any _ _).mono ?_
        rintro e w3 ⟨rfl, rfl⟩
        go_wp2_with fail
        go_loopw [10, 11] (fun rv iv wr => ∃ (i : Nat) (s : Seg), rv = .int .i64 i ∧ iv = .int .i64 i ∧ Hid (LF w (some ⟨tb, o, none⟩) n T q m C sb i s wr)) (fun _ iv _ => 20 - (intH iv).toNat)
        case atStart => exact ⟨0, _, rfl, rfl, hL⟩
        case round =>
          clear hL
          obtain ⟨i, s, rfl, rfl, hL⟩ := hrel
          have hs := hL.out.ok
          have ⟨hf, ht, hm'⟩ : s.f.length = 32 ∧ s.t.length = 32 ∧ s.m.length = 32 := ⟨hs.f, hs.t, hs.m⟩
          have hi20 : (i : Int) < 20 := by have := hL.out.ii; omega
          have cw := hL.out.S.whole hs
          go_wp2_with fail
          refine (Last_any hs _).mono ?_
          rintro e w2 ⟨rfl, hb⟩
          have K2 := Lib.hid (hL.out.K.on hb)
          have S2 := hL.out.S.on hb
          clear cw hb
          cases hl : s.last
          · have hr := hL.out.rr
            have lmid := Seg.right_lo hr
            have l4 : ¬ s.hi - s.lo = 1 := by simpa [Seg.last, hr] using hl
            have em : s.middle = (s.lo + s.hi) / 2 := by simp [Seg.middle, hr]
            have hh := hL.out.hh
            obtain ⟨k, hk⟩ : ∃ k : Nat, s.middle = k := ⟨s.middle.toNat, by omega⟩
            have hTk : (T k).length = 32 := (K2.out.T k (by omega)).elim fun _ h => h.elim fun _ h => h.2.2.1
            have HJ := Lib.hid (fun X : List Int => judgeP (X := X) (n := n + 1) (T := T) hr hl (by omega))
            have HFa := Lib.hid (fun (X : List Int) (hX : X.length = 32) => find_facts (T := T) hs hr hl hL.out.ff hL.out.tt hX)
            have HPo := Lib.hid (fun X : List Int => post_ok' (F := X) hr hL.out.pp hl)
            have HI := Lib.hid (And.intro hL.out.ii (And.intro hL.out.dd hL.out.bb))
            have lo1 : s.lo + 1 < s.hi := by omega
            have zl := zero32_len
            have cw0 := (S2.alloc (.cells (hc zero32).toArray 23)).whole hs
            clear hr lmid l4 em hL
            by_cases him : i < m
            · have hiI : (i : Int) < (m : Int) := by omega
              obtain ⟨qb, qo, rfl, hqb, hCl, hcr⟩ := K2.out.C i him
              have hrow := (rowOf_below ((Below.refl _ w2).alloc (Nat.le_refl _) (.cells (hc zero32).toArray 23)) hqb (qo + i * 32) 32).trans hcr
              have S3 := S2.alloc (.cells (hc (C i)).toArray 23)
              have K3 := Lib.hid (K2.out.alloc (.cells (hc (C i)).toArray 23))
              have cw := S3.whole hs
              have ch := (HashAt.new w2 (C i)).row hCl
              have hXl := hCl
              clear S2 K2
              go_wp2_with fail
              refine (Post_any hs hCl _).mono ?_
              rintro e w4 ⟨rfl, hb⟩
              rw [HPo.out (C i)]
              have hP : Seg.ok { s with m := (C i), p := true } := ⟨hs.lo1, hs.lo2, hs.hi1, hs.hi2, hs.f, hs.t, hCl⟩
              have HFk := HFa.out (C i) hCl
              have HJk := HJ.out (C i)
              rw [hk, Int.toNat_natCast] at HFk HJk
              generalize ({ s with m := (C i), p := true } : Seg) = P at HFk HJk hP ⊢
              obtain ⟨x, ex, hx, xr, xp, xf, xt, x0, xl, xh, xd⟩ := HFk
              have EX := Lib.hid ex
              have EJ := Lib.hid HJk
              clear ex HJk HFa HPo HJ
              have ⟨pf, pt, pm⟩ : P.f.length = 32 ∧ P.t.length = 32 ∧ P.m.length = 32 := ⟨hP.f, hP.t, hP.m⟩
              have ⟨yf, yt, ym⟩ : x.f.length = 32 ∧ x.t.length = 32 ∧ x.m.length = 32 := ⟨hx.f, hx.t, hx.m⟩
              have XD := Lib.hid (And.intro xd (And.intro xf xt))
              have S5 := (S3.on hb).alloc (.cells P.row.toArray 26)
              have K5 := Lib.hid ((K3.out.on hb).alloc (.cells P.row.toArray 26))
              have P5 := SegAt.new w4 26 P
              have cp := P5.whole hP
              clear S3 K3 cw ch hb xd xf xt
              go_wp2_with fail
              have KJ := Judge_any (cap := cap) hP (w4.alloc (.cells P.row.toArray 26)) K5.out.T
              rw [EJ.out] at KJ
              refine KJ.mono ?_
              clear KJ cp
              rintro e w5 ⟨rfl, hb⟩
              have S6 := S5.on hb
              have K6 := Lib.hid (K5.out.on hb)
              have P6 := P5.on hb
              have cp := P6.whole hP
              clear S5 K5 P5 hb
              go_wp2_with fail
              refine (Choose_any hP _ _).mono ?_
              rintro e w6 ⟨rfl, hb⟩
              rw [EX.out]
              have S7 := (S6.on hb).alloc (.cells x.row.toArray 26)
              have K7 := Lib.hid ((K6.out.on hb).alloc (.cells x.row.toArray 26))
              have X7 := SegAt.new w6 26 x
              have cw := X7.whole hx
              have th := S7.there hs (o := 0) (n := 99) (by omega)
              have S8 := S7.setAll hs hx
              have g7 : IntKind.i64.wrap 0 = 0 := by decide
              clear S6 K6 P6 cp hb X7 S7
              go_wp2_with fail
              refine (num_any _ _).mono ?_
              rintro e w7 ⟨rfl, rfl⟩
              go_wp2_with fail
              refine (num_any _ _).mono ?_
              rintro e w7 ⟨rfl, rfl⟩
              go_wp2_with fail
              go_roundw
              case rel =>
                obtain ⟨i1, dd, bb⟩ := HI.out
                obtain ⟨xd, xf, xt⟩ := XD.out
                have B8 := below_setCells' sb bb x.row 0 K7.out.B
                have pz : (0 : Int) < 2 ^ i := Int.pow_pos (by omega)
                have mz := Int.mul_le_mul_of_nonneg_right (show 1 ≤ s.hi - s.lo - 1 by omega) (Int.le_of_lt pz)
                refine ⟨i + 1, x, by go_num, by go_num, Lib.hid ⟨⟨K0.out.T.on B8, K0.out.C.on B8, B8⟩, bb, S8, hx, xr, xp, xf, xt, by omega, ?_, ?_, Or.inr ?_⟩⟩
                · rcases Nat.lt_or_ge i 12 with c | c
                  · omega
                  · exfalso
                    have h12 := two_le c
                    have e12 : (2 : Int) ^ 12 = 4096 := by decide
                    omega
                · have := Int.mul_le_mul_of_nonneg_right xd (Int.le_of_lt pz)
                  rw [Int.pow_succ, Int.mul_comm (2 ^ i) 2, ← Int.mul_assoc, Int.mul_comm _ 2]
                  omega
                · rw [Nat.add_sub_cancel]; omega
              case measure => simp [intH]; omega
            · have hiI : ¬ (i : Int) < (m : Int) := by omega
              have S3 := S2.alloc (.cells (hc zero32).toArray 23)
              have K3 := Lib.hid (K2.out.alloc (.cells (hc zero32).toArray 23))
              have cw := S3.whole hs
              have ch := (HashAt.new w2 zero32).row zl
              have hXl := zl
              clear S2 K2
              go_wp2_with fail
              refine (Post_any hs zl _).mono ?_
              rintro e w4 ⟨rfl, hb⟩
              rw [HPo.out zero32]
              have hP : Seg.ok { s with m := zero32, p := true } := ⟨hs.lo1, hs.lo2, hs.hi1, hs.hi2, hs.f, hs.t, zl⟩
              have HFk := HFa.out zero32 zl
              have HJk := HJ.out zero32
              rw [hk, Int.toNat_natCast] at HFk HJk
              generalize ({ s with m := zero32, p := true } : Seg) = P at HFk HJk hP ⊢
              obtain ⟨x, ex, hx, xr, xp, xf, xt, x0, xl, xh, xd⟩ := HFk
              have EX := Lib.hid ex
              have EJ := Lib.hid HJk
              clear ex HJk HFa HPo HJ
              have ⟨pf, pt, pm⟩ : P.f.length = 32 ∧ P.t.length = 32 ∧ P.m.length = 32 := ⟨hP.f, hP.t, hP.m⟩
              have ⟨yf, yt, ym⟩ : x.f.length = 32 ∧ x.t.length = 32 ∧ x.m.length = 32 := ⟨hx.f, hx.t, hx.m⟩
              have XD := Lib.hid (And.intro xd (And.intro xf xt))
              have S5 := (S3.on hb).alloc (.cells P.row.toArray 26)
              have K5 := Lib.hid ((K3.out.on hb).alloc (.cells P.row.toArray 26))
              have P5 := SegAt.new w4 26 P
              have cp := P5.whole hP
              clear S3 K3 cw ch hb xd xf xt
              go_wp2_with fail
              have KJ := Judge_any (cap := cap) hP (w4.alloc (.cells P.row.toArray 26)) K5.out.T
              rw [EJ.out] at KJ
              refine KJ.mono ?_
              clear KJ cp
              rintro e w5 ⟨rfl, hb⟩
              have S6 := S5.on hb
              have K6 := Lib.hid (K5.out.on hb)
              have P6 := P5.on hb
              have cp := P6.whole hP
              clear S5 K5 P5 hb
              go_wp2_with fail
              refine (Choose_any hP _ _).mono ?_
              rintro e w6 ⟨rfl, hb⟩
              rw [EX.out]
              have S7 := (S6.on hb).alloc (.cells x.row.toArray 26)
              have K7 := Lib.hid ((K6.out.on hb).alloc (.cells x.row.toArray 26))
              have X7 := SegAt.new w6 26 x
              have cw := X7.whole hx
              have th := S7.there hs (o := 0) (n := 99) (by omega)
              have S8 := S7.setAll hs hx
              have g7 : IntKind.i64.wrap 0 = 0 := by decide
              clear S6 K6 P6 cp hb X7 S7
              go_wp2_with fail
              refine (num_any _ _).mono ?_
              rintro e w7 ⟨rfl, rfl⟩
              go_wp2_with fail
              refine (num_any _ _).mono ?_
              rintro e w7 ⟨rfl, rfl⟩
              go_wp2_with fail
              go_roundw
              case rel =>
                obtain ⟨i1, dd, bb⟩ := HI.out
                obtain ⟨xd, xf, xt⟩ := XD.out
                have B8 := below_setCells' sb bb x.row 0 K7.out.B
                have pz : (0 : Int) < 2 ^ i := Int.pow_pos (by omega)
                have mz := Int.mul_le_mul_of_nonneg_right (show 1 ≤ s.hi - s.lo - 1 by omega) (Int.le_of_lt pz)
                refine ⟨i + 1, x, by go_num, by go_num, Lib.hid ⟨⟨K0.out.T.on B8, K0.out.C.on B8, B8⟩, bb, S8, hx, xr, xp, xf, xt, by omega, ?_, ?_, Or.inr ?_⟩⟩
                · rcases Nat.lt_or_ge i 12 with c | c
                  · omega
                  · exfalso
                    have h12 := two_le c
                    have e12 : (2 : Int) ^ 12 = 4096 := by decide
                    omega
                · have := Int.mul_le_mul_of_nonneg_right xd (Int.le_of_lt pz)
                  rw [Int.pow_succ, Int.mul_comm (2 ^ i) 2, ← Int.mul_assoc, Int.mul_comm _ 2]
                  omega
                · rw [Nat.add_sub_cancel]; omega
              case measure => simp [intH]; omega
          · have lmid := Seg.right_lo hL.out.rr
            have hh := hL.out.hh
            have gg := hL.out.gg
            obtain ⟨ql, hql⟩ : ∃ ql : Nat, s.lo = ql := ⟨s.lo.toNat, by omega⟩
            obtain ⟨qh, hqh⟩ : ∃ qh : Nat, s.hi = qh := ⟨s.hi.toNat, by omega⟩
            obtain ⟨c0, c1, -, cw, cf, ct, -⟩ := S2.facts hs
            rw [hql] at c0
            rw [hqh] at c1
            rw [hL.out.ff, hql, Int.toNat_natCast] at cf
            have tne : (s.t == T qh) = false := by
              have := hL.out.tt
              rw [hqh, Int.toNat_natCast] at this
              simpa using this
            have row : ∀ j : Nat, j < n + 1 → (T j).length = 32 ∧ rowOf w2 tb (o + j * 32) 32 = hc (T j) ∧ tb < w2.heap.size := fun j hj => by
              obtain ⟨b', o', e', hb', hl', hr'⟩ := K2.out.T j hj
              obtain ⟨e1, e2⟩ : tb = b' ∧ o = o' := by simpa using e'
              rw [← e1, ← e2] at hr'
              rw [← e1] at hb'
              exact ⟨hl', hr', hb'⟩
            obtain ⟨tl1, tr1, _⟩ := row ql (by omega)
            obtain ⟨tl2, tr2, tbs⟩ := row qh (by omega)
            have h21 : S21 w (some ⟨tb, o, none⟩) n T q m C tb o sb ql qh s w2 := ⟨c0, c1, cw, cf, ct, tr1, tr2, ⟨S2, tbs⟩, K2.out⟩
            have g3 : (ql : Int) < (n : Int) + 1 := by omega
            have g4 : (qh : Int) < (n : Int) + 1 := by omega
            clear hL row tr1 tr2 c0 c1 cf ct cw S2 K2 tbs
            go_upto_region 21 with fail
            refine wp_region_held_drew (S := S21 w (some ⟨tb, o, none⟩) n T q m C tb o sb ql qh s) (by kernel_rfl) (S21_drew h21) (fun h0 => ?_)
            refine wpAnyH_take (i := 0) (v := ?_) (by rw [List.getElem?_toArray]; rfl) (by kernel_rfl) (by kernel_rfl) (by kernel_rfl) (by exact fun _ _ _ h => h) (Or.inl ⟨by rfl, ?_⟩) h0 ?_
            rotate_left
            · intro W hW
              obtain ⟨d0, d1, dw, df, dt, f0, f1, -, -⟩ := hW
              go_simp
              all_goals with_reducible rfl
            simp only [Act.put, List.setIfInBounds_toArray, List.set_cons_zero, List.set_cons_succ]
            refine wpAnyH_ready (rs := [1]) (by kernel_rfl) (by simp) ?_
            refine AllReadyH.cons (by rw [List.getElem?_toArray]; rfl) (fun K hK => ?_) AllReadyH.nil
            rw [if_pos (by rfl)]
            go_wp2_with fail
            refine (Last_any hs _).mono ?_
            rintro e w5 ⟨rfl, hb5⟩
            rw [hl]
            go_wp2_with fail
            refine hK.out _ _ (S21_on h0 hb5) (fun h01 => ?_)
            clear hK K
            refine wpAnyH_take (i := 2) (v := ?_) (by rw [List.getElem?_toArray]; rfl) (by kernel_rfl) (by kernel_rfl) (by kernel_rfl) (by exact fun _ _ _ h => h) (Or.inl ⟨by rfl, ?_⟩) h01 ?_
            rotate_left
            · intro W hW
              obtain ⟨d0, d1, dw, df, dt, f0, f1, -, -⟩ := hW
              go_simp
              all_goals with_reducible rfl
            simp only [Act.put, List.setIfInBounds_toArray, List.set_cons_zero, List.set_cons_succ]
            refine wpAnyH_take (i := 3) (v := ?_) (by rw [List.getElem?_toArray]; rfl) (by kernel_rfl) (by kernel_rfl) (by kernel_rfl) (by exact fun _ _ _ h => h) (Or.inl ⟨by rfl, ?_⟩) h01 ?_
            rotate_left
            · intro W hW
              obtain ⟨d0, d1, dw, df, dt, f0, f1, -, -⟩ := hW
              go_simp
              all_goals with_reducible rfl
            simp only [Act.put, List.setIfInBounds_toArray, List.set_cons_zero, List.set_cons_succ]
            refine wpAnyH_take (i := 4) (v := ?_) (by rw [List.getElem?_toArray]; rfl) (by kernel_rfl) (by kernel_rfl) (by kernel_rfl) (by exact fun _ _ _ h => h) (Or.inl ⟨by rfl, ?_⟩) h01 ?_
            rotate_left
            · intro W hW
              obtain ⟨d0, d1, dw, df, dt, f0, f1, -, -⟩ := hW
              go_simp
              all_goals with_reducible rfl
            simp only [Act.put, List.setIfInBounds_toArray, List.set_cons_zero, List.set_cons_succ]
            refine wpAnyH_ready (rs := [5]) (by kernel_rfl) (by simp) ?_
            refine AllReadyH.cons (by rw [List.getElem?_toArray]; rfl) (fun K hK => ?_) AllReadyH.nil
            rw [if_pos (by rfl)]
            go_wp2_with fail
            refine (Rounds_any (by omega) (by omega) _).mono ?_
            rintro e w6 ⟨r, rfl, hrn, rfl⟩
            go_wp2_with fail
            refine hK.out _ _ (h01) (fun h02 => ?_)
            clear hK K
            have hir : ((i : Int) ≤ (r : Int)) = True := by
              obtain ⟨_, r1, _⟩ := hrn
              rcases Nat.lt_or_ge r i with c | c
              · rcases gg with g | g
                · omega
                · have := two_le (show r ≤ i - 1 by omega); omega
              · simp; omega
            have e3 : ((qh : Int) ≤ (n : Int)) = True := by simp; omega
            refine wpAnyH_take (i := 6) (v := ?_) (by rw [List.getElem?_toArray]; rfl) (by kernel_rfl) (by kernel_rfl) (by kernel_rfl) (by exact fun _ _ _ h => h) (Or.inl ⟨by rfl, ?_⟩) h02 ?_
            rotate_left
            · intro W hW
              obtain ⟨d0, d1, dw, df, dt, f0, f1, -, -⟩ := hW
              go_simp
              all_goals with_reducible rfl
            simp only [Act.put, List.setIfInBounds_toArray, List.set_cons_zero, List.set_cons_succ]
            refine wpAnyH_take (i := 7) (v := ?_) (by rw [List.getElem?_toArray]; rfl) (by kernel_rfl) (by kernel_rfl) (by kernel_rfl) (by exact fun _ _ _ h => h) (Or.inl ⟨by rfl, ?_⟩) h02 ?_
            rotate_left
            · intro W hW
              obtain ⟨d0, d1, dw, df, dt, f0, f1, -, -⟩ := hW
              go_simp
              all_goals with_reducible rfl
            simp only [Act.put, List.setIfInBounds_toArray, List.set_cons_zero, List.set_cons_succ]
            refine wpAnyH_take (i := 8) (v := ?_) (by rw [List.getElem?_toArray]; rfl) (by kernel_rfl) (by kernel_rfl) (by kernel_rfl) (by exact fun _ _ _ h => h) (Or.inl ⟨by rfl, ?_⟩) h02 ?_
            rotate_left
            · intro W hW
              obtain ⟨d0, d1, dw, df, dt, f0, f1, -, -⟩ := hW
              go_simp
              all_goals with_reducible rfl
            simp only [Act.put, List.setIfInBounds_toArray, List.set_cons_zero, List.set_cons_succ]
            refine wpAnyH_take (i := 9) (v := ?_) (by rw [List.getElem?_toArray]; rfl) (by kernel_rfl) (by kernel_rfl) (by kernel_rfl) (by exact fun _ _ _ h => h) (Or.inl ⟨by rfl, ?_⟩) h02 ?_
            rotate_left
            · intro W hW
              obtain ⟨d0, d1, dw, df, dt, f0, f1, -, -⟩ := hW
              go_simp
              all_goals with_reducible rfl
            simp only [Act.put, List.setIfInBounds_toArray, List.set_cons_zero, List.set_cons_succ]
            refine wpAnyH_take (i := 10) (v := ?_) (by rw [List.getElem?_toArray]; rfl) (by kernel_rfl) (by kernel_rfl) (by kernel_rfl) (by exact fun _ _ _ h => h) (Or.inl ⟨by rfl, ?_⟩) h02 ?_
            rotate_left
            · intro W hW
              obtain ⟨d0, d1, dw, df, dt, f0, f1, -, -⟩ := hW
              go_simp
              all_goals with_reducible rfl
            simp only [Act.put, List.setIfInBounds_toArray, List.set_cons_zero, List.set_cons_succ]
            refine wpAnyH_take (i := 11) (v := ?_) (by rw [List.getElem?_toArray]; rfl) (by kernel_rfl) (by kernel_rfl) (by kernel_rfl) (by exact fun _ _ _ h => h) (Or.inl ⟨by rfl, ?_⟩) h02 ?_
            rotate_left
            · intro W hW
              obtain ⟨d0, d1, dw, df, dt, f0, f1, -, -⟩ := hW
              go_simp
              all_goals with_reducible rfl
            simp only [Act.put, List.setIfInBounds_toArray, List.set_cons_zero, List.set_cons_succ]
            refine wpAnyH_take (i := 12) (v := ?_) (by rw [List.getElem?_toArray]; rfl) (by kernel_rfl) (by kernel_rfl) (by kernel_rfl) (by exact fun _ _ _ h => h) (Or.inl ⟨by rfl, ?_⟩) h02 ?_
            rotate_left
            · intro W hW
              obtain ⟨d0, d1, dw, df, dt, f0, f1, -, -⟩ := hW
              go_simp
              all_goals with_reducible rfl
            simp only [Act.put, List.setIfInBounds_toArray, List.set_cons_zero, List.set_cons_succ]
            refine wpAnyH_take (i := 13) (v := ?_) (by rw [List.getElem?_toArray]; rfl) (by kernel_rfl) (by kernel_rfl) (by kernel_rfl) (by exact fun _ _ _ h => h) (Or.inl ⟨by rfl, ?_⟩) h02 ?_
            rotate_left
            · intro W hW
              obtain ⟨d0, d1, dw, df, dt, f0, f1, -, -⟩ := hW
              go_simp
              all_goals with_reducible rfl
            simp only [Act.put, List.setIfInBounds_toArray, List.set_cons_zero, List.set_cons_succ]
            refine wpAnyH_take (i := 14) (v := ?_) (by rw [List.getElem?_toArray]; rfl) (by kernel_rfl) (by kernel_rfl) (by kernel_rfl) (by exact fun _ _ _ h => h) (Or.inl ⟨by rfl, ?_⟩) h02 ?_
            rotate_left
            · intro W hW
              obtain ⟨d0, d1, dw, df, dt, f0, f1, -, -⟩ := hW
              go_simp
              all_goals with_reducible rfl
            simp only [Act.put, List.setIfInBounds_toArray, List.set_cons_zero, List.set_cons_succ]
            refine wpAnyH_take (i := 15) (v := ?_) (by rw [List.getElem?_toArray]; rfl) (by kernel_rfl) (by kernel_rfl) (by kernel_rfl) (by exact fun _ _ _ h => h) (Or.inl ⟨by rfl, ?_⟩) h02 ?_
            rotate_left
            · intro W hW
              obtain ⟨d0, d1, dw, df, dt, f0, f1, -, -⟩ := hW
              go_simp
              all_goals with_reducible rfl
            simp only [Act.put, List.setIfInBounds_toArray, List.set_cons_zero, List.set_cons_succ]
            refine wpAnyH_take (i := 16) (v := ?_) (by rw [List.getElem?_toArray]; rfl) (by kernel_rfl) (by kernel_rfl) (by kernel_rfl) (by exact fun _ _ _ h => h) (Or.inl ⟨by rfl, ?_⟩) h02 ?_
            rotate_left
            · intro W hW
              obtain ⟨d0, d1, dw, df, dt, f0, f1, -, -⟩ := hW
              go_simp
              all_goals with_reducible rfl
            simp only [Act.put, List.setIfInBounds_toArray, List.set_cons_zero, List.set_cons_succ]
            refine wpAnyH_take (i := 17) (v := ?_) (by rw [List.getElem?_toArray]; rfl) (by kernel_rfl) (by kernel_rfl) (by kernel_rfl) (by exact fun _ _ _ h => h) (Or.inl ⟨by rfl, ?_⟩) h02 ?_
            rotate_left
            · intro W hW
              obtain ⟨d0, d1, dw, df, dt, f0, f1, -, -⟩ := hW
              go_simp
              all_goals with_reducible rfl
            simp only [Act.put, List.setIfInBounds_toArray, List.set_cons_zero, List.set_cons_succ]
            refine wpAnyH_take (i := 18) (v := ?_) (by rw [List.getElem?_toArray]; rfl) (by kernel_rfl) (by kernel_rfl) (by kernel_rfl) (by exact fun _ _ _ h => h) (Or.inl ⟨by rfl, ?_⟩) h02 ?_
            rotate_left
            · intro W hW
              obtain ⟨d0, d1, dw, df, dt, f0, f1, -, -⟩ := hW
              go_simp
              all_goals with_reducible rfl
            simp only [Act.put, List.setIfInBounds_toArray, List.set_cons_zero, List.set_cons_succ]
            refine wpAnyH_take (i := 19) (v := ?_) (by rw [List.getElem?_toArray]; rfl) (by kernel_rfl) (by kernel_rfl) (by kernel_rfl) (by exact fun _ _ _ h => h) (Or.inl ⟨by rfl, ?_⟩) h02 ?_
            rotate_left
            · intro W hW
              obtain ⟨d0, d1, dw, df, dt, f0, f1, -, -⟩ := hW
              go_simp
              all_goals with_reducible rfl
            simp only [Act.put, List.setIfInBounds_toArray, List.set_cons_zero, List.set_cons_succ]
            refine wpAnyH_take (i := 20) (v := ?_) (by rw [List.getElem?_toArray]; rfl) (by kernel_rfl) (by kernel_rfl) (by kernel_rfl) (by exact fun _ _ _ h => h) (Or.inl ⟨by rfl, ?_⟩) h02 ?_
            rotate_left
            · intro W hW
              obtain ⟨d0, d1, dw, df, dt, f0, f1, -, -⟩ := hW
              go_simp
              all_goals with_reducible rfl
            simp only [Act.put, List.setIfInBounds_toArray, List.set_cons_zero, List.set_cons_succ]
            refine wpAnyH_take (i := 21) (v := ?_) (by rw [List.getElem?_toArray]; rfl) (by kernel_rfl) (by kernel_rfl) (by kernel_rfl) (by exact fun _ _ _ h => h) (Or.inl ⟨by rfl, ?_⟩) h02 ?_
            rotate_left
            · intro W hW
              obtain ⟨d0, d1, dw, df, dt, f0, f1, -, -⟩ := hW
              go_simp
              all_goals with_reducible rfl
            simp only [Act.put, List.setIfInBounds_toArray, List.set_cons_zero, List.set_cons_succ]
            refine wpAnyH_take (i := 22) (v := ?_) (by rw [List.getElem?_toArray]; rfl) (by kernel_rfl) (by kernel_rfl) (by kernel_rfl) (by exact fun _ _ _ h => h) (Or.inl ⟨by rfl, ?_⟩) h02 ?_
            rotate_left
            · intro W hW
              obtain ⟨d0, d1, dw, df, dt, f0, f1, -, -⟩ := hW
              go_simp
              all_goals with_reducible rfl
            simp only [Act.put, List.setIfInBounds_toArray, List.set_cons_zero, List.set_cons_succ]
            refine wpAnyH_take (i := 23) (v := ?_) (by rw [List.getElem?_toArray]; rfl) (by kernel_rfl) (by kernel_rfl) (by kernel_rfl) (by exact fun _ _ _ h => h) (Or.inl ⟨by rfl, ?_⟩) h02 ?_
            rotate_left
            · intro W hW
              obtain ⟨d0, d1, dw, df, dt, f0, f1, -, -⟩ := hW
              go_simp
              all_goals with_reducible rfl
            simp only [Act.put, List.setIfInBounds_toArray, List.set_cons_zero, List.set_cons_succ]
            refine wpAnyH_take (i := 24) (v := ?_) (by rw [List.getElem?_toArray]; rfl) (by kernel_rfl) (by kernel_rfl) (by kernel_rfl) (by exact fun _ _ _ h => h) (Or.inl ⟨by rfl, ?_⟩) h02 ?_
            rotate_left
            · intro W hW
              obtain ⟨d0, d1, dw, df, dt, f0, f1, -, -⟩ := hW
              go_simp
              all_goals with_reducible rfl
            simp only [Act.put, List.setIfInBounds_toArray, List.set_cons_zero, List.set_cons_succ]
            refine wpAnyH_take (i := 25) (v := ?_) (by rw [List.getElem?_toArray]; rfl) (by kernel_rfl) (by kernel_rfl) (by kernel_rfl) (by exact fun _ _ _ h => h) (Or.inl ⟨by rfl, ?_⟩) h02 ?_
            rotate_left
            · intro W hW
              obtain ⟨d0, d1, dw, df, dt, f0, f1, -, -⟩ := hW
              go_simp
              all_goals with_reducible rfl
            simp only [Act.put, List.setIfInBounds_toArray, List.set_cons_zero, List.set_cons_succ]
            refine wpAnyH_take (i := 26) (v := ?_) (by rw [List.getElem?_toArray]; rfl) (by kernel_rfl) (by kernel_rfl) (by kernel_rfl) (by exact fun _ _ _ h => h) (Or.inl ⟨by rfl, ?_⟩) h02 ?_
            rotate_left
            · intro W hW
              obtain ⟨d0, d1, dw, df, dt, f0, f1, -, -⟩ := hW
              go_simp
              all_goals with_reducible rfl
            simp only [Act.put, List.setIfInBounds_toArray, List.set_cons_zero, List.set_cons_succ]
            refine wpAnyH_take (i := 27) (v := ?_) (by rw [List.getElem?_toArray]; rfl) (by kernel_rfl) (by kernel_rfl) (by kernel_rfl) (by exact fun _ _ _ h => h) (Or.inl ⟨by rfl, ?_⟩) h02 ?_
            rotate_left
            · intro W hW
              obtain ⟨d0, d1, dw, df, dt, f0, f1, -, -⟩ := hW
              go_simp
              all_goals with_reducible rfl
            simp only [Act.put, List.setIfInBounds_toArray, List.set_cons_zero, List.set_cons_succ]
            refine wpAnyH_take (i := 28) (v := ?_) (by rw [List.getElem?_toArray]; rfl) (by kernel_rfl) (by kernel_rfl) (by kernel_rfl) (by exact fun _ _ _ h => h) (Or.inl ⟨by rfl, ?_⟩) h02 ?_
            rotate_left
            · intro W hW
              obtain ⟨d0, d1, dw, df, dt, f0, f1, -, -⟩ := hW
              go_simp
              all_goals with_reducible rfl
            simp only [Act.put, List.setIfInBounds_toArray, List.set_cons_zero, List.set_cons_succ]
            refine wpAnyH_take (i := 29) (v := ?_) (by rw [List.getElem?_toArray]; rfl) (by kernel_rfl) (by kernel_rfl) (by kernel_rfl) (by exact fun _ _ _ h => h) (Or.inl ⟨by rfl, ?_⟩) h02 ?_
            rotate_left
            · intro W hW
              obtain ⟨d0, d1, dw, df, dt, f0, f1, -, -⟩ := hW
              go_simp
              all_goals with_reducible rfl
            simp only [Act.put, List.setIfInBounds_toArray, List.set_cons_zero, List.set_cons_succ]
            refine wpAnyH_take (i := 30) (v := ?_) (by rw [List.getElem?_toArray]; rfl) (by kernel_rfl) (by kernel_rfl) (by kernel_rfl) (by exact fun _ _ _ h => h) (Or.inl ⟨by rfl, ?_⟩) h02 ?_
            rotate_left
            · intro W hW
              obtain ⟨d0, d1, dw, df, dt, f0, f1, -, -⟩ := hW
              go_simp
              all_goals with_reducible rfl
            simp only [Act.put, List.setIfInBounds_toArray, List.set_cons_zero, List.set_cons_succ]
            refine wpAnyH_take (i := 31) (v := ?_) (by rw [List.getElem?_toArray]; rfl) (by kernel_rfl) (by kernel_rfl) (by kernel_rfl) (by exact fun _ _ _ h => h) (Or.inl ⟨by rfl, ?_⟩) h02 ?_
            rotate_left
            · intro W hW
              obtain ⟨d0, d1, dw, df, dt, f0, f1, -, -⟩ := hW
              go_simp
              all_goals with_reducible rfl
            simp only [Act.put, List.setIfInBounds_toArray, List.set_cons_zero, List.set_cons_succ]
            refine wpAnyH_take (i := 32) (v := ?_) (by rw [List.getElem?_toArray]; rfl) (by kernel_rfl) (by kernel_rfl) (by kernel_rfl) (by exact fun _ _ _ h => h) (Or.inl ⟨by rfl, ?_⟩) h02 ?_
            rotate_left
            · intro W hW
              obtain ⟨d0, d1, dw, df, dt, f0, f1, -, -⟩ := hW
              go_simp
              all_goals with_reducible rfl
            simp only [Act.put, List.setIfInBounds_toArray, List.set_cons_zero, List.set_cons_succ]
            refine wpAnyH_take (i := 33) (v := ?_) (by rw [List.getElem?_toArray]; rfl) (by kernel_rfl) (by kernel_rfl) (by kernel_rfl) (by exact fun _ _ _ h => h) (Or.inl ⟨by rfl, ?_⟩) h02 ?_
            rotate_left
            · intro W hW
              obtain ⟨d0, d1, dw, df, dt, f0, f1, -, -⟩ := hW
              go_simp
              all_goals with_reducible rfl
            simp only [Act.put, List.setIfInBounds_toArray, List.set_cons_zero, List.set_cons_succ]
            refine wpAnyH_take (i := 34) (v := ?_) (by rw [List.getElem?_toArray]; rfl) (by kernel_rfl) (by kernel_rfl) (by kernel_rfl) (by exact fun _ _ _ h => h) (Or.inl ⟨by rfl, ?_⟩) h02 ?_
            rotate_left
            · intro W hW
              obtain ⟨d0, d1, dw, df, dt, f0, f1, -, -⟩ := hW
              go_simp
              all_goals with_reducible rfl
            simp only [Act.put, List.setIfInBounds_toArray, List.set_cons_zero, List.set_cons_succ]
            refine wpAnyH_take (i := 35) (v := ?_) (by rw [List.getElem?_toArray]; rfl) (by kernel_rfl) (by kernel_rfl) (by kernel_rfl) (by exact fun _ _ _ h => h) (Or.inl ⟨by rfl, ?_⟩) h02 ?_
            rotate_left
            · intro W hW
              obtain ⟨d0, d1, dw, df, dt, f0, f1, -, -⟩ := hW
              go_simp
              all_goals with_reducible rfl
            simp only [Act.put, List.setIfInBounds_toArray, List.set_cons_zero, List.set_cons_succ]
            refine wpAnyH_take (i := 36) (v := ?_) (by rw [List.getElem?_toArray]; rfl) (by kernel_rfl) (by kernel_rfl) (by kernel_rfl) (by exact fun _ _ _ h => h) (Or.inl ⟨by rfl, ?_⟩) h02 ?_
            rotate_left
            · intro W hW
              obtain ⟨d0, d1, dw, df, dt, f0, f1, -, -⟩ := hW
              go_simp
              all_goals with_reducible rfl
            simp only [Act.put, List.setIfInBounds_toArray, List.set_cons_zero, List.set_cons_succ]
            refine wpAnyH_take (i := 37) (v := ?_) (by rw [List.getElem?_toArray]; rfl) (by kernel_rfl) (by kernel_rfl) (by kernel_rfl) (by exact fun _ _ _ h => h) (Or.inl ⟨by rfl, ?_⟩) h02 ?_
            rotate_left
            · intro W hW
              obtain ⟨d0, d1, dw, df, dt, f0, f1, -, -⟩ := hW
              go_simp
              all_goals with_reducible rfl
            simp only [Act.put, List.setIfInBounds_toArray, List.set_cons_zero, List.set_cons_succ]
            refine wpAnyH_take (i := 38) (v := ?_) (by rw [List.getElem?_toArray]; rfl) (by kernel_rfl) (by kernel_rfl) (by kernel_rfl) (by exact fun _ _ _ h => h) (Or.inl ⟨by rfl, ?_⟩) h02 ?_
            rotate_left
            · intro W hW
              obtain ⟨d0, d1, dw, df, dt, f0, f1, -, -⟩ := hW
              go_simp
              all_goals with_reducible rfl
            simp only [Act.put, List.setIfInBounds_toArray, List.set_cons_zero, List.set_cons_succ]
            refine wpAnyH_take (i := 39) (v := ?_) (by rw [List.getElem?_toArray]; rfl) (by kernel_rfl) (by kernel_rfl) (by kernel_rfl) (by exact fun _ _ _ h => h) (Or.inl ⟨by rfl, ?_⟩) h02 ?_
            rotate_left
            · intro W hW
              obtain ⟨d0, d1, dw, df, dt, f0, f1, -, -⟩ := hW
              go_simp
              all_goals with_reducible rfl
            simp only [Act.put, List.setIfInBounds_toArray, List.set_cons_zero, List.set_cons_succ]
            refine wpAnyH_ready (rs := [40]) (by kernel_rfl) (by simp) ?_
            refine AllReadyH.cons (by rw [List.getElem?_toArray]; rfl) (fun K hK => ?_) AllReadyH.nil
            rw [if_pos (by rfl)]
            go_wp2_with fail
            refine (knows_any _).mono ?_
            rintro e w7 ⟨rfl, hb7⟩
            go_wp2_with fail
            refine hK.out _ _ (S21_on h02 hb7) (fun h03 => ?_)
            clear hK K
            refine wpAnyH_take (i := 41) (v := ?_) (by rw [List.getElem?_toArray]; rfl) (by kernel_rfl) (by kernel_rfl) (by kernel_rfl) (by exact fun _ _ _ h => h) (Or.inl ⟨by rfl, ?_⟩) h03 ?_
            rotate_left
            · intro W hW
              obtain ⟨d0, d1, dw, df, dt, f0, f1, -, -⟩ := hW
              go_simp
              all_goals with_reducible rfl
            simp only [Act.put, List.setIfInBounds_toArray, List.set_cons_zero, List.set_cons_succ]
            refine wpAnyH_take (i := 42) (v := ?_) (by rw [List.getElem?_toArray]; rfl) (by kernel_rfl) (by kernel_rfl) (by kernel_rfl) (by exact fun _ _ _ h => h) (Or.inl ⟨by rfl, ?_⟩) h03 ?_
            rotate_left
            · intro W hW
              obtain ⟨d0, d1, dw, df, dt, f0, f1, -, -⟩ := hW
              go_simp
              all_goals with_reducible rfl
            simp only [Act.put, List.setIfInBounds_toArray, List.set_cons_zero, List.set_cons_succ]
            refine wpAnyH_done (by kernel_rfl) ?_ _
            obtain ⟨-, -, -, -, -, -, -, -, K9⟩ := h03
            have B9 := K9.B
            clear h0 h01 h02 h21
            go_wp2_with fail
            go_ret
            exact ⟨rfl, B9⟩
    · go_enter Try.func5, Try.ntmps5
      go_upto_region 2 with fail
      refine wp_region_held_drew (S := S2 w.heap.size tb o n F T) (by kernel_rfl) (hS2) (fun h0 => ?_)
      refine wpAnyH_take (i := 0) (v := ?_) (by rw [List.getElem?_toArray]; rfl) (by kernel_rfl) (by kernel_rfl) (by kernel_rfl) (by exact fun _ _ _ h => h) (Or.inl ⟨by rfl, ?_⟩) h0 ?_
      rotate_left
      · intro W hW
        obtain ⟨d0, d1⟩ := hW
        go_simp
        all_goals with_reducible rfl
      simp only [Act.put, List.setIfInBounds_toArray, List.set_cons_zero, List.set_cons_succ]
      refine wpAnyH_take (i := 1) (v := ?_) (by rw [List.getElem?_toArray]; rfl) (by kernel_rfl) (by kernel_rfl) (by kernel_rfl) (by exact fun _ _ _ h => h) (Or.inl ⟨by rfl, ?_⟩) h0 ?_
      rotate_left
      · intro W hW
        obtain ⟨d0, d1⟩ := hW
        go_simp
        all_goals with_reducible rfl
      simp only [Act.put, List.setIfInBounds_toArray, List.set_cons_zero, List.set_cons_succ]
      refine wpAnyH_take (i := 2) (v := ?_) (by rw [List.getElem?_toArray]; rfl) (by kernel_rfl) (by kernel_rfl) (by kernel_rfl) (by exact fun _ _ _ h => h) (Or.inl ⟨by rfl, ?_⟩) h0 ?_
      rotate_left
      · intro W hW
        obtain ⟨d0, d1⟩ := hW
        go_simp
        all_goals with_reducible rfl
      simp only [Act.put, List.setIfInBounds_toArray, List.set_cons_zero, List.set_cons_succ]
      refine wpAnyH_take (i := 3) (v := ?_) (by rw [List.getElem?_toArray]; rfl) (by kernel_rfl) (by kernel_rfl) (by kernel_rfl) (by exact fun _ _ _ h => h) (Or.inl ⟨by rfl, ?_⟩) h0 ?_
      rotate_left
      · intro W hW
        obtain ⟨d0, d1⟩ := hW
        go_simp
        all_goals with_reducible rfl
      simp only [Act.put, List.setIfInBounds_toArray, List.set_cons_zero, List.set_cons_succ]
      refine wpAnyH_take (i := 4) (v := ?_) (by rw [List.getElem?_toArray]; rfl) (by kernel_rfl) (by kernel_rfl) (by kernel_rfl) (by exact fun _ _ _ h => h) (Or.inl ⟨by rfl, ?_⟩) h0 ?_
      rotate_left
      · intro W hW
        obtain ⟨d0, d1⟩ := hW
        go_simp
        all_goals with_reducible rfl
      simp only [Act.put, List.setIfInBounds_toArray, List.set_cons_zero, List.set_cons_succ]
      refine wpAnyH_take (i := 5) (v := ?_) (by rw [List.getElem?_toArray]; rfl) (by kernel_rfl) (by kernel_rfl) (by kernel_rfl) (by exact fun _ _ _ h => h) (Or.inl ⟨by rfl, ?_⟩) h0 ?_
      rotate_left
      · intro W hW
        obtain ⟨d0, d1⟩ := hW
        go_simp
        all_goals with_reducible rfl
      simp only [Act.put, List.setIfInBounds_toArray, List.set_cons_zero, List.set_cons_succ]
      refine wpAnyH_take (i := 6) (v := ?_) (by rw [List.getElem?_toArray]; rfl) (by kernel_rfl) (by kernel_rfl) (by kernel_rfl) (by exact fun _ _ _ h => h) (Or.inl ⟨by rfl, ?_⟩) h0 ?_
      rotate_left
      · intro W hW
        obtain ⟨d0, d1⟩ := hW
        go_simp
        all_goals with_reducible rfl
      simp only [Act.put, List.setIfInBounds_toArray, List.set_cons_zero, List.set_cons_succ]
      refine wpAnyH_take (i := 7) (v := ?_) (by rw [List.getElem?_toArray]; rfl) (by kernel_rfl) (by kernel_rfl) (by kernel_rfl) (by exact fun _ _ _ h => h) (Or.inl ⟨by rfl, ?_⟩) h0 ?_
      rotate_left
      · intro W hW
        obtain ⟨d0, d1⟩ := hW
        go_simp
        all_goals with_reducible rfl
      simp only [Act.put, List.setIfInBounds_toArray, List.set_cons_zero, List.set_cons_succ]
      refine wpAnyH_take (i := 8) (v := ?_) (by rw [List.getElem?_toArray]; rfl) (by kernel_rfl) (by kernel_rfl) (by kernel_rfl) (by exact fun _ _ _ h => h) (Or.inl ⟨by rfl, ?_⟩) h0 ?_
      rotate_left
      · intro W hW
        obtain ⟨d0, d1⟩ := hW
        go_simp
        all_goals with_reducible rfl
      simp only [Act.put, List.setIfInBounds_toArray, List.set_cons_zero, List.set_cons_succ]
      refine wpAnyH_take (i := 9) (v := ?_) (by rw [List.getElem?_toArray]; rfl) (by kernel_rfl) (by kernel_rfl) (by kernel_rfl) (by exact fun _ _ _ h => h) (Or.inl ⟨by rfl, ?_⟩) h0 ?_
      rotate_left
      · intro W hW
        obtain ⟨d0, d1⟩ := hW
        go_simp
        all_goals with_reducible rfl
      simp only [Act.put, List.setIfInBounds_toArray, List.set_cons_zero, List.set_cons_succ]
      refine wpAnyH_take (i := 10) (v := ?_) (by rw [List.getElem?_toArray]; rfl) (by kernel_rfl) (by kernel_rfl) (by kernel_rfl) (by exact fun _ _ _ h => h) (Or.inl ⟨by rfl, ?_⟩) h0 ?_
      rotate_left
      · intro W hW
        obtain ⟨d0, d1⟩ := hW
        go_simp
        all_goals with_reducible rfl
      simp only [Act.put, List.setIfInBounds_toArray, List.set_cons_zero, List.set_cons_succ]
      refine wpAnyH_take (i := 11) (v := ?_) (by rw [List.getElem?_toArray]; rfl) (by kernel_rfl) (by kernel_rfl) (by kernel_rfl) (by exact fun _ _ _ h => h) (Or.inl ⟨by rfl, ?_⟩) h0 ?_
      rotate_left
      · intro W hW
        obtain ⟨d0, d1⟩ := hW
        go_simp
        all_goals with_reducible rfl
      simp only [Act.put, List.setIfInBounds_toArray, List.set_cons_zero, List.set_cons_succ]
      refine wpAnyH_take (i := 12) (v := ?_) (by rw [List.getElem?_toArray]; rfl) (by kernel_rfl) (by kernel_rfl) (by kernel_rfl) (by exact fun _ _ _ h => h) (Or.inl ⟨by rfl, ?_⟩) h0 ?_
      rotate_left
      · intro W hW
        obtain ⟨d0, d1⟩ := hW
        go_simp
        all_goals with_reducible rfl
      simp only [Act.put, List.setIfInBounds_toArray, List.set_cons_zero, List.set_cons_succ]
      refine wpAnyH_take (i := 13) (v := ?_) (by rw [List.getElem?_toArray]; rfl) (by kernel_rfl) (by kernel_rfl) (by kernel_rfl) (by exact fun _ _ _ h => h) (Or.inl ⟨by rfl, ?_⟩) h0 ?_
      rotate_left
      · intro W hW
        obtain ⟨d0, d1⟩ := hW
        go_simp
        all_goals with_reducible rfl
      simp only [Act.put, List.setIfInBounds_toArray, List.set_cons_zero, List.set_cons_succ]
      refine wpAnyH_done (by kernel_rfl) ?_ _
      clear h0
      go_wp2_with fail
      refine (knows_any _).mono ?_
      rintro e w1 ⟨rfl, hb⟩
      have B1 := cthen B0.drew hb B0.size
      go_wp2_with fail
      go_ret
      exact ⟨rfl, B1⟩
end Go.Proofs.Ytcogoncekbiacaa
