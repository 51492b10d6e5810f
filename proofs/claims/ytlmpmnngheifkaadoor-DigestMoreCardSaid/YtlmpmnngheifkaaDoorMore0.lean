/-
  Rows that lie apart: exact copies, and two rows of bytes that the call lays.
-/
import Derived.Test.YtlmpmnngheifkaaDoorClash
import Derived.Test.YtlmpmnngheifkaaDoorPair
import Derived.Test.YtlmpmnngheifkaaDoorDgRoots
namespace Go.Proofs.YtlmpmnngheifkaaDoor
set_option maxRecDepth 100000
open Go.RowKit

structure M3 (W0 W : World) (vp : Value) (vs : List Value) (L : List (List Int)) (v1 : Value) (x1 : List Int) (v2 : Value) (x2 : List Int) : Prop where
  pown : W.ownsRow 0 22 1 vp vs.length vs
  plen : vs.length = L.length
  each : ∀ i u, vs[i]? = some u → W.ownsRow 0 5 1 u (L.getD i []).length (bc (L.getD i []))
  o1 : W.ownsRow 0 5 1 v1 x1.length (bc x1)
  o2 : W.ownsRow 0 5 1 v2 x2.length (bc x2)
  sep : ∀ g, v1.ownBlock = some g → v2.ownBlock ≠ some g
  sep1 : ∀ g, v1.ownBlock = some g → vp.ownBlock ≠ some g ∧ ∀ u ∈ vs, u.ownBlock ≠ some g
  sep2 : ∀ g, v2.ownBlock = some g → vp.ownBlock ≠ some g ∧ ∀ u ∈ vs, u.ownBlock ≠ some g
  f1 : ∀ g, v1.ownBlock = some g → W0.heap.size ≤ g
  f2 : ∀ g, v2.ownBlock = some g → W0.heap.size ≤ g
  fp : ∀ g, vp.ownBlock = some g → W0.heap.size ≤ g
  below : Below W0.heap.size W0 W
def nilV : Value := .slice none 0 0
theorem nil_own (g : Nat) : nilV.ownBlock ≠ some g := by simp [nilV, Value.ownBlock]
section
variable {W0 W w2 : World} {vp : Value} {vs : List Value} {L : List (List Int)} {v1 v2 v' : Value} {x1 x2 ys : List Int} {m : Nat}
theorem M3.start (W0 : World) {W : World} (hb : Below W0.heap.size W0 W) : M3 W0 W nilV [] [] nilV [] nilV [] :=
  ⟨World.ownsRow_nil _ 0 _ 1, rfl, by simp, World.ownsRow_nil _ 0 _ 1, World.ownsRow_nil _ 0 _ 1, fun g h => absurd h (nil_own g), fun g h => absurd h (nil_own g), fun g h => absurd h (nil_own g), fun g h => absurd h (nil_own g), fun g h => absurd h (nil_own g), fun g h => absurd h (nil_own g), hb⟩
theorem M3.swap (h : M3 W0 W vp vs L v1 x1 v2 x2) : M3 W0 W vp vs L v2 x2 v1 x1 :=
  ⟨h.pown, h.plen, h.each, h.o2, h.o1, fun g h1 h2 => h.sep g h2 h1, h.sep2, h.sep1, h.f2, h.f1, h.fp, h.below⟩
theorem M3.on (h : M3 W0 W vp vs L v1 x1 v2 x2) (hb : Below W.heap.size W w2) : M3 W0 w2 vp vs L v1 x1 v2 x2 :=
  ⟨own_on h.pown hb, h.plen, fun i u hu => own_on (h.each i u hu) hb, own_on h.o1 hb, own_on h.o2 hb, h.sep, h.sep1, h.sep2, h.f1, h.f2, h.fp, h.below.trans (hb.mono h.below.size)⟩
theorem M3.call (h : M3 W0 W nilV [] [] v1 x1 v2 x2) {L : List (List Int)} (hp : PtS W w2 L L.length vp vs) : M3 W0 w2 vp vs L v1 x1 v2 x2 := by
  have hb := hp.below
  have hs := h.below.size
  have ap : ∀ {v : Value} {x : List Int}, W.ownsRow 0 5 1 v x.length (bc x) → ∀ g, v.ownBlock = some g → vp.ownBlock ≠ some g ∧ ∀ u ∈ vs, u.ownBlock ≠ some g := fun ho g hg => by
    have hl := own_lt ho hg
    refine ⟨fun e => by have := hp.fresh g e; omega, fun u hu e => ?_⟩
    obtain ⟨i, hi, rfl⟩ := List.getElem_of_mem hu
    have := (hp.each i _ (List.getElem?_eq_getElem hi)).2 g e
    omega
  exact ⟨by rw [hp.len]; exact hp.own, hp.len, fun i u hu => (hp.each i u hu).1, own_on h.o1 hb, own_on h.o2 hb, h.sep, ap h.o1, ap h.o2, h.f1, h.f2, fun g hg => Nat.le_trans hs (hp.fresh g hg), h.below.trans (hb.mono hs)⟩
theorem M3.new1 (h : M3 W0 W vp vs L nilV [] v2 x2) {k : Nat} (hk : W.heap.size = k) : M3 W0 (W.alloc (.cells #[] 5)) vp vs L (.slice (some ⟨k, 0, none⟩) 0 0) [] v2 x2 := by
  subst hk
  have hb : Below W.heap.size W (W.alloc (.cells #[] 5)) := (Below.refl _ _).alloc (Nat.le_refl _) _
  have h' := h.on hb
  have hs := h.below.size
  have e : ∀ g, (Value.slice (some ⟨W.heap.size, 0, none⟩) 0 0).ownBlock = some g → g = W.heap.size := fun g hg => by simp [Value.ownBlock] at hg; exact hg.symm
  refine ⟨h'.pown, h'.plen, h'.each, own_empty W _ 1, h'.o2, fun g hg e2 => ?_, fun g hg => ⟨fun e2 => ?_, fun u hu e2 => ?_⟩, h'.sep2, fun g hg => ?_, h'.f2, h'.fp, h'.below⟩
  · have := own_lt h.o2 e2; have := e g hg; omega
  · have := own_lt h.pown e2; have := e g hg; omega
  · obtain ⟨i, hi, rfl⟩ := List.getElem_of_mem hu
    have := own_lt (h.each i _ (List.getElem?_eq_getElem hi)) e2; have := e g hg; omega
  · have := e g hg; omega
theorem M3.new2 (h : M3 W0 W vp vs L v1 x1 nilV []) {k : Nat} (hk : W.heap.size = k) : M3 W0 (W.alloc (.cells #[] 5)) vp vs L v1 x1 (.slice (some ⟨k, 0, none⟩) 0 0) [] := (h.swap.new1 hk).swap
theorem M3.grow1 (h : M3 W0 W vp vs L v1 x1 v2 x2) (hm : ys.length = m) (own : w2.ownsRow 0 5 1 v' (x1.length + m) (bc x1 ++ bc ys)) (grow : W.grownBy w2 v1.ownBlock) (fr : v'.ownBlock = v1.ownBlock ∨ v'.ownBlock = some W.heap.size) : M3 W0 w2 vp vs L v' (x1 ++ ys) v2 x2 := by
  subst hm
  have hc : Chg W w2 v1.ownBlock.toList := Chg.grown grow (fun k hk => by simp [hk])
  have hs := h.below.size
  refine ⟨own_chg2 h.pown hc (fun g hg hm => (h.sep1 g (by simpa using hm)).1 hg), h.plen, fun i u hu => own_chg2 (h.each i u hu) hc (fun g hg hm => (h.sep1 g (by simpa using hm)).2 u (List.mem_of_getElem? hu) hg),
    by rw [List.length_append, bc_append]; exact own, own_chg2 h.o2 hc (fun g hg hm => h.sep g (by simpa using hm) hg), fun g hg e2 => ?_, fun g hg => ?_, h.sep2, fun g hg => ?_, h.f2, h.fp, h.below.grown grow hs h.f1⟩
  · rcases fr with e | e
    · rw [e] at hg; exact h.sep g hg e2
    · rw [e] at hg; have := own_lt h.o2 e2; simp at hg; omega
  · rcases fr with e | e
    · rw [e] at hg; exact h.sep1 g hg
    · rw [e] at hg
      simp at hg
      refine ⟨fun e2 => ?_, fun u hu e2 => ?_⟩
      · have := own_lt h.pown e2; omega
      · obtain ⟨i, hi, rfl⟩ := List.getElem_of_mem hu
        have := own_lt (h.each i _ (List.getElem?_eq_getElem hi)) e2; omega
  · rcases fr with e | e
    · rw [e] at hg; exact h.f1 g hg
    · rw [e] at hg; simp at hg; omega
theorem M3.grow2 (h : M3 W0 W vp vs L v1 x1 v2 x2) (hm : ys.length = m) (own : w2.ownsRow 0 5 1 v' (x2.length + m) (bc x2 ++ bc ys)) (grow : W.grownBy w2 v2.ownBlock) (fr : v'.ownBlock = v2.ownBlock ∨ v'.ownBlock = some W.heap.size) : M3 W0 w2 vp vs L v1 x1 v' (x2 ++ ys) := (h.swap.grow1 hm own grow fr).swap
/-- The longer list. -/
theorem M3.fin (h : M3 W0 W vp vs L v1 x1 v2 x2) {us : List Value} {M : List (List Int)} (hus : ∀ i u, us[i]? = some u → (u = v1 ∧ M.getD i [] = x1) ∨ (u = v2 ∧ M.getD i [] = x2)) (hl : us.length = M.length)
    (own : w2.ownsRow 0 22 1 v' (vs.length + us.length) (vs ++ us)) (grow : W.grownBy w2 vp.ownBlock) : RdL w2 v' (L ++ M) [] ∧ Below W0.heap.size W0 w2 := by
  have hc : Chg W w2 vp.ownBlock.toList := Chg.grown grow (fun k hk => by simp [hk])
  have keep : ∀ {u : Value} {n : Nat} {zs : List Value}, W.ownsRow 0 5 1 u n zs → w2.ownsRow 0 5 1 u n zs := fun ho => own_chg2 ho hc (fun g hg hm => own_two ho h.pown (by decide) hg (by simpa using hm))
  refine ⟨?_, h.below.grown grow h.below.size h.fp⟩
  obtain ⟨q, c, rfl⟩ := own_slice own
  have hlen : (L ++ M).length = vs.length + us.length := by rw [List.length_append, h.plen, hl]
  refine ⟨q, c, by rw [hlen], ?_⟩
  rcases own.2 with ⟨_, h0⟩ | ⟨g, cap, cur, e1, _, hg, _⟩
  · exact .inl (List.eq_nil_of_length_eq_zero (by rw [hlen]; exact h0))
  · simp only [Value.slice.injEq] at e1
    obtain ⟨rfl, -, -⟩ := e1
    refine .inr ⟨g, 0, rfl, by simp, fun i hi => ?_⟩
    rw [hlen] at hi
    obtain ⟨u, hu⟩ : ∃ u, (vs ++ us)[i]? = some u := ⟨_, List.getElem?_eq_getElem (by rw [List.length_append]; exact hi)⟩
    have hcell := own.cells (g := g) rfl i u hu
    rw [addr_add] at hcell
    refine ⟨u, hcell, ?_, fun _ _ _ => by simp⟩
    by_cases hiv : i < vs.length
    · rw [List.getElem?_append_left hiv] at hu
      have e : (L ++ M).getD i [] = L.getD i [] := by simp [List.getD, List.getElem?_append_left (show i < L.length by rw [← h.plen]; exact hiv)]
      rw [e]
      exact rd_of_row (keep (h.each i u hu))
    · rw [List.getElem?_append_right (by omega)] at hu
      have e : (L ++ M).getD i [] = M.getD (i - vs.length) [] := by simp [List.getD, List.getElem?_append_right (show L.length ≤ i by rw [← h.plen]; omega), h.plen]
      rw [e]
      rcases hus _ u hu with ⟨rfl, e2⟩ | ⟨rfl, e2⟩
      · rw [e2]; exact rd_of_row (keep h.o1)
      · rw [e2]; exact rd_of_row (keep h.o2)
end
end Go.Proofs.YtlmpmnngheifkaaDoor
