/-
  A region that draws its order and ends with a store: what it loads may be read first, though the store changes it.; Short steps through a region that draws its order; a row laid anew beside a map.; The document's map: Put.; A proof out of a tree, plain: what stands beside a key's way, level by level; the root behind it.
-/
import Derived.Lib.Hide
import Derived.Test.YtjlodnecdngdfaaDoorSy2
import Derived.Test.YtjlodnecdngdfaaDoorSy6
import Derived.Test.YtjlodnecdngdfaaDoorSy15
import Derived.Test.YtjlodnecdngdfaaDoorSy18
namespace Go.Proofs.YtjlodnecdngdfaaDoor
open Go.RowKit

section
variable {P : Program} {ops : Array Oper} {Q : Exit → Act → World → Prop} {md : Region.Mode} {S : World → Prop} {z : Nat}
/-- In any order; `S` is kept by all that comes but operation `z`. -/
def Ht (P : Program) (md : Region.Mode) (ops : Array Oper) (Q : Exit → Act → World → Prop) (S : World → Prop) (z : Nat) (fuel : Nat) : Array Bool → Act → World → Prop :=
  fuel.rec (fun l a w => Region.ready md ops l = [] ∧ Q .normal a w) fun _ next l a w =>
    (∀ j ∈ Region.ready md ops l, wpOp P ops Q j (fun b v => (j = z ∨ S v) ∧ next (l.setIfInBounds j true) b v) a w) ∧ (Region.ready md ops l = [] → Q .normal a w)
theorem Ht.any : ∀ {fuel : Nat} {l : Array Bool} {a : Act} {w : World}, Ht P md ops Q S z fuel l a w → wpAny P md ops Q fuel l a w
  | 0, _, _, _, h => h
  | _ + 1, _, _, _, h => ⟨h.2, fun j hj => wpOp_mono (fun _ _ k => Ht.any k.2) (h.1 j hj)⟩
/-- Every one of `D` waits for `i`, or for another of `D`. -/
def waitsFor (md : Region.Mode) (ops : Array Oper) (i : Nat) (D : List Nat) : Bool :=
  D.all fun d => match ops[d]? with
    | none => true
    | some o => o.after.any fun e => Region.binds md e && (e.on == i || D.contains e.on)
theorem waits_no {i : Nat} {D : List Nat} (hD : waitsFor md ops i D = true) {l : Array Bool} (hi : l.getD i false = false) (hl : ∀ d ∈ D, l.getD d false = false) {j : Nat} (hj : j ∈ Region.ready md ops l) : j ∉ D := fun hm => by
  obtain ⟨_, o, ho, hall⟩ := mem_ready.1 hj
  have h1 := List.all_eq_true.1 hD j hm
  rw [ho] at h1
  obtain ⟨e, he, h2⟩ := Array.any_eq_true'.1 h1
  rw [Bool.and_eq_true, Bool.or_eq_true] at h2
  have h3 := hall e he h2.1
  rcases h2.2 with h4 | h4
  · rw [beq_iff_eq.1 h4, hi] at h3; cases h3
  · rw [hl e.on (by simpa using h4)] at h3; cases h3
theorem Ht.first {i : Nat} {oi : Oper} {v : Value} {D : List Nat} (hi : ops[i]? = some oi) (hsel : ∀ (j : Nat) (o : Oper) cs b, ops[j]? = some o → o.op ≠ .select cs b)
    (hQ : ∀ c a w, Q (.panic c) (a.put oi.dst v) w → Q (.panic c) a w) (hD : waitsFor md ops i D = true) (hz : z ∈ D) :
    ∀ (fuel : Nat) (l : Array Bool) (a : Act) (w : World),
      (∀ j oj, ops[j]? = some oj → j ≠ i → l.getD j true = false → (∀ e ∈ oj.after, Region.binds md e = true → e.on ≠ i) → oi.apart ops oj = true) →
      i ∈ Region.ready md ops l → l.getD i false = false → (∀ d ∈ D, l.getD d false = false) → YieldsIf P ops S oi v a → S w →
      Ht P md ops Q S z fuel (l.setIfInBounds i true) (a.put oi.dst v) w → Ht P md ops Q S z (fuel + 1) l a w := by
  intro fuel
  induction fuel with
  | zero =>
    intro l a w _ hr _ _ hy hS H
    refine ⟨fun j hj => ?_, fun h => by rw [h] at hr; cases hr⟩
    by_cases e : j = i
    · rw [e]; exact hy.wpOp hi hS ⟨.inr hS, H⟩
    · have := ready_mono hj e
      rw [H.1] at this
      cases this
  | succ fuel ih =>
    intro l a w hfree hr hl0 hlD hy hS H
    refine ⟨fun j hj => ?_, fun h => by rw [h] at hr; cases hr⟩
    by_cases e : j = i
    · rw [e]; exact hy.wpOp hi hS ⟨.inr hS, H⟩
    · obtain ⟨hun, oj, hoj, hall⟩ := mem_ready.1 hj
      have hno : ∀ e ∈ oj.after, Region.binds md e = true → e.on ≠ i := fun x hx hb h => by
        have h3 := hall x hx hb
        rw [h, hl0] at h3; cases h3
      have hjD := waits_no hD hl0 hlD hj
      refine wpOp_mono (fun b u k => ?_) (wpOp_putIf hoj (hfree j oj hoj e hun hno) (fun cs c => hsel i oi cs c hi) (fun cs c => hsel j oj cs c hoj) hQ hy (H.1 j (ready_mono hj e)))
      obtain ⟨k1, k2, k3⟩ := k
      have hS2 : S u := by
        rcases k2 with k2 | k2
        · exact absurd (by rw [k2]; exact hz) hjD
        · exact k2
      refine ⟨.inr hS2, ih (l.setIfInBounds j true) b u (fun k ok hk hki hu hn => hfree k ok hk hki ?_ hn) (ready_mono hr (Ne.symm e)) (by rw [getD_set_ne false e]; exact hl0) (fun d hd => by rw [getD_set_ne false (show j ≠ d from fun h => hjD (by rw [h]; exact hd))]; exact hlD d hd) k1 hS2 ?_⟩
      · by_cases hjk : j = k
        · rw [← hjk]; exact hun
        · rwa [getD_set_ne true hjk] at hu
      · rw [Array.setIfInBounds_comm _ _ e]
        exact k3
def allUn (l : Array Bool) (D : List Nat) : Bool := D.all fun d => l.getD d false == false
theorem Ht.start {id : Nat} {a : Act} {w : World} (S : World → Prop) (z : Nat) (hS : S w.drew) (h : S w.drew → Ht P .any ops Q S z ops.size (Array.replicate ops.size false) a w.drew) (hm : P.follows .mixedOrders = true := by kernel_rfl) : (Code.region id ops true).wp P Q a w :=
  wp_region_any hm (Ht.any (h hS))
/-- What yields under `S` may be taken. -/
theorem tkz (i : Nat) (D : List Nat) {oi : Oper} {v : Value} {fuel : Nat} {l l' : Array Bool} {a a' : Act} {w : World} (hS : S w) (h : Ht P md ops Q S z fuel l' a' w)
    (hi : ops[i]? = some oi := by rw [List.getElem?_toArray]; rfl)
    (hw : Region.wanted oi (yielded ops a.tmps) = true := by rfl)
    (hy : ∀ W, S W → (execOp a.eval oi).run P W = .ok (.value v) W := by intro W hW; go_simp; all_goals with_reducible rfl)
    (hl : l.setIfInBounds i true = l' := by first | (simp only [List.setIfInBounds_toArray, List.set_cons_zero, List.set_cons_succ]; rfl) | rfl)
    (ha : a.put oi.dst v = a' := by simp only [Act.put, List.setIfInBounds_toArray, List.set_cons_zero, List.set_cons_succ]; rfl)
    (hs : Region.noSelect ops = true := by kernel_rfl) (hf : Region.free md ops l i = true := by kernel_rfl) (hr : (Region.ready md ops l).contains i = true := by kernel_rfl)
    (hD : waitsFor md ops i D = true := by kernel_rfl) (hz : D.contains z = true := by kernel_rfl) (hu : allUn l (i :: D) = true := by kernel_rfl)
    (hQ : ∀ c a w, Q (.panic c) (a.put oi.dst v) w → Q (.panic c) a w := by exact fun _ _ _ h => h) : Ht P md ops Q S z (fuel + 1) l a w := by
  subst hl ha
  have hu2 := List.all_eq_true.1 hu
  exact Ht.first hi (Region.noSelect_spec hs) hQ hD (by simpa using hz) fuel l a w (Region.free_spec hi hf) (by simpa using hr) (by simpa using hu2 i (by simp)) (fun d hd => by simpa using hu2 d (by simp [hd])) (.inl ⟨hw, hy⟩) hS h
/-- The next operation, where but one may come. -/
theorem nxz (i : Nat) {o : Oper} {fuel : Nat} {l l' : Array Bool} {a a' : Act} {w : World}
    (h : ∀ K' : Act → World → Prop, Shut (∀ a w, S w → (S w → Ht P md ops Q S z fuel l' a w) → K' a w) → Oper.wp P o a' w K' Q)
    (hr : Region.ready md ops l = [i] := by kernel_rfl) (ho : ops[i]? = some o := by rw [List.getElem?_toArray]; rfl)
    (ha : a = a' := by first | (simp only [Act.put, List.setIfInBounds_toArray, List.set_cons_zero, List.set_cons_succ]; rfl) | rfl)
    (hw : Region.wanted o (yielded ops a.tmps) = true := by rfl)
    (hl : l.setIfInBounds i true = l' := by first | (simp only [List.setIfInBounds_toArray, List.set_cons_zero, List.set_cons_succ]; rfl) | rfl) : Ht P md ops Q S z (fuel + 1) l a w := by
  subst hl ha
  refine ⟨fun j hj => ?_, fun e => by rw [hr] at e; cases e⟩
  rw [hr] at hj
  obtain rfl := List.mem_singleton.1 hj
  exact wpOp_step ho (fun K' hK => by rw [if_pos hw]; exact h K' (fun a w hS k => hK a w ⟨.inr hS, k hS⟩))
/-- The last one: nothing need be kept. -/
theorem lsz {o : Oper} {fuel : Nat} {l l' : Array Bool} {a a' : Act} {w : World}
    (h : ∀ K' : Act → World → Prop, Shut (∀ a w, Q .normal a w → K' a w) → Oper.wp P o a' w K' Q)
    (hr : Region.ready md ops l = [z] := by kernel_rfl) (ho : ops[z]? = some o := by rw [List.getElem?_toArray]; rfl)
    (ha : a = a' := by first | (simp only [Act.put, List.setIfInBounds_toArray, List.set_cons_zero, List.set_cons_succ]; rfl) | rfl)
    (hw : Region.wanted o (yielded ops a.tmps) = true := by rfl)
    (hl : l.setIfInBounds z true = l' := by first | (simp only [List.setIfInBounds_toArray, List.set_cons_zero, List.set_cons_succ]; rfl) | rfl)
    (he : Region.ready md ops l' = [] := by kernel_rfl) : Ht P md ops Q S z (fuel + 1) l a w := by
  subst hl ha
  refine ⟨fun j hj => ?_, fun e => by rw [hr] at e; cases e⟩
  rw [hr] at hj
  obtain rfl := List.mem_singleton.1 hj
  refine wpOp_step ho (fun K' hK => by
    rw [if_pos hw]
    refine h K' (fun a w k => hK a w ⟨.inl rfl, ?_⟩)
    cases fuel with
    | zero => exact ⟨he, k⟩
    | succ n => exact ⟨fun i hi => (by rw [he] at hi; cases hi), fun _ => k⟩)
/-- Two may come. -/
theorem twz (i k : Nat) {o o' : Oper} {fuel : Nat} {l l' l'' : Array Bool} {a a' : Act} {w : World}
    (h : ∀ K' : Act → World → Prop, Shut (∀ a w, S w → (S w → Ht P md ops Q S z fuel l' a w) → K' a w) → Oper.wp P o a' w K' Q)
    (h2 : ∀ K' : Act → World → Prop, Shut (∀ a w, S w → (S w → Ht P md ops Q S z fuel l'' a w) → K' a w) → Oper.wp P o' a' w K' Q)
    (hr : Region.ready md ops l = [i, k] := by kernel_rfl) (ho : ops[i]? = some o := by rw [List.getElem?_toArray]; rfl) (ho2 : ops[k]? = some o' := by rw [List.getElem?_toArray]; rfl)
    (ha : a = a' := by first | (simp only [Act.put, List.setIfInBounds_toArray, List.set_cons_zero, List.set_cons_succ]; rfl) | rfl)
    (hw : Region.wanted o (yielded ops a.tmps) = true := by rfl) (hw2 : Region.wanted o' (yielded ops a.tmps) = true := by rfl)
    (hl : l.setIfInBounds i true = l' := by first | (simp only [List.setIfInBounds_toArray, List.set_cons_zero, List.set_cons_succ]; rfl) | rfl)
    (hl2 : l.setIfInBounds k true = l'' := by first | (simp only [List.setIfInBounds_toArray, List.set_cons_zero, List.set_cons_succ]; rfl) | rfl) : Ht P md ops Q S z (fuel + 1) l a w := by
  subst hl hl2 ha
  refine ⟨fun j hj => ?_, fun e => by rw [hr] at e; cases e⟩
  rw [hr] at hj
  rcases List.mem_cons.1 hj with rfl | hj
  · exact wpOp_step ho (fun K' hK => by rw [if_pos hw]; exact h K' (fun a w hS k => hK a w ⟨.inr hS, k hS⟩))
  · obtain rfl := List.mem_singleton.1 hj
    exact wpOp_step ho2 (fun K' hK => by rw [if_pos hw2]; exact h2 K' (fun a w hS k => hK a w ⟨.inr hS, k hS⟩))
end
end Go.Proofs.YtjlodnecdngdfaaDoor
namespace Go.Proofs.YtjlodnecdngdfaaDoor
open Go.RowKit
set_option maxRecDepth 100000

section
variable {w0 w1 W : World} {acc v : Value} {n pm c : Nat} {q : Option Addr} {xs : List Value} {lit : Option Nat} {x : List Int × List Int} {L : PrL}
theorem AcS.cc (R : Hid (RmS w0 w1 pm v L)) (h : Hid (AcS w1 W acc n xs lit x)) : W.cell? ⟨pm, 0, none⟩ = some v := (R.out.on h.out.below).cell
theorem AcS.bk (R : Hid (RmS w0 w1 pm v L)) (h : Hid (AcS w1 W acc n xs lit x)) : W.heap[pm]? = some (.cells #[v] 43 (0, 0)) := (R.out.on h.out.below).blk
theorem AcS.fz (R : Hid (RmS w0 w1 pm v L)) (h : Hid (AcS w1 W acc n xs lit x)) : W.frozen? ⟨pm, 0, none⟩ = false := Joins.unfrozen_of_block (R.out.on h.out.below).blk 0
theorem AcS.sTo (R : Hid (RmS w0 w1 pm (.slice q n c) L)) {n' i : Nat} (h : Hid (AcS w1 W acc n' xs lit x)) (hi : i ≤ L.length) : Src Tryd.prog 64 22 (.slice q i c) i (prs (L.take i)) W := (R.out.on h.out.below).srcTo hi
theorem AcS.sFrom (R : Hid (RmS w0 w1 pm (.slice q n c) L)) {n' i : Nat} (h : Hid (AcS w1 W acc n' xs lit x)) (hi : i ≤ L.length) : Src Tryd.prog 64 22 (.slice (cutQ q c i) (L.length - i) (c - i)) (L.length - i) (prs (L.drop i)) W := (R.out.on h.out.below).srcFrom hi
theorem AcS.sLit {lb : Nat} (ok : Hid (PrOk x)) (h : Hid (AcS w1 W acc n xs (some lb) x)) : Src Tryd.prog 64 22 (.slice (some ⟨lb, 0, none⟩) 1 1) 1 (prs [x]) W := (h.out.lit lb rfl).1.src (P := Tryd.prog) (c := 1) (fun y hy => by rw [List.mem_singleton.1 hy]; exact ok.out) Tryd.underlying22
theorem AcS.em (h : Hid (AcS w1 W acc n xs lit x)) (ok : Hid (PrOk x)) : ∃ W1 ob, W.alloc (.cells #[] 37) = W1 ∧ W.heap.size = ob ∧ Hid (AcS w1 W1 (.slice (some ⟨ob, 0, none⟩) 0 0) 0 [] lit x) := ⟨_, _, rfl, rfl, h.out.empty ok.out⟩
theorem AcS.li (h : Hid (AcS w1 W acc n xs lit x)) (ok : Hid (PrOk x)) : ∃ W1 lb, W.alloc (.cells (prRow x.1 x.2).toArray 37) = W1 ∧ W.heap.size = lb ∧ Hid (AcS w1 W1 acc n xs (some lb) x) := ⟨_, _, rfl, rfl, h.out.literal ok.out⟩
theorem AcS.wpApp {o : Oper} {a : Act} {K : Act → World → Prop} {Q : Exit → Act → World → Prop} {s y : Operand} {m n' : Nat} {news xs' : List Value}
    (ho : o.op = .call { callee := .builtin .append, args := #[s, y], argTypes := #[22, 22] })
    (h : Hid (AcS w1 W (a.eval s) n xs lit x)) (hs : Src Tryd.prog 64 22 (a.eval y) m news W) (k : ∀ q' k' W', Hid (AcS w1 W' (.slice q' n' k') n' xs' lit x) → K (a.put o.dst (.slice q' n' k')) W')
    (hn : n + m = n' := by first | exact Nat.zero_add _ | rfl) (hx : xs ++ news = xs' := by first | exact List.nil_append _ | rfl) (hb : n + m ≤ 100000 := by omega) : o.wp Tryd.prog a W K Q := by
  subst hn hx
  obtain ⟨i0, hi, hz0, hz1, hz2⟩ := info_parts Tryd.infoPr5
  exact wp_append_row _ _ ho Tryd.underlying22 hi hz0 hz1 hz2 zero_cellsP h.out.own hs (by unfold maxLen; omega) (by omega) (fun q c w' own grow fr => k q c w' (h.out.app own grow fr))
end
end Go.Proofs.YtjlodnecdngdfaaDoor
namespace Go.Proofs.YtjlodnecdngdfaaDoor
open Go.RowKit
set_option maxRecDepth 100000

def Put5Q (w0 w : World) (pm : Nat) (v : Value) (L' : PrL) (e : Ending) (w' : World) : Prop :=
  e = .returned (.int .i64 0) ∧ ∃ v', RmS w0 w' pm v' L' ∧ Chg w w' (pm :: v.ownBlock.toList) ∧ (v'.ownBlock = v.ownBlock ∨ ∀ g, v'.ownBlock = some g → w.heap.size ≤ g)
theorem Put5_fin {w0 w w1 W W' : World} {pm n : Nat} {v acc : Value} {L L' : PrL} {xs : List Value} {lit : Option Nat} {x : List Int × List Int} (h : RmS w0 w1 pm v L) (hb : Below w.heap.size w w1) (_ : pm < w.heap.size) (AC : AcS w1 W acc n xs lit x) (hbk : W.heap[pm]? = some (.cells #[v] 43 (0, 0)))
    (hW : W' = W.setCell ⟨pm, 0, none⟩ acc) (hn : n = L'.length) (hx : xs = prs L') (ok : PrsOk L') (srt : SrtR L') : Put5Q w0 w pm v L' (.returned (.int .i64 0)) W' := by
  subst hW hn hx
  have c1 : Chg W (W.setCell ⟨pm, 0, none⟩ acc) [pm] := (Chg.refl _ _).setCell (p := ⟨pm, 0, none⟩) (.inl (by simp)) _
  have hb2 := hb.trans (AC.below.mono hb.size)
  refine ⟨rfl, acc, ⟨?_, own_chg2 AC.own c1 (fun g hg hm => own_ne AC.own hbk (by decide) (by rw [hg, List.mem_singleton.1 hm])), ok, srt, h.lo, fun g hg => Nat.le_trans h.below.size (AC.fresh g hg), ?_⟩, ?_, .inr (fun g hg => Nat.le_trans hb.size (AC.fresh g hg))⟩
  · exact (Joins.block_setCell hbk acc).trans (by rfl)
  · exact (h.below.trans (AC.below.mono h.below.size)).trans (c1.toBelow (Nat.le_trans h.below.size AC.below.size) (fun g hg => by rw [List.mem_singleton.1 hg]; exact h.lo))
  · exact (Chg.below hb2 (Nat.le_refl _) _).trans c1 (fun g hg _ => by rw [List.mem_singleton.1 hg]; simp)
theorem prs_set : ∀ {L : PrL} {i : Nat} {x : List Int × List Int}, prs (L.set i x) = if i < L.length then prs (L.take i) ++ (prRow x.1 x.2 ++ prs (L.drop (i + 1))) else prs L
  | [], i, x => by simp
  | y :: L, 0, x => by simp [prs]
  | y :: L, i + 1, x => by
    rw [List.set_cons_succ, prs_cons, prs_set, List.take_succ_cons, prs_cons, List.drop_succ_cons, List.length_cons]
    by_cases h : i < L.length
    · rw [if_pos h, if_pos (by omega), List.append_assoc]
    · rw [if_neg h, if_neg (by omega), prs_cons]
theorem Put5_keep {w0 w1 : World} {pm i b c vb : Nat} {L : PrL} {V : List Int} (h : RmS w0 w1 pm (.slice (some ⟨b, 0, none⟩) L.length c) L) (hV : HashAt w1 vb V) (hn : vb ≠ b) : (w1.setCells b (i * 64 + 32) (hc V)).cell? ⟨pm, 0, none⟩ = some (.slice (some ⟨b, 0, none⟩) L.length c) ∧ HashAt (w1.setCells b (i * 64 + 32) (hc V)) vb V := by
  have hp : pm ≠ b := fun e => h.np (by rw [e]; rfl)
  refine ⟨?_, hV.others hn _ _⟩
  have e : (w1.setCells b (i * 64 + 32) (hc V)).heap[pm]? = some (.cells #[.slice (some ⟨b, 0, none⟩) L.length c] 43 (0, 0)) := by rw [setCells_other hp]; exact h.blk
  exact (Joins.cell_of_block e 0).trans rfl
theorem Put5_row {w0 w1 : World} {pm b c : Nat} {L : PrL} (h : RmS w0 w1 pm (.slice (some ⟨b, 0, none⟩) L.length c) L) : ∃ tail : List Value, w1.heap[b]? = some (.cells (prs L ++ tail).toArray 37 (0, 0)) := by
  rcases h.own.2 with ⟨e, _⟩ | ⟨g, cap, cur, e, _, hg, hnc, hcm, hcs', htake⟩
  · cases e
  · simp only [Value.slice.injEq, Option.some.injEq, Addr.mk.injEq] at e
    obtain ⟨⟨rfl, -, -⟩, -, -⟩ := e
    refine ⟨cur.toList.drop (L.length * 64), ?_⟩
    rw [hg]
    congr 2
    apply Array.ext'
    show cur.toList = prs L ++ cur.toList.drop (L.length * 64)
    rw [← htake, List.take_append_drop]
theorem Put5_there {w0 w1 : World} {pm i b c : Nat} {L : PrL} (h : RmS w0 w1 pm (.slice (some ⟨b, 0, none⟩) L.length c) L) (hi : i < L.length) : w1.there b (i * 64 + 32) 32 := fun j hj => by
  obtain ⟨tail, hb⟩ := Put5_row h
  refine ⟨?_, Joins.unfrozen_of_block hb _⟩
  rw [cell_of_row _ _ _ _ _ _ hb]
  have := prs_len h.ok
  simp [this]; omega
theorem Put5_set {w0 w w1 : World} {pm i b c : Nat} {L : PrL} {K V : List Int} (h : RmS w0 w1 pm (.slice (some ⟨b, 0, none⟩) L.length c) L) (hb : Below w.heap.size w w1) (_ : pm < w.heap.size) (hk : (L.getD i pr0).1 = K) (lV : V.length = 32) (bV : Bytes V) (hi : i < L.length) :
    Put5Q w0 w pm (.slice (some ⟨b, 0, none⟩) L.length c) (L.set i (K, V)) (.returned (.int .i64 0)) (w1.setCells b (i * 64 + 32) (hc V)) := by
  obtain ⟨tail, hbk⟩ := Put5_row h
  have lK : K.length = 32 := by rw [← hk]; exact (prOk_get h.ok hi).k.len
  have lO : (L.getD i pr0).2.length = 32 := (prOk_get h.ok hi).l
  have c1 : Chg w1 (w1.setCells b (i * 64 + 32) (hc V)) [b] := (Chg.refl w1 [b]).setCells (b := b) (.inl (by simp)) (hc V) (i * 64 + 32)
  have hpb : pm ≠ b := fun e => h.np (by rw [e]; rfl)
  have hok : PrsOk (L.set i (K, V)) := fun x hx => by
    rcases List.mem_or_eq_of_mem_set hx with h1 | h1
    · exact h.ok x h1
    · rw [h1]; exact ⟨by show KyOk K; rw [← hk]; exact (prOk_get h.ok hi).k, lV, bV⟩
  have e0 : L = L.take i ++ (K, (L.getD i pr0).2) :: L.drop (i + 1) := by
    have e1 : L[i] = (K, (L.getD i pr0).2) := by
      have e2 : L.getD i pr0 = L[i] := by simp [List.getD, hi]
      rw [← e2, ← hk]
    rw [← e1, List.getElem_cons_drop, List.take_append_drop]
  have lt : (prs (L.take i)).length = i * 64 := by
    have := prs_len (L := L.take i) (fun x hx => h.ok x (List.mem_of_mem_take hx))
    rw [this, List.length_take, Nat.min_eq_left (Nat.le_of_lt hi)]
  have e3 : prs L ++ tail = (prs (L.take i) ++ hc K) ++ (hc (L.getD i pr0).2 ++ (prs (L.drop (i + 1)) ++ tail)) := by
    conv => lhs; rw [e0]
    rw [prs_append, prs_cons]
    simp [prRow, List.append_assoc]
  have hbk2 := hbk
  rw [e3] at hbk2
  have h9 := setCells_block (hc V) (o := i * 64 + 32) hbk2 (by rw [List.length_append, lt, hc_len, lK]) (by rw [hc_len, hc_len, lV, lO])
  have e4 : (prs (L.take i) ++ hc K) ++ (hc V ++ (prs (L.drop (i + 1)) ++ tail)) = prs (L.set i (K, V)) ++ tail := by
    rw [prs_set, if_pos hi]
    simp [prRow, List.append_assoc]
  rw [e4] at h9
  have hsrt : SrtR (L.set i (K, V)) := by
    have hs := h.srt
    unfold SrtR at hs ⊢
    have hm : (L.set i (K, V)).map (·.1) = L.map (·.1) := by
      rw [List.map_set]
      apply List.ext_getElem (by simp)
      intro j h1 h2
      rw [List.getElem_set]
      split
      · rename_i e; subst e
        have e2 : L.getD i pr0 = L[i] := by simp [List.getD, hi]
        simp [← hk, hi]
      · rfl
    have key : ∀ M : PrL, (M.Pairwise fun a b => cmpB a.1 b.1 < 0) ↔ (M.map (·.1)).Pairwise fun a b => cmpB a b < 0 := fun M => by rw [List.pairwise_map]
    rw [key, hm, ← key]; exact hs
  refine ⟨rfl, _, ⟨by rw [c1.block pm h.lt (by simpa using hpb)]; exact h.blk, ?_, hok, hsrt, h.lo, h.fresh, h.below.trans (c1.toBelow h.below.size (fun g hg => by rw [List.mem_singleton.1 hg]; exact h.fresh b rfl))⟩, ?_, .inl rfl⟩
  · obtain ⟨o1, o2⟩ := h.own
    rcases o2 with ⟨e, _⟩ | ⟨g, cap, cur, e, hqq, hg, hnc, hcm, hcs', htake⟩
    · cases e
    · simp only [Value.slice.injEq, Option.some.injEq, Addr.mk.injEq] at e
      obtain ⟨⟨rfl, -, -⟩, -, rfl⟩ := e
      have hcur : cur = (prs L ++ tail).toArray := by
        rw [hbk] at hg
        simpa using hg.symm
      have hlen : (prs (L.set i (K, V))).length = (prs L).length := by rw [prs_len hok, prs_len h.ok]; simp
      refine ⟨by rw [prs_len hok], .inr ⟨b, c, (prs (L.set i (K, V)) ++ tail).toArray, by simp, hqq, h9, by simpa using hnc, hcm, ?_, ?_⟩⟩
      · rw [hcur] at hcs'
        simpa [hlen] using hcs'
      · rw [prs_len hok |>.symm] at *
        simp
  · exact (Chg.below hb (Nat.le_refl _) _).trans c1 (fun g hg _ => by rw [List.mem_singleton.1 hg]; simp [Value.ownBlock])
set_option maxHeartbeats 64000000 in
theorem Put5_any {w0 w : World} {pm : Nat} {v : Value} {L : PrL} {K V : List Int} (hm : RmS w0 w pm v L) (hKy : KyOk K) (lV : V.length = 32) (bV : Bytes V) (hl : L.length ≤ 4000) :
    Calls Tryd.prog 14 #[.pointer (some ⟨pm, 0, none⟩), .agg (hc K).toArray, .agg (hc V).toArray] w (Put5Q w0 w pm v (putR K V L)) := by
  obtain ⟨q, c, rfl⟩ := hm.slice
  have b1 : Below w.heap.size w ((w.alloc (.cells (hc K).toArray 24)).alloc (.cells (hc V).toArray 24)) := ((Below.refl w.heap.size w).alloc (Nat.le_refl _) (.cells (hc K).toArray 24)).alloc (by simp) (.cells (hc V).toArray 24)
  have HK1 := Lib.hid ((HashAt.new w K).alloc (.cells (hc V).toArray 24))
  have HV1 := HashAt.new (w.alloc (.cells (hc K).toArray 24)) V
  simp only [World.size_alloc] at HV1
  replace HV1 := Lib.hid HV1
  have RM1 := Lib.hid (hm.on b1)
  have B1 := Lib.hid b1
  have HKY := Lib.hid hKy
  have LV : Hid (V.length = 32) := lV
  have BV := Lib.hid bV
  have OKX : Hid (PrOk (K, V)) := Lib.hid ⟨hKy, lV, bV⟩
  have lK := hKy.len
  have hlK := hc_len K
  have hlV := hc_len V
  have z32 := zero32_len
  have hpl := prRow_len lK lV
  have HP0 := Lib.hid hm.lt
  have VN0 : Hid (∀ g, (Value.slice q L.length c).ownBlock = some g → w.heap.size + 1 ≠ g) := fun g hg => by have := own_lt hm.own hg; omega
  have HIL := Lib.hid (fiR_le K L)
  have nC : L.length ≤ c := hm.cap.2
  clear hm b1 hKy bV
  obtain ⟨i, hii⟩ : ∃ i, fiR K L = i := ⟨_, rfl⟩
  have HI := Lib.hid hii
  have hiL : i ≤ L.length := by have := HIL.out; omega
  obtain ⟨t, htt⟩ : ∃ t, thR K L = t := ⟨_, rfl⟩
  have HTH := Lib.hid htt
  clear hii htt HIL
  have ne4 : (4096 : Int) ≤ (L.length : Int) ↔ False := by constructor; intro h; omega; exact False.elim
  have ne5 : ¬ (4096 : Int) ≤ (L.length : Int) := by omega
  clear ne4
  have rK := HK1.out.row lK
  go_enter Tryd.func14, Tryd.ntmps14
  go_wp2_with fail
  clear rK
  have FD := find5_any RM1.out HKY.out (by omega)
  rw [HI.out, HTH.out] at FD
  refine FD.mono ?_
  rintro e w2 ⟨rfl, b2⟩
  have RM2 := Lib.hid (RM1.out.on b2)
  have B2 := Lib.hid (B1.out.trans (b2.mono B1.out.size))
  have HK2 := Lib.hid (HK1.out.on b2)
  have HV2 := Lib.hid (HV1.out.on b2)
  have KP : Hid (w.heap.size ∉ [pm]) := fun hm => by have := HP0.out; have := List.mem_singleton.1 hm; omega
  have VP : Hid (w.heap.size + 1 ∉ [pm]) := fun hm => by have := HP0.out; have := List.mem_singleton.1 hm; omega
  have rV := HV2.out.row lV
  clear b2 FD RM1 B1 HK1 HV1
  by_cases hz : V = zero32
  · have HZ := Lib.hid hz
    have ez : (V == zero32) = true := by rw [hz]; simp
    clear hz
    cases t with
    | false =>
      as_aux_lemma =>
        go_wp2_with fail
        have hp : putR K V L = L := by unfold putR; rw [if_pos HZ.out, if_neg (by rw [HTH.out]; decide)]
        refine bodyPost_ret (v := .int .i64 0) (by simp [results, Tryd.results14, go_sem]) rfl ?_
        rw [hp]
        exact ⟨rfl, _, RM2.out, Chg.below B2.out (Nat.le_refl _) _, .inl rfl⟩
    | true =>
      as_aux_lemma =>
        have hlt : i < L.length := by have := (thR_key HTH.out).1; rw [HI.out] at this; exact this
        go_wp2_with fail
        clear rV ez
        have RM := Lib.hid (RM2.out.on (Below.refl _ _).drew)
        have B1 := Lib.hid B2.out.drew
        obtain ⟨i1, hi1⟩ : ∃ i1, i + 1 = i1 := ⟨_, rfl⟩
        have HI1 := Lib.hid hi1
        have wi : IntKind.i64.wrap ((i : Int) + 1) = (i1 : Int) := by rw [IntWalk.i64_in _ (by omega)]; omega
        have hnc : i1 ≤ L.length := by omega
        clear hi1
        have hic : i ≤ c := by omega
        refine Ht.start (fun W => W.cell? ⟨pm, 0, none⟩ = some (.slice q L.length c)) 19 (RM.out.cell) fun h0 => ?_
        generalize w2.drew = w1 at *
        have AC0 := Lib.hid (AcS.start w1 (K, V))
        have FIN : Hid (∀ {W : World} {acc : Value}, Hid (AcS w1 W acc (i + (L.length - i1)) (prs (L.take i) ++ prs (L.drop i1)) none (K, V)) → W.heap[pm]? = some (.cells #[.slice q L.length c] 43 (0, 0)) → Put5Q w0 w pm (.slice q L.length c) (putR K V L) (.returned (.int .i64 0)) (W.setCell ⟨pm, 0, none⟩ acc)) := fun AC hb => by
          have hp : putR K V L = L.take i ++ L.drop i1 := by unfold putR; rw [if_pos HZ.out, if_pos HTH.out, HI.out, HI1.out]
          exact Put5_fin RM.out B1.out HP0.out AC.out hb rfl (by rw [hp]; simp; omega) (by rw [hp]; rw [prs_append]) (by simpa using putR_ok RM.out.ok HKY.out LV.out BV.out) (putR_srt RM.out.srt RM.out.ok HKY.out)
        refine tkz 0 [17, 18, 19] h0 ?_
        refine tkz 2 [3, 4, 5, 7, 8, 16, 17, 18, 19] h0 ?_
        refine tkz 3 [4, 5, 7, 8, 16, 17, 18, 19] h0 ?_
        refine tkz 4 [5, 7, 8, 16, 17, 18, 19] h0 ?_
        refine tkz 5 [7, 8, 16, 17, 18, 19] h0 ?_
        refine tkz 6 [7, 8, 16, 17, 18, 19] h0 ?_
        refine tkz 7 [8, 16, 17, 18, 19] h0 ?_
        refine tkz 9 [10, 11, 12, 15, 16, 17, 18, 19] h0 ?_
        refine tkz 10 [11, 12, 15, 16, 17, 18, 19] h0 ?_
        refine tkz 11 [12, 15, 16, 17, 18, 19] h0 ?_
        refine tkz 12 [15, 16, 17, 18, 19] h0 ?_
        refine tkz 13 [14, 15, 16, 17, 18, 19] h0 ?_
        refine tkz 14 [15, 16, 17, 18, 19] h0 ?_
        refine tkz 15 [16, 17, 18, 19] h0 ?_
        refine nxz 1 fun KX hKK => ?_
        obtain ⟨W1, ob, e1, e2, AC1⟩ := AcS.em AC0 OKX
        go_wp2_with fail
        clear e1 e2
        refine hKK.out _ _ (AcS.cc RM AC1) fun h0 => ?_
        clear hKK KX
        refine nxz 8 fun KX hKK => ?_
        refine AcS.wpApp rfl AC1 (AcS.sTo (i := i) RM AC1 (by omega)) fun q1 k1 W2 AC2 => hKK.out _ _ (AcS.cc RM AC2) fun h0 => ?_
        clear hKK KX
        refine nxz 16 fun KX hKK => ?_
        refine AcS.wpApp rfl AC2 (AcS.sFrom (i := i1) RM AC2 (by omega)) fun q2 k2 W3 AC3 => hKK.out _ _ (AcS.cc RM AC3) fun h0 => ?_
        clear hKK KX
        refine tkz 17 [18, 19] h0 ?_
        refine tkz 18 [19] h0 ?_
        refine lsz fun KX hKK => ?_
        have z2 := AcS.cc RM AC3
        have f2 := AcS.fz RM AC3
        go_wp2_with fail
        refine hKK.out _ _ ?_
        clear hKK KX h0 z2 f2
        go_wp2_with fail
        exact bodyPost_ret (v := .int .i64 0) (by simp [results, Tryd.results14, go_sem]) rfl (FIN.out AC3 (AcS.bk RM AC3))

  · have HZ := Lib.hid hz
    have ez : (V == zero32) = false := by simpa using hz
    clear hz
    cases t with
    | false =>
      as_aux_lemma =>
        have cF := RM2.out.cell
        go_upto_region 11 with fail
        clear rV ez cF
        have RM := Lib.hid (RM2.out.on (Below.refl _ _).drew)
        have B1 := Lib.hid B2.out.drew
        have HK0 := Lib.hid (HK2.out.on (Below.refl _ _).drew)
        have HV0 := Lib.hid (HV2.out.on (Below.refl _ _).drew)
        have hic : i ≤ c := by omega
        refine Ht.start (fun W => W.cell? ⟨pm, 0, none⟩ = some (.slice q L.length c) ∧ HashAt W w.heap.size K ∧ HashAt W (w.heap.size + 1) V) 23 ⟨RM.out.cell, HK0.out, HV0.out⟩ fun h0 => ?_
        generalize w2.drew = w1 at *
        have AC0 := Lib.hid (AcS.start w1 (K, V))
        have FIN : Hid (∀ {W : World} {acc : Value} {lit : Option Nat}, Hid (AcS w1 W acc (i + 1 + (L.length - i)) (prs (L.take i) ++ prs [(K, V)] ++ prs (L.drop i)) lit (K, V)) → W.heap[pm]? = some (.cells #[.slice q L.length c] 43 (0, 0)) → Put5Q w0 w pm (.slice q L.length c) (putR K V L) (.returned (.int .i64 0)) (W.setCell ⟨pm, 0, none⟩ acc)) := fun AC hb => by
          have hp : putR K V L = L.take i ++ (K, V) :: L.drop i := by unfold putR; rw [if_neg HZ.out, if_neg (by rw [HTH.out]; decide), HI.out]
          exact Put5_fin RM.out B1.out HP0.out AC.out hb rfl (by rw [hp]; simp; omega) (by rw [hp]; rw [prs_append, prs_cons, List.append_assoc]; simp [prs]) (by simpa using putR_ok RM.out.ok HKY.out LV.out BV.out) (putR_srt RM.out.srt RM.out.ok HKY.out)
        refine tkz 0 [21, 22, 23] h0 ?_
        refine tkz 2 [3, 4, 5, 7, 8, 13, 20, 21, 22, 23] h0 ?_
        refine tkz 3 [4, 5, 7, 8, 13, 20, 21, 22, 23] h0 ?_
        refine tkz 4 [5, 7, 8, 13, 20, 21, 22, 23] h0 ?_
        refine tkz 5 [7, 8, 13, 20, 21, 22, 23] h0 ?_ (hy := fun W hW => by have cc := hW.1; go_simp; all_goals with_reducible rfl)
        refine tkz 6 [7, 8, 13, 20, 21, 22, 23] h0 ?_
        refine tkz 7 [8, 13, 20, 21, 22, 23] h0 ?_
        refine tkz 9 [11, 12, 13, 20, 21, 22, 23] h0 ?_ (hy := fun W hW => by have cc := hW.2.1.row lK; go_simp; all_goals with_reducible rfl)
        refine tkz 10 [11, 12, 13, 20, 21, 22, 23] h0 ?_ (hy := fun W hW => by have cc := hW.2.2.row lV; go_simp; all_goals with_reducible rfl)
        refine tkz 11 [12, 13, 20, 21, 22, 23] h0 ?_
        refine tkz 14 [15, 16, 17, 19, 20, 21, 22, 23] h0 ?_
        refine tkz 15 [16, 17, 19, 20, 21, 22, 23] h0 ?_
        refine tkz 16 [17, 19, 20, 21, 22, 23] h0 ?_
        refine tkz 17 [19, 20, 21, 22, 23] h0 ?_ (hy := fun W hW => by have cc := hW.1; go_simp; all_goals with_reducible rfl)
        refine tkz 18 [19, 20, 21, 22, 23] h0 ?_
        refine tkz 19 [20, 21, 22, 23] h0 ?_
        refine twz 1 12 (fun KX hKK => ?_) (fun KX hKK => ?_)
        · obtain ⟨W1, ob, e1, e2, AC1⟩ := AcS.em AC0 OKX
          go_wp2_with fail
          clear e1 e2
          refine hKK.out _ _ (⟨AcS.cc RM AC1, HK0.out.on AC1.out.below, HV0.out.on AC1.out.below⟩) fun h0 => ?_
          clear hKK KX
          refine twz 8 12 (fun KX hKK => ?_) (fun KX hKK => ?_)
          · refine AcS.wpApp rfl AC1 (AcS.sTo (i := i) RM AC1 (by omega)) fun q1 k1 W2 AC2 => hKK.out _ _ (⟨AcS.cc RM AC2, HK0.out.on AC2.out.below, HV0.out.on AC2.out.below⟩) fun h0 => ?_
            clear hKK KX
            refine nxz 12 fun KX hKK => ?_
            obtain ⟨W3, lb, e1, e2, AC3⟩ := AcS.li AC2 OKX
            go_wp2_with fail
            clear e1 e2
            refine hKK.out _ _ (⟨AcS.cc RM AC3, HK0.out.on AC3.out.below, HV0.out.on AC3.out.below⟩) fun h0 => ?_
            clear hKK KX
            refine nxz 13 fun KX hKK => ?_
            refine AcS.wpApp rfl AC3 (AcS.sLit OKX AC3) fun q2 k2 W4 AC4 => hKK.out _ _ (⟨AcS.cc RM AC4, HK0.out.on AC4.out.below, HV0.out.on AC4.out.below⟩) fun h0 => ?_
            clear hKK KX
            refine nxz 20 fun KX hKK => ?_
            refine AcS.wpApp rfl AC4 (AcS.sFrom (i := i) RM AC4 (by omega)) fun q3 k3 W5 AC5 => hKK.out _ _ (⟨AcS.cc RM AC5, HK0.out.on AC5.out.below, HV0.out.on AC5.out.below⟩) fun h0 => ?_
            clear hKK KX
            refine tkz 21 [22, 23] h0 ?_
            refine tkz 22 [23] h0 ?_
            refine lsz fun KX hKK => ?_
            have z2 := AcS.cc RM AC5
            have f2 := AcS.fz RM AC5
            go_wp2_with fail
            refine hKK.out _ _ ?_
            clear hKK KX h0 z2 f2
            go_wp2_with fail
            exact bodyPost_ret (v := .int .i64 0) (by simp [results, Tryd.results14, go_sem]) rfl (FIN.out AC5 (AcS.bk RM AC5))
          · obtain ⟨W2, lb, e1, e2, AC2⟩ := AcS.li AC1 OKX
            go_wp2_with fail
            clear e1 e2
            refine hKK.out _ _ (⟨AcS.cc RM AC2, HK0.out.on AC2.out.below, HV0.out.on AC2.out.below⟩) fun h0 => ?_
            clear hKK KX
            refine nxz 8 fun KX hKK => ?_
            refine AcS.wpApp rfl AC2 (AcS.sTo (i := i) RM AC2 (by omega)) fun q1 k1 W3 AC3 => hKK.out _ _ (⟨AcS.cc RM AC3, HK0.out.on AC3.out.below, HV0.out.on AC3.out.below⟩) fun h0 => ?_
            clear hKK KX
            refine nxz 13 fun KX hKK => ?_
            refine AcS.wpApp rfl AC3 (AcS.sLit OKX AC3) fun q2 k2 W4 AC4 => hKK.out _ _ (⟨AcS.cc RM AC4, HK0.out.on AC4.out.below, HV0.out.on AC4.out.below⟩) fun h0 => ?_
            clear hKK KX
            refine nxz 20 fun KX hKK => ?_
            refine AcS.wpApp rfl AC4 (AcS.sFrom (i := i) RM AC4 (by omega)) fun q3 k3 W5 AC5 => hKK.out _ _ (⟨AcS.cc RM AC5, HK0.out.on AC5.out.below, HV0.out.on AC5.out.below⟩) fun h0 => ?_
            clear hKK KX
            refine tkz 21 [22, 23] h0 ?_
            refine tkz 22 [23] h0 ?_
            refine lsz fun KX hKK => ?_
            have z2 := AcS.cc RM AC5
            have f2 := AcS.fz RM AC5
            go_wp2_with fail
            refine hKK.out _ _ ?_
            clear hKK KX h0 z2 f2
            go_wp2_with fail
            exact bodyPost_ret (v := .int .i64 0) (by simp [results, Tryd.results14, go_sem]) rfl (FIN.out AC5 (AcS.bk RM AC5))
        · obtain ⟨W1, lb, e1, e2, AC1⟩ := AcS.li AC0 OKX
          go_wp2_with fail
          clear e1 e2
          refine hKK.out _ _ (⟨AcS.cc RM AC1, HK0.out.on AC1.out.below, HV0.out.on AC1.out.below⟩) fun h0 => ?_
          clear hKK KX
          refine nxz 1 fun KX hKK => ?_
          obtain ⟨W2, ob, e1, e2, AC2⟩ := AcS.em AC1 OKX
          go_wp2_with fail
          clear e1 e2
          refine hKK.out _ _ (⟨AcS.cc RM AC2, HK0.out.on AC2.out.below, HV0.out.on AC2.out.below⟩) fun h0 => ?_
          clear hKK KX
          refine nxz 8 fun KX hKK => ?_
          refine AcS.wpApp rfl AC2 (AcS.sTo (i := i) RM AC2 (by omega)) fun q1 k1 W3 AC3 => hKK.out _ _ (⟨AcS.cc RM AC3, HK0.out.on AC3.out.below, HV0.out.on AC3.out.below⟩) fun h0 => ?_
          clear hKK KX
          refine nxz 13 fun KX hKK => ?_
          refine AcS.wpApp rfl AC3 (AcS.sLit OKX AC3) fun q2 k2 W4 AC4 => hKK.out _ _ (⟨AcS.cc RM AC4, HK0.out.on AC4.out.below, HV0.out.on AC4.out.below⟩) fun h0 => ?_
          clear hKK KX
          refine nxz 20 fun KX hKK => ?_
          refine AcS.wpApp rfl AC4 (AcS.sFrom (i := i) RM AC4 (by omega)) fun q3 k3 W5 AC5 => hKK.out _ _ (⟨AcS.cc RM AC5, HK0.out.on AC5.out.below, HV0.out.on AC5.out.below⟩) fun h0 => ?_
          clear hKK KX
          refine tkz 21 [22, 23] h0 ?_
          refine tkz 22 [23] h0 ?_
          refine lsz fun KX hKK => ?_
          have z2 := AcS.cc RM AC5
          have f2 := AcS.fz RM AC5
          go_wp2_with fail
          refine hKK.out _ _ ?_
          clear hKK KX h0 z2 f2
          go_wp2_with fail
          exact bodyPost_ret (v := .int .i64 0) (by simp [results, Tryd.results14, go_sem]) rfl (FIN.out AC5 (AcS.bk RM AC5))

    | true =>
      as_aux_lemma =>
        obtain ⟨hlt, hkk⟩ := thR_key HTH.out
        rw [HI.out] at hlt hkk
        have HTK := Lib.hid hkk
        go_wp2_with fail
        clear rV ez hkk
        have RM := Lib.hid (RM2.out.on (Below.refl _ _).drew)
        have B1 := Lib.hid B2.out.drew
        obtain ⟨vb, hvb⟩ : ∃ vb, w.heap.size + 1 = vb := ⟨_, rfl⟩
        have HV0 := Lib.hid (HV2.out.on (Below.refl _ _).drew)
        have VN := VN0
        rw [hvb] at HV0 VN ⊢
        clear hvb
        obtain ⟨b, rfl, hob, hbl, hrd, -⟩ := RM.out.rd.resolve_left (fun e => by rw [e] at hlt; simp at hlt)
        have VNB : Hid (vb ≠ b) := VN.out b hob
        have hltI : (i : Int) < (L.length : Int) := by omega
        have g0 : (0 : Int) ≤ (i : Int) := by omega
        refine wp_region_held_drew (S := fun W => W.cell? ⟨pm, 0, none⟩ = some (.slice (some ⟨b, 0, none⟩) L.length c) ∧ HashAt W vb V) (by kernel_rfl) (⟨RM.out.cell, HV0.out⟩) (fun h0 => ?_)
        generalize w2.drew = w1 at *
        have KS : Hid ((w1.setCells b (i * 64 + 32) (hc V)).cell? ⟨pm, 0, none⟩ = some (.slice (some ⟨b, 0, none⟩) L.length c) ∧ HashAt (w1.setCells b (i * 64 + 32) (hc V)) vb V) := Put5_keep RM.out HV0.out VNB.out
        have TH := Lib.hid (Put5_there RM.out hlt)
        refine wpAnyH_take (i := 0) (v := ?_) (by rw [List.getElem?_toArray]; rfl) (by kernel_rfl) (by kernel_rfl) (by kernel_rfl) (by exact fun _ _ _ h => h) (Or.inl ⟨by rfl, ?_⟩) h0 ?_
        rotate_left
        · intro W hW
          go_simp
          all_goals with_reducible rfl
        try simp only [Act.put, List.setIfInBounds_toArray, List.set_cons_zero, List.set_cons_succ]
        refine wpAnyH_take (i := 1) (v := ?_) (by rw [List.getElem?_toArray]; rfl) (by kernel_rfl) (by kernel_rfl) (by kernel_rfl) (by exact fun _ _ _ h => h) (Or.inl ⟨by rfl, ?_⟩) h0 ?_
        rotate_left
        · intro W hW
          go_simp
          all_goals with_reducible rfl
        try simp only [Act.put, List.setIfInBounds_toArray, List.set_cons_zero, List.set_cons_succ]
        refine wpAnyH_take (i := 2) (v := ?_) (by rw [List.getElem?_toArray]; rfl) (by kernel_rfl) (by kernel_rfl) (by kernel_rfl) (by exact fun _ _ _ h => h) (Or.inl ⟨by rfl, ?_⟩) h0 ?_
        rotate_left
        · intro W hW
          go_simp
          all_goals with_reducible rfl
        try simp only [Act.put, List.setIfInBounds_toArray, List.set_cons_zero, List.set_cons_succ]
        refine wpAnyH_take (i := 3) (v := ?_) (by rw [List.getElem?_toArray]; rfl) (by kernel_rfl) (by kernel_rfl) (by kernel_rfl) (by exact fun _ _ _ h => h) (Or.inl ⟨by rfl, ?_⟩) h0 ?_
        rotate_left
        · intro W hW
          have cc := hW.1
          go_simp
          all_goals with_reducible rfl
        try simp only [Act.put, List.setIfInBounds_toArray, List.set_cons_zero, List.set_cons_succ]
        refine wpAnyH_take (i := 4) (v := ?_) (by rw [List.getElem?_toArray]; rfl) (by kernel_rfl) (by kernel_rfl) (by kernel_rfl) (by exact fun _ _ _ h => h) (Or.inl ⟨by rfl, ?_⟩) h0 ?_
        rotate_left
        · intro W hW
          go_simp
          all_goals with_reducible rfl
        try simp only [Act.put, List.setIfInBounds_toArray, List.set_cons_zero, List.set_cons_succ]
        refine wpAnyH_take (i := 5) (v := ?_) (by rw [List.getElem?_toArray]; rfl) (by kernel_rfl) (by kernel_rfl) (by kernel_rfl) (by exact fun _ _ _ h => h) (Or.inl ⟨by rfl, ?_⟩) h0 ?_
        rotate_left
        · intro W hW
          have cc := hW.2.row lV
          go_simp
          all_goals with_reducible rfl
        try simp only [Act.put, List.setIfInBounds_toArray, List.set_cons_zero, List.set_cons_succ]
        refine wpAnyH_take (i := 6) (v := ?_) (by rw [List.getElem?_toArray]; rfl) (by kernel_rfl) (by kernel_rfl) (by kernel_rfl) (by exact fun _ _ _ h => h) (Or.inl ⟨by rfl, ?_⟩) h0 ?_
        rotate_left
        · intro W hW
          go_simp
          all_goals with_reducible rfl
        try simp only [Act.put, List.setIfInBounds_toArray, List.set_cons_zero, List.set_cons_succ]
        refine wpAnyH_take (i := 7) (v := ?_) (by rw [List.getElem?_toArray]; rfl) (by kernel_rfl) (by kernel_rfl) (by kernel_rfl) (by exact fun _ _ _ h => h) (Or.inl ⟨by rfl, ?_⟩) h0 ?_
        rotate_left
        · intro W hW
          go_simp
          all_goals with_reducible rfl
        try simp only [Act.put, List.setIfInBounds_toArray, List.set_cons_zero, List.set_cons_succ]
        refine wpAnyH_ready (rs := [8]) (by kernel_rfl) (by simp) ?_
        refine AllReadyH.cons (by rw [List.getElem?_toArray]; rfl) (fun KX hKK => ?_) AllReadyH.nil
        first | rw [if_pos (by rfl)] | skip
        have th := TH.out
        go_wp2_with fail
        refine hKK.out _ _ (KS.out) (fun h0 => ?_)
        clear hKK KX th
        try simp only [Act.put, List.setIfInBounds_toArray, List.set_cons_zero, List.set_cons_succ]
        refine wpAnyH_done (by kernel_rfl) ?_ _
        clear h0
        go_wp2_with fail
        have hp : putR K V L = L.set i (K, V) := by unfold putR; rw [if_neg HZ.out, if_pos HTH.out, HI.out]
        refine bodyPost_ret (v := .int .i64 0) (by simp [results, Tryd.results14, go_sem]) rfl ?_
        rw [hp]
        exact Put5_set RM.out B1.out HP0.out HTK.out LV.out BV.out hlt

end Go.Proofs.YtjlodnecdngdfaaDoor
namespace Go.Proofs.YtjlodnecdngdfaaDoor
open Go.RowKit
set_option maxRecDepth 100000

/-- What stands beside a key's way at a level. -/
def sdP (V : List Int → List Int) (S : List (List Int)) (K : List Int) (i : Nat) : List Int := pl V (255 - i) (S.filter fun x => dif x K == i)
/-- The sides that are not zero, from the root on. -/
def prvS (V : List Int → List Int) (S : List (List Int)) (K : List Int) (L : Nat) : List (List Int) := ((List.range L).map (sdP V S K)).filter fun h => decide (¬ h = zero32)
theorem prvS_succ (V : List Int → List Int) (S : List (List Int)) (K : List Int) (L : Nat) : prvS V S K (L + 1) = prvS V S K L ++ (if sdP V S K L = zero32 then [] else [sdP V S K L]) := by
  unfold prvS
  rw [List.range_succ, List.map_append, List.filter_append]
  congr 1
  by_cases h : sdP V S K L = zero32
  · rw [if_pos h]; simp [h]
  · rw [if_neg h]; simp [h]
structure PvN (V : List Int → List Int) (S : List (List Int)) (K : List Int) (L : Nat) (M : List Int) (Ss : List (List Int)) : Prop where
  ky : KyOk M
  bit : ∀ i, i < 256 → bitI M i = if i < L ∧ ¬ sdP V S K i = zero32 then 1 else 0
  ss : Ss = prvS V S K L
section
variable {V W : List Int → List Int} {S S' : List (List Int)} {K M M' : List Int} {L L' : Nat} {Ss : List (List Int)}
theorem bit_zero32 (i : Nat) : bitI zero32 i = 0 := by
  unfold bitI
  have h : zero32.getD (i / 8) 0 = 0 := by
    by_cases h : i / 8 < 32
    · have e : zero32.getD (i / 8) 0 = zero32[i / 8]'(by rw [zero32_len]; exact h) := by simp [List.getD, zero32_len, h]
      rw [e]
      have : ∀ y ∈ zero32, y = 0 := by decide
      exact this _ (List.getElem_mem _)
    · rw [List.getD, List.getElem?_eq_none (by rw [zero32_len]; omega)]; rfl
  rw [h]; simp
theorem PvN.start (V : List Int → List Int) (S : List (List Int)) (K : List Int) : PvN V S K 0 zero32 [] :=
  ⟨⟨zero32_len, zero32_bytes⟩, fun i _ => by rw [bit_zero32, if_neg (by omega)], rfl⟩
theorem prvS_skip (hz : ∀ i, L ≤ i → i < L' → sdP V S K i = zero32) (hl : L ≤ L') : prvS V S K L' = prvS V S K L := by
  induction L' with
  | zero => obtain rfl : L = 0 := by omega
            rfl
  | succ n ih =>
    by_cases h : L = n + 1
    · rw [h]
    · rw [prvS_succ, if_pos (hz n (by omega) (by omega)), List.append_nil]
      exact ih (fun i h1 h2 => hz i h1 (by omega)) (by omega)
theorem PvN.skip (h : PvN V S K L M Ss) (hz : ∀ i, L ≤ i → i < L' → sdP V S K i = zero32) (hl : L ≤ L') : PvN V S K L' M Ss := by
  refine ⟨h.ky, fun i hi => ?_, by rw [prvS_skip hz hl]; exact h.ss⟩
  rw [h.bit i hi]
  by_cases h1 : i < L
  · by_cases h2 : sdP V S K i = zero32
    · rw [if_neg (fun x => x.2 h2), if_neg (fun x => x.2 h2)]
    · rw [if_pos ⟨h1, h2⟩, if_pos ⟨by omega, h2⟩]
  · rw [if_neg (fun x => h1 x.1)]
    by_cases h3 : i < L'
    · rw [if_neg (fun x => x.2 (hz i (by omega) h3))]
    · rw [if_neg (fun x => h3 x.1)]
theorem PvN.add {l : Nat} (h : PvN V S K l M Ss) (_ : l < 256) (hne : ¬ sdP V S K l = zero32) (ky : KyOk M') (hb : ∀ i, i < 256 → bitI M' i = if i = l then 1 else bitI M i) : PvN V S K (l + 1) M' (Ss ++ [sdP V S K l]) := by
  refine ⟨ky, fun i hi => ?_, by rw [prvS_succ, if_neg hne, ← h.ss]⟩
  rw [hb i hi, h.bit i hi]
  by_cases e : i = l
  · rw [if_pos e, if_pos ⟨by omega, by rw [e]; exact hne⟩]
  · rw [if_neg e]
    by_cases h1 : i < l
    · by_cases h2 : sdP V S K i = zero32
      · rw [if_neg (fun x => x.2 h2), if_neg (fun x => x.2 h2)]
      · rw [if_pos ⟨h1, h2⟩, if_pos ⟨by omega, h2⟩]
    · rw [if_neg (fun x => h1 x.1), if_neg (fun x => by have := x.1; omega)]
theorem PvN.zero {l : Nat} (h : PvN V S K l M Ss) (hz : sdP V S K l = zero32) : PvN V S K (l + 1) M Ss :=
  h.skip (fun i h1 h2 => by obtain rfl : i = l := by omega
                            exact hz) (by omega)
theorem PvN.mono (h : PvN V S K L M Ss) {l : Nat} (hz : ∀ i, L ≤ i → i < l → sdP V S K i = zero32) (hl : L ≤ l) : PvN V S K l M Ss := h.skip hz hl
theorem pl_len' (V : List Int → List Int) : ∀ (n : Nat) (S : List (List Int)), (pl V n S).length = 32
  | 0, [] => zero32_len
  | 0, k :: _ => lfH_len k (V k)
  | _ + 1, _ => abH_len _ _
theorem pl_bytes' (V : List Int → List Int) : ∀ (n : Nat) (S : List (List Int)), Bytes (pl V n S)
  | 0, [] => zero32_bytes
  | 0, k :: _ => lfH_bytes k (V k)
  | _ + 1, _ => abH_bytes _ _
theorem prvS_ok (V : List Int → List Int) (S : List (List Int)) (K : List Int) (L : Nat) : HsOk (prvS V S K L) := fun F hF => by
  obtain ⟨h1, _⟩ := List.mem_filter.1 hF
  obtain ⟨i, _, rfl⟩ := List.mem_map.1 h1
  exact ⟨pl_len' _ _ _, pl_bytes' _ _ _⟩
theorem prvS_len (V : List Int → List Int) (S : List (List Int)) (K : List Int) (L : Nat) : (prvS V S K L).length ≤ L := by
  have := List.length_filter_le (fun h => decide (¬ h = zero32)) ((List.range L).map (sdP V S K))
  simpa [prvS] using this
theorem PvN.hs (h : PvN V S K L M Ss) : HsOk Ss := by rw [h.ss]; exact prvS_ok _ _ _ _
theorem PvN.cnt (h : PvN V S K 256 M Ss) : ∀ n, n ≤ 256 → cntI M n = (prvS V S K n).length
  | 0, _ => rfl
  | n + 1, hn => by
    have ih := PvN.cnt h n (by omega)
    rw [prvS_succ, List.length_append, ← ih]
    show cntI M n + (bitI M n).toNat = _
    rw [h.bit n (by omega)]
    by_cases e : sdP V S K n = zero32
    · rw [if_neg (fun x => x.2 e), if_pos e]; rfl
    · rw [if_pos ⟨by omega, e⟩, if_neg e]; rfl
theorem prvS_split (V : List Int → List Int) (S : List (List Int)) (K : List Int) : ∀ {a b : Nat}, a ≤ b → ∃ T, prvS V S K b = prvS V S K a ++ T
  | a, 0, h => ⟨[], by obtain rfl : a = 0 := by omega
                       simp⟩
  | a, b + 1, h => by
    by_cases e : a = b + 1
    · exact ⟨[], by rw [e]; simp⟩
    · obtain ⟨T, hT⟩ := prvS_split V S K (a := a) (b := b) (by omega)
      exact ⟨T ++ (if sdP V S K b = zero32 then [] else [sdP V S K b]), by rw [prvS_succ, hT, List.append_assoc]⟩
theorem PvN.ok (h : PvN V S K 256 M Ss) : okS M Ss = true := decide_eq_true ⟨by rw [h.cnt 256 (by omega), h.ss], fun hm => by
  rw [h.ss] at hm
  have := (List.mem_filter.1 hm).2
  simp at this⟩
theorem PvN.side (h : PvN V S K 256 M Ss) {l : Nat} (hl : l < 256) : sdI M Ss l = sdP V S K l := by
  unfold sdI
  rw [h.bit l hl]
  by_cases e : sdP V S K l = zero32
  · rw [if_neg (fun x => by rw [if_neg (fun y => y.2 e)] at x; exact absurd x (by decide)), e]
  · rw [if_pos (by rw [if_pos ⟨hl, e⟩])]
    obtain ⟨T, hT⟩ := prvS_split V S K (a := l + 1) (b := 256) (by omega)
    rw [h.cnt l (by omega), h.ss, hT, prvS_succ, if_neg e]
    simp [List.getD]

/-! ### The way up -/
theorem dif_agree_of {x K : List Int} {i : Nat} (h : i ≤ dif x K) : AgreeB i x K := (dif_agree x K).mono h
theorem dif_step {x K : List Int} {i : Nat} (hi : i < 256) : (i + 1 ≤ dif x K) ↔ (i ≤ dif x K ∧ bitI x i = bitI K i) := by
  constructor
  · intro h; exact ⟨by omega, dif_agree x K i (by omega)⟩
  · rintro ⟨h1, h2⟩
    rcases Nat.lt_or_ge i (dif x K) with h | h
    · exact h
    · obtain rfl : dif x K = i := by omega
      exact absurd h2 (dif_ne hi)
theorem dif_at {x K : List Int} {i : Nat} (hi : i < 256) : (dif x K = i) ↔ (i ≤ dif x K ∧ ¬ bitI x i = bitI K i) := by
  constructor
  · intro h; exact ⟨by omega, by have := dif_ne (a := x) (b := K) (by omega); rw [h] at this; exact this⟩
  · rintro ⟨h1, h2⟩
    rcases Nat.lt_or_ge i (dif x K) with h | h
    · exact absurd (dif_agree x K i h) h2
    · omega
/-! ### The way down -/
structure WkN (S : List (List Int)) (K : List Int) (L : Nat) (t : Tr) : Prop where
  ok : t.ok
  agr : ∀ x ∈ t.keys, AgreeB L x K
  ins : ∀ x ∈ t.keys, x ∈ S
  oth : ∀ x ∈ S, x ∉ t.keys → dif x K < L
  le : L ≤ t.fork
theorem WkN.start {t : Tr} (ok : t.ok) (h : ∀ x, x ∈ t.keys ↔ x ∈ S) : WkN S K 0 t := ⟨ok, fun x _ i hi => absurd hi (by omega), fun x hx => (h x).1 hx, fun x hx hn => absurd ((h x).2 hx) hn, Nat.zero_le _⟩
theorem sdP_none {i : Nat} (h : ∀ x ∈ S, ¬ dif x K = i) : sdP V S K i = zero32 := by
  unfold sdP
  rw [filter_none (fun x hx => by have := h x hx; simpa using this), pl_nil]
theorem dif_comm (a b : List Int) : dif a b = dif b a := by
  have h1 := dif_agree a b
  have h2 := dif_agree b a
  have l1 := dif_le a b
  have l2 := dif_le b a
  rcases Nat.lt_trichotomy (dif a b) (dif b a) with h | h | h
  · exact absurd (h2 _ h).symm (dif_ne (by omega))
  · exact h
  · exact absurd (h1 _ h).symm (dif_ne (by omega))
/-- The key parts from all that stands here. -/
theorem WkN.parts {t : Tr} (h : WkN S K L t) (hp : dif K t.key < t.fork) : L ≤ dif K t.key ∧ (∀ x ∈ t.keys, dif x K = dif K t.key) := by
  have ha : ∀ x ∈ t.keys, dif x K = dif K t.key := fun x hx => by
    rw [dif_comm]
    refine dif_is ((dif_agree K t.key).trans ((h.ok.agree x hx).mono (by omega))) (by have := h.ok.fork_le; omega) ?_
    rw [← h.ok.agree x hx _ hp]
    exact dif_ne (by have := h.ok.fork_le; omega)
  obtain ⟨x, hx⟩ := List.exists_mem_of_ne_nil _ t.keys_ne
  refine ⟨?_, ha⟩
  rw [← ha x hx]
  exact dif_of (h.agr x hx) (by have := h.le; have := h.ok.fork_le; omega)
theorem WkN.parts_none {t : Tr} (h : WkN S K L t) (hp : dif K t.key < t.fork) {i : Nat} (hi : L ≤ i) (hne : ¬ i = dif K t.key) : sdP V S K i = zero32 :=
  sdP_none fun x hx e => by
    by_cases hin : x ∈ t.keys
    · exact hne (by rw [← e]; exact (h.parts hp).2 x hin)
    · have := h.oth x hx hin; omega
theorem WkN.parts_side {t : Tr} (h : WkN S K L t) (hp : dif K t.key < t.fork) : sdP V S K (dif K t.key) = aboveH V t (dif K t.key + 1) := by
  rw [aboveH_pl V h.ok (by omega)]
  unfold sdP
  rw [show 256 - (dif K t.key + 1) = 255 - dif K t.key by omega]
  have hf := h.ok.fork_le
  refine pl_congr _ (by omega) (fun x hx => ?_) (fun x hx y hy j hj => ?_) (fun x => ?_) (fun _ _ => rfl)
  · obtain ⟨a, b⟩ := List.mem_filter.1 hx
    have b' : dif x K = dif K t.key := by simpa using b
    by_cases hin : x ∈ t.keys
    · exact h.ok.keysOk x hin
    · have := h.oth x a hin; have := (h.parts hp).1; omega
  · have m : ∀ x, x ∈ S.filter (fun x => dif x K == dif K t.key) → x ∈ t.keys := fun x hx => by
      obtain ⟨a, b⟩ := List.mem_filter.1 hx
      have b' : dif x K = dif K t.key := by simpa using b
      by_cases hin : x ∈ t.keys
      · exact hin
      · have := h.oth x a hin; have := (h.parts hp).1; omega
    exact ((h.ok.agree x (m x hx)).symm.trans (h.ok.agree y (m y hy))) j (by omega)
  · rw [List.mem_filter]
    constructor
    · rintro ⟨a, b⟩
      have b' : dif x K = dif K t.key := by simpa using b
      by_cases hin : x ∈ t.keys
      · exact hin
      · have := h.oth x a hin; have := (h.parts hp).1; omega
    · intro hx
      exact ⟨h.ins x hx, by simpa using (h.parts hp).2 x hx⟩
/-- The key's own leaf. -/
theorem WkN.leaf {t : Tr} (h : WkN S K L t) (hf : t.fork = 256) (hp : ¬ dif K t.key < t.fork) {i : Nat} (hi : L ≤ i) (h2 : i < 256) : sdP V S K i = zero32 :=
  sdP_none fun x hx e => by
    by_cases hin : x ∈ t.keys
    · have h3 : 256 ≤ dif x K := dif_of (((h.ok.agree x hin).symm.mono (by omega)).trans ((dif_agree K t.key).symm.mono (by omega))) (Nat.le_refl _)
      omega
    · have := h.oth x hx hin; omega
/-- The key goes on below. -/
theorem WkN.nd {k : List Int} {f : Nat} {l r : Tr} (h : WkN S K L (.nd k f l r)) (hp : ¬ dif K k < f) :
    (∀ i, L ≤ i → i < f → sdP V S K i = zero32) ∧ f < 256 ∧ L ≤ f ∧
    (bitI K f = 0 → sdP V S K f = aboveH V r (f + 1) ∧ WkN S K (f + 1) l) ∧ (bitI K f = 1 → sdP V S K f = aboveH V l (f + 1) ∧ WkN S K (f + 1) r) := by
  obtain ⟨a1, a2, a3, a4, a5, a6, a7, a8⟩ := h.ok
  have hL : L ≤ f := h.le
  have hKk : AgreeB f k K := ((dif_agree K k).symm).mono (by omega)
  have kl : ∀ x ∈ l.keys, AgreeB f x K ∧ bitI x f = 0 := fun x hx => ⟨(a7 x hx).1.symm.trans hKk, (a7 x hx).2⟩
  have kr : ∀ x ∈ r.keys, AgreeB f x K ∧ bitI x f = 1 := fun x hx => ⟨(a8 x hx).1.symm.trans hKk, (a8 x hx).2⟩
  have hkeys : (Tr.nd k f l r).keys = l.keys ++ r.keys := rfl
  have hot : ∀ x ∈ S, x ∉ l.keys → x ∉ r.keys → dif x K < L := fun x hx h1 h2 => h.oth x hx (by rw [hkeys, List.mem_append]; rintro (h | h); exact h1 h; exact h2 h)
  have il : ∀ x ∈ l.keys, x ∈ S := fun x hx => h.ins x (by rw [hkeys]; exact List.mem_append.2 (.inl hx))
  have ir : ∀ x ∈ r.keys, x ∈ S := fun x hx => h.ins x (by rw [hkeys]; exact List.mem_append.2 (.inr hx))
  refine ⟨fun i h1 h2 => sdP_none fun x hx e => ?_, a2, hL, fun hb => ?_, fun hb => ?_⟩
  · by_cases hin : x ∈ l.keys
    · have := dif_of (kl x hin).1 (Nat.le_of_lt a2); omega
    · by_cases hin2 : x ∈ r.keys
      · have := dif_of (kr x hin2).1 (Nat.le_of_lt a2); omega
      · have := hot x hx hin hin2; omega
  · have e1 : ∀ x ∈ r.keys, dif x K = f := fun x hx => dif_is (kr x hx).1 a2 (by rw [(kr x hx).2, hb]; decide)
    have e2 : ∀ x ∈ l.keys, AgreeB (f + 1) x K := fun x hx i hi => by
      by_cases e : i = f
      · rw [e, (kl x hx).2, hb]
      · exact (kl x hx).1 i (by omega)
    have e3 : ∀ x ∈ l.keys, f + 1 ≤ dif x K := fun x hx => dif_of (e2 x hx) (by omega)
    have mm : ∀ x, x ∈ S.filter (fun x => dif x K == f) ↔ x ∈ r.keys := fun x => by
      rw [List.mem_filter]
      constructor
      · rintro ⟨a, b⟩
        have b' : dif x K = f := by simpa using b
        by_cases hin : x ∈ r.keys
        · exact hin
        · by_cases hin2 : x ∈ l.keys
          · have := e3 x hin2; omega
          · have := hot x a hin2 hin; omega
      · intro hx; exact ⟨ir x hx, by simpa using e1 x hx⟩
    refine ⟨?_, a3, e2, il, fun x hx hn => ?_, by omega⟩
    · rw [aboveH_pl V a4 (by omega)]
      unfold sdP
      rw [show 256 - (f + 1) = 255 - f by omega]
      refine pl_congr _ (by omega) (fun x hx => a4.keysOk x ((mm x).1 hx)) (fun x hx y hy j hj => ?_) mm (fun _ _ => rfl)
      exact ((a4.agree x ((mm x).1 hx)).symm.trans (a4.agree y ((mm y).1 hy))) j (by omega)
    · by_cases hin : x ∈ r.keys
      · have := e1 x hin; omega
      · have := hot x hx hn hin; omega
  · have e1 : ∀ x ∈ l.keys, dif x K = f := fun x hx => dif_is (kl x hx).1 a2 (by rw [(kl x hx).2, hb]; decide)
    have e2 : ∀ x ∈ r.keys, AgreeB (f + 1) x K := fun x hx i hi => by
      by_cases e : i = f
      · rw [e, (kr x hx).2, hb]
      · exact (kr x hx).1 i (by omega)
    have e3 : ∀ x ∈ r.keys, f + 1 ≤ dif x K := fun x hx => dif_of (e2 x hx) (by omega)
    have mm : ∀ x, x ∈ S.filter (fun x => dif x K == f) ↔ x ∈ l.keys := fun x => by
      rw [List.mem_filter]
      constructor
      · rintro ⟨a, b⟩
        have b' : dif x K = f := by simpa using b
        by_cases hin : x ∈ l.keys
        · exact hin
        · by_cases hin2 : x ∈ r.keys
          · have := e3 x hin2; omega
          · have := hot x a hin hin2; omega
      · intro hx; exact ⟨il x hx, by simpa using e1 x hx⟩
    refine ⟨?_, a4, e2, ir, fun x hx hn => ?_, by omega⟩
    · rw [aboveH_pl V a3 (by omega)]
      unfold sdP
      rw [show 256 - (f + 1) = 255 - f by omega]
      refine pl_congr _ (by omega) (fun x hx => a3.keysOk x ((mm x).1 hx)) (fun x hx y hy j hj => ?_) mm (fun _ _ => rfl)
      exact ((a3.agree x ((mm x).1 hx)).symm.trans (a3.agree y ((mm y).1 hy))) j (by omega)
    · by_cases hin : x ∈ l.keys
      · have := e1 x hin; omega
      · have := hot x hx hin hn; omega
end
end Go.Proofs.YtjlodnecdngdfaaDoor
