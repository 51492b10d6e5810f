/-
  Package smt: what stands at a tree's own depth.; Package smt: what stands above a tree.; Package smt: what stands above a tree, remembered or reckoned; all that is reckoned of a tree.; Package smt: Get and Root, on any map.
-/
import Derived.Deep.CutRange
import Derived.Test.YtjlodnecdngdfaaDoorSy7
import Derived.Test.YtjlodnecdngdfaaDoorSy10
namespace Go.Proofs.YtjlodnecdngdfaaDoor
open Go.RowKit
set_option maxRecDepth 100000

def NdO (w : World) (V : List Int → List Int) (t : Tr) (b : Nat) (x y : Option Addr) : Prop :=
  ∃ n : Nd, NdB w b n ∧ n.ok ∧ n.key = t.key ∧ n.fork = (t.fork : Int) ∧ n.lo = x ∧ n.hi = y ∧ n.own = hereH V t ∧ (n.known = true → ∃ lv : Nat, n.lvl = (lv : Int) ∧ n.high = aboveH V t lv)
theorem NdA.own_put {w : World} {V : List Int → List Int} {t : Tr} {b : Nat} {x y : Option Addr} (h : NdA w V t b x y) : NdO (w.setCells b 35 (hc (hereH V t))) V t b x y := by
  obtain ⟨n, h1, h2, h3, h4, h5, h6, h7, h8⟩ := h
  exact ⟨{ n with own := hereH V t }, h1.setOwn h2 (hereH_len V t), ⟨h2.key, hereH_len V t, h2.high⟩, h3, h4, h5, h6, rfl, h8⟩
theorem NdO.told {w : World} {V : List Int → List Int} {t : Tr} {b : Nat} {x y : Option Addr} (h : NdO w V t b x y) : NdA (w.setCell ⟨b, 67, none⟩ (.bool true)) V t b x y := by
  obtain ⟨n, h1, h2, h3, h4, h5, h6, h7, h8⟩ := h
  exact ⟨{ n with told := true }, h1.setTold h2 true, ⟨h2.key, h2.own, h2.high⟩, h3, h4, h5, h6, fun _ => h7, h8⟩
set_option maxHeartbeats 8000000 in
theorem here_any {E : List En} (hE : EnB E) : ∀ {t : Tr}, t.ok → (∀ k f l r, t = .nd k f l r → AbP E l ∧ AbP E r) → HrP E t := by
  intro t ok ih w p m b bl hv ap
  have OK := Lib.hid ok
  have AP := Lib.hid ap
  have EB := Lib.hid hE
  have IH := Lib.hid ih
  have b1 : Below w.heap.size w (w.alloc (.cells (hc zero32).toArray 24)) := (Below.refl _ _).alloc (Nat.le_refl _) _
  have E1 := Lib.hid (hv.on b1)
  have CW0 := Lib.hid (Chg.below b1 (Nat.le_refl _) bl)
  have RZ0 := Lib.hid (HashAt.new w zero32)
  have RNB : Hid (w.heap.size ∉ bl) := fun hm => by have := hv.tr.lt _ hm; omega
  have BIN := Lib.hid hv.tr.head
  have RB : Hid (w.heap.size ≠ b) := fun e => RNB.out (by rw [e]; exact BIN.out)
  have RBL : Hid (w.heap.size ≤ w.heap.size) := Nat.le_refl _
  clear ok ap hE ih b1 hv
  go_enter Tryd.func60, Tryd.ntmps60
  go_upto_region 1 with fail
  obtain ⟨rb, hrb⟩ : ∃ z, w.heap.size = z := ⟨_, rfl⟩
  have RBE := Lib.hid hrb
  rw [hrb] at RZ0 RNB RB ⊢
  replace RBL : Hid (w.heap.size ≤ rb) := by show _ ≤ _; omega
  generalize w.alloc (.cells (hc zero32).toArray 24) = w1 at *
  clear hrb
  obtain ⟨x, y, hna⟩ := E1.out.tr.node
  obtain ⟨n, n1, n2, n3, n4, n5, n6, n7, n8⟩ := hna
  have HN := Lib.hid n1
  have NO2 := Lib.hid n2
  have N7 := Lib.hid n7
  have N3 := Lib.hid n3
  have N4 := Lib.hid n4
  obtain ⟨f32, -, -, f67, -, -, r0, r35, -⟩ := n1.facts n2
  clear n1 n2 n3 n5 n6 n7 n8
  cases ht : n.told with
  | true =>
    rw [ht] at f67
    have r35' : rowOf w1 b 35 32 = hc (hereH (vOf E) t) := by rw [r35, N7.out ht]
    have HL : Hid ((hereH (vOf E) t).length = 32) := hereH_len _ _
    obtain ⟨H, hH⟩ : ∃ H, hereH (vOf E) t = H := ⟨_, rfl⟩
    have HE := Lib.hid hH
    rw [hH] at r35' HL
    have ct := RZ0.out.there zero32_len
    have R7 := Lib.hid (RZ0.out.put zero32_len HL.out)
    have C7 := Lib.hid ((Chg.refl w1 [rb]).setCells (b := rb) (.inl (by simp)) (hc H) 0)
    have hl32 := HL.out
    have lH := hc_len H
    clear hH r35 r0 f32 n4 ht
    go_wp2_with fail
    clear ct r35'
    have cf := R7.out.row HL.out
    refine bodyPost_ret (v := .agg (hc H).toArray) (by simp [results, Tryd.results60, go_sem, cf, hc_len, hl32]) rfl ?_
    refine ⟨by rw [HE.out], CW0.out.trans C7.out (fun g hg hl => by obtain rfl := List.mem_singleton.1 hg; have := RBL.out; omega), ?_⟩
    exact E1.out.tr.chg C7.out (fun g hg hm => by obtain rfl := List.mem_singleton.1 hm; exact RNB.out hg)
  | false =>
    rw [ht] at f67
    rw [n4] at f32
    clear n4 ht r35
    cases t with
    | lf k =>
      have f32' : w1.cell? ⟨b, 32, none⟩ = some (.int .i64 256) := f32
      have r0' : rowOf w1 b 0 32 = hc k := by rw [r0]; show hc n.key = _; rw [N3.out]; rfl
      clear f32 r0
      have HL : Hid ((hereH (vOf E) (.lf k)).length = 32) := hereH_len _ _
      obtain ⟨c, hc0⟩ := E1.out.mp.mp
      have hS0 : w1.drew.cell? ⟨p, 0, none⟩ = some (.map (some m)) ∧ w1.drew.heap[m]? = some (.map (mes E) c) ∧ rowOf w1.drew b 0 32 = hc k := ⟨E1.out.mp.cell, hc0, r0'⟩
      have b2 : Below w1.heap.size w1 w1.drew := (Below.refl _ _).drew
      have E2 := Lib.hid (E1.out.on b2)
      have CW := Lib.hid (CW0.out.trans (Chg.below b2 (Nat.le_refl _) []) (by simp))
      have RZ := Lib.hid (RZ0.out.on b2)
      have hkl : k.length = 32 := OK.out.len
      have hkl2 := hc_len k
      clear hc0 b2 E1 CW0 RZ0
      go_wp2_with fail
      clear f32' r0' f67
      refine wp_region_held_drew (S := fun W => W.cell? ⟨p, 0, none⟩ = some (.map (some m)) ∧ W.heap[m]? = some (.map (mes E) c) ∧ rowOf W b 0 32 = hc k) (by kernel_rfl) (hS0) (fun h0 => ?_)
      generalize w1.drew = w2 at *
      refine wpAnyH_take (i := 0) (v := ?_) (by rw [List.getElem?_toArray]; rfl) (by kernel_rfl) (by kernel_rfl) (by kernel_rfl) (by exact fun _ _ _ h => h) (Or.inl ⟨by rfl, ?_⟩) h0 ?_
      rotate_left
      · intro W hW
        go_simp
        all_goals with_reducible rfl
      try simp only [Act.put, List.setIfInBounds_toArray, List.set_cons_zero, List.set_cons_succ]
      refine wpAnyH_take (i := 1) (v := ?_) (by rw [List.getElem?_toArray]; rfl) (by kernel_rfl) (by kernel_rfl) (by kernel_rfl) (by exact fun _ _ _ h => h) (Or.inl ⟨by rfl, ?_⟩) h0 ?_
      rotate_left
      · intro W hW
        go_simp
        all_goals with_reducible rfl
      try simp only [Act.put, List.setIfInBounds_toArray, List.set_cons_zero, List.set_cons_succ]
      refine wpAnyH_take (i := 2) (v := ?_) (by rw [List.getElem?_toArray]; rfl) (by kernel_rfl) (by kernel_rfl) (by kernel_rfl) (by exact fun _ _ _ h => h) (Or.inl ⟨by rfl, ?_⟩) h0 ?_
      rotate_left
      · intro W hW
        go_simp
        all_goals with_reducible rfl
      try simp only [Act.put, List.setIfInBounds_toArray, List.set_cons_zero, List.set_cons_succ]
      refine wpAnyH_take (i := 3) (v := ?_) (by rw [List.getElem?_toArray]; rfl) (by kernel_rfl) (by kernel_rfl) (by kernel_rfl) (by exact fun _ _ _ h => h) (Or.inl ⟨by rfl, ?_⟩) h0 ?_
      rotate_left
      · intro W hW
        go_simp
        all_goals with_reducible rfl
      try simp only [Act.put, List.setIfInBounds_toArray, List.set_cons_zero, List.set_cons_succ]
      refine wpAnyH_take (i := 4) (v := ?_) (by rw [List.getElem?_toArray]; rfl) (by kernel_rfl) (by kernel_rfl) (by kernel_rfl) (by exact fun _ _ _ h => h) (Or.inl ⟨by rfl, ?_⟩) h0 ?_
      rotate_left
      · intro W hW
        have r := hW.2.2
        go_simp
        all_goals with_reducible rfl
      try simp only [Act.put, List.setIfInBounds_toArray, List.set_cons_zero, List.set_cons_succ]
      refine wpAnyH_take (i := 5) (v := ?_) (by rw [List.getElem?_toArray]; rfl) (by kernel_rfl) (by kernel_rfl) (by kernel_rfl) (by exact fun _ _ _ h => h) (Or.inl ⟨by rfl, ?_⟩) h0 ?_
      rotate_left
      · intro W hW
        go_simp
        all_goals with_reducible rfl
      try simp only [Act.put, List.setIfInBounds_toArray, List.set_cons_zero, List.set_cons_succ]
      refine wpAnyH_take (i := 6) (v := ?_) (by rw [List.getElem?_toArray]; rfl) (by kernel_rfl) (by kernel_rfl) (by kernel_rfl) (by exact fun _ _ _ h => h) (Or.inl ⟨by rfl, ?_⟩) h0 ?_
      rotate_left
      · intro W hW
        go_simp
        all_goals with_reducible rfl
      try simp only [Act.put, List.setIfInBounds_toArray, List.set_cons_zero, List.set_cons_succ]
      refine wpAnyH_take (i := 7) (v := ?_) (by rw [List.getElem?_toArray]; rfl) (by kernel_rfl) (by kernel_rfl) (by kernel_rfl) (by exact fun _ _ _ h => h) (Or.inl ⟨by rfl, ?_⟩) h0 ?_
      rotate_left
      · intro W hW
        go_simp
        all_goals with_reducible rfl
      try simp only [Act.put, List.setIfInBounds_toArray, List.set_cons_zero, List.set_cons_succ]
      refine wpAnyH_take (i := 8) (v := ?_) (by rw [List.getElem?_toArray]; rfl) (by kernel_rfl) (by kernel_rfl) (by kernel_rfl) (by exact fun _ _ _ h => h) (Or.inl ⟨by rfl, ?_⟩) h0 ?_
      rotate_left
      · intro W hW
        have c0 := hW.1
        go_simp
        all_goals with_reducible rfl
      try simp only [Act.put, List.setIfInBounds_toArray, List.set_cons_zero, List.set_cons_succ]
      refine wpAnyH_take (i := 9) (v := ?_) (by rw [List.getElem?_toArray]; rfl) (by kernel_rfl) (by kernel_rfl) (by kernel_rfl) (by exact fun _ _ _ h => h) (Or.inl ⟨by rfl, ?_⟩) h0 ?_
      rotate_left
      · intro W hW
        go_simp
        all_goals with_reducible rfl
      try simp only [Act.put, List.setIfInBounds_toArray, List.set_cons_zero, List.set_cons_succ]
      refine wpAnyH_take (i := 10) (v := ?_) (by rw [List.getElem?_toArray]; rfl) (by kernel_rfl) (by kernel_rfl) (by kernel_rfl) (by exact fun _ _ _ h => h) (Or.inl ⟨by rfl, ?_⟩) h0 ?_
      rotate_left
      · intro W hW
        go_simp
        all_goals with_reducible rfl
      try simp only [Act.put, List.setIfInBounds_toArray, List.set_cons_zero, List.set_cons_succ]
      refine wpAnyH_take (i := 11) (v := ?_) (by rw [List.getElem?_toArray]; rfl) (by kernel_rfl) (by kernel_rfl) (by kernel_rfl) (by exact fun _ _ _ h => h) (Or.inl ⟨by rfl, ?_⟩) h0 ?_
      rotate_left
      · intro W hW
        go_simp
        all_goals with_reducible rfl
      try simp only [Act.put, List.setIfInBounds_toArray, List.set_cons_zero, List.set_cons_succ]
      refine wpAnyH_take (i := 12) (v := ?_) (by rw [List.getElem?_toArray]; rfl) (by kernel_rfl) (by kernel_rfl) (by kernel_rfl) (by exact fun _ _ _ h => h) (Or.inl ⟨by rfl, ?_⟩) h0 ?_
      rotate_left
      · intro W hW
        have r := hW.2.2
        go_simp
        all_goals with_reducible rfl
      try simp only [Act.put, List.setIfInBounds_toArray, List.set_cons_zero, List.set_cons_succ]
      refine wpAnyH_take (i := 13) (v := ?_) (by rw [List.getElem?_toArray]; rfl) (by kernel_rfl) (by kernel_rfl) (by kernel_rfl) (by exact fun _ _ _ h => h) (Or.inl ⟨by rfl, ?_⟩) h0 ?_
      rotate_left
      · intro W hW
        have lk := look_any false hW.2.1 EB.out.ok hkl
        go_simp
        all_goals with_reducible rfl
      try simp only [Act.put, List.setIfInBounds_toArray, List.set_cons_zero, List.set_cons_succ]
      refine wpAnyH_ready (rs := [14]) (by kernel_rfl) (by simp) ?_
      refine AllReadyH.cons (by rw [List.getElem?_toArray]; rfl) (fun K hK => ?_) AllReadyH.nil
      rw [if_pos (by rfl)]
      go_wp2_with fail
      refine (Leaf_any E2.out.tbl OK.out.len (vOf_ok EB.out k).1 OK.out.by_ (vOf_ok EB.out k).2).mono ?_
      rintro e w3 ⟨rfl, b3⟩
      have hS : w3.cell? ⟨p, 0, none⟩ = some (.map (some m)) ∧ w3.heap[m]? = some (.map (mes E) c) ∧ rowOf w3 b 0 32 = hc k := ⟨(b3.cell (World.block_lt_of_cell? _ _ h0.1)).trans h0.1, (b3.block _ (Array.getElem?_eq_some_iff.1 h0.2.1).1).trans h0.2.1, by
        obtain ⟨n5, n51, n52, n53, -⟩ := (E2.out.on b3).tr.2.choose_spec.choose_spec
        have := (n51.facts n52).2.2.2.2.2.2.1
        rw [this, n53]; rfl⟩
      have E3 := Lib.hid (E2.out.on b3)
      have CW := Lib.hid (CW.out.trans (Chg.below b3 (Nat.le_refl _) []) (by simp))
      have RZ := Lib.hid (RZ.out.on b3)
      clear b3
      go_wp2_with fail
      refine hK.out _ _ hS (fun h0 => ?_)
      clear hK K hS
      try simp only [Act.put, List.setIfInBounds_toArray, List.set_cons_zero, List.set_cons_succ]
      refine wpAnyH_take (i := 15) (v := ?_) (by rw [List.getElem?_toArray]; rfl) (by kernel_rfl) (by kernel_rfl) (by kernel_rfl) (by exact fun _ _ _ h => h) (Or.inl ⟨by rfl, ?_⟩) h0 ?_
      rotate_left
      · intro W hW
        go_simp
        all_goals with_reducible rfl
      try simp only [Act.put, List.setIfInBounds_toArray, List.set_cons_zero, List.set_cons_succ]
      refine wpAnyH_take (i := 16) (v := ?_) (by rw [List.getElem?_toArray]; rfl) (by kernel_rfl) (by kernel_rfl) (by kernel_rfl) (by exact fun _ _ _ h => h) (Or.inl ⟨by rfl, ?_⟩) h0 ?_
      rotate_left
      · intro W hW
        go_simp
        all_goals with_reducible rfl
      try simp only [Act.put, List.setIfInBounds_toArray, List.set_cons_zero, List.set_cons_succ]
      refine wpAnyH_ready (rs := [17]) (by kernel_rfl) (by simp) ?_
      refine AllReadyH.cons (by rw [List.getElem?_toArray]; rfl) (fun K hK => ?_) AllReadyH.nil
      rw [if_pos (by rfl)]
      have NA := Lib.hid E3.out.tr.2.choose_spec.choose_spec
      have TW : Hid (TrA w3 (vOf E) (.lf k) b bl) := (E3.out.tr)
      obtain ⟨n5, n51, n52, -⟩ := NA.out
      have ct := n51.there n52 (i := 35) (k := 32) (by omega)
      clear n51 n52
      have NO := Lib.hid NA.out.own_put
      have OP := Lib.hid (fun x y (h : NdA w3 (vOf E) (.lf k) b x y) => h.own_put)
      obtain ⟨H, hH⟩ : ∃ H, hereH (vOf E) (.lf k) = H := ⟨_, rfl⟩
      have HE := Lib.hid hH
      have hH2 : lfH k (vOf E k) = H := hH
      rw [hH] at NO OP HL
      rw [hH2]
      have C5 := Lib.hid ((Chg.refl w3 [b]).setCells (b := b) (.inl (by simp)) (hc H) 35)
      have hl32 := HL.out
      have lH := hc_len H
      have hS : (w3.setCells b 35 (hc H)).cell? ⟨p, 0, none⟩ = some (.map (some m)) ∧ (w3.setCells b 35 (hc H)).heap[m]? = some (.map (mes E) c) ∧ rowOf (w3.setCells b 35 (hc H)) b 0 32 = hc k := ⟨by
        rw [World.cell?_of_block (w := w3) (C5.out.block p (World.block_lt_of_cell? _ _ h0.1) (fun hm => AP.out.p (by obtain rfl := List.mem_singleton.1 hm; exact BIN.out)))]; exact h0.1, by
        rw [C5.out.block m (Array.getElem?_eq_some_iff.1 h0.2.1).1 (fun hm => AP.out.m (by obtain rfl := List.mem_singleton.1 hm; exact BIN.out))]; exact h0.2.1, by
        obtain ⟨n5, n51, n52, n53, -⟩ := NO.out
        have := (n51.facts n52).2.2.2.2.2.2.1
        rw [this, n53]; rfl⟩
      clear hH hH2
      go_wp2_with fail
      clear ct
      generalize w3.setCells b 35 (hc H) = w5 at *
      refine hK.out _ _ hS (fun h0 => ?_)
      clear hK K hS
      try simp only [Act.put, List.setIfInBounds_toArray, List.set_cons_zero, List.set_cons_succ]
      refine wpAnyH_done (by kernel_rfl) ?_ _
      clear h0
      go_upto_region 6 with fail
      obtain ⟨x5, y5, hno⟩ : ∃ x y, NdO w5 (vOf E) (.lf k) b x y := ⟨_, _, NO.out⟩
      obtain ⟨n5, n51, n52, n53, n54, n55, n56, n57, n58⟩ := hno
      have t67 := (n51.facts n52).2.2.2.1
      have u67 := n51.free 67
      have N6 := Lib.hid (n51.setTold n52 true)
      have o6 : Nd.ok { n5 with told := true } := ⟨n52.key, n52.own, n52.high⟩
      have OW := Lib.hid n57
      have O6 := Lib.hid o6
      have C6 := Lib.hid (((Chg.refl w5 [b]).setCell (p := ⟨b, 67, none⟩) (.inl (by simp)) (.bool true)))
      have TO := Lib.hid (fun x y (h : NdO w5 (vOf E) (.lf k) b x y) => h.told)
      clear n51 n52 n53 n54 n55 n56 n57 n58 o6
      go_upto_region 7 with fail
      clear t67 u67
      generalize w5.setCell ⟨b, 67, none⟩ (.bool true) = w6 at *
      have r35 := (N6.out.facts O6.out).2.2.2.2.2.2.2.1
      have r35' : rowOf w6 b 35 32 = hc H := by rw [r35]; show hc n5.own = _; rw [OW.out, HE.out]
      clear r35
      have RZ6 : HashAt w6 rb zero32 := (RZ.out.chg C5.out (by simpa using RB.out)).chg C6.out (by simpa using RB.out)
      have ct := RZ6.there zero32_len
      have R7 := Lib.hid (RZ6.put zero32_len HL.out)
      have C7 := Lib.hid ((Chg.refl w6 [rb]).setCells (b := rb) (.inl (by simp)) (hc H) 0)
      have hl32 := HL.out
      have lH := hc_len H
      go_wp2_with fail
      clear ct r35'
      have cf := R7.out.row HL.out
      refine bodyPost_ret (v := .agg (hc H).toArray) (by simp [results, Tryd.results60, go_sem, cf, hc_len, hl32]) rfl ?_
      refine ⟨by rw [HE.out], ?_, ?_⟩
      · exact ((CW.out.trans (C5.out.trans C6.out (fun g hg _ => hg)) (fun g hg _ => by obtain rfl := List.mem_singleton.1 hg; exact BIN.out)).trans C7.out (fun g hg hl => by obtain rfl := List.mem_singleton.1 hg; have := RBL.out; omega))
      · have T6 := TrA.renode TW.out AP.out.nd (C5.out.trans C6.out (fun g hg _ => hg)) (fun g hg _ => by simpa using hg) (fun x y h => TO.out x y (OP.out x y h))
        exact TrA.chg C7.out T6 (fun g hg hm => by obtain rfl := List.mem_singleton.1 hm; exact RNB.out hg)
    | nd k f l r =>
      have f32' : w1.cell? ⟨b, 32, none⟩ = some (.int .i64 (f : Int)) := f32
      clear f32 r0
      have hf := OK.out.2.1
      have ne256 : ((f : Int) == 256) = false := by simp; omega
      have wf : IntKind.i64.wrap ((f : Int) + 1) = ((f + 1 : Nat) : Int) := by rw [show (f : Int) + 1 = ((f + 1 : Nat) : Int) by omega]; exact IntWalk.i64_in _ (by omega)
      have HL : Hid ((hereH (vOf E) (.nd k f l r)).length = 32) := hereH_len _ _
      obtain ⟨xa, ya, bl1, bl2, hbl, hnd, htl, htr⟩ := E1.out.tr
      obtain ⟨IL, IR⟩ := IH.out k f l r rfl
      have hnl := AP.out.nd
      rw [hbl] at hnl
      obtain ⟨nb, nd12⟩ := List.nodup_cons.1 hnl
      obtain ⟨nd1, nd2, nd3⟩ := List.nodup_append.1 nd12
      have A1 : Hid (ApA p m bl1) := ⟨nd1, fun h => AP.out.p (by rw [hbl]; simp [h]), fun h => AP.out.m (by rw [hbl]; simp [h]), fun h => AP.out.g (by rw [hbl]; simp [h])⟩
      have A2 : Hid (ApA p m bl2) := ⟨nd2, fun h => AP.out.p (by rw [hbl]; simp [h]), fun h => AP.out.m (by rw [hbl]; simp [h]), fun h => AP.out.g (by rw [hbl]; simp [h])⟩
      have NB1 : Hid (b ∉ bl1) := fun h => nb (by simp [h])
      have NB2 : Hid (b ∉ bl2) := fun h => nb (by simp [h])
      have D12 : Hid (∀ g ∈ bl1, g ∉ bl2) := fun g h1 h2 => nd3 g h1 g h2 rfl
      have RN1 : Hid (rb ∉ bl1) := fun h => RNB.out (by rw [hbl]; simp [h])
      have RN2 : Hid (rb ∉ bl2) := fun h => RNB.out (by rw [hbl]; simp [h])
      have IN1 : Hid (∀ g ∈ bl1, g ∈ bl) := fun g h => by rw [hbl]; simp [h]
      have IN2 : Hid (∀ g ∈ bl2, g ∈ bl) := fun g h => by rw [hbl]; simp [h]
      have HBL := Lib.hid hbl
      have IL := Lib.hid IL
      have IR := Lib.hid IR
      have b2 : Below w1.heap.size w1 w1.drew := (Below.refl _ _).drew
      have NA := Lib.hid (hnd.chg (Chg.below b2 (Nat.le_refl _) []) (by simp))
      have TL := Lib.hid (htl.on b2)
      have TT := Lib.hid (htr.on b2)
      have TB := Lib.hid (E1.out.tbl.on b2 E1.out.tbl.pos)
      have MP := Lib.hid (E1.out.mp.on b2)
      have CW := Lib.hid (CW0.out.trans (Chg.below b2 (Nat.le_refl _) []) (by simp))
      have RZ := Lib.hid (RZ0.out.on b2)
      have hS0 : w1.drew.cell? ⟨b, 32, none⟩ = some (.int .i64 (f : Int)) ∧ w1.drew.cell? ⟨b, 33, none⟩ = some (.pointer (some ⟨xa, 0, none⟩)) ∧ w1.drew.cell? ⟨b, 34, none⟩ = some (.pointer (some ⟨ya, 0, none⟩)) := by
        obtain ⟨n5, n51, n52, n53, n54, n55, n56, -⟩ := NA.out
        obtain ⟨g1, g2, g3, -⟩ := n51.facts n52
        rw [n54] at g1
        rw [n55] at g2
        rw [n56] at g3
        exact ⟨g1, g2, g3⟩
      have FL := Lib.hid OK.out.2.2.2.2.1
      have FR := Lib.hid OK.out.2.2.2.2.2.1
      clear hbl hnd htl htr hnl nb nd12 nd1 nd2 nd3 b2 E1 CW0 RZ0 HN
      go_wp2_with fail
      clear f32' f67 ne256
      refine wp_region_held_drew (S := fun W => W.cell? ⟨b, 32, none⟩ = some (.int .i64 (f : Int)) ∧ W.cell? ⟨b, 33, none⟩ = some (.pointer (some ⟨xa, 0, none⟩)) ∧ W.cell? ⟨b, 34, none⟩ = some (.pointer (some ⟨ya, 0, none⟩))) (by kernel_rfl) (hS0) (fun h0 => ?_)
      generalize w1.drew = w2 at *
      refine wpAnyH_take (i := 0) (v := ?_) (by rw [List.getElem?_toArray]; rfl) (by kernel_rfl) (by kernel_rfl) (by kernel_rfl) (by exact fun _ _ _ h => h) (Or.inl ⟨by rfl, ?_⟩) h0 ?_
      rotate_left
      · intro W hW
        go_simp
        all_goals with_reducible rfl
      try simp only [Act.put, List.setIfInBounds_toArray, List.set_cons_zero, List.set_cons_succ]
      refine wpAnyH_take (i := 1) (v := ?_) (by rw [List.getElem?_toArray]; rfl) (by kernel_rfl) (by kernel_rfl) (by kernel_rfl) (by exact fun _ _ _ h => h) (Or.inl ⟨by rfl, ?_⟩) h0 ?_
      rotate_left
      · intro W hW
        go_simp
        all_goals with_reducible rfl
      try simp only [Act.put, List.setIfInBounds_toArray, List.set_cons_zero, List.set_cons_succ]
      refine wpAnyH_take (i := 2) (v := ?_) (by rw [List.getElem?_toArray]; rfl) (by kernel_rfl) (by kernel_rfl) (by kernel_rfl) (by exact fun _ _ _ h => h) (Or.inl ⟨by rfl, ?_⟩) h0 ?_
      rotate_left
      · intro W hW
        go_simp
        all_goals with_reducible rfl
      try simp only [Act.put, List.setIfInBounds_toArray, List.set_cons_zero, List.set_cons_succ]
      refine wpAnyH_take (i := 3) (v := ?_) (by rw [List.getElem?_toArray]; rfl) (by kernel_rfl) (by kernel_rfl) (by kernel_rfl) (by exact fun _ _ _ h => h) (Or.inl ⟨by rfl, ?_⟩) h0 ?_
      rotate_left
      · intro W hW
        go_simp
        all_goals with_reducible rfl
      try simp only [Act.put, List.setIfInBounds_toArray, List.set_cons_zero, List.set_cons_succ]
      refine wpAnyH_take (i := 4) (v := ?_) (by rw [List.getElem?_toArray]; rfl) (by kernel_rfl) (by kernel_rfl) (by kernel_rfl) (by exact fun _ _ _ h => h) (Or.inl ⟨by rfl, ?_⟩) h0 ?_
      rotate_left
      · intro W hW
        go_simp
        all_goals with_reducible rfl
      try simp only [Act.put, List.setIfInBounds_toArray, List.set_cons_zero, List.set_cons_succ]
      refine wpAnyH_take (i := 5) (v := ?_) (by rw [List.getElem?_toArray]; rfl) (by kernel_rfl) (by kernel_rfl) (by kernel_rfl) (by exact fun _ _ _ h => h) (Or.inl ⟨by rfl, ?_⟩) h0 ?_
      rotate_left
      · intro W hW
        go_simp
        all_goals with_reducible rfl
      try simp only [Act.put, List.setIfInBounds_toArray, List.set_cons_zero, List.set_cons_succ]
      refine wpAnyH_take (i := 6) (v := ?_) (by rw [List.getElem?_toArray]; rfl) (by kernel_rfl) (by kernel_rfl) (by kernel_rfl) (by exact fun _ _ _ h => h) (Or.inl ⟨by rfl, ?_⟩) h0 ?_
      rotate_left
      · intro W hW
        have c1 := hW.1
        have c2 := hW.2.1
        have c3 := hW.2.2
        go_simp
        all_goals with_reducible rfl
      try simp only [Act.put, List.setIfInBounds_toArray, List.set_cons_zero, List.set_cons_succ]
      refine wpAnyH_take (i := 7) (v := ?_) (by rw [List.getElem?_toArray]; rfl) (by kernel_rfl) (by kernel_rfl) (by kernel_rfl) (by exact fun _ _ _ h => h) (Or.inl ⟨by rfl, ?_⟩) h0 ?_
      rotate_left
      · intro W hW
        go_simp
        all_goals with_reducible rfl
      try simp only [Act.put, List.setIfInBounds_toArray, List.set_cons_zero, List.set_cons_succ]
      refine wpAnyH_take (i := 8) (v := ?_) (by rw [List.getElem?_toArray]; rfl) (by kernel_rfl) (by kernel_rfl) (by kernel_rfl) (by exact fun _ _ _ h => h) (Or.inl ⟨by rfl, ?_⟩) h0 ?_
      rotate_left
      · intro W hW
        go_simp
        all_goals with_reducible rfl
      try simp only [Act.put, List.setIfInBounds_toArray, List.set_cons_zero, List.set_cons_succ]
      refine wpAnyH_take (i := 9) (v := ?_) (by rw [List.getElem?_toArray]; rfl) (by kernel_rfl) (by kernel_rfl) (by kernel_rfl) (by exact fun _ _ _ h => h) (Or.inl ⟨by rfl, ?_⟩) h0 ?_
      rotate_left
      · intro W hW
        go_simp
        all_goals with_reducible rfl
      try simp only [Act.put, List.setIfInBounds_toArray, List.set_cons_zero, List.set_cons_succ]
      refine wpAnyH_take (i := 10) (v := ?_) (by rw [List.getElem?_toArray]; rfl) (by kernel_rfl) (by kernel_rfl) (by kernel_rfl) (by exact fun _ _ _ h => h) (Or.inl ⟨by rfl, ?_⟩) h0 ?_
      rotate_left
      · intro W hW
        have c1 := hW.1
        have c2 := hW.2.1
        have c3 := hW.2.2
        go_simp
        all_goals with_reducible rfl
      try simp only [Act.put, List.setIfInBounds_toArray, List.set_cons_zero, List.set_cons_succ]
      refine wpAnyH_take (i := 11) (v := ?_) (by rw [List.getElem?_toArray]; rfl) (by kernel_rfl) (by kernel_rfl) (by kernel_rfl) (by exact fun _ _ _ h => h) (Or.inl ⟨by rfl, ?_⟩) h0 ?_
      rotate_left
      · intro W hW
        go_simp
        all_goals with_reducible rfl
      try simp only [Act.put, List.setIfInBounds_toArray, List.set_cons_zero, List.set_cons_succ]
      refine wpAnyH_take (i := 13) (v := ?_) (by rw [List.getElem?_toArray]; rfl) (by kernel_rfl) (by kernel_rfl) (by kernel_rfl) (by exact fun _ _ _ h => h) (Or.inl ⟨by rfl, ?_⟩) h0 ?_
      rotate_left
      · intro W hW
        go_simp
        all_goals with_reducible rfl
      try simp only [Act.put, List.setIfInBounds_toArray, List.set_cons_zero, List.set_cons_succ]
      refine wpAnyH_take (i := 14) (v := ?_) (by rw [List.getElem?_toArray]; rfl) (by kernel_rfl) (by kernel_rfl) (by kernel_rfl) (by exact fun _ _ _ h => h) (Or.inl ⟨by rfl, ?_⟩) h0 ?_
      rotate_left
      · intro W hW
        go_simp
        all_goals with_reducible rfl
      try simp only [Act.put, List.setIfInBounds_toArray, List.set_cons_zero, List.set_cons_succ]
      refine wpAnyH_take (i := 15) (v := ?_) (by rw [List.getElem?_toArray]; rfl) (by kernel_rfl) (by kernel_rfl) (by kernel_rfl) (by exact fun _ _ _ h => h) (Or.inl ⟨by rfl, ?_⟩) h0 ?_
      rotate_left
      · intro W hW
        go_simp
        all_goals with_reducible rfl
      try simp only [Act.put, List.setIfInBounds_toArray, List.set_cons_zero, List.set_cons_succ]
      refine wpAnyH_take (i := 16) (v := ?_) (by rw [List.getElem?_toArray]; rfl) (by kernel_rfl) (by kernel_rfl) (by kernel_rfl) (by exact fun _ _ _ h => h) (Or.inl ⟨by rfl, ?_⟩) h0 ?_
      rotate_left
      · intro W hW
        go_simp
        all_goals with_reducible rfl
      try simp only [Act.put, List.setIfInBounds_toArray, List.set_cons_zero, List.set_cons_succ]
      refine wpAnyH_take (i := 17) (v := ?_) (by rw [List.getElem?_toArray]; rfl) (by kernel_rfl) (by kernel_rfl) (by kernel_rfl) (by exact fun _ _ _ h => h) (Or.inl ⟨by rfl, ?_⟩) h0 ?_
      rotate_left
      · intro W hW
        go_simp
        all_goals with_reducible rfl
      try simp only [Act.put, List.setIfInBounds_toArray, List.set_cons_zero, List.set_cons_succ]
      refine wpAnyH_take (i := 18) (v := ?_) (by rw [List.getElem?_toArray]; rfl) (by kernel_rfl) (by kernel_rfl) (by kernel_rfl) (by exact fun _ _ _ h => h) (Or.inl ⟨by rfl, ?_⟩) h0 ?_
      rotate_left
      · intro W hW
        have c1 := hW.1
        have c2 := hW.2.1
        have c3 := hW.2.2
        go_simp
        all_goals with_reducible rfl
      try simp only [Act.put, List.setIfInBounds_toArray, List.set_cons_zero, List.set_cons_succ]
      refine wpAnyH_take (i := 19) (v := ?_) (by rw [List.getElem?_toArray]; rfl) (by kernel_rfl) (by kernel_rfl) (by kernel_rfl) (by exact fun _ _ _ h => h) (Or.inl ⟨by rfl, ?_⟩) h0 ?_
      rotate_left
      · intro W hW
        go_simp
        all_goals with_reducible rfl
      try simp only [Act.put, List.setIfInBounds_toArray, List.set_cons_zero, List.set_cons_succ]
      refine wpAnyH_take (i := 20) (v := ?_) (by rw [List.getElem?_toArray]; rfl) (by kernel_rfl) (by kernel_rfl) (by kernel_rfl) (by exact fun _ _ _ h => h) (Or.inl ⟨by rfl, ?_⟩) h0 ?_
      rotate_left
      · intro W hW
        go_simp
        all_goals with_reducible rfl
      try simp only [Act.put, List.setIfInBounds_toArray, List.set_cons_zero, List.set_cons_succ]
      refine wpAnyH_take (i := 21) (v := ?_) (by rw [List.getElem?_toArray]; rfl) (by kernel_rfl) (by kernel_rfl) (by kernel_rfl) (by exact fun _ _ _ h => h) (Or.inl ⟨by rfl, ?_⟩) h0 ?_
      rotate_left
      · intro W hW
        go_simp
        all_goals with_reducible rfl
      try simp only [Act.put, List.setIfInBounds_toArray, List.set_cons_zero, List.set_cons_succ]
      refine wpAnyH_take (i := 22) (v := ?_) (by rw [List.getElem?_toArray]; rfl) (by kernel_rfl) (by kernel_rfl) (by kernel_rfl) (by exact fun _ _ _ h => h) (Or.inl ⟨by rfl, ?_⟩) h0 ?_
      rotate_left
      · intro W hW
        have c1 := hW.1
        have c2 := hW.2.1
        have c3 := hW.2.2
        go_simp
        all_goals with_reducible rfl
      try simp only [Act.put, List.setIfInBounds_toArray, List.set_cons_zero, List.set_cons_succ]
      refine wpAnyH_take (i := 23) (v := ?_) (by rw [List.getElem?_toArray]; rfl) (by kernel_rfl) (by kernel_rfl) (by kernel_rfl) (by exact fun _ _ _ h => h) (Or.inl ⟨by rfl, ?_⟩) h0 ?_
      rotate_left
      · intro W hW
        go_simp
        all_goals with_reducible rfl
      try simp only [Act.put, List.setIfInBounds_toArray, List.set_cons_zero, List.set_cons_succ]
      refine wpAnyH_ready (rs := [12]) (by kernel_rfl) (by simp) ?_
      refine AllReadyH.cons (by rw [List.getElem?_toArray]; rfl) (fun K hK => ?_) AllReadyH.nil
      rw [if_pos (by rfl)]
      go_wp2_with fail
      refine (IL.out _ p m xa (f + 1) bl1 ⟨TB.out, MP.out, TL.out⟩ A1.out FL.out).mono ?_
      rintro e w3 ⟨rfl, c3, tl3⟩
      have NA := Lib.hid (NA.out.chg c3 NB1.out)
      have TL := Lib.hid tl3
      have TT := Lib.hid (TT.out.chg c3 (fun g h2 h1 => D12.out g h1 h2))
      have TB := Lib.hid (TB.out.chg c3 A1.out.g)
      have MP := Lib.hid (MP.out.chg c3 A1.out.p A1.out.m)
      have CW := Lib.hid (CW.out.trans c3 (fun g hg _ => IN1.out g hg))
      have RZ := Lib.hid (RZ.out.chg c3 RN1.out)
      have hS : w3.cell? ⟨b, 32, none⟩ = some (.int .i64 (f : Int)) ∧ w3.cell? ⟨b, 33, none⟩ = some (.pointer (some ⟨xa, 0, none⟩)) ∧ w3.cell? ⟨b, 34, none⟩ = some (.pointer (some ⟨ya, 0, none⟩)) := by
        obtain ⟨n5, n51, n52, n53, n54, n55, n56, -⟩ := NA.out
        obtain ⟨g1, g2, g3, -⟩ := n51.facts n52
        rw [n54] at g1
        rw [n55] at g2
        rw [n56] at g3
        exact ⟨g1, g2, g3⟩
      clear c3 tl3
      go_wp2_with fail
      refine hK.out _ _ hS (fun h0 => ?_)
      clear hK K hS
      try simp only [Act.put, List.setIfInBounds_toArray, List.set_cons_zero, List.set_cons_succ]
      refine wpAnyH_ready (rs := [24]) (by kernel_rfl) (by simp) ?_
      refine AllReadyH.cons (by rw [List.getElem?_toArray]; rfl) (fun K hK => ?_) AllReadyH.nil
      rw [if_pos (by rfl)]
      go_wp2_with fail
      refine (IR.out _ p m ya (f + 1) bl2 ⟨TB.out, MP.out, TT.out⟩ A2.out FR.out).mono ?_
      rintro e w4 ⟨rfl, c3, tl3⟩
      have NA := Lib.hid (NA.out.chg c3 NB2.out)
      have TL := Lib.hid (TL.out.chg c3 (fun g h1 h2 => D12.out g h1 h2))
      have TT := Lib.hid tl3
      have TB := Lib.hid (TB.out.chg c3 A2.out.g)
      have MP := Lib.hid (MP.out.chg c3 A2.out.p A2.out.m)
      have CW := Lib.hid (CW.out.trans c3 (fun g hg _ => IN2.out g hg))
      have RZ := Lib.hid (RZ.out.chg c3 RN2.out)
      have hS : w4.cell? ⟨b, 32, none⟩ = some (.int .i64 (f : Int)) ∧ w4.cell? ⟨b, 33, none⟩ = some (.pointer (some ⟨xa, 0, none⟩)) ∧ w4.cell? ⟨b, 34, none⟩ = some (.pointer (some ⟨ya, 0, none⟩)) := by
        obtain ⟨n5, n51, n52, n53, n54, n55, n56, -⟩ := NA.out
        obtain ⟨g1, g2, g3, -⟩ := n51.facts n52
        rw [n54] at g1
        rw [n55] at g2
        rw [n56] at g3
        exact ⟨g1, g2, g3⟩
      clear c3 tl3
      go_wp2_with fail
      refine hK.out _ _ hS (fun h0 => ?_)
      clear hK K hS
      try simp only [Act.put, List.setIfInBounds_toArray, List.set_cons_zero, List.set_cons_succ]
      refine wpAnyH_ready (rs := [25]) (by kernel_rfl) (by simp) ?_
      refine AllReadyH.cons (by rw [List.getElem?_toArray]; rfl) (fun K hK => ?_) AllReadyH.nil
      rw [if_pos (by rfl)]
      go_wp2_with fail
      refine (Above_any TB.out (aboveH_len _ _ _) (aboveH_len _ _ _) (aboveH_bytes _ _ _) (aboveH_bytes _ _ _)).mono ?_
      rintro e w5_ ⟨rfl, b3⟩
      have NA := Lib.hid (NA.out.chg (Chg.below b3 (Nat.le_refl _) []) (by simp))
      have TL := Lib.hid (TL.out.on b3)
      have TT := Lib.hid (TT.out.on b3)
      have CW := Lib.hid (CW.out.trans (Chg.below b3 (Nat.le_refl _) []) (by simp))
      have RZ := Lib.hid (RZ.out.on b3)
      have hS : w5_.cell? ⟨b, 32, none⟩ = some (.int .i64 (f : Int)) ∧ w5_.cell? ⟨b, 33, none⟩ = some (.pointer (some ⟨xa, 0, none⟩)) ∧ w5_.cell? ⟨b, 34, none⟩ = some (.pointer (some ⟨ya, 0, none⟩)) := by
        obtain ⟨n5, n51, n52, n53, n54, n55, n56, -⟩ := NA.out
        obtain ⟨g1, g2, g3, -⟩ := n51.facts n52
        rw [n54] at g1
        rw [n55] at g2
        rw [n56] at g3
        exact ⟨g1, g2, g3⟩
      clear b3 TB MP
      go_wp2_with fail
      refine hK.out _ _ hS (fun h0 => ?_)
      clear hK K hS
      try simp only [Act.put, List.setIfInBounds_toArray, List.set_cons_zero, List.set_cons_succ]
      refine wpAnyH_take (i := 26) (v := ?_) (by rw [List.getElem?_toArray]; rfl) (by kernel_rfl) (by kernel_rfl) (by kernel_rfl) (by exact fun _ _ _ h => h) (Or.inl ⟨by rfl, ?_⟩) h0 ?_
      rotate_left
      · intro W hW
        go_simp
        all_goals with_reducible rfl
      try simp only [Act.put, List.setIfInBounds_toArray, List.set_cons_zero, List.set_cons_succ]
      refine wpAnyH_take (i := 27) (v := ?_) (by rw [List.getElem?_toArray]; rfl) (by kernel_rfl) (by kernel_rfl) (by kernel_rfl) (by exact fun _ _ _ h => h) (Or.inl ⟨by rfl, ?_⟩) h0 ?_
      rotate_left
      · intro W hW
        go_simp
        all_goals with_reducible rfl
      try simp only [Act.put, List.setIfInBounds_toArray, List.set_cons_zero, List.set_cons_succ]
      refine wpAnyH_ready (rs := [28]) (by kernel_rfl) (by simp) ?_
      refine AllReadyH.cons (by rw [List.getElem?_toArray]; rfl) (fun K hK => ?_) AllReadyH.nil
      rw [if_pos (by rfl)]
      have TW : Hid (TrA w5_ (vOf E) (.nd k f l r) b bl) := ((⟨xa, ya, bl1, bl2, HBL.out, NA.out, TL.out, TT.out⟩ : TrA w5_ (vOf E) (.nd k f l r) b bl))
      obtain ⟨n5, n51, n52, -⟩ := NA.out
      have ct := n51.there n52 (i := 35) (k := 32) (by omega)
      clear n51 n52
      have NO := Lib.hid NA.out.own_put
      have OP := Lib.hid (fun x y (h : NdA w5_ (vOf E) (.nd k f l r) b x y) => h.own_put)
      obtain ⟨H, hH⟩ : ∃ H, hereH (vOf E) (.nd k f l r) = H := ⟨_, rfl⟩
      have HE := Lib.hid hH
      have hH2 : abH (aboveH (vOf E) l (f + 1)) (aboveH (vOf E) r (f + 1)) = H := hH
      rw [hH] at NO OP HL
      rw [hH2]
      have C5 := Lib.hid ((Chg.refl w5_ [b]).setCells (b := b) (.inl (by simp)) (hc H) 35)
      have hl32 := HL.out
      have lH := hc_len H
      have hS : (w5_.setCells b 35 (hc H)).cell? ⟨b, 32, none⟩ = some (.int .i64 (f : Int)) ∧ (w5_.setCells b 35 (hc H)).cell? ⟨b, 33, none⟩ = some (.pointer (some ⟨xa, 0, none⟩)) ∧ (w5_.setCells b 35 (hc H)).cell? ⟨b, 34, none⟩ = some (.pointer (some ⟨ya, 0, none⟩)) := by
        obtain ⟨n5, n51, n52, n53, n54, n55, n56, -⟩ := NO.out
        obtain ⟨g1, g2, g3, -⟩ := n51.facts n52
        rw [n54] at g1
        rw [n55] at g2
        rw [n56] at g3
        exact ⟨g1, g2, g3⟩
      clear hH hH2
      go_wp2_with fail
      clear ct
      generalize w5_.setCells b 35 (hc H) = w5 at *
      refine hK.out _ _ hS (fun h0 => ?_)
      clear hK K hS
      try simp only [Act.put, List.setIfInBounds_toArray, List.set_cons_zero, List.set_cons_succ]
      refine wpAnyH_done (by kernel_rfl) ?_ _
      clear h0
      go_upto_region 6 with fail
      obtain ⟨x5, y5, hno⟩ : ∃ x y, NdO w5 (vOf E) (.nd k f l r) b x y := ⟨_, _, NO.out⟩
      obtain ⟨n5, n51, n52, n53, n54, n55, n56, n57, n58⟩ := hno
      have t67 := (n51.facts n52).2.2.2.1
      have u67 := n51.free 67
      have N6 := Lib.hid (n51.setTold n52 true)
      have o6 : Nd.ok { n5 with told := true } := ⟨n52.key, n52.own, n52.high⟩
      have OW := Lib.hid n57
      have O6 := Lib.hid o6
      have C6 := Lib.hid (((Chg.refl w5 [b]).setCell (p := ⟨b, 67, none⟩) (.inl (by simp)) (.bool true)))
      have TO := Lib.hid (fun x y (h : NdO w5 (vOf E) (.nd k f l r) b x y) => h.told)
      clear n51 n52 n53 n54 n55 n56 n57 n58 o6
      go_upto_region 7 with fail
      clear t67 u67
      generalize w5.setCell ⟨b, 67, none⟩ (.bool true) = w6 at *
      have r35 := (N6.out.facts O6.out).2.2.2.2.2.2.2.1
      have r35' : rowOf w6 b 35 32 = hc H := by rw [r35]; show hc n5.own = _; rw [OW.out, HE.out]
      clear r35
      have RZ6 : HashAt w6 rb zero32 := (RZ.out.chg C5.out (by simpa using RB.out)).chg C6.out (by simpa using RB.out)
      have ct := RZ6.there zero32_len
      have R7 := Lib.hid (RZ6.put zero32_len HL.out)
      have C7 := Lib.hid ((Chg.refl w6 [rb]).setCells (b := rb) (.inl (by simp)) (hc H) 0)
      have hl32 := HL.out
      have lH := hc_len H
      go_wp2_with fail
      clear ct r35'
      have cf := R7.out.row HL.out
      refine bodyPost_ret (v := .agg (hc H).toArray) (by simp [results, Tryd.results60, go_sem, cf, hc_len, hl32]) rfl ?_
      refine ⟨by rw [HE.out], ?_, ?_⟩
      · exact ((CW.out.trans (C5.out.trans C6.out (fun g hg _ => hg)) (fun g hg _ => by obtain rfl := List.mem_singleton.1 hg; exact BIN.out)).trans C7.out (fun g hg hl => by obtain rfl := List.mem_singleton.1 hg; have := RBL.out; omega))
      · have T6 := TrA.renode TW.out AP.out.nd (C5.out.trans C6.out (fun g hg _ => hg)) (fun g hg _ => by simpa using hg) (fun x y h => TO.out x y (OP.out x y h))
        exact TrA.chg C7.out T6 (fun g hg hm => by obtain rfl := List.mem_singleton.1 hm; exact RNB.out hg)
end Go.Proofs.YtjlodnecdngdfaaDoor
namespace Go.Proofs.YtjlodnecdngdfaaDoor
open Go.RowKit
set_option maxRecDepth 100000

theorem tbl_ne {w : World} {b : Nat} {X : List Int} (ht : Tbl w) (h : HashAt w b X) (lX : X.length = 32) (e : 1 = b) : False := by
  have h1 := ht 0 (by omega)
  subst e
  have h2 := Joins.cell_of_block h 0
  rw [h2] at h1
  cases X with
  | nil => simp at lX
  | cons x X => simp [hc] at h1
/-- Within climb: the tree, the hash so far, the answer's cell. -/
structure ClT (w wr : World) (E : List En) (t : Tr) (b : Nat) (bl : List Nat) (hb rb : Nat) (X : List Int) : Prop where
  chg : Chg w wr bl
  tbl : Tbl wr
  tr : TrA wr (vOf E) t b bl
  hh : HashAt wr hb X
  rz : HashAt wr rb zero32
section
variable {w W W' : World} {E : List En} {t : Tr} {b hb rb : Nat} {bl : List Nat} {X : List Int}
theorem ClT.on (h : ClT w W E t b bl hb rb X) (hx : Below W.heap.size W W') : ClT w W' E t b bl hb rb X :=
  ⟨h.chg.trans (T := []) (Chg.below hx (Nat.le_refl _) []) (by simp), h.tbl.on hx h.tbl.pos, h.tr.on hx, h.hh.on hx, h.rz.on hx⟩
theorem ClT.put (h : ClT w W E t b bl hb rb X) (hw : w.heap.size ≤ hb) (hn : hb ∉ bl) (hre : rb ≠ hb) (lX : X.length = 32) {Y : List Int} (lY : Y.length = 32) : ClT w (W.setCells hb 0 (hc Y)) E t b bl hb rb Y := by
  have c : Chg W (W.setCells hb 0 (hc Y)) [hb] := (Chg.refl W [hb]).setCells (b := hb) (.inl (by simp)) (hc Y) 0
  have hg : 1 ∉ [hb] := fun hm => by
    have e := List.mem_singleton.1 hm
    have h1 := h.hh
    have h2 := h.tbl
    exact tbl_ne h2 h1 lX e
  exact ⟨h.chg.trans c (fun g hm hl => by obtain rfl := List.mem_singleton.1 hm; omega), h.tbl.chg c hg, h.tr.chg c (fun g h1 h2 => hn (by obtain rfl := List.mem_singleton.1 h2; exact h1)), h.hh.put lX lY, h.rz.others hre _ _⟩
end
set_option maxHeartbeats 8000000 in
theorem climb_any {E : List En} {t : Tr} (ok : t.ok) (ih : HrP E t) : ClP E t := by
  intro w p m b lv bl hv ap hlv
  have OK := Lib.hid ok
  have AP := Lib.hid ap
  have hf := ok.fork_le
  have b1 : Below w.heap.size w (w.alloc (.cells (hc zero32).toArray 24)) := (Below.refl _ _).alloc (Nat.le_refl _) _
  have KH := Lib.hid (ih _ p m b bl (hv.on b1) ap)
  have C0 := Lib.hid (Chg.below b1 (Nat.le_refl _) bl)
  have RZ0 := Lib.hid (HashAt.new w zero32)
  have TB0 := Lib.hid (hv.tbl.on b1 hv.tbl.pos)
  have LT := Lib.hid (fun g (hg : g ∈ bl) => hv.tr.lt g hg)
  have HBQ := Lib.hid (show aboveH (vOf E) t lv = upH t.key t.fork (hereH (vOf E) t) (t.fork - lv) from rfl)
  obtain ⟨Q, hQ⟩ : ∃ Q, aboveH (vOf E) t lv = Q := ⟨_, rfl⟩
  rw [hQ] at HBQ ⊢
  have hz1 : (w.alloc (.cells (hc zero32).toArray 24)).heap.size = w.heap.size + 1 := by simp
  have HZ1 := Lib.hid hz1
  clear ok ap ih b1 hv hQ hz1
  unfold HrQ at KH
  go_enter Tryd.func44, Tryd.ntmps44
  go_wp2_with fail
  refine KH.out.mono ?_
  rintro e w2 ⟨rfl, hc2, ht2⟩
  have hlF := hereH_len (vOf E) t
  have LB := Lib.hid (hereH_bytes (vOf E) t)
  obtain ⟨F, hF⟩ : ∃ F, hereH (vOf E) t = F := ⟨_, rfl⟩
  rw [hF] at hlF LB HBQ ⊢
  clear KH hF
  have hsz := hc2.size
  rw [HZ1.out] at hsz
  have TB2 := TB0.out.chg hc2 AP.out.g
  have RZ2 := RZ0.out.chg hc2 (fun h => by have := LT.out _ h; omega)
  have CC := C0.out.trans hc2 (fun g hg _ => hg)
  have b3 : Below w2.heap.size w2 (w2.alloc (.cells (hc zero32).toArray 24)) := (Below.refl _ _).alloc (Nat.le_refl _) _
  have hZ3 := HashAt.new w2 zero32
  have hth := hZ3.there zero32_len
  have HBW : Hid (w.heap.size ≤ w2.heap.size) := by show _ ≤ _; omega
  have HBN : Hid (w2.heap.size ∉ bl) := fun h => by have := LT.out _ h; omega
  have HNE : Hid (w.heap.size ≠ w2.heap.size) := by show _ ≠ _; omega
  have S3 : ClT w ((w2.alloc (.cells (hc zero32).toArray 24)).setCells w2.heap.size 0 (hc F)) E t b bl w2.heap.size w.heap.size F :=
    ClT.put (X := zero32) ⟨CC.trans (Chg.below b3 (Nat.le_refl _) []) (by simp), TB2.on b3 TB2.pos, ht2.on b3, hZ3, RZ2.on b3⟩ HBW.out HBN.out HNE.out zero32_len hlF
  obtain ⟨x, y, nn, n1, n2, n3, n4, -⟩ := S3.tr.node
  have f3 := (n1.facts n2).1
  rw [n4] at f3
  have S3 := Lib.hid S3
  have wf : IntKind.i64.wrap ((t.fork : Int) - 1) = (t.fork : Int) - 1 := IntWalk.i64_in _ (by omega)
  clear n1 n2 n3 n4 CC hc2 ht2 b3 hZ3 TB2 RZ2
  go_upto_region 2 with fail
  clear hth
  obtain ⟨hb, hhb⟩ : ∃ z, w2.heap.size = z := ⟨_, rfl⟩
  rw [hhb] at HBW HBN HNE S3 f3 ⊢
  generalize (w2.alloc (.cells (hc zero32).toArray 24)).setCells hb 0 (hc F) = w3 at *
  obtain ⟨rb, hrb⟩ : ∃ z, w.heap.size = z := ⟨_, rfl⟩
  rw [hrb] at HNE S3 ⊢
  have HRB := Lib.hid hrb
  have RNB : Hid (rb ∉ bl) := fun h => by have := LT.out _ h; omega
  clear hhb hsz hrb
  go_wp2_with fail
  clear f3
  go_loopw [8] (fun iv wr => ∃ k : Nat, iv = .int .i64 ((t.fork : Int) - 1 - (k : Int)) ∧ k ≤ t.fork - lv ∧ Hid (ClT w wr E t b bl hb rb (upH t.key t.fork F k))) (fun iv _ => (intOf iv + 1).toNat)
  case atStart => exact ⟨0, by congr 1; omega, by omega, S3⟩
  case round =>
    clear S3
    obtain ⟨k, rfl, hk, hS⟩ := hrel
    have lX := upH_len t.key t.fork hlF k
    by_cases hlt : k < t.fork - lv
    · obtain ⟨i, hi⟩ : ∃ i : Nat, (t.fork : Int) - 1 - (k : Int) = i := ⟨t.fork - 1 - k, by omega⟩
      have hi2 : i < 256 := by omega
      have ge1 : decide ((i : Int) ≥ (lv : Int)) = true := decide_eq_true (by omega)
      have ge2 : decide (lv ≤ i) = true := decide_eq_true (by omega)
      have HI := Lib.hid (show t.fork - 1 - k = i by omega)
      rw [hi]
      have bX := Lib.hid (upH_bytes t.key t.fork LB.out k)
      have HU := Lib.hid (show upH t.key t.fork F (k + 1) = stp t.key i (upH t.key t.fork F k) by rw [upH, HI.out])
      obtain ⟨X, hX⟩ : ∃ X, upH t.key t.fork F k = X := ⟨_, rfl⟩
      rw [hX] at lX bX hS HU
      obtain ⟨x, y, nn, n1, n2, n3, n4, -⟩ := hS.out.tr.node
      have rk := (n1.facts n2).2.2.2.2.2.2.1
      have rk' : rowOf wr b 0 32 = hc t.key := by rw [rk, n3]
      have hlk := hc_len t.key
      have k32 := OK.out.keyOk.len
      clear hX rk n1 n2 n3 n4
      go_wp2_with fail
      refine (bit_any OK.out.keyOk.len OK.out.keyOk.by_ hi2).mono ?_
      rintro e w4 ⟨rfl, hb4⟩
      have S4 := Lib.hid (hS.out.on hb4)
      have r4 := S4.out.hh.row lX
      have lxx := hc_len X
      clear hS hb4 rk'
      by_cases hz : bitI t.key i = 0
      · have dz : (bitI t.key i == 0) = true := by rw [hz]; rfl
        have HU2 := Lib.hid (show stp t.key i X = abH X zero32 by unfold stp; rw [if_pos hz])
        generalize bitI t.key i = z at *
        clear hz
        go_wp2_with fail
        refine (Above_any S4.out.tbl lX zero32_len bX.out zero32_bytes).mono ?_
        rintro e w5 ⟨rfl, hb5⟩
        have S5 := Lib.hid (S4.out.on hb5)
        have lY := abH_len X zero32
        rw [HU2.out] at HU
        generalize abH X zero32 = Y at *
        have th5 := S5.out.hh.there lX
        have S6 := Lib.hid (S5.out.put HBW.out HBN.out HNE.out lX lY)
        clear S4 r4 hb5 S5 HU2
        go_wp2_with fail
        go_roundw
        case rel => exact ⟨k + 1, by congr 1; omega, by omega, by rw [HU.out]; exact S6⟩
        case measure => simp [intOf] <;> omega
      · have dz : (bitI t.key i == 0) = false := by simpa using hz
        have HU2 := Lib.hid (show stp t.key i X = abH zero32 X by unfold stp; rw [if_neg hz])
        generalize bitI t.key i = z at *
        clear hz
        go_wp2_with fail
        refine (Above_any S4.out.tbl zero32_len lX zero32_bytes bX.out).mono ?_
        rintro e w5 ⟨rfl, hb5⟩
        have S5 := Lib.hid (S4.out.on hb5)
        have lY := abH_len zero32 X
        rw [HU2.out] at HU
        generalize abH zero32 X = Y at *
        have th5 := S5.out.hh.there lX
        have S6 := Lib.hid (S5.out.put HBW.out HBN.out HNE.out lX lY)
        clear S4 r4 hb5 S5 HU2
        go_wp2_with fail
        go_roundw
        case rel => exact ⟨k + 1, by congr 1; omega, by omega, by rw [HU.out]; exact S6⟩
        case measure => simp [intOf] <;> omega
    · have ge1 : decide ((t.fork : Int) - 1 - (k : Int) ≥ (lv : Int)) = false := decide_eq_false (by omega)
      have ge2 : decide ((lv : Int) ≤ (t.fork : Int) - 1 - (k : Int)) = false := decide_eq_false (by omega)
      have HK := Lib.hid (show upH t.key t.fork F k = Q by rw [HBQ.out]; congr 1; omega)
      obtain ⟨X, hX⟩ : ∃ X, upH t.key t.fork F k = X := ⟨_, rfl⟩
      rw [hX] at lX hS HK
      have rX := hS.out.hh.row lX
      have lxx := hc_len X
      have ct := hS.out.rz.there zero32_len
      have R7 := Lib.hid (hS.out.rz.put (F := X) zero32_len lX)
      have C7 := Lib.hid ((Chg.refl wr [rb]).setCells (b := rb) (.inl (by simp)) (hc X) 0)
      clear hX
      go_wp2_with fail
      clear ct rX
      have cf := R7.out.row lX
      refine bodyPost_ret (v := .agg (hc X).toArray) (by simp [results, Tryd.results44, go_sem, cf, hc_len, lX]) rfl ?_
      refine ⟨by rw [HK.out], hS.out.chg.trans C7.out (fun g hg hl => by obtain rfl := List.mem_singleton.1 hg; have := HRB.out; omega), ?_⟩
      exact TrA.chg C7.out hS.out.tr (fun g hg hm => by obtain rfl := List.mem_singleton.1 hm; exact RNB.out hg)
end Go.Proofs.YtjlodnecdngdfaaDoor
namespace Go.Proofs.YtjlodnecdngdfaaDoor
open Go.RowKit
set_option maxRecDepth 100000

theorem NdA.high_put {w : World} {V : List Int → List Int} {t : Tr} {b : Nat} {x y : Option Addr} (h : NdA w V t b x y) (lv : Nat) : NdA (((w.setCells b 68 (hc (aboveH V t lv))).setCell ⟨b, 100, none⟩ (.int .i64 (lv : Int))).setCell ⟨b, 101, none⟩ (.bool true)) V t b x y := by
  obtain ⟨n, h1, h2, h3, h4, h5, h6, h7, h8⟩ := h
  have o1 : Nd.ok { n with high := aboveH V t lv } := ⟨h2.key, h2.own, aboveH_len V t lv⟩
  have n1 := h1.setHigh h2 (aboveH_len V t lv)
  have n2 := n1.setLvl o1 (lv : Int)
  have n3 := n2.setKnown (n := { n with high := aboveH V t lv, lvl := (lv : Int) }) ⟨h2.key, h2.own, aboveH_len V t lv⟩ true
  exact ⟨{ n with high := aboveH V t lv, lvl := (lv : Int), known := true }, n3, ⟨h2.key, h2.own, aboveH_len V t lv⟩, h3, h4, h5, h6, h7, fun _ => ⟨lv, rfl, rfl⟩⟩
theorem above_nilA (w : World) (p : Nat) (lv : Int) : Calls Tryd.prog 40 #[.pointer (some ⟨p, 0, none⟩), .pointer none, .int .i64 lv] w fun e w' => e = .returned (.agg (hc zero32).toArray) ∧ Below w.heap.size w w' := by
  have b1 : Below w.heap.size w (w.alloc (.cells (hc zero32).toArray 24)) := (Below.refl _ _).alloc (Nat.le_refl _) _
  have Z0 := HashAt.new w zero32
  have ct := Z0.there zero32_len
  have R7 := Lib.hid (Z0.put zero32_len zero32_len)
  have B7 := Lib.hid (below_setCells' w.heap.size (Nat.le_refl _) (hc zero32) 0 b1)
  have zl := zero32_len
  clear Z0 b1
  go_enter Tryd.func40, Tryd.ntmps40
  go_wp2_with fail
  have cf := R7.out.row zero32_len
  first
    | exact bodyPost_ret (v := .agg (hc zero32).toArray) (by simp [results, Tryd.results40, go_sem, cf, hc_len, zl]) rfl ⟨rfl, B7.out⟩
    | exact bodyPost_ret (v := .agg (hc zero32).toArray) (by simp [results, Tryd.results40, go_sem, (HashAt.new w zero32).row zero32_len, hc_len, zl]) rfl ⟨rfl, (Below.refl _ _).alloc (Nat.le_refl _) _⟩
set_option maxHeartbeats 8000000 in
theorem above_any {E : List En} {t : Tr} (ok : t.ok) (ih : ClP E t) : AbP E t := by
  intro w p m b lv bl hv ap hlv
  have OK := Lib.hid ok
  have AP := Lib.hid ap
  have b1 : Below w.heap.size w (w.alloc (.cells (hc zero32).toArray 24)) := (Below.refl _ _).alloc (Nat.le_refl _) _
  have KC := Lib.hid (ih _ p m b lv bl (hv.on b1) ap hlv)
  have C0 := Lib.hid (Chg.below b1 (Nat.le_refl _) bl)
  have RZ0 := Lib.hid (HashAt.new w zero32)
  have T1 := Lib.hid (hv.tr.on b1)
  have LT := Lib.hid (fun g (hg : g ∈ bl) => hv.tr.lt g hg)
  have RNB : Hid (w.heap.size ∉ bl) := fun h => by have := LT.out _ h; omega
  have BIN := Lib.hid hv.tr.head
  have LQ := Lib.hid (aboveH_len (vOf E) t lv)
  obtain ⟨Q, hQ⟩ : ∃ Q, aboveH (vOf E) t lv = Q := ⟨_, rfl⟩
  have HQ := Lib.hid hQ
  rw [hQ] at KC LQ ⊢
  clear ok ap ih b1 hv hQ
  unfold HrQ at KC ⊢
  go_enter Tryd.func40, Tryd.ntmps40
  go_upto_region 1 with fail
  obtain ⟨rb, hrb⟩ : ∃ z, w.heap.size = z := ⟨_, rfl⟩
  have RBE := Lib.hid hrb
  rw [hrb] at RZ0 RNB ⊢
  have RBL : Hid (w.heap.size ≤ rb) := by show _ ≤ _; omega
  have RB : Hid (rb ≠ b) := fun e => RNB.out (by rw [e]; exact BIN.out)
  generalize w.alloc (.cells (hc zero32).toArray 24) = w1 at *
  clear hrb
  obtain ⟨x, y, nn, n1, n2, n3, n4, -, -, -, n8⟩ := T1.out.node
  have N1 := Lib.hid n1
  have N2 := Lib.hid n2
  have N8 := Lib.hid n8
  obtain ⟨-, -, -, -, f100, f101, -, -, r68⟩ := n1.facts n2
  clear n1 n2 n3 n4 n8
  by_cases hkn : nn.known = true ∧ nn.lvl = (lv : Int)
  · rw [hkn.1] at f101
    rw [hkn.2] at f100
    have r68' : rowOf w1 b 68 32 = hc Q := by
      obtain ⟨lv', e1, e2⟩ := N8.out hkn.1
      have : lv' = lv := by have := hkn.2; omega
      subst this
      rw [r68, e2, HQ.out]
    clear r68 hkn
    have r68 := r68'
    clear r68'
    have RZ6 : HashAt w1 rb zero32 := RZ0.out
    have ct := RZ6.there zero32_len
    have R7 := Lib.hid (RZ6.put (F := Q) zero32_len LQ.out)
    have C7 := Lib.hid ((Chg.refl w1 [rb]).setCells (b := rb) (.inl (by simp)) (hc Q) 0)
    have lq := LQ.out
    have lq2 := hc_len Q
    go_wp2_with fail
    clear ct r68
    have cf := R7.out.row LQ.out
    refine bodyPost_ret (v := .agg (hc Q).toArray) (by simp [results, Tryd.results40, go_sem, cf, hc_len, lq]) rfl ?_
    refine ⟨rfl, C0.out.trans C7.out (fun g hg hl => by obtain rfl := List.mem_singleton.1 hg; have := RBL.out; omega), ?_⟩
    exact TrA.chg C7.out T1.out (fun g hg hm => by obtain rfl := List.mem_singleton.1 hm; exact RNB.out hg)
  · have hgo : (nn.known = false) ∨ (nn.known = true ∧ (nn.lvl != (lv : Int)) = true) := by
      cases hk : nn.known with
      | false => exact .inl rfl
      | true => exact .inr ⟨rfl, by simp; exact fun e => hkn ⟨hk, e⟩⟩
    clear r68 hkn N1 N2 N8
    go_upto_region 3 with fail
    have key : True := trivial
    rcases hgo with hk | ⟨hk, hl⟩
    all_goals (
      rw [hk] at f101
      clear hk key
      go_upto_region 4 with fail
      go_wp2_with fail
      refine KC.out.mono ?_
      rintro e w2 ⟨rfl, c2, t2⟩
      obtain ⟨x2, y2, n5, n51, n52, -⟩ := t2.node
      have ct := n51.there n52 (i := 68) (k := 32) (by omega)
      have lq := LQ.out
      have lq2 := hc_len Q
      have o1 : Nd.ok { n5 with high := Q } := ⟨n52.key, n52.own, LQ.out⟩
      have m1 := n51.setHigh n52 LQ.out
      have g100 := (m1.facts o1).2.2.2.2.1
      have u100 := m1.free 100
      have m2 := m1.setLvl o1 (lv : Int)
      have g101 := (m2.facts (n := { n5 with high := Q, lvl := (lv : Int) }) ⟨n52.key, n52.own, LQ.out⟩).2.2.2.2.2.1
      have u101 := m2.free 101
      have m3 := m2.setKnown (n := { n5 with high := Q, lvl := (lv : Int) }) ⟨n52.key, n52.own, LQ.out⟩ true
      have r5 := (m3.facts (n := { n5 with high := Q, lvl := (lv : Int), known := true }) ⟨n52.key, n52.own, LQ.out⟩).2.2.2.2.2.2.2.2
      have R5 := Lib.hid r5
      have C5 := Lib.hid ((((Chg.refl w2 [b]).setCells (b := b) (.inl (by simp)) (hc Q) 68).setCell (p := ⟨b, 100, none⟩) (.inl (by simp)) (.int .i64 (lv : Int))).setCell (p := ⟨b, 101, none⟩) (.inl (by simp)) (.bool true))
      have TP : Hid (∀ x y, NdA w2 (vOf E) t b x y → NdA (((w2.setCells b 68 (hc Q)).setCell ⟨b, 100, none⟩ (.int .i64 (lv : Int))).setCell ⟨b, 101, none⟩ (.bool true)) (vOf E) t b x y) := fun x y h => by rw [← HQ.out]; exact h.high_put lv
      have TW := Lib.hid t2
      have CW := Lib.hid (C0.out.trans c2 (fun g hg _ => hg))
      have RZ := Lib.hid (RZ0.out.chg c2 RNB.out)
      clear n51 n52 o1 m1 m2 m3 r5 t2 c2 KC T1
      go_upto_region 5 with fail
      clear ct g100 u100 g101 u101
      generalize ((w2.setCells b 68 (hc Q)).setCell ⟨b, 100, none⟩ (.int .i64 (lv : Int))).setCell ⟨b, 101, none⟩ (.bool true) = w5 at *
      have r68 := R5.out
      have T5 := Lib.hid (TrA.renode TW.out AP.out.nd C5.out (fun g hg _ => by simpa using hg) TP.out)
      have CC := Lib.hid (CW.out.trans C5.out (fun g hg _ => by obtain rfl := List.mem_singleton.1 hg; exact BIN.out))
      have RZ6 : HashAt w5 rb zero32 := RZ.out.chg C5.out (by simpa using RB.out)
      have ct := RZ6.there zero32_len
      have R7 := Lib.hid (RZ6.put (F := Q) zero32_len LQ.out)
      have C7 := Lib.hid ((Chg.refl w5 [rb]).setCells (b := rb) (.inl (by simp)) (hc Q) 0)
      have lq := LQ.out
      have lq2 := hc_len Q
      go_wp2_with fail
      clear ct r68
      have cf := R7.out.row LQ.out
      refine bodyPost_ret (v := .agg (hc Q).toArray) (by simp [results, Tryd.results40, go_sem, cf, hc_len, lq]) rfl ?_
      refine ⟨rfl, CC.out.trans C7.out (fun g hg hl => by obtain rfl := List.mem_singleton.1 hg; have := RBL.out; omega), ?_⟩
      exact TrA.chg C7.out T5.out (fun g hg hm => by obtain rfl := List.mem_singleton.1 hm; exact RNB.out hg))
/-- All that is reckoned of a tree. -/
theorem above_all {E : List En} (hE : EnB E) : ∀ {t : Tr}, t.ok → AbP E t
  | .lf k, ok => above_any ok (climb_any ok (here_any hE ok (fun k f l r h => by cases h)))
  | .nd k f l r, ok => above_any ok (climb_any ok (here_any hE ok (fun k' f' l' r' h => by
    cases h
    exact ⟨above_all hE ok.2.2.1, above_all hE ok.2.2.2.1⟩)))
theorem climb_all {E : List En} (hE : EnB E) : ∀ {t : Tr}, t.ok → ClP E t
  | .lf k, ok => climb_any ok (here_any hE ok (fun k f l r h => by cases h))
  | .nd k f l r, ok => climb_any ok (here_any hE ok (fun k' f' l' r' h => by
    cases h
    exact ⟨above_all hE ok.2.2.1, above_all hE ok.2.2.2.1⟩))
end Go.Proofs.YtjlodnecdngdfaaDoor
namespace Go.Proofs.YtjlodnecdngdfaaDoor
open Go.RowKit
set_option maxRecDepth 100000

set_option maxHeartbeats 8000000 in
theorem Get_all {w : World} {p m c : Nat} {E : List En} {top : Option Addr} {bl : List Nat} {Ky : List Int} (hKy : KyOk Ky) (hM : MapS w p m E c top bl) :
    Calls Tryd.prog 15 #[.pointer (some ⟨p, 0, none⟩), .agg (hc Ky).toArray] w fun e w' => e = .returned (.agg (hc (vOf E Ky)).toArray) ∧ Below w.heap.size w w' := by
  have HKY := Lib.hid hKy
  have HK := Lib.hid (((HashAt.new w Ky).alloc (.cells (hc zero32).toArray 24)))
  have HZ := Lib.hid (HashAt.new (w.alloc (.cells (hc Ky).toArray 24)) zero32)
  have B0 := Lib.hid (((Below.refl w.heap.size w).alloc (Nat.le_refl _) (.cells (hc Ky).toArray 24)).alloc (by simp) (.cells (hc zero32).toArray 24))
  have M0 := Lib.hid ((hM.s.alloc (.cells (hc Ky).toArray 24)).alloc (.cells (hc zero32).toArray 24))
  have HMP := Lib.hid hM.s.lp
  have HMM := Lib.hid hM.s.lm
  have c00 := M0.out.c0
  have k32 := hKy.len
  have hlk := hc_len Ky
  have z32 := zero32_len
  have lookE := fun (ok : Bool) {W : World} {cc : Nat} (hb : W.heap[m]? = some (.map (mes E) cc)) => look_any (c := cc) (w := W) ok hb hM.e.b.ok hKy.len
  have LO : Hid ((vOf E Ky).length = 32) := (vOf_ok hM.e.b Ky).1
  obtain ⟨O, hO⟩ : ∃ O, vOf E Ky = O := ⟨_, rfl⟩
  rw [hO] at lookE LO ⊢
  simp only [World.size_alloc] at HZ
  clear hM hKy hO
  go_enter Tryd.func15, Tryd.ntmps15
  go_wp2_with fail
  refine (made_yes c00).mono ?_
  rintro e wn ⟨rfl, h⟩
  obtain rfl := h.symm
  clear h
  go_wp2_with fail
  generalize ((w.alloc (.cells (hc Ky).toArray 24)).alloc (.cells (hc zero32).toArray 24)) = w0 at *
  refine wp_region_held_drew (S := fun W => HashAt W w.heap.size Ky ∧ MpS W p m (mes E) c top) (by kernel_rfl) (⟨HK.out.on ((Below.refl _ _).drew), M0.out.on ((Below.refl _ _).drew)⟩) (fun h0 => ?_)
  replace M0 := Lib.hid (M0.out.on ((Below.refl _ _).drew))
  replace HK := Lib.hid (HK.out.on ((Below.refl _ _).drew))
  replace HZ := Lib.hid (HZ.out.on ((Below.refl _ _).drew))
  replace B0 := Lib.hid B0.out.drew
  clear c00
  generalize w0.drew = w0 at *
  refine wpAnyH_take (i := 0) (v := ?_) (by rw [List.getElem?_toArray]; rfl) (by kernel_rfl) (by kernel_rfl) (by kernel_rfl) (by exact fun _ _ _ h => h) (Or.inl ⟨by rfl, ?_⟩) h0 ?_
  rotate_left
  · intro W hW
    go_simp
    all_goals with_reducible rfl
  try simp only [Act.put, List.setIfInBounds_toArray, List.set_cons_zero, List.set_cons_succ]
  refine wpAnyH_take (i := 1) (v := ?_) (by rw [List.getElem?_toArray]; rfl) (by kernel_rfl) (by kernel_rfl) (by kernel_rfl) (by exact fun _ _ _ h => h) (Or.inl ⟨by rfl, ?_⟩) h0 ?_
  rotate_left
  · intro W hW
    go_simp
    all_goals with_reducible rfl
  try simp only [Act.put, List.setIfInBounds_toArray, List.set_cons_zero, List.set_cons_succ]
  refine wpAnyH_take (i := 2) (v := ?_) (by rw [List.getElem?_toArray]; rfl) (by kernel_rfl) (by kernel_rfl) (by kernel_rfl) (by exact fun _ _ _ h => h) (Or.inl ⟨by rfl, ?_⟩) h0 ?_
  rotate_left
  · intro W hW
    go_simp
    all_goals with_reducible rfl
  try simp only [Act.put, List.setIfInBounds_toArray, List.set_cons_zero, List.set_cons_succ]
  refine wpAnyH_take (i := 3) (v := ?_) (by rw [List.getElem?_toArray]; rfl) (by kernel_rfl) (by kernel_rfl) (by kernel_rfl) (by exact fun _ _ _ h => h) (Or.inl ⟨by rfl, ?_⟩) h0 ?_
  rotate_left
  · intro W hW
    have cc := hW.2.c0
    go_simp
    all_goals with_reducible rfl
  try simp only [Act.put, List.setIfInBounds_toArray, List.set_cons_zero, List.set_cons_succ]
  refine wpAnyH_take (i := 4) (v := ?_) (by rw [List.getElem?_toArray]; rfl) (by kernel_rfl) (by kernel_rfl) (by kernel_rfl) (by exact fun _ _ _ h => h) (Or.inl ⟨by rfl, ?_⟩) h0 ?_
  rotate_left
  · intro W hW
    have cc := hW.1.row HKY.out.len
    go_simp
    all_goals with_reducible rfl
  try simp only [Act.put, List.setIfInBounds_toArray, List.set_cons_zero, List.set_cons_succ]
  refine wpAnyH_take (i := 5) (v := ?_) (by rw [List.getElem?_toArray]; rfl) (by kernel_rfl) (by kernel_rfl) (by kernel_rfl) (by exact fun _ _ _ h => h) (Or.inl ⟨by rfl, ?_⟩) h0 ?_
  rotate_left
  · intro W hW
    have cc := lookE false hW.2.mp
    go_simp
    all_goals with_reducible rfl
  try simp only [Act.put, List.setIfInBounds_toArray, List.set_cons_zero, List.set_cons_succ]
  refine wpAnyH_ready (rs := [6]) (by kernel_rfl) (by simp) ?_
  refine AllReadyH.cons (by rw [List.getElem?_toArray]; rfl) (fun K hK => ?_) AllReadyH.nil
  rw [if_pos (by rfl)]
  have th := HZ.out.there zero32_len
  have lO := LO.out
  have lOc := hc_len O
  have hput := (HZ.out.put zero32_len LO.out).row LO.out
  have HX := Lib.hid (below_setCells' (B := w.heap.size) (w.heap.size + 1) (by omega) (hc O) 0 B0.out)
  have HM9 : MpS (w0.setCells (w.heap.size + 1) 0 (hc O)) p m (mes E) c top := ⟨by rw [setCells_other (by have := HMP.out; omega)]; exact M0.out.blk, by rw [setCells_other (by have := HMM.out; omega)]; exact M0.out.mp⟩
  go_wp2_with fail
  refine hK.out _ _ (⟨(HK.out.others (k := w.heap.size + 1) (by omega) 0 (hc O)), HM9⟩) (fun h1 => ?_)
  clear hK K
  try simp only [Act.put, List.setIfInBounds_toArray, List.set_cons_zero, List.set_cons_succ]
  refine wpAnyH_done (by kernel_rfl) ?_ _
  go_wp2_with fail
  refine bodyPost_ret (v := .agg (hc O).toArray) (by simp [results, Tryd.results15, go_sem, hput, lO]) rfl ⟨rfl, HX.out⟩

/-- The root of a map, out of its pairs alone. -/
def rootE (E : List En) : List Int := pl (vOf E) 256 (E.map (·.k))
theorem above_top {w : World} {p m c : Nat} {E : List En} {top : Option Addr} {bl : List Nat} (hT : Tbl w) (hM : MapS w p m E c top bl) (hg : 1 ∉ bl) :
    Calls Tryd.prog 40 #[.pointer (some ⟨p, 0, none⟩), .pointer top, .int .i64 0] w fun e w' => e = .returned (.agg (hc (rootE E)).toArray) ∧ Chg w w' bl ∧ TopS w' E top bl := by
  rcases hM.t with ⟨h1, h2, h3⟩ | ⟨b, t, h1, ok, h3, h4, h5⟩
  · subst h1 h2 h3
    refine (above_nilA w p 0).mono ?_
    rintro e w' ⟨rfl, hb⟩
    exact ⟨by rw [show rootE [] = zero32 from pl_nil _ 256], Chg.below hb (Nat.le_refl _) [], .inl ⟨rfl, rfl, rfl⟩⟩
  · subst h1
    have hr : aboveH (vOf E) t 0 = rootE E := by
      rw [aboveH_pl (vOf E) ok (Nat.zero_le _)]
      refine pl_congr 256 (Nat.le_refl _) ok.keysOk (fun x _ y _ i hi => absurd hi (by omega)) (fun x => ?_) (fun _ _ => rfl)
      rw [h3 x, List.mem_map]
    have := above_all hM.e.b ok w p m b 0 bl ⟨hT, ⟨hM.s.c0, c, hM.s.mp⟩, h4⟩ ⟨h5, hM.p, hM.m, hg⟩ (Nat.zero_le _)
    refine Calls.mono this ?_
    rintro e w' ⟨rfl, hc', ht⟩
    rw [hr]
    exact ⟨rfl, hc', .inr ⟨b, t, rfl, ok, h3, ht, h5⟩⟩
theorem pl_len (V : List Int → List Int) : ∀ (n : Nat) (S : List (List Int)), (pl V n S).length = 32
  | 0, [] => zero32_len
  | 0, k :: _ => lfH_len k (V k)
  | _ + 1, _ => abH_len _ _
theorem rootE_len (E : List En) (_ : EnW E) : (rootE E).length = 32 := pl_len _ _ _
set_option maxHeartbeats 4000000 in
theorem Root_all {w : World} {p m c : Nat} {E : List En} {top : Option Addr} {bl : List Nat} (hT : Tbl w) (hM : MapS w p m E c top bl) (hg : 1 ∉ bl) :
    Calls Tryd.prog 19 #[.pointer (some ⟨p, 0, none⟩)] w fun e w' => e = .returned (.agg (hc (rootE E)).toArray) ∧ Chg w w' bl ∧ MapS w' p m E c top bl := by
  have HZ := Lib.hid (HashAt.new w zero32)
  have B0 := Lib.hid ((Below.refl w.heap.size w).alloc (Nat.le_refl _) (.cells (hc zero32).toArray 24))
  have b0 : Below w.heap.size w (w.alloc (.cells (hc zero32).toArray 24)) := B0.out
  have M1 := hM.on b0
  have c0 := M1.s.c0
  have c1 := M1.s.c1
  have KH := Lib.hid (above_top (hT.on b0 hT.pos) M1 hg)
  have LTB := Lib.hid hM.t.lt
  have HMP := Lib.hid hM.s.lp
  have HMM := Lib.hid hM.s.lm
  have HM1 := Lib.hid M1
  have lX := rootE_len E hM.e
  obtain ⟨X, hX⟩ : ∃ X, rootE E = X := ⟨_, rfl⟩
  rw [hX] at KH lX ⊢
  clear hM M1 hT b0 hX
  go_enter Tryd.func19, Tryd.ntmps19
  go_wp2_with fail
  refine (made_yes c0).mono ?_
  rintro e wn ⟨rfl, h⟩
  obtain rfl := h.symm
  clear h
  go_wp2_with fail
  refine KH.out.mono ?_
  rintro e w2 ⟨rfl, hc2, ht2⟩
  have Z2 := Lib.hid (HZ.out.chg hc2 (fun h => by have := LTB.out _ h; omega))
  have M2 : MapS w2 p m E c top bl := ⟨HM1.out.s.chg hc2 HM1.out.p HM1.out.m, ht2, HM1.out.e, HM1.out.n, HM1.out.p, HM1.out.m⟩
  have C2 := Lib.hid ((Chg.below B0.out (Nat.le_refl _) bl).trans hc2 (fun x hx _ => hx))
  have hth := Z2.out.there zero32_len
  have hput := (Z2.out.put zero32_len lX).row lX
  have C3 := Lib.hid (C2.out.setCells (b := w.heap.size) (.inr (Nat.le_refl _)) (hc X) 0)
  have D3 : Chg w2 (w2.setCells w.heap.size 0 (hc X)) [w.heap.size] := (Chg.refl w2 [w.heap.size]).setCells (b := w.heap.size) (.inl (by simp)) (hc X) 0
  have M3 := Lib.hid (M2.chg D3 (by have := HMP.out; simp; omega) (by have := HMM.out; simp; omega) (fun g h1 h2 => by obtain rfl := List.mem_singleton.1 h2; have := LTB.out _ h1; omega))
  have lxx := hc_len X
  clear hc2 Z2 C2 B0 HZ c0 c1 KH M2 ht2 D3
  go_wp2_with fail
  refine bodyPost_ret (v := .agg (hc X).toArray) (by simp [results, Tryd.results19, go_sem, hput, lX]) rfl ⟨rfl, C3.out, M3.out⟩
end Go.Proofs.YtjlodnecdngdfaaDoor
