/-
  Package smt: what stands at a tree's own depth.; Package smt: what stands above a tree.; Package smt: what stands above a tree, remembered or reckoned; all that is reckoned of a tree.; Package smt: Get and Root, on any map.; A map of the call's own, from call to call.; Package machine: a word's key and value.; Package machine: the map of a state's words, and its root.
-/
import Derived.Deep.CutRange
import Derived.Test.YtnllcmcahfkmaaaDoorMp3
import Derived.Test.YtnllcmcahfkmaaaDoorMp5
import Derived.Test.YtnllcmcahfkmaaaDoorMp7
import Derived.Test.YtnllcmcahfkmaaaDoorMp8
import Derived.Test.YtnllcmcahfkmaaaDoorMp11
namespace Go.Proofs.YtnllcmcahfkmaaaDoor
open Go.RowKit
set_option maxRecDepth 100000

def NdO (w : World) (V : List Int → List Int) (t : Tr) (b : Nat) (x y : Option Addr) : Prop :=
  ∃ n : Nd, NdB w b n ∧ n.ok ∧ n.key = t.key ∧ n.fork = (t.fork : Int) ∧ n.lo = x ∧ n.hi = y ∧ n.own = hereH V t ∧ (n.known = true → ∃ lv : Nat, n.lvl = (lv : Int) ∧ n.high = aboveH V t lv)
theorem NdA.own_put {w : World} {V : List Int → List Int} {t : Tr} {b : Nat} {x y : Option Addr} (h : NdA w V t b x y) : NdO (w.setCells b 35 (hc (hereH V t))) V t b x y := by
  obtain ⟨n, h1, h2, h3, h4, h5, h6, h7, h8⟩ := h
  exact ⟨{ n with own := hereH V t }, h1.setOwn h2 (hereH_len V t), ⟨h2.key, hereH_len V t, h2.high⟩, h3, h4, h5, h6, rfl, h8⟩
theorem NdO.told {w : World} {V : List Int → List Int} {t : Tr} {b : Nat} {x y : Option Addr} (h : NdO w V t b x y) : NdA (w.setCell ⟨b, 67, none⟩ (.bool true)) V t b x y := by
  obtain ⟨n, h1, h2, h3, h4, h5, h6, h7, h8⟩ := h
  exact ⟨{ n with told := true }, h1.setTold h2 true, ⟨h2.key, h2.own, h2.high⟩, h3, h4, h5, h6, fun _ => h7, h8⟩
set_option maxHeartbeats 8000000 in
theorem here_any {E : List En} (hE : EnB E) : ∀ {t : Tr}, t.ok → (∀ k f l r, t = .nd k f l r → AbP E l ∧ AbP E r) → HrP E t := by
  intro t ok ih w p m b bl hv ap
  have OK := Lib.hid ok
  have AP := Lib.hid ap
  have EB := Lib.hid hE
  have IH := Lib.hid ih
  have b1 : Below w.heap.size w (w.alloc (.cells (hc zero32).toArray 43)) := (Below.refl _ _).alloc (Nat.le_refl _) _
  have E1 := Lib.hid (hv.on b1)
  have CW0 := Lib.hid (Chg.below b1 (Nat.le_refl _) bl)
  have RZ0 := Lib.hid (HashAt.new w zero32)
  have RNB : Hid (w.heap.size ∉ bl) := fun hm => by have := hv.tr.lt _ hm; omega
  have BIN := Lib.hid hv.tr.head
  have RB : Hid (w.heap.size ≠ b) := fun e => RNB.out (by rw [e]; exact BIN.out)
  have RBL : Hid (w.heap.size ≤ w.heap.size) := Nat.le_refl _
  clear ok ap hE ih b1 hv
  go_enter Tryd.func53, Tryd.ntmps53
  go_upto_region 1 with fail
  obtain ⟨rb, hrb⟩ : ∃ z, w.heap.size = z := ⟨_, rfl⟩
  have RBE := Lib.hid hrb
  rw [hrb] at RZ0 RNB RB ⊢
  replace RBL : Hid (w.heap.size ≤ rb) := by show _ ≤ _; omega
  generalize w.alloc (.cells (hc zero32).toArray 43) = w1 at *
  clear hrb
  obtain ⟨x, y, hna⟩ := E1.out.tr.node
  obtain ⟨n, n1, n2, n3, n4, n5, n6, n7, n8⟩ := hna
  have HN := Lib.hid n1
  have NO2 := Lib.hid n2
  have N7 := Lib.hid n7
  have N3 := Lib.hid n3
  have N4 := Lib.hid n4
  obtain ⟨f32, -, -, f67, -, -, r0, r35, -⟩ := n1.facts n2
  clear n1 n2 n3 n5 n6 n7 n8
  cases ht : n.told with
  | true =>
    rw [ht] at f67
    have r35' : rowOf w1 b 35 32 = hc (hereH (vOf E) t) := by rw [r35, N7.out ht]
    have HL : Hid ((hereH (vOf E) t).length = 32) := hereH_len _ _
    obtain ⟨H, hH⟩ : ∃ H, hereH (vOf E) t = H := ⟨_, rfl⟩
    have HE := Lib.hid hH
    rw [hH] at r35' HL
    have ct := RZ0.out.there zero32_len
    have R7 := Lib.hid (RZ0.out.put zero32_len HL.out)
    have C7 := Lib.hid ((Chg.refl w1 [rb]).setCells (b := rb) (.inl (by simp)) (hc H) 0)
    have hl32 := HL.out
    have lH := hc_len H
    clear hH r35 r0 f32 n4 ht
    go_wp2_with fail
    clear ct r35'
    have cf := R7.out.row HL.out
    refine bodyPost_ret (v := .agg (hc H).toArray) (by simp [results, Tryd.results53, go_sem, cf, hc_len, hl32]) rfl ?_
    refine ⟨by rw [HE.out], CW0.out.trans C7.out (fun g hg hl => by obtain rfl := List.mem_singleton.1 hg; have := RBL.out; omega), ?_⟩
    exact E1.out.tr.chg C7.out (fun g hg hm => by obtain rfl := List.mem_singleton.1 hm; exact RNB.out hg)
  | false =>
    rw [ht] at f67
    rw [n4] at f32
    clear n4 ht r35
    cases t with
    | lf k =>
      have f32' : w1.cell? ⟨b, 32, none⟩ = some (.int .i64 256) := f32
      have r0' : rowOf w1 b 0 32 = hc k := by rw [r0]; show hc n.key = _; rw [N3.out]; rfl
      clear f32 r0
      have HL : Hid ((hereH (vOf E) (.lf k)).length = 32) := hereH_len _ _
      obtain ⟨c, hc0⟩ := E1.out.mp.mp
      have hS0 : w1.drew.cell? ⟨p, 0, none⟩ = some (.map (some m)) ∧ w1.drew.heap[m]? = some (.map (mes E) c) ∧ rowOf w1.drew b 0 32 = hc k := ⟨E1.out.mp.cell, hc0, r0'⟩
      have b2 : Below w1.heap.size w1 w1.drew := (Below.refl _ _).drew
      have E2 := Lib.hid (E1.out.on b2)
      have CW := Lib.hid (CW0.out.trans (Chg.below b2 (Nat.le_refl _) []) (by simp))
      have RZ := Lib.hid (RZ0.out.on b2)
      have hkl : k.length = 32 := OK.out.len
      have hkl2 := hc_len k
      clear hc0 b2 E1 CW0 RZ0
      go_wp2_with fail
      clear f32' r0' f67
      refine wp_region_held_drew (S := fun W => W.cell? ⟨p, 0, none⟩ = some (.map (some m)) ∧ W.heap[m]? = some (.map (mes E) c) ∧ rowOf W b 0 32 = hc k) (by kernel_rfl) (hS0) (fun h0 => ?_)
      generalize w1.drew = w2 at *
      refine wpAnyH_take (i := 0) (v := ?_) (by rw [List.getElem?_toArray]; rfl) (by kernel_rfl) (by kernel_rfl) (by kernel_rfl) (by exact fun _ _ _ h => h) (Or.inl ⟨by rfl, ?_⟩) h0 ?_
      rotate_left
      · intro W hW
        go_simp
        all_goals with_reducible rfl
      try simp only [Act.put, List.setIfInBounds_toArray, List.set_cons_zero, List.set_cons_succ]
      refine wpAnyH_take (i := 1) (v := ?_) (by rw [List.getElem?_toArray]; rfl) (by kernel_rfl) (by kernel_rfl) (by kernel_rfl) (by exact fun _ _ _ h => h) (Or.inl ⟨by rfl, ?_⟩) h0 ?_
      rotate_left
      · intro W hW
        go_simp
        all_goals with_reducible rfl
      try simp only [Act.put, List.setIfInBounds_toArray, List.set_cons_zero, List.set_cons_succ]
      refine wpAnyH_take (i := 2) (v := ?_) (by rw [List.getElem?_toArray]; rfl) (by kernel_rfl) (by kernel_rfl) (by kernel_rfl) (by exact fun _ _ _ h => h) (Or.inl ⟨by rfl, ?_⟩) h0 ?_
      rotate_left
      · intro W hW
        go_simp
        all_goals with_reducible rfl
      try simp only [Act.put, List.setIfInBounds_toArray, List.set_cons_zero, List.set_cons_succ]
      refine wpAnyH_take (i := 3) (v := ?_) (by rw [List.getElem?_toArray]; rfl) (by kernel_rfl) (by kernel_rfl) (by kernel_rfl) (by exact fun _ _ _ h => h) (Or.inl ⟨by rfl, ?_⟩) h0 ?_
      rotate_left
      · intro W hW
        go_simp
        all_goals with_reducible rfl
      try simp only [Act.put, List.setIfInBounds_toArray, List.set_cons_zero, List.set_cons_succ]
      refine wpAnyH_take (i := 4) (v := ?_) (by rw [List.getElem?_toArray]; rfl) (by kernel_rfl) (by kernel_rfl) (by kernel_rfl) (by exact fun _ _ _ h => h) (Or.inl ⟨by rfl, ?_⟩) h0 ?_
      rotate_left
      · intro W hW
        have r := hW.2.2
        go_simp
        all_goals with_reducible rfl
      try simp only [Act.put, List.setIfInBounds_toArray, List.set_cons_zero, List.set_cons_succ]
      refine wpAnyH_take (i := 5) (v := ?_) (by rw [List.getElem?_toArray]; rfl) (by kernel_rfl) (by kernel_rfl) (by kernel_rfl) (by exact fun _ _ _ h => h) (Or.inl ⟨by rfl, ?_⟩) h0 ?_
      rotate_left
      · intro W hW
        go_simp
        all_goals with_reducible rfl
      try simp only [Act.put, List.setIfInBounds_toArray, List.set_cons_zero, List.set_cons_succ]
      refine wpAnyH_take (i := 6) (v := ?_) (by rw [List.getElem?_toArray]; rfl) (by kernel_rfl) (by kernel_rfl) (by kernel_rfl) (by exact fun _ _ _ h => h) (Or.inl ⟨by rfl, ?_⟩) h0 ?_
      rotate_left
      · intro W hW
        go_simp
        all_goals with_reducible rfl
      try simp only [Act.put, List.setIfInBounds_toArray, List.set_cons_zero, List.set_cons_succ]
      refine wpAnyH_take (i := 7) (v := ?_) (by rw [List.getElem?_toArray]; rfl) (by kernel_rfl) (by kernel_rfl) (by kernel_rfl) (by exact fun _ _ _ h => h) (Or.inl ⟨by rfl, ?_⟩) h0 ?_
      rotate_left
      · intro W hW
        go_simp
        all_goals with_reducible rfl
      try simp only [Act.put, List.setIfInBounds_toArray, List.set_cons_zero, List.set_cons_succ]
      refine wpAnyH_take (i := 8) (v := ?_) (by rw [List.getElem?_toArray]; rfl) (by kernel_rfl) (by kernel_rfl) (by kernel_rfl) (by exact fun _ _ _ h => h) (Or.inl ⟨by rfl, ?_⟩) h0 ?_
      rotate_left
      · intro W hW
        have c0 := hW.1
        go_simp
        all_goals with_reducible rfl
      try simp only [Act.put, List.setIfInBounds_toArray, List.set_cons_zero, List.set_cons_succ]
      refine wpAnyH_take (i := 9) (v := ?_) (by rw [List.getElem?_toArray]; rfl) (by kernel_rfl) (by kernel_rfl) (by kernel_rfl) (by exact fun _ _ _ h => h) (Or.inl ⟨by rfl, ?_⟩) h0 ?_
      rotate_left
      · intro W hW
        go_simp
        all_goals with_reducible rfl
      try simp only [Act.put, List.setIfInBounds_toArray, List.set_cons_zero, List.set_cons_succ]
      refine wpAnyH_take (i := 10) (v := ?_) (by rw [List.getElem?_toArray]; rfl) (by kernel_rfl) (by kernel_rfl) (by kernel_rfl) (by exact fun _ _ _ h => h) (Or.inl ⟨by rfl, ?_⟩) h0 ?_
      rotate_left
      · intro W hW
        go_simp
        all_goals with_reducible rfl
      try simp only [Act.put, List.setIfInBounds_toArray, List.set_cons_zero, List.set_cons_succ]
      refine wpAnyH_take (i := 11) (v := ?_) (by rw [List.getElem?_toArray]; rfl) (by kernel_rfl) (by kernel_rfl) (by kernel_rfl) (by exact fun _ _ _ h => h) (Or.inl ⟨by rfl, ?_⟩) h0 ?_
      rotate_left
      · intro W hW
        go_simp
        all_goals with_reducible rfl
      try simp only [Act.put, List.setIfInBounds_toArray, List.set_cons_zero, List.set_cons_succ]
      refine wpAnyH_take (i := 12) (v := ?_) (by rw [List.getElem?_toArray]; rfl) (by kernel_rfl) (by kernel_rfl) (by kernel_rfl) (by exact fun _ _ _ h => h) (Or.inl ⟨by rfl, ?_⟩) h0 ?_
      rotate_left
      · intro W hW
        have r := hW.2.2
        go_simp
        all_goals with_reducible rfl
      try simp only [Act.put, List.setIfInBounds_toArray, List.set_cons_zero, List.set_cons_succ]
      refine wpAnyH_take (i := 13) (v := ?_) (by rw [List.getElem?_toArray]; rfl) (by kernel_rfl) (by kernel_rfl) (by kernel_rfl) (by exact fun _ _ _ h => h) (Or.inl ⟨by rfl, ?_⟩) h0 ?_
      rotate_left
      · intro W hW
        have lk := look_any false hW.2.1 EB.out.ok hkl
        go_simp
        all_goals with_reducible rfl
      try simp only [Act.put, List.setIfInBounds_toArray, List.set_cons_zero, List.set_cons_succ]
      refine wpAnyH_ready (rs := [14]) (by kernel_rfl) (by simp) ?_
      refine AllReadyH.cons (by rw [List.getElem?_toArray]; rfl) (fun K hK => ?_) AllReadyH.nil
      rw [if_pos (by rfl)]
      go_wp2_with fail
      refine (Leaf_any E2.out.tbl OK.out.len (vOf_ok EB.out k).1 OK.out.by_ (vOf_ok EB.out k).2).mono ?_
      rintro e w3 ⟨rfl, b3⟩
      have hS : w3.cell? ⟨p, 0, none⟩ = some (.map (some m)) ∧ w3.heap[m]? = some (.map (mes E) c) ∧ rowOf w3 b 0 32 = hc k := ⟨(b3.cell (World.block_lt_of_cell? _ _ h0.1)).trans h0.1, (b3.block _ (Array.getElem?_eq_some_iff.1 h0.2.1).1).trans h0.2.1, by
        obtain ⟨n5, n51, n52, n53, -⟩ := (E2.out.on b3).tr.2.choose_spec.choose_spec
        have := (n51.facts n52).2.2.2.2.2.2.1
        rw [this, n53]; rfl⟩
      have E3 := Lib.hid (E2.out.on b3)
      have CW := Lib.hid (CW.out.trans (Chg.below b3 (Nat.le_refl _) []) (by simp))
      have RZ := Lib.hid (RZ.out.on b3)
      clear b3
      go_wp2_with fail
      refine hK.out _ _ hS (fun h0 => ?_)
      clear hK K hS
      try simp only [Act.put, List.setIfInBounds_toArray, List.set_cons_zero, List.set_cons_succ]
      refine wpAnyH_take (i := 15) (v := ?_) (by rw [List.getElem?_toArray]; rfl) (by kernel_rfl) (by kernel_rfl) (by kernel_rfl) (by exact fun _ _ _ h => h) (Or.inl ⟨by rfl, ?_⟩) h0 ?_
      rotate_left
      · intro W hW
        go_simp
        all_goals with_reducible rfl
      try simp only [Act.put, List.setIfInBounds_toArray, List.set_cons_zero, List.set_cons_succ]
      refine wpAnyH_take (i := 16) (v := ?_) (by rw [List.getElem?_toArray]; rfl) (by kernel_rfl) (by kernel_rfl) (by kernel_rfl) (by exact fun _ _ _ h => h) (Or.inl ⟨by rfl, ?_⟩) h0 ?_
      rotate_left
      · intro W hW
        go_simp
        all_goals with_reducible rfl
      try simp only [Act.put, List.setIfInBounds_toArray, List.set_cons_zero, List.set_cons_succ]
      refine wpAnyH_ready (rs := [17]) (by kernel_rfl) (by simp) ?_
      refine AllReadyH.cons (by rw [List.getElem?_toArray]; rfl) (fun K hK => ?_) AllReadyH.nil
      rw [if_pos (by rfl)]
      have NA := Lib.hid E3.out.tr.2.choose_spec.choose_spec
      have TW : Hid (TrA w3 (vOf E) (.lf k) b bl) := (E3.out.tr)
      obtain ⟨n5, n51, n52, -⟩ := NA.out
      have ct := n51.there n52 (i := 35) (k := 32) (by omega)
      clear n51 n52
      have NO := Lib.hid NA.out.own_put
      have OP := Lib.hid (fun x y (h : NdA w3 (vOf E) (.lf k) b x y) => h.own_put)
      obtain ⟨H, hH⟩ : ∃ H, hereH (vOf E) (.lf k) = H := ⟨_, rfl⟩
      have HE := Lib.hid hH
      have hH2 : lfH k (vOf E k) = H := hH
      rw [hH] at NO OP HL
      rw [hH2]
      have C5 := Lib.hid ((Chg.refl w3 [b]).setCells (b := b) (.inl (by simp)) (hc H) 35)
      have hl32 := HL.out
      have lH := hc_len H
      have hS : (w3.setCells b 35 (hc H)).cell? ⟨p, 0, none⟩ = some (.map (some m)) ∧ (w3.setCells b 35 (hc H)).heap[m]? = some (.map (mes E) c) ∧ rowOf (w3.setCells b 35 (hc H)) b 0 32 = hc k := ⟨by
        rw [World.cell?_of_block (w := w3) (C5.out.block p (World.block_lt_of_cell? _ _ h0.1) (fun hm => AP.out.p (by obtain rfl := List.mem_singleton.1 hm; exact BIN.out)))]; exact h0.1, by
        rw [C5.out.block m (Array.getElem?_eq_some_iff.1 h0.2.1).1 (fun hm => AP.out.m (by obtain rfl := List.mem_singleton.1 hm; exact BIN.out))]; exact h0.2.1, by
        obtain ⟨n5, n51, n52, n53, -⟩ := NO.out
        have := (n51.facts n52).2.2.2.2.2.2.1
        rw [this, n53]; rfl⟩
      clear hH hH2
      go_wp2_with fail
      clear ct
      generalize w3.setCells b 35 (hc H) = w5 at *
      refine hK.out _ _ hS (fun h0 => ?_)
      clear hK K hS
      try simp only [Act.put, List.setIfInBounds_toArray, List.set_cons_zero, List.set_cons_succ]
      refine wpAnyH_done (by kernel_rfl) ?_ _
      clear h0
      go_upto_region 6 with fail
      obtain ⟨x5, y5, hno⟩ : ∃ x y, NdO w5 (vOf E) (.lf k) b x y := ⟨_, _, NO.out⟩
      obtain ⟨n5, n51, n52, n53, n54, n55, n56, n57, n58⟩ := hno
      have t67 := (n51.facts n52).2.2.2.1
      have u67 := n51.free 67
      have N6 := Lib.hid (n51.setTold n52 true)
      have o6 : Nd.ok { n5 with told := true } := ⟨n52.key, n52.own, n52.high⟩
      have OW := Lib.hid n57
      have O6 := Lib.hid o6
      have C6 := Lib.hid (((Chg.refl w5 [b]).setCell (p := ⟨b, 67, none⟩) (.inl (by simp)) (.bool true)))
      have TO := Lib.hid (fun x y (h : NdO w5 (vOf E) (.lf k) b x y) => h.told)
      clear n51 n52 n53 n54 n55 n56 n57 n58 o6
      go_upto_region 7 with fail
      clear t67 u67
      generalize w5.setCell ⟨b, 67, none⟩ (.bool true) = w6 at *
      have r35 := (N6.out.facts O6.out).2.2.2.2.2.2.2.1
      have r35' : rowOf w6 b 35 32 = hc H := by rw [r35]; show hc n5.own = _; rw [OW.out, HE.out]
      clear r35
      have RZ6 : HashAt w6 rb zero32 := (RZ.out.chg C5.out (by simpa using RB.out)).chg C6.out (by simpa using RB.out)
      have ct := RZ6.there zero32_len
      have R7 := Lib.hid (RZ6.put zero32_len HL.out)
      have C7 := Lib.hid ((Chg.refl w6 [rb]).setCells (b := rb) (.inl (by simp)) (hc H) 0)
      have hl32 := HL.out
      have lH := hc_len H
      go_wp2_with fail
      clear ct r35'
      have cf := R7.out.row HL.out
      refine bodyPost_ret (v := .agg (hc H).toArray) (by simp [results, Tryd.results53, go_sem, cf, hc_len, hl32]) rfl ?_
      refine ⟨by rw [HE.out], ?_, ?_⟩
      · exact ((CW.out.trans (C5.out.trans C6.out (fun g hg _ => hg)) (fun g hg _ => by obtain rfl := List.mem_singleton.1 hg; exact BIN.out)).trans C7.out (fun g hg hl => by obtain rfl := List.mem_singleton.1 hg; have := RBL.out; omega))
      · have T6 := TrA.renode TW.out AP.out.nd (C5.out.trans C6.out (fun g hg _ => hg)) (fun g hg _ => by simpa using hg) (fun x y h => TO.out x y (OP.out x y h))
        exact TrA.chg C7.out T6 (fun g hg hm => by obtain rfl := List.mem_singleton.1 hm; exact RNB.out hg)
    | nd k f l r =>
      have f32' : w1.cell? ⟨b, 32, none⟩ = some (.int .i64 (f : Int)) := f32
      clear f32 r0
      have hf := OK.out.2.1
      have ne256 : ((f : Int) == 256) = false := by simp; omega
      have wf : IntKind.i64.wrap ((f : Int) + 1) = ((f + 1 : Nat) : Int) := by rw [show (f : Int) + 1 = ((f + 1 : Nat) : Int) by omega]; exact IntWalk.i64_in _ (by omega)
      have HL : Hid ((hereH (vOf E) (.nd k f l r)).length = 32) := hereH_len _ _
      obtain ⟨xa, ya, bl1, bl2, hbl, hnd, htl, htr⟩ := E1.out.tr
      obtain ⟨IL, IR⟩ := IH.out k f l r rfl
      have hnl := AP.out.nd
      rw [hbl] at hnl
      obtain ⟨nb, nd12⟩ := List.nodup_cons.1 hnl
      obtain ⟨nd1, nd2, nd3⟩ := List.nodup_append.1 nd12
      have A1 : Hid (ApA p m bl1) := ⟨nd1, fun h => AP.out.p (by rw [hbl]; simp [h]), fun h => AP.out.m (by rw [hbl]; simp [h]), fun h => AP.out.g (by rw [hbl]; simp [h])⟩
      have A2 : Hid (ApA p m bl2) := ⟨nd2, fun h => AP.out.p (by rw [hbl]; simp [h]), fun h => AP.out.m (by rw [hbl]; simp [h]), fun h => AP.out.g (by rw [hbl]; simp [h])⟩
      have NB1 : Hid (b ∉ bl1) := fun h => nb (by simp [h])
      have NB2 : Hid (b ∉ bl2) := fun h => nb (by simp [h])
      have D12 : Hid (∀ g ∈ bl1, g ∉ bl2) := fun g h1 h2 => nd3 g h1 g h2 rfl
      have RN1 : Hid (rb ∉ bl1) := fun h => RNB.out (by rw [hbl]; simp [h])
      have RN2 : Hid (rb ∉ bl2) := fun h => RNB.out (by rw [hbl]; simp [h])
      have IN1 : Hid (∀ g ∈ bl1, g ∈ bl) := fun g h => by rw [hbl]; simp [h]
      have IN2 : Hid (∀ g ∈ bl2, g ∈ bl) := fun g h => by rw [hbl]; simp [h]
      have HBL := Lib.hid hbl
      have IL := Lib.hid IL
      have IR := Lib.hid IR
      have b2 : Below w1.heap.size w1 w1.drew := (Below.refl _ _).drew
      have NA := Lib.hid (hnd.chg (Chg.below b2 (Nat.le_refl _) []) (by simp))
      have TL := Lib.hid (htl.on b2)
      have TT := Lib.hid (htr.on b2)
      have TB := Lib.hid (E1.out.tbl.on b2 E1.out.tbl.pos)
      have MP := Lib.hid (E1.out.mp.on b2)
      have CW := Lib.hid (CW0.out.trans (Chg.below b2 (Nat.le_refl _) []) (by simp))
      have RZ := Lib.hid (RZ0.out.on b2)
      have hS0 : w1.drew.cell? ⟨b, 32, none⟩ = some (.int .i64 (f : Int)) ∧ w1.drew.cell? ⟨b, 33, none⟩ = some (.pointer (some ⟨xa, 0, none⟩)) ∧ w1.drew.cell? ⟨b, 34, none⟩ = some (.pointer (some ⟨ya, 0, none⟩)) := by
        obtain ⟨n5, n51, n52, n53, n54, n55, n56, -⟩ := NA.out
        obtain ⟨g1, g2, g3, -⟩ := n51.facts n52
        rw [n54] at g1
        rw [n55] at g2
        rw [n56] at g3
        exact ⟨g1, g2, g3⟩
      have FL := Lib.hid OK.out.2.2.2.2.1
      have FR := Lib.hid OK.out.2.2.2.2.2.1
      clear hbl hnd htl htr hnl nb nd12 nd1 nd2 nd3 b2 E1 CW0 RZ0 HN
      go_wp2_with fail
      clear f32' f67 ne256
      refine wp_region_held_drew (S := fun W => W.cell? ⟨b, 32, none⟩ = some (.int .i64 (f : Int)) ∧ W.cell? ⟨b, 33, none⟩ = some (.pointer (some ⟨xa, 0, none⟩)) ∧ W.cell? ⟨b, 34, none⟩ = some (.pointer (some ⟨ya, 0, none⟩))) (by kernel_rfl) (hS0) (fun h0 => ?_)
      generalize w1.drew = w2 at *
      refine wpAnyH_take (i := 0) (v := ?_) (by rw [List.getElem?_toArray]; rfl) (by kernel_rfl) (by kernel_rfl) (by kernel_rfl) (by exact fun _ _ _ h => h) (Or.inl ⟨by rfl, ?_⟩) h0 ?_
      rotate_left
      · intro W hW
        go_simp
        all_goals with_reducible rfl
      try simp only [Act.put, List.setIfInBounds_toArray, List.set_cons_zero, List.set_cons_succ]
      refine wpAnyH_take (i := 1) (v := ?_) (by rw [List.getElem?_toArray]; rfl) (by kernel_rfl) (by kernel_rfl) (by kernel_rfl) (by exact fun _ _ _ h => h) (Or.inl ⟨by rfl, ?_⟩) h0 ?_
      rotate_left
      · intro W hW
        go_simp
        all_goals with_reducible rfl
      try simp only [Act.put, List.setIfInBounds_toArray, List.set_cons_zero, List.set_cons_succ]
      refine wpAnyH_take (i := 2) (v := ?_) (by rw [List.getElem?_toArray]; rfl) (by kernel_rfl) (by kernel_rfl) (by kernel_rfl) (by exact fun _ _ _ h => h) (Or.inl ⟨by rfl, ?_⟩) h0 ?_
      rotate_left
      · intro W hW
        go_simp
        all_goals with_reducible rfl
      try simp only [Act.put, List.setIfInBounds_toArray, List.set_cons_zero, List.set_cons_succ]
      refine wpAnyH_take (i := 3) (v := ?_) (by rw [List.getElem?_toArray]; rfl) (by kernel_rfl) (by kernel_rfl) (by kernel_rfl) (by exact fun _ _ _ h => h) (Or.inl ⟨by rfl, ?_⟩) h0 ?_
      rotate_left
      · intro W hW
        go_simp
        all_goals with_reducible rfl
      try simp only [Act.put, List.setIfInBounds_toArray, List.set_cons_zero, List.set_cons_succ]
      refine wpAnyH_take (i := 4) (v := ?_) (by rw [List.getElem?_toArray]; rfl) (by kernel_rfl) (by kernel_rfl) (by kernel_rfl) (by exact fun _ _ _ h => h) (Or.inl ⟨by rfl, ?_⟩) h0 ?_
      rotate_left
      · intro W hW
        go_simp
        all_goals with_reducible rfl
      try simp only [Act.put, List.setIfInBounds_toArray, List.set_cons_zero, List.set_cons_succ]
      refine wpAnyH_take (i := 5) (v := ?_) (by rw [List.getElem?_toArray]; rfl) (by kernel_rfl) (by kernel_rfl) (by kernel_rfl) (by exact fun _ _ _ h => h) (Or.inl ⟨by rfl, ?_⟩) h0 ?_
      rotate_left
      · intro W hW
        go_simp
        all_goals with_reducible rfl
      try simp only [Act.put, List.setIfInBounds_toArray, List.set_cons_zero, List.set_cons_succ]
      refine wpAnyH_take (i := 6) (v := ?_) (by rw [List.getElem?_toArray]; rfl) (by kernel_rfl) (by kernel_rfl) (by kernel_rfl) (by exact fun _ _ _ h => h) (Or.inl ⟨by rfl, ?_⟩) h0 ?_
      rotate_left
      · intro W hW
        have c1 := hW.1
        have c2 := hW.2.1
        have c3 := hW.2.2
        go_simp
        all_goals with_reducible rfl
      try simp only [Act.put, List.setIfInBounds_toArray, List.set_cons_zero, List.set_cons_succ]
      refine wpAnyH_take (i := 7) (v := ?_) (by rw [List.getElem?_toArray]; rfl) (by kernel_rfl) (by kernel_rfl) (by kernel_rfl) (by exact fun _ _ _ h => h) (Or.inl ⟨by rfl, ?_⟩) h0 ?_
      rotate_left
      · intro W hW
        go_simp
        all_goals with_reducible rfl
      try simp only [Act.put, List.setIfInBounds_toArray, List.set_cons_zero, List.set_cons_succ]
      refine wpAnyH_take (i := 8) (v := ?_) (by rw [List.getElem?_toArray]; rfl) (by kernel_rfl) (by kernel_rfl) (by kernel_rfl) (by exact fun _ _ _ h => h) (Or.inl ⟨by rfl, ?_⟩) h0 ?_
      rotate_left
      · intro W hW
        go_simp
        all_goals with_reducible rfl
      try simp only [Act.put, List.setIfInBounds_toArray, List.set_cons_zero, List.set_cons_succ]
      refine wpAnyH_take (i := 9) (v := ?_) (by rw [List.getElem?_toArray]; rfl) (by kernel_rfl) (by kernel_rfl) (by kernel_rfl) (by exact fun _ _ _ h => h) (Or.inl ⟨by rfl, ?_⟩) h0 ?_
      rotate_left
      · intro W hW
        go_simp
        all_goals with_reducible rfl
      try simp only [Act.put, List.setIfInBounds_toArray, List.set_cons_zero, List.set_cons_succ]
      refine wpAnyH_take (i := 10) (v := ?_) (by rw [List.getElem?_toArray]; rfl) (by kernel_rfl) (by kernel_rfl) (by kernel_rfl) (by exact fun _ _ _ h => h) (Or.inl ⟨by rfl, ?_⟩) h0 ?_
      rotate_left
      · intro W hW
        have c1 := hW.1
        have c2 := hW.2.1
        have c3 := hW.2.2
        go_simp
        all_goals with_reducible rfl
      try simp only [Act.put, List.setIfInBounds_toArray, List.set_cons_zero, List.set_cons_succ]
      refine wpAnyH_take (i := 11) (v := ?_) (by rw [List.getElem?_toArray]; rfl) (by kernel_rfl) (by kernel_rfl) (by kernel_rfl) (by exact fun _ _ _ h => h) (Or.inl ⟨by rfl, ?_⟩) h0 ?_
      rotate_left
      · intro W hW
        go_simp
        all_goals with_reducible rfl
      try simp only [Act.put, List.setIfInBounds_toArray, List.set_cons_zero, List.set_cons_succ]
      refine wpAnyH_take (i := 13) (v := ?_) (by rw [List.getElem?_toArray]; rfl) (by kernel_rfl) (by kernel_rfl) (by kernel_rfl) (by exact fun _ _ _ h => h) (Or.inl ⟨by rfl, ?_⟩) h0 ?_
      rotate_left
      · intro W hW
        go_simp
        all_goals with_reducible rfl
      try simp only [Act.put, List.setIfInBounds_toArray, List.set_cons_zero, List.set_cons_succ]
      refine wpAnyH_take (i := 14) (v := ?_) (by rw [List.getElem?_toArray]; rfl) (by kernel_rfl) (by kernel_rfl) (by kernel_rfl) (by exact fun _ _ _ h => h) (Or.inl ⟨by rfl, ?_⟩) h0 ?_
      rotate_left
      · intro W hW
        go_simp
        all_goals with_reducible rfl
      try simp only [Act.put, List.setIfInBounds_toArray, List.set_cons_zero, List.set_cons_succ]
      refine wpAnyH_take (i := 15) (v := ?_) (by rw [List.getElem?_toArray]; rfl) (by kernel_rfl) (by kernel_rfl) (by kernel_rfl) (by exact fun _ _ _ h => h) (Or.inl ⟨by rfl, ?_⟩) h0 ?_
      rotate_left
      · intro W hW
        go_simp
        all_goals with_reducible rfl
      try simp only [Act.put, List.setIfInBounds_toArray, List.set_cons_zero, List.set_cons_succ]
      refine wpAnyH_take (i := 16) (v := ?_) (by rw [List.getElem?_toArray]; rfl) (by kernel_rfl) (by kernel_rfl) (by kernel_rfl) (by exact fun _ _ _ h => h) (Or.inl ⟨by rfl, ?_⟩) h0 ?_
      rotate_left
      · intro W hW
        go_simp
        all_goals with_reducible rfl
      try simp only [Act.put, List.setIfInBounds_toArray, List.set_cons_zero, List.set_cons_succ]
      refine wpAnyH_take (i := 17) (v := ?_) (by rw [List.getElem?_toArray]; rfl) (by kernel_rfl) (by kernel_rfl) (by kernel_rfl) (by exact fun _ _ _ h => h) (Or.inl ⟨by rfl, ?_⟩) h0 ?_
      rotate_left
      · intro W hW
        go_simp
        all_goals with_reducible rfl
      try simp only [Act.put, List.setIfInBounds_toArray, List.set_cons_zero, List.set_cons_succ]
      refine wpAnyH_take (i := 18) (v := ?_) (by rw [List.getElem?_toArray]; rfl) (by kernel_rfl) (by kernel_rfl) (by kernel_rfl) (by exact fun _ _ _ h => h) (Or.inl ⟨by rfl, ?_⟩) h0 ?_
      rotate_left
      · intro W hW
        have c1 := hW.1
        have c2 := hW.2.1
        have c3 := hW.2.2
        go_simp
        all_goals with_reducible rfl
      try simp only [Act.put, List.setIfInBounds_toArray, List.set_cons_zero, List.set_cons_succ]
      refine wpAnyH_take (i := 19) (v := ?_) (by rw [List.getElem?_toArray]; rfl) (by kernel_rfl) (by kernel_rfl) (by kernel_rfl) (by exact fun _ _ _ h => h) (Or.inl ⟨by rfl, ?_⟩) h0 ?_
      rotate_left
      · intro W hW
        go_simp
        all_goals with_reducible rfl
      try simp only [Act.put, List.setIfInBounds_toArray, List.set_cons_zero, List.set_cons_succ]
      refine wpAnyH_take (i := 20) (v := ?_) (by rw [List.getElem?_toArray]; rfl) (by kernel_rfl) (by kernel_rfl) (by kernel_rfl) (by exact fun _ _ _ h => h) (Or.inl ⟨by rfl, ?_⟩) h0 ?_
      rotate_left
      · intro W hW
        go_simp
        all_goals with_reducible rfl
      try simp only [Act.put, List.setIfInBounds_toArray, List.set_cons_zero, List.set_cons_succ]
      refine wpAnyH_take (i := 21) (v := ?_) (by rw [List.getElem?_toArray]; rfl) (by kernel_rfl) (by kernel_rfl) (by kernel_rfl) (by exact fun _ _ _ h => h) (Or.inl ⟨by rfl, ?_⟩) h0 ?_
      rotate_left
      · intro W hW
        go_simp
        all_goals with_reducible rfl
      try simp only [Act.put, List.setIfInBounds_toArray, List.set_cons_zero, List.set_cons_succ]
      refine wpAnyH_take (i := 22) (v := ?_) (by rw [List.getElem?_toArray]; rfl) (by kernel_rfl) (by kernel_rfl) (by kernel_rfl) (by exact fun _ _ _ h => h) (Or.inl ⟨by rfl, ?_⟩) h0 ?_
      rotate_left
      · intro W hW
        have c1 := hW.1
        have c2 := hW.2.1
        have c3 := hW.2.2
        go_simp
        all_goals with_reducible rfl
      try simp only [Act.put, List.setIfInBounds_toArray, List.set_cons_zero, List.set_cons_succ]
      refine wpAnyH_take (i := 23) (v := ?_) (by rw [List.getElem?_toArray]; rfl) (by kernel_rfl) (by kernel_rfl) (by kernel_rfl) (by exact fun _ _ _ h => h) (Or.inl ⟨by rfl, ?_⟩) h0 ?_
      rotate_left
      · intro W hW
        go_simp
        all_goals with_reducible rfl
      try simp only [Act.put, List.setIfInBounds_toArray, List.set_cons_zero, List.set_cons_succ]
      refine wpAnyH_ready (rs := [12]) (by kernel_rfl) (by simp) ?_
      refine AllReadyH.cons (by rw [List.getElem?_toArray]; rfl) (fun K hK => ?_) AllReadyH.nil
      rw [if_pos (by rfl)]
      go_wp2_with fail
      refine (IL.out _ p m xa (f + 1) bl1 ⟨TB.out, MP.out, TL.out⟩ A1.out FL.out).mono ?_
      rintro e w3 ⟨rfl, c3, tl3⟩
      have NA := Lib.hid (NA.out.chg c3 NB1.out)
      have TL := Lib.hid tl3
      have TT := Lib.hid (TT.out.chg c3 (fun g h2 h1 => D12.out g h1 h2))
      have TB := Lib.hid (TB.out.chg c3 A1.out.g)
      have MP := Lib.hid (MP.out.chg c3 A1.out.p A1.out.m)
      have CW := Lib.hid (CW.out.trans c3 (fun g hg _ => IN1.out g hg))
      have RZ := Lib.hid (RZ.out.chg c3 RN1.out)
      have hS : w3.cell? ⟨b, 32, none⟩ = some (.int .i64 (f : Int)) ∧ w3.cell? ⟨b, 33, none⟩ = some (.pointer (some ⟨xa, 0, none⟩)) ∧ w3.cell? ⟨b, 34, none⟩ = some (.pointer (some ⟨ya, 0, none⟩)) := by
        obtain ⟨n5, n51, n52, n53, n54, n55, n56, -⟩ := NA.out
        obtain ⟨g1, g2, g3, -⟩ := n51.facts n52
        rw [n54] at g1
        rw [n55] at g2
        rw [n56] at g3
        exact ⟨g1, g2, g3⟩
      clear c3 tl3
      go_wp2_with fail
      refine hK.out _ _ hS (fun h0 => ?_)
      clear hK K hS
      try simp only [Act.put, List.setIfInBounds_toArray, List.set_cons_zero, List.set_cons_succ]
      refine wpAnyH_ready (rs := [24]) (by kernel_rfl) (by simp) ?_
      refine AllReadyH.cons (by rw [List.getElem?_toArray]; rfl) (fun K hK => ?_) AllReadyH.nil
      rw [if_pos (by rfl)]
      go_wp2_with fail
      refine (IR.out _ p m ya (f + 1) bl2 ⟨TB.out, MP.out, TT.out⟩ A2.out FR.out).mono ?_
      rintro e w4 ⟨rfl, c3, tl3⟩
      have NA := Lib.hid (NA.out.chg c3 NB2.out)
      have TL := Lib.hid (TL.out.chg c3 (fun g h1 h2 => D12.out g h1 h2))
      have TT := Lib.hid tl3
      have TB := Lib.hid (TB.out.chg c3 A2.out.g)
      have MP := Lib.hid (MP.out.chg c3 A2.out.p A2.out.m)
      have CW := Lib.hid (CW.out.trans c3 (fun g hg _ => IN2.out g hg))
      have RZ := Lib.hid (RZ.out.chg c3 RN2.out)
      have hS : w4.cell? ⟨b, 32, none⟩ = some (.int .i64 (f : Int)) ∧ w4.cell? ⟨b, 33, none⟩ = some (.pointer (some ⟨xa, 0, none⟩)) ∧ w4.cell? ⟨b, 34, none⟩ = some (.pointer (some ⟨ya, 0, none⟩)) := by
        obtain ⟨n5, n51, n52, n53, n54, n55, n56, -⟩ := NA.out
        obtain ⟨g1, g2, g3, -⟩ := n51.facts n52
        rw [n54] at g1
        rw [n55] at g2
        rw [n56] at g3
        exact ⟨g1, g2, g3⟩
      clear c3 tl3
      go_wp2_with fail
      refine hK.out _ _ hS (fun h0 => ?_)
      clear hK K hS
      try simp only [Act.put, List.setIfInBounds_toArray, List.set_cons_zero, List.set_cons_succ]
      refine wpAnyH_ready (rs := [25]) (by kernel_rfl) (by simp) ?_
      refine AllReadyH.cons (by rw [List.getElem?_toArray]; rfl) (fun K hK => ?_) AllReadyH.nil
      rw [if_pos (by rfl)]
      go_wp2_with fail
      refine (Above_any TB.out (aboveH_len _ _ _) (aboveH_len _ _ _) (aboveH_bytes _ _ _) (aboveH_bytes _ _ _)).mono ?_
      rintro e w5_ ⟨rfl, b3⟩
      have NA := Lib.hid (NA.out.chg (Chg.below b3 (Nat.le_refl _) []) (by simp))
      have TL := Lib.hid (TL.out.on b3)
      have TT := Lib.hid (TT.out.on b3)
      have CW := Lib.hid (CW.out.trans (Chg.below b3 (Nat.le_refl _) []) (by simp))
      have RZ := Lib.hid (RZ.out.on b3)
      have hS : w5_.cell? ⟨b, 32, none⟩ = some (.int .i64 (f : Int)) ∧ w5_.cell? ⟨b, 33, none⟩ = some (.pointer (some ⟨xa, 0, none⟩)) ∧ w5_.cell? ⟨b, 34, none⟩ = some (.pointer (some ⟨ya, 0, none⟩)) := by
        obtain ⟨n5, n51, n52, n53, n54, n55, n56, -⟩ := NA.out
        obtain ⟨g1, g2, g3, -⟩ := n51.facts n52
        rw [n54] at g1
        rw [n55] at g2
        rw [n56] at g3
        exact ⟨g1, g2, g3⟩
      clear b3 TB MP
      go_wp2_with fail
      refine hK.out _ _ hS (fun h0 => ?_)
      clear hK K hS
      try simp only [Act.put, List.setIfInBounds_toArray, List.set_cons_zero, List.set_cons_succ]
      refine wpAnyH_take (i := 26) (v := ?_) (by rw [List.getElem?_toArray]; rfl) (by kernel_rfl) (by kernel_rfl) (by kernel_rfl) (by exact fun _ _ _ h => h) (Or.inl ⟨by rfl, ?_⟩) h0 ?_
      rotate_left
      · intro W hW
        go_simp
        all_goals with_reducible rfl
      try simp only [Act.put, List.setIfInBounds_toArray, List.set_cons_zero, List.set_cons_succ]
      refine wpAnyH_take (i := 27) (v := ?_) (by rw [List.getElem?_toArray]; rfl) (by kernel_rfl) (by kernel_rfl) (by kernel_rfl) (by exact fun _ _ _ h => h) (Or.inl ⟨by rfl, ?_⟩) h0 ?_
      rotate_left
      · intro W hW
        go_simp
        all_goals with_reducible rfl
      try simp only [Act.put, List.setIfInBounds_toArray, List.set_cons_zero, List.set_cons_succ]
      refine wpAnyH_ready (rs := [28]) (by kernel_rfl) (by simp) ?_
      refine AllReadyH.cons (by rw [List.getElem?_toArray]; rfl) (fun K hK => ?_) AllReadyH.nil
      rw [if_pos (by rfl)]
      have TW : Hid (TrA w5_ (vOf E) (.nd k f l r) b bl) := ((⟨xa, ya, bl1, bl2, HBL.out, NA.out, TL.out, TT.out⟩ : TrA w5_ (vOf E) (.nd k f l r) b bl))
      obtain ⟨n5, n51, n52, -⟩ := NA.out
      have ct := n51.there n52 (i := 35) (k := 32) (by omega)
      clear n51 n52
      have NO := Lib.hid NA.out.own_put
      have OP := Lib.hid (fun x y (h : NdA w5_ (vOf E) (.nd k f l r) b x y) => h.own_put)
      obtain ⟨H, hH⟩ : ∃ H, hereH (vOf E) (.nd k f l r) = H := ⟨_, rfl⟩
      have HE := Lib.hid hH
      have hH2 : abH (aboveH (vOf E) l (f + 1)) (aboveH (vOf E) r (f + 1)) = H := hH
      rw [hH] at NO OP HL
      rw [hH2]
      have C5 := Lib.hid ((Chg.refl w5_ [b]).setCells (b := b) (.inl (by simp)) (hc H) 35)
      have hl32 := HL.out
      have lH := hc_len H
      have hS : (w5_.setCells b 35 (hc H)).cell? ⟨b, 32, none⟩ = some (.int .i64 (f : Int)) ∧ (w5_.setCells b 35 (hc H)).cell? ⟨b, 33, none⟩ = some (.pointer (some ⟨xa, 0, none⟩)) ∧ (w5_.setCells b 35 (hc H)).cell? ⟨b, 34, none⟩ = some (.pointer (some ⟨ya, 0, none⟩)) := by
        obtain ⟨n5, n51, n52, n53, n54, n55, n56, -⟩ := NO.out
        obtain ⟨g1, g2, g3, -⟩ := n51.facts n52
        rw [n54] at g1
        rw [n55] at g2
        rw [n56] at g3
        exact ⟨g1, g2, g3⟩
      clear hH hH2
      go_wp2_with fail
      clear ct
      generalize w5_.setCells b 35 (hc H) = w5 at *
      refine hK.out _ _ hS (fun h0 => ?_)
      clear hK K hS
      try simp only [Act.put, List.setIfInBounds_toArray, List.set_cons_zero, List.set_cons_succ]
      refine wpAnyH_done (by kernel_rfl) ?_ _
      clear h0
      go_upto_region 6 with fail
      obtain ⟨x5, y5, hno⟩ : ∃ x y, NdO w5 (vOf E) (.nd k f l r) b x y := ⟨_, _, NO.out⟩
      obtain ⟨n5, n51, n52, n53, n54, n55, n56, n57, n58⟩ := hno
      have t67 := (n51.facts n52).2.2.2.1
      have u67 := n51.free 67
      have N6 := Lib.hid (n51.setTold n52 true)
      have o6 : Nd.ok { n5 with told := true } := ⟨n52.key, n52.own, n52.high⟩
      have OW := Lib.hid n57
      have O6 := Lib.hid o6
      have C6 := Lib.hid (((Chg.refl w5 [b]).setCell (p := ⟨b, 67, none⟩) (.inl (by simp)) (.bool true)))
      have TO := Lib.hid (fun x y (h : NdO w5 (vOf E) (.nd k f l r) b x y) => h.told)
      clear n51 n52 n53 n54 n55 n56 n57 n58 o6
      go_upto_region 7 with fail
      clear t67 u67
      generalize w5.setCell ⟨b, 67, none⟩ (.bool true) = w6 at *
      have r35 := (N6.out.facts O6.out).2.2.2.2.2.2.2.1
      have r35' : rowOf w6 b 35 32 = hc H := by rw [r35]; show hc n5.own = _; rw [OW.out, HE.out]
      clear r35
      have RZ6 : HashAt w6 rb zero32 := (RZ.out.chg C5.out (by simpa using RB.out)).chg C6.out (by simpa using RB.out)
      have ct := RZ6.there zero32_len
      have R7 := Lib.hid (RZ6.put zero32_len HL.out)
      have C7 := Lib.hid ((Chg.refl w6 [rb]).setCells (b := rb) (.inl (by simp)) (hc H) 0)
      have hl32 := HL.out
      have lH := hc_len H
      go_wp2_with fail
      clear ct r35'
      have cf := R7.out.row HL.out
      refine bodyPost_ret (v := .agg (hc H).toArray) (by simp [results, Tryd.results53, go_sem, cf, hc_len, hl32]) rfl ?_
      refine ⟨by rw [HE.out], ?_, ?_⟩
      · exact ((CW.out.trans (C5.out.trans C6.out (fun g hg _ => hg)) (fun g hg _ => by obtain rfl := List.mem_singleton.1 hg; exact BIN.out)).trans C7.out (fun g hg hl => by obtain rfl := List.mem_singleton.1 hg; have := RBL.out; omega))
      · have T6 := TrA.renode TW.out AP.out.nd (C5.out.trans C6.out (fun g hg _ => hg)) (fun g hg _ => by simpa using hg) (fun x y h => TO.out x y (OP.out x y h))
        exact TrA.chg C7.out T6 (fun g hg hm => by obtain rfl := List.mem_singleton.1 hm; exact RNB.out hg)
end Go.Proofs.YtnllcmcahfkmaaaDoor
namespace Go.Proofs.YtnllcmcahfkmaaaDoor
open Go.RowKit
set_option maxRecDepth 100000

theorem tbl_ne {w : World} {b : Nat} {X : List Int} (ht : Tbl w) (h : HashAt w b X) (lX : X.length = 32) (e : 0 = b) : False := by
  have h1 := ht 0 (by omega)
  subst e
  have h2 := Joins.cell_of_block h 0
  rw [h2] at h1
  cases X with
  | nil => simp at lX
  | cons x X => simp [hc] at h1
/-- Within climb: the tree, the hash so far, the answer's cell. -/
structure ClT (w wr : World) (E : List En) (t : Tr) (b : Nat) (bl : List Nat) (hb rb : Nat) (X : List Int) : Prop where
  chg : Chg w wr bl
  tbl : Tbl wr
  tr : TrA wr (vOf E) t b bl
  hh : HashAt wr hb X
  rz : HashAt wr rb zero32
section
variable {w W W' : World} {E : List En} {t : Tr} {b hb rb : Nat} {bl : List Nat} {X : List Int}
theorem ClT.on (h : ClT w W E t b bl hb rb X) (hx : Below W.heap.size W W') : ClT w W' E t b bl hb rb X :=
  ⟨h.chg.trans (T := []) (Chg.below hx (Nat.le_refl _) []) (by simp), h.tbl.on hx h.tbl.pos, h.tr.on hx, h.hh.on hx, h.rz.on hx⟩
theorem ClT.put (h : ClT w W E t b bl hb rb X) (hw : w.heap.size ≤ hb) (hn : hb ∉ bl) (hre : rb ≠ hb) (lX : X.length = 32) {Y : List Int} (lY : Y.length = 32) : ClT w (W.setCells hb 0 (hc Y)) E t b bl hb rb Y := by
  have c : Chg W (W.setCells hb 0 (hc Y)) [hb] := (Chg.refl W [hb]).setCells (b := hb) (.inl (by simp)) (hc Y) 0
  have hg : 0 ∉ [hb] := fun hm => by
    have e := List.mem_singleton.1 hm
    have h1 := h.hh
    have h2 := h.tbl
    exact tbl_ne h2 h1 lX e
  exact ⟨h.chg.trans c (fun g hm hl => by obtain rfl := List.mem_singleton.1 hm; omega), h.tbl.chg c hg, h.tr.chg c (fun g h1 h2 => hn (by obtain rfl := List.mem_singleton.1 h2; exact h1)), h.hh.put lX lY, h.rz.others hre _ _⟩
end
set_option maxHeartbeats 8000000 in
theorem climb_any {E : List En} {t : Tr} (ok : t.ok) (ih : HrP E t) : ClP E t := by
  intro w p m b lv bl hv ap hlv
  have OK := Lib.hid ok
  have AP := Lib.hid ap
  have hf := ok.fork_le
  have b1 : Below w.heap.size w (w.alloc (.cells (hc zero32).toArray 43)) := (Below.refl _ _).alloc (Nat.le_refl _) _
  have KH := Lib.hid (ih _ p m b bl (hv.on b1) ap)
  have C0 := Lib.hid (Chg.below b1 (Nat.le_refl _) bl)
  have RZ0 := Lib.hid (HashAt.new w zero32)
  have TB0 := Lib.hid (hv.tbl.on b1 hv.tbl.pos)
  have LT := Lib.hid (fun g (hg : g ∈ bl) => hv.tr.lt g hg)
  have HBQ := Lib.hid (show aboveH (vOf E) t lv = upH t.key t.fork (hereH (vOf E) t) (t.fork - lv) from rfl)
  obtain ⟨Q, hQ⟩ : ∃ Q, aboveH (vOf E) t lv = Q := ⟨_, rfl⟩
  rw [hQ] at HBQ ⊢
  have hz1 : (w.alloc (.cells (hc zero32).toArray 43)).heap.size = w.heap.size + 1 := by simp
  have HZ1 := Lib.hid hz1
  clear ok ap ih b1 hv hQ hz1
  unfold HrQ at KH
  go_enter Tryd.func44, Tryd.ntmps44
  go_wp2_with fail
  refine KH.out.mono ?_
  rintro e w2 ⟨rfl, hc2, ht2⟩
  have hlF := hereH_len (vOf E) t
  have LB := Lib.hid (hereH_bytes (vOf E) t)
  obtain ⟨F, hF⟩ : ∃ F, hereH (vOf E) t = F := ⟨_, rfl⟩
  rw [hF] at hlF LB HBQ ⊢
  clear KH hF
  have hsz := hc2.size
  rw [HZ1.out] at hsz
  have TB2 := TB0.out.chg hc2 AP.out.g
  have RZ2 := RZ0.out.chg hc2 (fun h => by have := LT.out _ h; omega)
  have CC := C0.out.trans hc2 (fun g hg _ => hg)
  have b3 : Below w2.heap.size w2 (w2.alloc (.cells (hc zero32).toArray 43)) := (Below.refl _ _).alloc (Nat.le_refl _) _
  have hZ3 := HashAt.new w2 zero32
  have hth := hZ3.there zero32_len
  have HBW : Hid (w.heap.size ≤ w2.heap.size) := by show _ ≤ _; omega
  have HBN : Hid (w2.heap.size ∉ bl) := fun h => by have := LT.out _ h; omega
  have HNE : Hid (w.heap.size ≠ w2.heap.size) := by show _ ≠ _; omega
  have S3 : ClT w ((w2.alloc (.cells (hc zero32).toArray 43)).setCells w2.heap.size 0 (hc F)) E t b bl w2.heap.size w.heap.size F :=
    ClT.put (X := zero32) ⟨CC.trans (Chg.below b3 (Nat.le_refl _) []) (by simp), TB2.on b3 TB2.pos, ht2.on b3, hZ3, RZ2.on b3⟩ HBW.out HBN.out HNE.out zero32_len hlF
  obtain ⟨x, y, nn, n1, n2, n3, n4, -⟩ := S3.tr.node
  have f3 := (n1.facts n2).1
  rw [n4] at f3
  have S3 := Lib.hid S3
  have wf : IntKind.i64.wrap ((t.fork : Int) - 1) = (t.fork : Int) - 1 := IntWalk.i64_in _ (by omega)
  clear n1 n2 n3 n4 CC hc2 ht2 b3 hZ3 TB2 RZ2
  go_upto_region 2 with fail
  clear hth
  obtain ⟨hb, hhb⟩ : ∃ z, w2.heap.size = z := ⟨_, rfl⟩
  rw [hhb] at HBW HBN HNE S3 f3 ⊢
  generalize (w2.alloc (.cells (hc zero32).toArray 43)).setCells hb 0 (hc F) = w3 at *
  obtain ⟨rb, hrb⟩ : ∃ z, w.heap.size = z := ⟨_, rfl⟩
  rw [hrb] at HNE S3 ⊢
  have HRB := Lib.hid hrb
  have RNB : Hid (rb ∉ bl) := fun h => by have := LT.out _ h; omega
  clear hhb hsz hrb
  go_wp2_with fail
  clear f3
  go_loopw [8] (fun iv wr => ∃ k : Nat, iv = .int .i64 ((t.fork : Int) - 1 - (k : Int)) ∧ k ≤ t.fork - lv ∧ Hid (ClT w wr E t b bl hb rb (upH t.key t.fork F k))) (fun iv _ => (intOf iv + 1).toNat)
  case atStart => exact ⟨0, by congr 1; omega, by omega, S3⟩
  case round =>
    clear S3
    obtain ⟨k, rfl, hk, hS⟩ := hrel
    have lX := upH_len t.key t.fork hlF k
    by_cases hlt : k < t.fork - lv
    · obtain ⟨i, hi⟩ : ∃ i : Nat, (t.fork : Int) - 1 - (k : Int) = i := ⟨t.fork - 1 - k, by omega⟩
      have hi2 : i < 256 := by omega
      have ge1 : decide ((i : Int) ≥ (lv : Int)) = true := decide_eq_true (by omega)
      have ge2 : decide (lv ≤ i) = true := decide_eq_true (by omega)
      have HI := Lib.hid (show t.fork - 1 - k = i by omega)
      rw [hi]
      have bX := Lib.hid (upH_bytes t.key t.fork LB.out k)
      have HU := Lib.hid (show upH t.key t.fork F (k + 1) = stp t.key i (upH t.key t.fork F k) by rw [upH, HI.out])
      obtain ⟨X, hX⟩ : ∃ X, upH t.key t.fork F k = X := ⟨_, rfl⟩
      rw [hX] at lX bX hS HU
      obtain ⟨x, y, nn, n1, n2, n3, n4, -⟩ := hS.out.tr.node
      have rk := (n1.facts n2).2.2.2.2.2.2.1
      have rk' : rowOf wr b 0 32 = hc t.key := by rw [rk, n3]
      have hlk := hc_len t.key
      have k32 := OK.out.keyOk.len
      clear hX rk n1 n2 n3 n4
      go_wp2_with fail
      refine (bit_any OK.out.keyOk.len OK.out.keyOk.by_ hi2).mono ?_
      rintro e w4 ⟨rfl, hb4⟩
      have S4 := Lib.hid (hS.out.on hb4)
      have r4 := S4.out.hh.row lX
      have lxx := hc_len X
      clear hS hb4 rk'
      by_cases hz : bitI t.key i = 0
      · have dz : (bitI t.key i == 0) = true := by rw [hz]; rfl
        have HU2 := Lib.hid (show stp t.key i X = abH X zero32 by unfold stp; rw [if_pos hz])
        generalize bitI t.key i = z at *
        clear hz
        go_wp2_with fail
        refine (Above_any S4.out.tbl lX zero32_len bX.out zero32_bytes).mono ?_
        rintro e w5 ⟨rfl, hb5⟩
        have S5 := Lib.hid (S4.out.on hb5)
        have lY := abH_len X zero32
        rw [HU2.out] at HU
        generalize abH X zero32 = Y at *
        have th5 := S5.out.hh.there lX
        have S6 := Lib.hid (S5.out.put HBW.out HBN.out HNE.out lX lY)
        clear S4 r4 hb5 S5 HU2
        go_wp2_with fail
        go_roundw
        case rel => exact ⟨k + 1, by congr 1; omega, by omega, by rw [HU.out]; exact S6⟩
        case measure => simp [intOf] <;> omega
      · have dz : (bitI t.key i == 0) = false := by simpa using hz
        have HU2 := Lib.hid (show stp t.key i X = abH zero32 X by unfold stp; rw [if_neg hz])
        generalize bitI t.key i = z at *
        clear hz
        go_wp2_with fail
        refine (Above_any S4.out.tbl zero32_len lX zero32_bytes bX.out).mono ?_
        rintro e w5 ⟨rfl, hb5⟩
        have S5 := Lib.hid (S4.out.on hb5)
        have lY := abH_len zero32 X
        rw [HU2.out] at HU
        generalize abH zero32 X = Y at *
        have th5 := S5.out.hh.there lX
        have S6 := Lib.hid (S5.out.put HBW.out HBN.out HNE.out lX lY)
        clear S4 r4 hb5 S5 HU2
        go_wp2_with fail
        go_roundw
        case rel => exact ⟨k + 1, by congr 1; omega, by omega, by rw [HU.out]; exact S6⟩
        case measure => simp [intOf] <;> omega
    · have ge1 : decide ((t.fork : Int) - 1 - (k : Int) ≥ (lv : Int)) = false := decide_eq_false (by omega)
      have ge2 : decide ((lv : Int) ≤ (t.fork : Int) - 1 - (k : Int)) = false := decide_eq_false (by omega)
      have HK := Lib.hid (show upH t.key t.fork F k = Q by rw [HBQ.out]; congr 1; omega)
      obtain ⟨X, hX⟩ : ∃ X, upH t.key t.fork F k = X := ⟨_, rfl⟩
      rw [hX] at lX hS HK
      have rX := hS.out.hh.row lX
      have lxx := hc_len X
      have ct := hS.out.rz.there zero32_len
      have R7 := Lib.hid (hS.out.rz.put (F := X) zero32_len lX)
      have C7 := Lib.hid ((Chg.refl wr [rb]).setCells (b := rb) (.inl (by simp)) (hc X) 0)
      clear hX
      go_wp2_with fail
      clear ct rX
      have cf := R7.out.row lX
      refine bodyPost_ret (v := .agg (hc X).toArray) (by simp [results, Tryd.results44, go_sem, cf, hc_len, lX]) rfl ?_
      refine ⟨by rw [HK.out], hS.out.chg.trans C7.out (fun g hg hl => by obtain rfl := List.mem_singleton.1 hg; have := HRB.out; omega), ?_⟩
      exact TrA.chg C7.out hS.out.tr (fun g hg hm => by obtain rfl := List.mem_singleton.1 hm; exact RNB.out hg)
end Go.Proofs.YtnllcmcahfkmaaaDoor
namespace Go.Proofs.YtnllcmcahfkmaaaDoor
open Go.RowKit
set_option maxRecDepth 100000

theorem NdA.high_put {w : World} {V : List Int → List Int} {t : Tr} {b : Nat} {x y : Option Addr} (h : NdA w V t b x y) (lv : Nat) : NdA (((w.setCells b 68 (hc (aboveH V t lv))).setCell ⟨b, 100, none⟩ (.int .i64 (lv : Int))).setCell ⟨b, 101, none⟩ (.bool true)) V t b x y := by
  obtain ⟨n, h1, h2, h3, h4, h5, h6, h7, h8⟩ := h
  have o1 : Nd.ok { n with high := aboveH V t lv } := ⟨h2.key, h2.own, aboveH_len V t lv⟩
  have n1 := h1.setHigh h2 (aboveH_len V t lv)
  have n2 := n1.setLvl o1 (lv : Int)
  have n3 := n2.setKnown (n := { n with high := aboveH V t lv, lvl := (lv : Int) }) ⟨h2.key, h2.own, aboveH_len V t lv⟩ true
  exact ⟨{ n with high := aboveH V t lv, lvl := (lv : Int), known := true }, n3, ⟨h2.key, h2.own, aboveH_len V t lv⟩, h3, h4, h5, h6, h7, fun _ => ⟨lv, rfl, rfl⟩⟩
theorem above_nilA (w : World) (p : Nat) (lv : Int) : Calls Tryd.prog 33 #[.pointer (some ⟨p, 0, none⟩), .pointer none, .int .i64 lv] w fun e w' => e = .returned (.agg (hc zero32).toArray) ∧ Below w.heap.size w w' := by
  have b1 : Below w.heap.size w (w.alloc (.cells (hc zero32).toArray 43)) := (Below.refl _ _).alloc (Nat.le_refl _) _
  have Z0 := HashAt.new w zero32
  have ct := Z0.there zero32_len
  have R7 := Lib.hid (Z0.put zero32_len zero32_len)
  have B7 := Lib.hid (below_setCells' w.heap.size (Nat.le_refl _) (hc zero32) 0 b1)
  have zl := zero32_len
  clear Z0 b1
  go_enter Tryd.func33, Tryd.ntmps33
  go_wp2_with fail
  have cf := R7.out.row zero32_len
  first
    | exact bodyPost_ret (v := .agg (hc zero32).toArray) (by simp [results, Tryd.results33, go_sem, cf, hc_len, zl]) rfl ⟨rfl, B7.out⟩
    | exact bodyPost_ret (v := .agg (hc zero32).toArray) (by simp [results, Tryd.results33, go_sem, (HashAt.new w zero32).row zero32_len, hc_len, zl]) rfl ⟨rfl, (Below.refl _ _).alloc (Nat.le_refl _) _⟩
set_option maxHeartbeats 8000000 in
theorem above_any {E : List En} {t : Tr} (ok : t.ok) (ih : ClP E t) : AbP E t := by
  intro w p m b lv bl hv ap hlv
  have OK := Lib.hid ok
  have AP := Lib.hid ap
  have b1 : Below w.heap.size w (w.alloc (.cells (hc zero32).toArray 43)) := (Below.refl _ _).alloc (Nat.le_refl _) _
  have KC := Lib.hid (ih _ p m b lv bl (hv.on b1) ap hlv)
  have C0 := Lib.hid (Chg.below b1 (Nat.le_refl _) bl)
  have RZ0 := Lib.hid (HashAt.new w zero32)
  have T1 := Lib.hid (hv.tr.on b1)
  have LT := Lib.hid (fun g (hg : g ∈ bl) => hv.tr.lt g hg)
  have RNB : Hid (w.heap.size ∉ bl) := fun h => by have := LT.out _ h; omega
  have BIN := Lib.hid hv.tr.head
  have LQ := Lib.hid (aboveH_len (vOf E) t lv)
  obtain ⟨Q, hQ⟩ : ∃ Q, aboveH (vOf E) t lv = Q := ⟨_, rfl⟩
  have HQ := Lib.hid hQ
  rw [hQ] at KC LQ ⊢
  clear ok ap ih b1 hv hQ
  unfold HrQ at KC ⊢
  go_enter Tryd.func33, Tryd.ntmps33
  go_upto_region 1 with fail
  obtain ⟨rb, hrb⟩ : ∃ z, w.heap.size = z := ⟨_, rfl⟩
  have RBE := Lib.hid hrb
  rw [hrb] at RZ0 RNB ⊢
  have RBL : Hid (w.heap.size ≤ rb) := by show _ ≤ _; omega
  have RB : Hid (rb ≠ b) := fun e => RNB.out (by rw [e]; exact BIN.out)
  generalize w.alloc (.cells (hc zero32).toArray 43) = w1 at *
  clear hrb
  obtain ⟨x, y, nn, n1, n2, n3, n4, -, -, -, n8⟩ := T1.out.node
  have N1 := Lib.hid n1
  have N2 := Lib.hid n2
  have N8 := Lib.hid n8
  obtain ⟨-, -, -, -, f100, f101, -, -, r68⟩ := n1.facts n2
  clear n1 n2 n3 n4 n8
  by_cases hkn : nn.known = true ∧ nn.lvl = (lv : Int)
  · rw [hkn.1] at f101
    rw [hkn.2] at f100
    have r68' : rowOf w1 b 68 32 = hc Q := by
      obtain ⟨lv', e1, e2⟩ := N8.out hkn.1
      have : lv' = lv := by have := hkn.2; omega
      subst this
      rw [r68, e2, HQ.out]
    clear r68 hkn
    have r68 := r68'
    clear r68'
    have RZ6 : HashAt w1 rb zero32 := RZ0.out
    have ct := RZ6.there zero32_len
    have R7 := Lib.hid (RZ6.put (F := Q) zero32_len LQ.out)
    have C7 := Lib.hid ((Chg.refl w1 [rb]).setCells (b := rb) (.inl (by simp)) (hc Q) 0)
    have lq := LQ.out
    have lq2 := hc_len Q
    go_wp2_with fail
    clear ct r68
    have cf := R7.out.row LQ.out
    refine bodyPost_ret (v := .agg (hc Q).toArray) (by simp [results, Tryd.results33, go_sem, cf, hc_len, lq]) rfl ?_
    refine ⟨rfl, C0.out.trans C7.out (fun g hg hl => by obtain rfl := List.mem_singleton.1 hg; have := RBL.out; omega), ?_⟩
    exact TrA.chg C7.out T1.out (fun g hg hm => by obtain rfl := List.mem_singleton.1 hm; exact RNB.out hg)
  · have hgo : (nn.known = false) ∨ (nn.known = true ∧ (nn.lvl != (lv : Int)) = true) := by
      cases hk : nn.known with
      | false => exact .inl rfl
      | true => exact .inr ⟨rfl, by simp; exact fun e => hkn ⟨hk, e⟩⟩
    clear r68 hkn N1 N2 N8
    go_upto_region 3 with fail
    have key : True := trivial
    rcases hgo with hk | ⟨hk, hl⟩
    all_goals (
      rw [hk] at f101
      clear hk key
      go_upto_region 4 with fail
      go_wp2_with fail
      refine KC.out.mono ?_
      rintro e w2 ⟨rfl, c2, t2⟩
      obtain ⟨x2, y2, n5, n51, n52, -⟩ := t2.node
      have ct := n51.there n52 (i := 68) (k := 32) (by omega)
      have lq := LQ.out
      have lq2 := hc_len Q
      have o1 : Nd.ok { n5 with high := Q } := ⟨n52.key, n52.own, LQ.out⟩
      have m1 := n51.setHigh n52 LQ.out
      have g100 := (m1.facts o1).2.2.2.2.1
      have u100 := m1.free 100
      have m2 := m1.setLvl o1 (lv : Int)
      have g101 := (m2.facts (n := { n5 with high := Q, lvl := (lv : Int) }) ⟨n52.key, n52.own, LQ.out⟩).2.2.2.2.2.1
      have u101 := m2.free 101
      have m3 := m2.setKnown (n := { n5 with high := Q, lvl := (lv : Int) }) ⟨n52.key, n52.own, LQ.out⟩ true
      have r5 := (m3.facts (n := { n5 with high := Q, lvl := (lv : Int), known := true }) ⟨n52.key, n52.own, LQ.out⟩).2.2.2.2.2.2.2.2
      have R5 := Lib.hid r5
      have C5 := Lib.hid ((((Chg.refl w2 [b]).setCells (b := b) (.inl (by simp)) (hc Q) 68).setCell (p := ⟨b, 100, none⟩) (.inl (by simp)) (.int .i64 (lv : Int))).setCell (p := ⟨b, 101, none⟩) (.inl (by simp)) (.bool true))
      have TP : Hid (∀ x y, NdA w2 (vOf E) t b x y → NdA (((w2.setCells b 68 (hc Q)).setCell ⟨b, 100, none⟩ (.int .i64 (lv : Int))).setCell ⟨b, 101, none⟩ (.bool true)) (vOf E) t b x y) := fun x y h => by rw [← HQ.out]; exact h.high_put lv
      have TW := Lib.hid t2
      have CW := Lib.hid (C0.out.trans c2 (fun g hg _ => hg))
      have RZ := Lib.hid (RZ0.out.chg c2 RNB.out)
      clear n51 n52 o1 m1 m2 m3 r5 t2 c2 KC T1
      go_upto_region 5 with fail
      clear ct g100 u100 g101 u101
      generalize ((w2.setCells b 68 (hc Q)).setCell ⟨b, 100, none⟩ (.int .i64 (lv : Int))).setCell ⟨b, 101, none⟩ (.bool true) = w5 at *
      have r68 := R5.out
      have T5 := Lib.hid (TrA.renode TW.out AP.out.nd C5.out (fun g hg _ => by simpa using hg) TP.out)
      have CC := Lib.hid (CW.out.trans C5.out (fun g hg _ => by obtain rfl := List.mem_singleton.1 hg; exact BIN.out))
      have RZ6 : HashAt w5 rb zero32 := RZ.out.chg C5.out (by simpa using RB.out)
      have ct := RZ6.there zero32_len
      have R7 := Lib.hid (RZ6.put (F := Q) zero32_len LQ.out)
      have C7 := Lib.hid ((Chg.refl w5 [rb]).setCells (b := rb) (.inl (by simp)) (hc Q) 0)
      have lq := LQ.out
      have lq2 := hc_len Q
      go_wp2_with fail
      clear ct r68
      have cf := R7.out.row LQ.out
      refine bodyPost_ret (v := .agg (hc Q).toArray) (by simp [results, Tryd.results33, go_sem, cf, hc_len, lq]) rfl ?_
      refine ⟨rfl, CC.out.trans C7.out (fun g hg hl => by obtain rfl := List.mem_singleton.1 hg; have := RBL.out; omega), ?_⟩
      exact TrA.chg C7.out T5.out (fun g hg hm => by obtain rfl := List.mem_singleton.1 hm; exact RNB.out hg))
/-- All that is reckoned of a tree. -/
theorem above_all {E : List En} (hE : EnB E) : ∀ {t : Tr}, t.ok → AbP E t
  | .lf k, ok => above_any ok (climb_any ok (here_any hE ok (fun k f l r h => by cases h)))
  | .nd k f l r, ok => above_any ok (climb_any ok (here_any hE ok (fun k' f' l' r' h => by
    cases h
    exact ⟨above_all hE ok.2.2.1, above_all hE ok.2.2.2.1⟩)))
theorem climb_all {E : List En} (hE : EnB E) : ∀ {t : Tr}, t.ok → ClP E t
  | .lf k, ok => climb_any ok (here_any hE ok (fun k f l r h => by cases h))
  | .nd k f l r, ok => climb_any ok (here_any hE ok (fun k' f' l' r' h => by
    cases h
    exact ⟨above_all hE ok.2.2.1, above_all hE ok.2.2.2.1⟩))
end Go.Proofs.YtnllcmcahfkmaaaDoor
namespace Go.Proofs.YtnllcmcahfkmaaaDoor
open Go.RowKit
set_option maxRecDepth 100000


/-- The root of a map, out of its pairs alone. -/
def rootE (E : List En) : List Int := pl (vOf E) 256 (E.map (·.k))
theorem above_top {w : World} {p m c : Nat} {E : List En} {top : Option Addr} {bl : List Nat} (hT : Tbl w) (hM : MapS w p m E c top bl) (hg : 0 ∉ bl) :
    Calls Tryd.prog 33 #[.pointer (some ⟨p, 0, none⟩), .pointer top, .int .i64 0] w fun e w' => e = .returned (.agg (hc (rootE E)).toArray) ∧ Chg w w' bl ∧ TopS w' E top bl := by
  rcases hM.t with ⟨h1, h2, h3⟩ | ⟨b, t, h1, ok, h3, h4, h5⟩
  · subst h1 h2 h3
    refine (above_nilA w p 0).mono ?_
    rintro e w' ⟨rfl, hb⟩
    exact ⟨by rw [show rootE [] = zero32 from pl_nil _ 256], Chg.below hb (Nat.le_refl _) [], .inl ⟨rfl, rfl, rfl⟩⟩
  · subst h1
    have hr : aboveH (vOf E) t 0 = rootE E := by
      rw [aboveH_pl (vOf E) ok (Nat.zero_le _)]
      refine pl_congr 256 (Nat.le_refl _) ok.keysOk (fun x _ y _ i hi => absurd hi (by omega)) (fun x => ?_) (fun _ _ => rfl)
      rw [h3 x, List.mem_map]
    have := above_all hM.e.b ok w p m b 0 bl ⟨hT, ⟨hM.s.c0, c, hM.s.mp⟩, h4⟩ ⟨h5, hM.p, hM.m, hg⟩ (Nat.zero_le _)
    refine Calls.mono this ?_
    rintro e w' ⟨rfl, hc', ht⟩
    rw [hr]
    exact ⟨rfl, hc', .inr ⟨b, t, rfl, ok, h3, ht, h5⟩⟩
theorem pl_len (V : List Int → List Int) : ∀ (n : Nat) (S : List (List Int)), (pl V n S).length = 32
  | 0, [] => zero32_len
  | 0, k :: _ => lfH_len k (V k)
  | _ + 1, _ => abH_len _ _
theorem rootE_len (E : List En) (_ : EnW E) : (rootE E).length = 32 := pl_len _ _ _
set_option maxHeartbeats 4000000 in
theorem Root_all {w : World} {p m c : Nat} {E : List En} {top : Option Addr} {bl : List Nat} (hT : Tbl w) (hM : MapS w p m E c top bl) (hg : 0 ∉ bl) :
    Calls Tryd.prog 18 #[.pointer (some ⟨p, 0, none⟩)] w fun e w' => e = .returned (.agg (hc (rootE E)).toArray) ∧ Chg w w' bl ∧ MapS w' p m E c top bl := by
  have HZ := Lib.hid (HashAt.new w zero32)
  have B0 := Lib.hid ((Below.refl w.heap.size w).alloc (Nat.le_refl _) (.cells (hc zero32).toArray 43))
  have b0 : Below w.heap.size w (w.alloc (.cells (hc zero32).toArray 43)) := B0.out
  have M1 := hM.on b0
  have c0 := M1.s.c0
  have c1 := M1.s.c1
  have KH := Lib.hid (above_top (hT.on b0 hT.pos) M1 hg)
  have LTB := Lib.hid hM.t.lt
  have HMP := Lib.hid hM.s.lp
  have HMM := Lib.hid hM.s.lm
  have HM1 := Lib.hid M1
  have lX := rootE_len E hM.e
  obtain ⟨X, hX⟩ : ∃ X, rootE E = X := ⟨_, rfl⟩
  rw [hX] at KH lX ⊢
  clear hM M1 hT b0 hX
  go_enter Tryd.func18, Tryd.ntmps18
  go_wp2_with fail
  refine (made_yes c0).mono ?_
  rintro e wn ⟨rfl, h⟩
  obtain rfl := h.symm
  clear h
  go_wp2_with fail
  refine KH.out.mono ?_
  rintro e w2 ⟨rfl, hc2, ht2⟩
  have Z2 := Lib.hid (HZ.out.chg hc2 (fun h => by have := LTB.out _ h; omega))
  have M2 : MapS w2 p m E c top bl := ⟨HM1.out.s.chg hc2 HM1.out.p HM1.out.m, ht2, HM1.out.e, HM1.out.n, HM1.out.p, HM1.out.m⟩
  have C2 := Lib.hid ((Chg.below B0.out (Nat.le_refl _) bl).trans hc2 (fun x hx _ => hx))
  have hth := Z2.out.there zero32_len
  have hput := (Z2.out.put zero32_len lX).row lX
  have C3 := Lib.hid (C2.out.setCells (b := w.heap.size) (.inr (Nat.le_refl _)) (hc X) 0)
  have D3 : Chg w2 (w2.setCells w.heap.size 0 (hc X)) [w.heap.size] := (Chg.refl w2 [w.heap.size]).setCells (b := w.heap.size) (.inl (by simp)) (hc X) 0
  have M3 := Lib.hid (M2.chg D3 (by have := HMP.out; simp; omega) (by have := HMM.out; simp; omega) (fun g h1 h2 => by obtain rfl := List.mem_singleton.1 h2; have := LTB.out _ h1; omega))
  have lxx := hc_len X
  clear hc2 Z2 C2 B0 HZ c0 c1 KH M2 ht2 D3
  go_wp2_with fail
  refine bodyPost_ret (v := .agg (hc X).toArray) (by simp [results, Tryd.results18, go_sem, hput, lX]) rfl ⟨rfl, C3.out, M3.out⟩
end Go.Proofs.YtnllcmcahfkmaaaDoor
namespace Go.Proofs.YtnllcmcahfkmaaaDoor
open Go.RowKit
set_option maxRecDepth 100000

/-- A map that the call made, as it stands now. -/
structure MpW (w wr : World) (p m : Nat) (E : List En) (c : Nat) (top : Option Addr) (bl : List Nat) : Prop where
  map : MapS wr p m E c top bl
  below : Below w.heap.size w wr
  pg : w.heap.size ≤ p
  mg : w.heap.size ≤ m
  bg : ∀ g ∈ bl, w.heap.size ≤ g
section
variable {w wr w' : World} {p m c : Nat} {E : List En} {top : Option Addr} {bl : List Nat}
theorem MpW.on (h : MpW w wr p m E c top bl) (hb : Below wr.heap.size wr w') : MpW w w' p m E c top bl := ⟨h.map.on hb, h.below.trans (hb.mono h.below.size), h.pg, h.mg, h.bg⟩
theorem MpW.chg (h : MpW w wr p m E c top bl) (hc : Chg wr w' bl) (hm : MapS w' p m E c top bl) : MpW w w' p m E c top bl :=
  ⟨hm, h.below.trans (hc.toBelow h.below.size (fun k hk => h.bg k hk)), h.pg, h.mg, h.bg⟩
theorem MpW.put {K V : List Int} {e : Ending} (h : MpW w wr p m E c top bl) (hq : PutQ wr p m E bl K V e w') :
    e = .returned (.int .i64 0) ∧ ∃ E' c' top' bl', MpW w w' p m E' c' top' bl' ∧ (∀ k, vOf E' k = if k = K then V else vOf E k) ∧ E'.length ≤ E.length + 1 ∧ E.length ≤ E'.length + 1 := by
  obtain ⟨he, hc, E', c', top', bl', hm, hin, hv, h1, h2⟩ := hq
  refine ⟨he, E', c', top', bl', ⟨hm, h.below.trans (hc.toBelow h.below.size (fun k hk => ?_)), h.pg, h.mg, fun g hg => ?_⟩, hv, h1, h2⟩
  · rcases List.mem_cons.1 hk with rfl | hk
    · exact h.pg
    · rcases List.mem_cons.1 hk with rfl | hk
      · exact h.mg
      · exact h.bg k hk
  · rcases hin g hg with hg | hg
    · exact h.bg g hg
    · have := h.below.size; omega
end
/-- A new map of no pairs. -/
theorem MpW_new {w w' : World} {p m : Nat} (hb : Below w.heap.size w w') (hp : w.heap.size ≤ p) (hm : w.heap.size ≤ m) (h : MpS w' p m #[] 0 none) : MpW w w' p m [] 0 none [] :=
  ⟨⟨h, .inl ⟨rfl, rfl, rfl⟩, EnW.nil, EnC.nil 0, by simp, by simp⟩, hb, hp, hm, fun g hg => (by cases hg)⟩
end Go.Proofs.YtnllcmcahfkmaaaDoor
namespace Go.Proofs.YtnllcmcahfkmaaaDoor
open Go.RowKit
set_option maxRecDepth 100000

def wk (n : Int) : List Int := List.replicate 31 0 ++ [n]
theorem wk_len (n : Int) : (wk n).length = 32 := by simp [wk]
theorem wk_ok {n : Nat} (h : n < 256) : KyOk (wk n) := ⟨wk_len _, fun x hx => by
  rcases List.mem_append.1 hx with hx | hx
  · have := List.eq_of_mem_replicate hx; omega
  · have := List.mem_singleton.1 hx; omega⟩
theorem Tryd.run_wk (w : World) (x : Int) : (rowBuild 43 #[(31, .int .u8 x)]).run Tryd.prog w = .ok (.agg (hc (wk x)).toArray) w := by unfold rowBuild; kernel_rfl
set_option maxHeartbeats 4000000 in
theorem wordKey_any (w : World) {n : Nat} (hn : n < 256) : Calls Tryd.prog 30 #[.int .u64 n] w fun e w' => e = .returned (.agg (hc (wk n)).toArray) ∧ Below w.heap.size w w' := by
  have Z := HashAt.new w zero32
  have th := Z.there zero32_len
  have P := Z.put zero32_len (wk_len n)
  have B := Lib.hid (below_setCells' (B := w.heap.size) w.heap.size (Nat.le_refl _) (hc (wk n)) 0 ((Below.refl w.heap.size w).alloc (Nat.le_refl _) (.cells (hc zero32).toArray 43)))
  have row := P.row (wk_len n)
  have lw := hc_len (wk n)
  have l32 := wk_len n
  have hb := Tryd.run_wk (w.alloc (.cells (hc zero32).toArray 43)) n
  have wr8 : IntKind.u8.wrap (n : Int) = n := by
    unfold IntKind.wrap
    simp [IntKind.bits, IntKind.signed]
    omega
  go_enter Tryd.func30, Tryd.ntmps30
  go_wp2_with fail
  refine bodyPost_ret (v := .agg (hc (wk n)).toArray) (by simp [results, Tryd.results30, go_sem, row, l32]) rfl ⟨rfl, B.out⟩
/-- A word's value as it is laid, byte by byte. -/
def vrow (x : Int) : Nat → List Int
  | 0 => zero32
  | i + 1 => (vrow x i).set (24 + i) (x / 2 ^ (56 - 8 * i) % 256)
def wv (x : Int) : List Int := vrow x 8
theorem vrow_len (x : Int) : ∀ i, (vrow x i).length = 32
  | 0 => zero32_len
  | i + 1 => by unfold vrow; rw [List.length_set]; exact vrow_len x i
theorem vrow_bytes (x : Int) : ∀ i, Bytes (vrow x i)
  | 0 => zero32_bytes
  | i + 1 => fun y hy => by
    unfold vrow at hy
    rcases List.mem_or_eq_of_mem_set hy with hy | rfl
    · exact vrow_bytes x i y hy
    · exact ⟨Int.emod_nonneg _ (by decide), Int.emod_lt_of_pos _ (by decide)⟩
theorem wv_len (x : Int) : (wv x).length = 32 := vrow_len x 8
theorem wv_bytes (x : Int) : Bytes (wv x) := vrow_bytes x 8
theorem HashAt.setAt {w : World} {b : Nat} {F : List Int} (h : HashAt w b F) (i : Nat) (x : Int) : HashAt (w.setCell ⟨b, i, none⟩ (.int .u8 x)) b (F.set i x) := by
  unfold HashAt at *
  rw [Joins.block_setCell h _, List.setIfInBounds_toArray]
  congr 3
  simp [hc, List.map_set]
set_option maxHeartbeats 4000000 in
theorem wordValue_any (w : World) {x : Int} (_hx : 0 ≤ x ∧ x < 18446744073709551616) : Calls Tryd.prog 31 #[.int .u64 x] w fun e w' => e = .returned (.agg (hc (wv x)).toArray) ∧ Below w.heap.size w w' := by
  have Z := Lib.hid (HashAt.new w zero32)
  have B := Lib.hid ((Below.refl w.heap.size w).alloc (Nat.le_refl _) (.cells (hc zero32).toArray 43))
  have z32 := zero32_len
  go_enter Tryd.func31, Tryd.ntmps31
  go_wp2_with fail
  generalize w.alloc (.cells (hc zero32).toArray 43) = w1 at *
  go_loopw [3, 4] (fun _ iv wr => ∃ i : Nat, iv = .int .i64 (i : Int) ∧ i ≤ 8 ∧ Hid (HashAt wr w.heap.size (vrow x i)) ∧ Hid (Below w.heap.size w wr)) (fun _ iv _ => 8 - (intOf iv).toNat)
  case atStart => exact ⟨0, rfl, by omega, Z, B⟩
  case round =>
    clear Z B
    obtain ⟨i, rfl, hi, hZ, hB⟩ := hrel
    by_cases hlt : i < 8
    · have hlI : (i : Int) < 8 := by omega
      have g0 : (0 : Int) ≤ (i : Int) := by omega
      have l32 := vrow_len x i
      have hcell := hZ.out.cell (i := 24 + i) (by rw [l32]; omega)
      have hfr := Joins.unfrozen_of_block hZ.out (24 + i)
      go_wp2_with fail
      have Z2 : Hid (HashAt (wr.setCell ⟨w.heap.size, 24 + i, none⟩ (.int .u8 (x / 2 ^ (56 - 8 * i) % 256))) w.heap.size (vrow x (i + 1))) := hZ.out.setAt (24 + i) _
      have B2 : Hid (Below w.heap.size w (wr.setCell ⟨w.heap.size, 24 + i, none⟩ (.int .u8 (x / 2 ^ (56 - 8 * i) % 256)))) := hB.out.setCell (p := ⟨w.heap.size, 24 + i, none⟩) (Nat.le_refl _) _
      exact ⟨⟨i + 1, by simp, by omega, Z2, B2⟩, by simp [intOf]; omega⟩
    · have hnl : ¬ (i : Int) < 8 := by omega
      obtain rfl : i = 8 := by omega
      have row := hZ.out.row (vrow_len x 8)
      have th := hZ.out.there (vrow_len x 8)
      have P := hZ.out.put (vrow_len x 8) (wv_len x)
      have row2 := P.row (wv_len x)
      have B2 := Lib.hid (below_setCells' (B := w.heap.size) w.heap.size (Nat.le_refl _) (hc (wv x)) 0 hB.out)
      have lv := hc_len (wv x)
      have l32 := wv_len x
      rw [show vrow x 8 = wv x from rfl] at row
      clear hZ hB P
      go_wp2_with fail
      refine bodyPost_ret (v := .agg (hc (wv x)).toArray) (by simp [results, Tryd.results31, go_sem, row2, l32]) rfl ⟨rfl, B2.out⟩
end Go.Proofs.YtnllcmcahfkmaaaDoor
namespace Go.Proofs.YtnllcmcahfkmaaaDoor
open Go.RowKit
set_option maxRecDepth 100000

/-- What the first words put under a key. -/
def mV (W : List Int) : Nat → List Int → List Int
  | 0, _ => zero32
  | j + 1, k => if k = wk j then wv (W.getD j 0) else mV W j k
theorem idx16 (w : World) {W : List Int} {i : Nat} (hi : i < 16) (hW : W.length = 16) : (Instr.index 27 (.agg (wcs W).toArray) (.int .i64 (i : Int))).run Tryd.prog w = .ok (.int .u64 (W.getD i 0)) w := by
  have _h2 : (i : Int) < 16 := by omega
  have hl := wcs_get (xs := W) (i := i) (by omega)
  have e : (i : Int).toNat = i := by omega
  have hsz : (sizeOf 23).run Tryd.prog w = .ok 1 w := by kernel_rfl
  simp [Instr.index, asIntOf, run_underlying Tryd.underlying27, hsz, part, hl, go_sem]
  try (intro h; omega)
def WmP (w : World) (W : List Int) (e : Ending) (w' : World) : Prop := ∃ p m E c top bl, e = .returned (.pointer (some ⟨p, 0, none⟩)) ∧ MpW w w' p m E c top bl ∧ ∀ k, vOf E k = mV W 16 k

set_option maxHeartbeats 4000000 in
theorem wordMap_any {w : World} {W : List Int} (u : U64s W) (l : W.length = 16) : Calls Tryd.prog 17 #[.agg (wcs W).toArray] w (WmP w W) := by
  have BX := Lib.hid (heap_alloc_new w (.cells (wcs W).toArray 27))
  have B0 := Lib.hid ((Below.refl w.heap.size w).alloc (Nat.le_refl _) (.cells (wcs W).toArray 27))
  have U := Lib.hid u
  have LW := Lib.hid l
  have lw := wcs_len W
  clear u
  go_enter Tryd.func17, Tryd.ntmps17
  go_wp2_with fail
  generalize w.alloc (.cells (wcs W).toArray 27) = w1 at *
  refine New_nil.mono ?_
  rintro e w2 ⟨p, m, rfl, hp, hm, hb2, hms⟩
  have M2 := Lib.hid (MpW_new hb2 hp hm hms)
  have row : rowOf w2 w.heap.size 0 16 = wcs W := by
    have h := BX.out
    have h2 : w2.heap[w.heap.size]? = some (.cells (wcs W).toArray 27 (0, 0)) := by rw [hb2.block _ (Array.getElem?_eq_some_iff.1 h).1]; exact h
    rw [rowOf_block h2]
    have := wcs_len W
    simp [List.take_of_length_le (show (wcs W).length ≤ 16 by omega)]
  clear hp hm hb2 hms
  go_wp2_with fail
  clear row
  go_loopw [5, 6, 12] (fun _ _ iv wr => ∃ i : Nat, iv = .int .i64 (i : Int) ∧ i ≤ 16 ∧ ∃ E c top bl, E.length ≤ i ∧ Hid (MpW w1 wr p m E c top bl) ∧ Hid (∀ k, vOf E k = mV W i k)) (fun _ _ iv _ => 16 - (intOf iv).toNat)
  case atStart => exact ⟨0, rfl, by omega, [], 0, none, [], by simp, M2, fun k => rfl⟩
  case round =>
    clear M2
    obtain ⟨i, rfl, hil, E, c, top, bl, hle, hM, hV⟩ := hrel
    by_cases hlt : i < 16
    · have hlI : (i : Int) < 16 := by omega
      have g0 : (0 : Int) ≤ (i : Int) := by omega
      have hix := fun W' => idx16 W' hlt LW.out
      have ux := Lib.hid (U.out.get i)
      have VS : Hid (∀ k, mV W (i + 1) k = if k = wk i then wv (W.getD i 0) else mV W i k) := fun k => rfl
      obtain ⟨x, hx⟩ : ∃ x, W.getD i 0 = x := ⟨_, rfl⟩
      rw [hx] at ux VS
      simp only [hx] at hix
      clear hx
      have w64 : IntKind.u64.wrap (i : Int) = i := by
        unfold IntKind.wrap
        simp [IntKind.bits, IntKind.signed]
        omega
      go_wp2_with fail
      refine (wordKey_any wr (n := i) (by omega)).mono ?_
      rintro e w3 ⟨rfl, hb3⟩
      have M3 := Lib.hid (hM.out.on hb3)
      clear hb3 hM
      go_wp2_with fail
      refine (wordValue_any w3 ux.out).mono ?_
      rintro e w4 ⟨rfl, hb4⟩
      have M4 := Lib.hid (M3.out.on hb4)
      clear hb4 M3
      go_wp2_with fail
      refine (Put_all (wk_ok (by omega)) (wv_len _) (wv_bytes _) M4.out.map (by omega)).mono ?_
      rintro e w5 hq5
      obtain ⟨rfl, E', c', top', bl', m5, v5, n5, n5'⟩ := M4.out.put hq5
      have M5 := Lib.hid m5
      have V5 : Hid (∀ k, vOf E' k = mV W (i + 1) k) := fun k => by rw [v5 k, hV.out k, VS.out k]
      clear hq5 m5 v5 n5' M4
      go_wp2_with fail
      go_roundw
      case rel => exact ⟨i + 1, by go_num, by omega, E', c', top', bl', by omega, M5, V5⟩
      case measure => simp [intOf]; omega
    · have hnl : ¬ (i : Int) < 16 := by omega
      obtain rfl : i = 16 := by omega
      have X : Hid (WmP w W (.returned (.pointer (some ⟨p, 0, none⟩))) wr) := by
        have h := hM.out
        have hs := B0.out.size
        exact ⟨p, m, E, c, top, bl, rfl, ⟨h.map, B0.out.trans (h.below.mono hs), by have := h.pg; omega, by have := h.mg; omega, fun g hg => by have := h.bg g hg; omega⟩, hV.out⟩
      clear hM hV
      go_wp2_with fail
      go_ret
      exact X.out
/-- The root of the words, out of them alone. -/
def rootM (W : List Int) : List Int := pl (mV W 16) 256 (((List.range 16).map fun j : Nat => wk j).filter fun k => mV W 16 k != zero32)
theorem mV_key (W : List Int) : ∀ (n : Nat) (k : List Int), mV W n k ≠ zero32 → ∃ j : Nat, j < n ∧ k = wk j
  | 0, _, h => absurd rfl h
  | n + 1, k, h => by
    unfold mV at h
    by_cases hk : k = wk n
    · exact ⟨n, by omega, hk⟩
    · rw [if_neg hk] at h
      obtain ⟨j, h1, h2⟩ := mV_key W n k h
      exact ⟨j, by omega, h2⟩
theorem rootE_words {W : List Int} {E : List En} (hE : EnW E) (h : ∀ k, vOf E k = mV W 16 k) : rootE E = rootM W := by
  unfold rootE rootM
  refine pl_congr 256 (Nat.le_refl _) (fun x hx => ?_) (fun x _ y _ i hi => absurd hi (by omega)) (fun x => ?_) (fun x _ => h x)
  · obtain ⟨e, he, rfl⟩ := List.mem_map.1 hx
    exact ⟨(hE.b.ok e he).1, hE.b.kb e he⟩
  · have h1 := hE.key (K := x)
    rw [h x] at h1
    rw [List.mem_map, h1, List.mem_filter, List.mem_map]
    constructor
    · intro hn
      obtain ⟨j, hj, e⟩ := mV_key W 16 x hn
      exact ⟨⟨j, by simpa using hj, e.symm⟩, by simpa using hn⟩
    · intro hn
      simpa using hn.2
theorem rootM_len (W : List Int) : (rootM W).length = 32 := pl_len _ _ _
end Go.Proofs.YtnllcmcahfkmaaaDoor
