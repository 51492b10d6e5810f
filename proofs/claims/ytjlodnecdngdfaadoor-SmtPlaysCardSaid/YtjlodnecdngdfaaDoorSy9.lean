/-
  Package smt: a key taken out of a tree.; Package smt: a key put into any tree, taken out of any tree.; Package smt: forget, of any tree.; Package smt: above, Root, New of no pairs, with and without of a map of one pair at most.
-/
import Derived.Test.YtjlodnecdngdfaaDoorSy7
import Derived.Test.YtjlodnecdngdfaaDoorSy8
namespace Go.Proofs.YtjlodnecdngdfaaDoor
open Go.RowKit
set_option maxRecDepth 100000

def WoT (w : World) (V' : List Int → List Int) (bl : List Nat) : Option Tr → Value → Prop
  | none, v => v = .pointer none
  | some t', v => ∃ b' bl', v = .pointer (some ⟨b', 0, none⟩) ∧ TrA w V' t' b' bl' ∧ bl'.Nodup ∧ ∀ g ∈ bl', g ∈ bl
def WoQ (w : World) (V' : List Int → List Int) (key : List Int) (t : Tr) (bl : List Nat) (e : Ending) (w' : World) : Prop :=
  ∃ v, e = .returned v ∧ Chg w w' bl ∧ WoT w' V' bl (t.del key) v
def WoP (key : List Int) (t : Tr) : Prop := key ∈ t.keys → ∀ (w : World) (V V' : List Int → List Int) (b : Nat) (bl : List Nat), TrA w V t b bl → bl.Nodup → (∀ k ∈ t.keys, k ≠ key → V k = V' k) →
  Calls Tryd.prog 33 #[.pointer (some ⟨b, 0, none⟩), .agg (hc key).toArray] w (WoQ w V' key t bl)
set_option maxHeartbeats 16000000 in
theorem without_any {key : List Int} (hk : KyOk key) {t : Tr} (ok : t.ok) (ih : ∀ k f l r, t = .nd k f l r → WoP key l ∧ WoP key r) : WoP key t := by
  intro hn w V V' b bl ht nd vv
  have HKY := Lib.hid hk
  have OK := Lib.hid ok
  have HN := Lib.hid hn
  have IH := Lib.hid ih
  have NDU := Lib.hid nd
  have VV := Lib.hid vv
  have TLT := Lib.hid ht.lt
  have b1 : Below w.heap.size w (w.alloc (.cells (hc key).toArray 24)) := (Below.refl _ _).alloc (Nat.le_refl _) _
  have K1_ := Lib.hid (HashAt.new w key)
  have T1 := Lib.hid (ht.on b1)
  have B1 := Lib.hid b1
  clear hk ok hn ih nd vv ht b1
  go_enter Tryd.func33, Tryd.ntmps33
  go_upto_region 1 with fail
  obtain ⟨kb, hkb⟩ : ∃ z, w.heap.size = z := ⟨_, rfl⟩
  have HKB := Lib.hid hkb
  rw [hkb] at K1_ ⊢
  generalize w.alloc (.cells (hc key).toArray 24) = w1 at *
  clear hkb
  have lK := hc_len key
  have kl := HKY.out.len
  have f32 : w1.cell? ⟨b, 32, none⟩ = some (.int .i64 (t.fork : Int)) := by
    obtain ⟨x, y, n, n1, n2, n3, n4, -⟩ := T1.out.node
    rw [(n1.facts n2).1, n4]
  cases t with
  | lf k =>
    have f32' : w1.cell? ⟨b, 32, none⟩ = some (.int .i64 256) := f32
    clear f32
    go_wp2_with fail
    go_ret
    exact ⟨_, rfl, Chg.below B1.out (Nat.le_refl _) bl, rfl⟩
  | nd k f l r =>
    have f32' : w1.cell? ⟨b, 32, none⟩ = some (.int .i64 (f : Int)) := f32
    have ne256 : ((f : Int) == 256) = false := by have := OK.out.2.1; simp; omega
    clear f32
    obtain ⟨xa, ya, bl1, bl2, hbl, hnd, htl, htr⟩ := T1.out
    obtain ⟨n4_, n1, n2, n3, n4, n5, n6, -, -⟩ := hnd
    have hnl := NDU.out
    rw [hbl] at hnl
    obtain ⟨nb, nd12⟩ := List.nodup_cons.1 hnl
    obtain ⟨nd1, nd2, nd3⟩ := List.nodup_append.1 nd12
    have HBL := Lib.hid hbl
    have NB := Lib.hid nb
    have N1 := Lib.hid nd1
    have N2 := Lib.hid nd2
    have D12 : Hid (∀ g ∈ bl1, g ∉ bl2) := fun g h1 h2 => nd3 g h1 g h2 rfl
    have BIN : Hid (b ∈ bl) := by show _ ∈ _; rw [hbl]; simp
    have KNB : Hid (kb ∉ bl) := fun h => by have := TLT.out kb h; have := HKB.out; omega
    have V1 : Hid (∀ x ∈ l.keys, x ≠ key → V x = V' x) := fun x hx hne => VV.out x (List.mem_append.2 (.inl hx)) hne
    have V2 : Hid (∀ x ∈ r.keys, x ≠ key → V x = V' x) := fun x hx hne => VV.out x (List.mem_append.2 (.inr hx)) hne
    obtain ⟨il, ir⟩ := IH.out k f l r rfl
    have IL := Lib.hid il
    have IR := Lib.hid ir
    have OK4 := Lib.hid n2
    have NFK : Hid (n4_.fork = (f : Int)) := n4
    have NLO := Lib.hid n5
    have NHI := Lib.hid n6
    have b12 : Below w1.heap.size w1 w1.drew := (Below.refl _ _).drew
    have N2_ := Lib.hid (NdB.on n1 b12)
    have TL2 := Lib.hid (TrA.on htl b12)
    have TT2 := Lib.hid (TrA.on htr b12)
    have C2 := Lib.hid ((Chg.below B1.out (Nat.le_refl _) bl).trans (Chg.below b12 (Nat.le_refl _) []) (by simp))
    have hS0 : HashAt w1.drew kb key ∧ w1.drew.cell? ⟨b, 32, none⟩ = some (.int .i64 (f : Int)) := ⟨HashAt.on K1_.out b12, f32'⟩
    clear hbl n1 n2 n3 n4 n5 n6 hnl nb nd12 nd1 nd2 nd3 il ir htl htr b12 T1 B1 K1_
    go_wp2_with fail
    clear f32' ne256
    refine wp_region_held_drew (S := fun W => HashAt W kb key ∧ W.cell? ⟨b, 32, none⟩ = some (.int .i64 (f : Int))) (by kernel_rfl) (hS0) (fun h0 => ?_)
    generalize w1.drew = w2 at *
    refine wpAnyH_take (i := 0) (v := ?_) (by rw [List.getElem?_toArray]; rfl) (by kernel_rfl) (by kernel_rfl) (by kernel_rfl) (by exact fun _ _ _ h => h) (Or.inl ⟨by rfl, ?_⟩) h0 ?_
    rotate_left
    · intro W hW
      have r1 := hW.1.row HKY.out.len
      go_simp
      all_goals with_reducible rfl
    try simp only [Act.put, List.setIfInBounds_toArray, List.set_cons_zero, List.set_cons_succ]
    refine wpAnyH_take (i := 1) (v := ?_) (by rw [List.getElem?_toArray]; rfl) (by kernel_rfl) (by kernel_rfl) (by kernel_rfl) (by exact fun _ _ _ h => h) (Or.inl ⟨by rfl, ?_⟩) h0 ?_
    rotate_left
    · intro W hW
      go_simp
      all_goals with_reducible rfl
    try simp only [Act.put, List.setIfInBounds_toArray, List.set_cons_zero, List.set_cons_succ]
    refine wpAnyH_take (i := 2) (v := ?_) (by rw [List.getElem?_toArray]; rfl) (by kernel_rfl) (by kernel_rfl) (by kernel_rfl) (by exact fun _ _ _ h => h) (Or.inl ⟨by rfl, ?_⟩) h0 ?_
    rotate_left
    · intro W hW
      go_simp
      all_goals with_reducible rfl
    try simp only [Act.put, List.setIfInBounds_toArray, List.set_cons_zero, List.set_cons_succ]
    refine wpAnyH_take (i := 3) (v := ?_) (by rw [List.getElem?_toArray]; rfl) (by kernel_rfl) (by kernel_rfl) (by kernel_rfl) (by exact fun _ _ _ h => h) (Or.inl ⟨by rfl, ?_⟩) h0 ?_
    rotate_left
    · intro W hW
      go_simp
      all_goals with_reducible rfl
    try simp only [Act.put, List.setIfInBounds_toArray, List.set_cons_zero, List.set_cons_succ]
    refine wpAnyH_take (i := 4) (v := ?_) (by rw [List.getElem?_toArray]; rfl) (by kernel_rfl) (by kernel_rfl) (by kernel_rfl) (by exact fun _ _ _ h => h) (Or.inl ⟨by rfl, ?_⟩) h0 ?_
    rotate_left
    · intro W hW
      have c1 := hW.2
      go_simp
      all_goals with_reducible rfl
    try simp only [Act.put, List.setIfInBounds_toArray, List.set_cons_zero, List.set_cons_succ]
    refine wpAnyH_ready (rs := [5]) (by kernel_rfl) (by simp) ?_
    refine AllReadyH.cons (by rw [List.getElem?_toArray]; rfl) (fun K hK => ?_) AllReadyH.nil
    rw [if_pos (by rfl)]
    go_wp2_with fail
    refine (bit_any HKY.out.len HKY.out.by_ OK.out.2.1).mono ?_
    rintro e w3 ⟨rfl, b3⟩
    have hS : HashAt w3 kb key ∧ w3.cell? ⟨b, 32, none⟩ = some (.int .i64 (f : Int)) := ⟨h0.1.on b3, (b3.cell (World.block_lt_of_cell? _ _ h0.2)).trans h0.2⟩
    have N3 := Lib.hid (NdB.on N2_.out b3)
    have TL3 := Lib.hid (TL2.out.on b3)
    have TT3 := Lib.hid (TT2.out.on b3)
    have C3 := Lib.hid (C2.out.trans (Chg.below b3 (Nat.le_refl _) []) (by simp))
    clear b3 N2_ TL2 TT2 C2
    go_wp2_with fail
    refine hK.out _ _ hS (fun h0 => ?_)
    clear hK K hS
    try simp only [Act.put, List.setIfInBounds_toArray, List.set_cons_zero, List.set_cons_succ]
    refine wpAnyH_take (i := 6) (v := ?_) (by rw [List.getElem?_toArray]; rfl) (by kernel_rfl) (by kernel_rfl) (by kernel_rfl) (by exact fun _ _ _ h => h) (Or.inl ⟨by rfl, ?_⟩) h0 ?_
    rotate_left
    · intro W hW
      go_simp
      all_goals with_reducible rfl
    try simp only [Act.put, List.setIfInBounds_toArray, List.set_cons_zero, List.set_cons_succ]
    refine wpAnyH_done (by kernel_rfl) ?_ _
    have K3 := Lib.hid h0.1
    clear h0
    go_upto_region 4 with fail
    rcases bit01 key f with hz | hz
    · as_aux_lemma =>
        have hzz := Lib.hid hz
        have b34 : Below w3.heap.size w3 w3.drew := (Below.refl _ _).drew
        have N4 := Lib.hid (NdB.on N3.out b34)
        have TL4 := Lib.hid (TL3.out.on b34)
        have TT4 := Lib.hid (TT3.out.on b34)
        have C4 := Lib.hid (C3.out.trans (Chg.below b34 (Nat.le_refl _) []) (by simp))
        have hS4 : HashAt w3.drew kb key ∧ w3.drew.cell? ⟨b, 33, none⟩ = some (.pointer (some ⟨xa, 0, none⟩)) := ⟨HashAt.on K3.out b34, by
          have := (N4.out.facts OK4.out).2.1
          rw [this, NLO.out]⟩
        have HDA : Hid (bitI key f = 0 → l.del key = none → (Tr.nd k f l r).del key = some r) := fun h1 h2 => by
          unfold Tr.del
          rw [if_pos h1, h2]
        have HDB : Hid (∀ {t'}, bitI key f = 0 → l.del key = some t' → (Tr.nd k f l r).del key = some (.nd t'.key f t' r)) := fun h1 h2 => by
          unfold Tr.del
          rw [if_pos h1, h2]
        have KM : Hid (bitI key f = 0 → key ∈ l.keys) := fun h1 => by
          rcases List.mem_append.1 HN.out with h | h
          · exact h
          · have := (OK.out.2.2.2.2.2.2.2 key h).2; omega
        have OKC : Hid (∀ {t'}, bitI key f = 0 → l.del key = some t' → t'.ok) := fun h1 h2 => (Tr.del_ok key OK.out.2.2.1 (KM.out h1) h2).1
        have W2 : Hid (∀ x ∈ r.keys, V x = V' x) := fun x hx => V2.out x hx (fun e => by have h1 := (OK.out.2.2.2.2.2.2.2 x hx).2; have h2 := hzz.out; rw [e] at h1; omega)
        clear b34 TL3 TT3 N3 C3 K3
        rw [hz]
        clear hz
        go_wp2_with fail
        refine wp_region_held_drew (S := fun W => HashAt W kb key ∧ W.cell? ⟨b, 33, none⟩ = some (.pointer (some ⟨xa, 0, none⟩))) (by kernel_rfl) (hS4) (fun h0 => ?_)
        generalize w3.drew = w4 at *
        refine wpAnyH_take (i := 0) (v := ?_) (by rw [List.getElem?_toArray]; rfl) (by kernel_rfl) (by kernel_rfl) (by kernel_rfl) (by exact fun _ _ _ h => h) (Or.inl ⟨by rfl, ?_⟩) h0 ?_
        rotate_left
        · intro W hW
          go_simp
          all_goals with_reducible rfl
        try simp only [Act.put, List.setIfInBounds_toArray, List.set_cons_zero, List.set_cons_succ]
        refine wpAnyH_take (i := 1) (v := ?_) (by rw [List.getElem?_toArray]; rfl) (by kernel_rfl) (by kernel_rfl) (by kernel_rfl) (by exact fun _ _ _ h => h) (Or.inl ⟨by rfl, ?_⟩) h0 ?_
        rotate_left
        · intro W hW
          go_simp
          all_goals with_reducible rfl
        try simp only [Act.put, List.setIfInBounds_toArray, List.set_cons_zero, List.set_cons_succ]
        refine wpAnyH_take (i := 2) (v := ?_) (by rw [List.getElem?_toArray]; rfl) (by kernel_rfl) (by kernel_rfl) (by kernel_rfl) (by exact fun _ _ _ h => h) (Or.inl ⟨by rfl, ?_⟩) h0 ?_
        rotate_left
        · intro W hW
          go_simp
          all_goals with_reducible rfl
        try simp only [Act.put, List.setIfInBounds_toArray, List.set_cons_zero, List.set_cons_succ]
        refine wpAnyH_take (i := 3) (v := ?_) (by rw [List.getElem?_toArray]; rfl) (by kernel_rfl) (by kernel_rfl) (by kernel_rfl) (by exact fun _ _ _ h => h) (Or.inl ⟨by rfl, ?_⟩) h0 ?_
        rotate_left
        · intro W hW
          go_simp
          all_goals with_reducible rfl
        try simp only [Act.put, List.setIfInBounds_toArray, List.set_cons_zero, List.set_cons_succ]
        refine wpAnyH_take (i := 4) (v := ?_) (by rw [List.getElem?_toArray]; rfl) (by kernel_rfl) (by kernel_rfl) (by kernel_rfl) (by exact fun _ _ _ h => h) (Or.inl ⟨by rfl, ?_⟩) h0 ?_
        rotate_left
        · intro W hW
          go_simp
          all_goals with_reducible rfl
        try simp only [Act.put, List.setIfInBounds_toArray, List.set_cons_zero, List.set_cons_succ]
        refine wpAnyH_take (i := 5) (v := ?_) (by rw [List.getElem?_toArray]; rfl) (by kernel_rfl) (by kernel_rfl) (by kernel_rfl) (by exact fun _ _ _ h => h) (Or.inl ⟨by rfl, ?_⟩) h0 ?_
        rotate_left
        · intro W hW
          have c1 := hW.2
          go_simp
          all_goals with_reducible rfl
        try simp only [Act.put, List.setIfInBounds_toArray, List.set_cons_zero, List.set_cons_succ]
        refine wpAnyH_take (i := 6) (v := ?_) (by rw [List.getElem?_toArray]; rfl) (by kernel_rfl) (by kernel_rfl) (by kernel_rfl) (by exact fun _ _ _ h => h) (Or.inl ⟨by rfl, ?_⟩) h0 ?_
        rotate_left
        · intro W hW
          have r1 := hW.1.row HKY.out.len
          go_simp
          all_goals with_reducible rfl
        try simp only [Act.put, List.setIfInBounds_toArray, List.set_cons_zero, List.set_cons_succ]
        refine wpAnyH_ready (rs := [7]) (by kernel_rfl) (by simp) ?_
        refine AllReadyH.cons (by rw [List.getElem?_toArray]; rfl) (fun K hK => ?_) AllReadyH.nil
        rw [if_pos (by rfl)]
        go_wp2_with fail
        refine (IL.out (KM.out hzz.out) _ V V' xa bl1 TL4.out N1.out V1.out).mono ?_
        rintro e w5 hwo
        obtain ⟨ov, rfl, c5, hov⟩ := hwo
        have hS : HashAt w5 kb key ∧ w5.cell? ⟨b, 33, none⟩ = some (.pointer (some ⟨xa, 0, none⟩)) := ⟨h0.1.chg' c5 (by have := KNB.out; exact fun h => this (by rw [HBL.out]; simp [h])), by
          rw [World.cell?_of_block (w := w4) (c5.block b (World.block_lt_of_cell? _ _ h0.2) (fun h => NB.out (by simp [h])))]; exact h0.2⟩
        have N5 := Lib.hid (N4.out.chg c5 (fun h => NB.out (by simp [h])))
        have TO5 := Lib.hid (TT4.out.chg c5 (fun g h1 h2 => D12.out g h2 h1))
        have C5 := Lib.hid (C4.out.trans c5 (fun g hg _ => by rw [HBL.out]; simp [hg]))
        have HOV := Lib.hid hov
        clear c5 hov
        go_wp2_with fail
        refine hK.out _ _ hS (fun h0 => ?_)
        clear hK K hS
        try simp only [Act.put, List.setIfInBounds_toArray, List.set_cons_zero, List.set_cons_succ]
        refine wpAnyH_take (i := 8) (v := ?_) (by rw [List.getElem?_toArray]; rfl) (by kernel_rfl) (by kernel_rfl) (by kernel_rfl) (by exact fun _ _ _ h => h) (Or.inl ⟨by rfl, ?_⟩) h0 ?_
        rotate_left
        · intro W hW
          go_simp
          all_goals with_reducible rfl
        try simp only [Act.put, List.setIfInBounds_toArray, List.set_cons_zero, List.set_cons_succ]
        refine wpAnyH_done (by kernel_rfl) ?_ _
        clear h0
        have n5o := N5.out
        rcases ho : l.del key with _ | t'
        · -- nothing is left there
          rw [ho] at HOV
          have hv : ov = .pointer none := HOV.out
          subst hv
          have cy : w5.cell? ⟨b, 34, none⟩ = some (.pointer (some ⟨ya, 0, none⟩)) := by
            have := (N5.out.facts OK4.out).2.2.1
            rw [this, NHI.out]
          have HD := Lib.hid (HDA.out hzz.out ho)
          clear n5o ho
          go_wp2_with fail
          go_ret
          refine ⟨.pointer (some ⟨ya, 0, none⟩), rfl, C5.out, ?_⟩
          rw [HD.out]
          exact ⟨ya, bl2, rfl, TrA.congr TO5.out W2.out, N2.out, fun g hg => by rw [HBL.out]; simp [hg]⟩
        rw [ho] at HOV
        obtain ⟨b', bl', hov, tl5, nd5, in5⟩ := HOV.out
        subst hov
        have HD := Lib.hid (HDB.out hzz.out ho)
        have OK' := Lib.hid (OKC.out hzz.out ho)
        have TM5 := Lib.hid tl5
        have ND5 := Lib.hid nd5
        have IN5 := Lib.hid in5
        have nbm : b ∉ bl' := fun h => NB.out (by simp [in5 b h])
        have nbo : b ∉ bl2 := fun h => NB.out (by simp [h])
        have dis : ∀ g ∈ bl', g ∉ bl2 := fun g h1 h2 => D12.out g (in5 g h1) h2
        have NBM := Lib.hid nbm
        have NBO := Lib.hid nbo
        have DIS := Lib.hid dis
        clear tl5 nd5 in5 nbm nbo dis HOV ho n5o
        -- the branch
        have f33 := (N5.out.facts OK4.out).2.1
        have u33 := N5.out.free 33
        have N6 := Lib.hid (NdB.setLo N5.out OK4.out (some ⟨b', 0, none⟩))
        have C6 := Lib.hid ((Chg.refl w5 [b]).setCell (p := ⟨b, 33, none⟩) (.inl (by simp)) (.pointer (some ⟨b', 0, none⟩)))
        go_upto_region 8 with fail
        clear f33 u33
        generalize w5.setCell ⟨b, 33, none⟩ (.pointer (some ⟨b', 0, none⟩)) = w6 at *
        -- its key
        have TM6 := Lib.hid (TrA.chg C6.out TM5.out (fun g h1 h2 => NBM.out (by obtain rfl := List.mem_singleton.1 h2; exact h1)))
        obtain ⟨xx, yy, nn, m1, m2, m3, -⟩ := TM6.out.node
        have rk : rowOf w6 b' 0 32 = hc t'.key := by rw [(m1.facts m2).2.2.2.2.2.2.1, m3]
        obtain ⟨n6, hn6⟩ : ∃ z : Nd, ({ n4_ with lo := some ⟨b', 0, none⟩ } : Nd) = z := ⟨_, rfl⟩
        rw [hn6] at N6
        have OK6 : Hid n6.ok := by rw [← hn6]; exact ⟨OK4.out.key, OK4.out.own, OK4.out.high⟩
        have ct := N6.out.there OK6.out (i := 0) (k := 32) (by omega)
        have lk := hc_len t'.key
        have kl' := OK'.out.keyOk.len
        have N7 := Lib.hid (NdB.setKey N6.out OK6.out (F := t'.key) kl')
        have C7 := Lib.hid ((Chg.refl w6 [b]).setCells (b := b) (.inl (by simp)) (hc t'.key) 0)
        obtain ⟨n7, hn7⟩ : ∃ z : Nd, ({ n6 with key := t'.key } : Nd) = z := ⟨_, rfl⟩
        rw [hn7] at N7
        have OK7 : Hid n7.ok := by rw [← hn7]; exact ⟨kl', OK6.out.own, OK6.out.high⟩
        have f67 := (N7.out.facts OK7.out).2.2.2.1
        have u67 := N7.out.free 67
        have N8 := N7.out.setTold OK7.out false
        have o8 : Nd.ok { n7 with told := false } := ⟨OK7.out.key, OK7.out.own, OK7.out.high⟩
        have f101 := (N8.facts o8).2.2.2.2.2.1
        have u101 := N8.free 101
        have N9 := Lib.hid (N8.setKnown o8 false)
        have C9 := Lib.hid (((Chg.refl (w6.setCells b 0 (hc t'.key)) [b]).setCell (p := ⟨b, 67, none⟩) (.inl (by simp)) (.bool false)).setCell (p := ⟨b, 101, none⟩) (.inl (by simp)) (.bool false))
        have P1 : Hid (n7.fork = (f : Int)) := by show _ = _; rw [← hn7, ← hn6]; exact NFK.out
        have P2 : Hid (n7.lo = some ⟨b', 0, none⟩) := by show _ = _; rw [← hn7, ← hn6]; 
        have P3 : Hid (n7.hi = some ⟨ya, 0, none⟩) := by show _ = _; rw [← hn7, ← hn6]; exact NHI.out
        have P4 : Hid (n7.key = t'.key) := by show _ = _; rw [← hn7]
        clear m1 m2 m3 hn6 hn7 N8 o8
        go_upto_region 9 with fail
        clear ct rk
        go_wp2_with fail
        clear f67 u67 f101 u101
        generalize ((w6.setCells b 0 (hc t'.key)).setCell ⟨b, 67, none⟩ (.bool false)).setCell ⟨b, 101, none⟩ (.bool false) = w9 at *
        go_ret
        have C69 := C7.out.trans C9.out (fun g hg _ => hg)
        have C59 := C6.out.trans C69 (fun g hg _ => hg)
        have TM9 := TrA.chg C69 TM6.out (fun g h1 h2 => NBM.out (by obtain rfl := List.mem_singleton.1 h2; exact h1))
        have TO9 := TrA.congr (TrA.chg C59 TO5.out (fun g h1 h2 => NBO.out (by obtain rfl := List.mem_singleton.1 h2; exact h1))) W2.out
        have NN : NdA w9 V' (.nd t'.key f t' r) b (some ⟨b', 0, none⟩) (some ⟨ya, 0, none⟩) := ⟨_, N9.out, ⟨OK7.out.key, OK7.out.own, OK7.out.high⟩, P4.out, P1.out, P2.out, P3.out, (fun h => by cases h), (fun h => by cases h)⟩
        refine ⟨.pointer (some ⟨b, 0, none⟩), rfl, C5.out.trans C59 (fun g hg _ => by obtain rfl := List.mem_singleton.1 hg; exact BIN.out), ?_⟩
        rw [HD.out]
        refine ⟨b, b :: (bl' ++ bl2), rfl, ⟨b', ya, bl', bl2, rfl, NN, TM9, TO9⟩, ?_, ?_⟩
        · rw [List.nodup_cons]
          refine ⟨by have h1 := NBM.out; have h2 := NBO.out; simp [h1, h2], ?_⟩
          rw [List.nodup_append]
          exact ⟨ND5.out, N2.out, fun x hx y hy e => DIS.out x hx (by rw [e]; exact hy)⟩
        · intro g hg
          simp at hg
          rw [HBL.out]
          rcases hg with rfl | hg | hg
          · simp
          · have := IN5.out g hg; simp [this]
          · simp [hg]
    · as_aux_lemma =>
        have hzz := Lib.hid hz
        have b34 : Below w3.heap.size w3 w3.drew := (Below.refl _ _).drew
        have N4 := Lib.hid (NdB.on N3.out b34)
        have TL4 := Lib.hid (TL3.out.on b34)
        have TT4 := Lib.hid (TT3.out.on b34)
        have C4 := Lib.hid (C3.out.trans (Chg.below b34 (Nat.le_refl _) []) (by simp))
        have hS4 : HashAt w3.drew kb key ∧ w3.drew.cell? ⟨b, 34, none⟩ = some (.pointer (some ⟨ya, 0, none⟩)) := ⟨HashAt.on K3.out b34, by
          have := (N4.out.facts OK4.out).2.2.1
          rw [this, NHI.out]⟩
        have HDA : Hid (bitI key f = 1 → r.del key = none → (Tr.nd k f l r).del key = some l) := fun h1 h2 => by
          unfold Tr.del
          rw [if_neg (by rw [h1]; decide), h2]
        have HDB : Hid (∀ {t'}, bitI key f = 1 → r.del key = some t' → (Tr.nd k f l r).del key = some (.nd t'.key f l t')) := fun h1 h2 => by
          unfold Tr.del
          rw [if_neg (by rw [h1]; decide), h2]
        have KM : Hid (bitI key f = 1 → key ∈ r.keys) := fun h1 => by
          rcases List.mem_append.1 HN.out with h | h
          · have := (OK.out.2.2.2.2.2.2.1 key h).2; omega
          · exact h
        have OKC : Hid (∀ {t'}, bitI key f = 1 → r.del key = some t' → t'.ok) := fun h1 h2 => (Tr.del_ok key OK.out.2.2.2.1 (KM.out h1) h2).1
        have W1 : Hid (∀ x ∈ l.keys, V x = V' x) := fun x hx => V1.out x hx (fun e => by have h1 := (OK.out.2.2.2.2.2.2.1 x hx).2; have h2 := hzz.out; rw [e] at h1; omega)
        clear b34 TL3 TT3 N3 C3 K3
        rw [hz]
        clear hz
        go_wp2_with fail
        refine wp_region_held_drew (S := fun W => HashAt W kb key ∧ W.cell? ⟨b, 34, none⟩ = some (.pointer (some ⟨ya, 0, none⟩))) (by kernel_rfl) (hS4) (fun h0 => ?_)
        generalize w3.drew = w4 at *
        refine wpAnyH_take (i := 0) (v := ?_) (by rw [List.getElem?_toArray]; rfl) (by kernel_rfl) (by kernel_rfl) (by kernel_rfl) (by exact fun _ _ _ h => h) (Or.inl ⟨by rfl, ?_⟩) h0 ?_
        rotate_left
        · intro W hW
          go_simp
          all_goals with_reducible rfl
        try simp only [Act.put, List.setIfInBounds_toArray, List.set_cons_zero, List.set_cons_succ]
        refine wpAnyH_take (i := 1) (v := ?_) (by rw [List.getElem?_toArray]; rfl) (by kernel_rfl) (by kernel_rfl) (by kernel_rfl) (by exact fun _ _ _ h => h) (Or.inl ⟨by rfl, ?_⟩) h0 ?_
        rotate_left
        · intro W hW
          go_simp
          all_goals with_reducible rfl
        try simp only [Act.put, List.setIfInBounds_toArray, List.set_cons_zero, List.set_cons_succ]
        refine wpAnyH_take (i := 2) (v := ?_) (by rw [List.getElem?_toArray]; rfl) (by kernel_rfl) (by kernel_rfl) (by kernel_rfl) (by exact fun _ _ _ h => h) (Or.inl ⟨by rfl, ?_⟩) h0 ?_
        rotate_left
        · intro W hW
          go_simp
          all_goals with_reducible rfl
        try simp only [Act.put, List.setIfInBounds_toArray, List.set_cons_zero, List.set_cons_succ]
        refine wpAnyH_take (i := 3) (v := ?_) (by rw [List.getElem?_toArray]; rfl) (by kernel_rfl) (by kernel_rfl) (by kernel_rfl) (by exact fun _ _ _ h => h) (Or.inl ⟨by rfl, ?_⟩) h0 ?_
        rotate_left
        · intro W hW
          go_simp
          all_goals with_reducible rfl
        try simp only [Act.put, List.setIfInBounds_toArray, List.set_cons_zero, List.set_cons_succ]
        refine wpAnyH_take (i := 4) (v := ?_) (by rw [List.getElem?_toArray]; rfl) (by kernel_rfl) (by kernel_rfl) (by kernel_rfl) (by exact fun _ _ _ h => h) (Or.inl ⟨by rfl, ?_⟩) h0 ?_
        rotate_left
        · intro W hW
          go_simp
          all_goals with_reducible rfl
        try simp only [Act.put, List.setIfInBounds_toArray, List.set_cons_zero, List.set_cons_succ]
        refine wpAnyH_take (i := 5) (v := ?_) (by rw [List.getElem?_toArray]; rfl) (by kernel_rfl) (by kernel_rfl) (by kernel_rfl) (by exact fun _ _ _ h => h) (Or.inl ⟨by rfl, ?_⟩) h0 ?_
        rotate_left
        · intro W hW
          have c1 := hW.2
          go_simp
          all_goals with_reducible rfl
        try simp only [Act.put, List.setIfInBounds_toArray, List.set_cons_zero, List.set_cons_succ]
        refine wpAnyH_take (i := 6) (v := ?_) (by rw [List.getElem?_toArray]; rfl) (by kernel_rfl) (by kernel_rfl) (by kernel_rfl) (by exact fun _ _ _ h => h) (Or.inl ⟨by rfl, ?_⟩) h0 ?_
        rotate_left
        · intro W hW
          have r1 := hW.1.row HKY.out.len
          go_simp
          all_goals with_reducible rfl
        try simp only [Act.put, List.setIfInBounds_toArray, List.set_cons_zero, List.set_cons_succ]
        refine wpAnyH_ready (rs := [7]) (by kernel_rfl) (by simp) ?_
        refine AllReadyH.cons (by rw [List.getElem?_toArray]; rfl) (fun K hK => ?_) AllReadyH.nil
        rw [if_pos (by rfl)]
        go_wp2_with fail
        refine (IR.out (KM.out hzz.out) _ V V' ya bl2 TT4.out N2.out V2.out).mono ?_
        rintro e w5 hwo
        obtain ⟨ov, rfl, c5, hov⟩ := hwo
        have hS : HashAt w5 kb key ∧ w5.cell? ⟨b, 34, none⟩ = some (.pointer (some ⟨ya, 0, none⟩)) := ⟨h0.1.chg' c5 (by have := KNB.out; exact fun h => this (by rw [HBL.out]; simp [h])), by
          rw [World.cell?_of_block (w := w4) (c5.block b (World.block_lt_of_cell? _ _ h0.2) (fun h => NB.out (by simp [h])))]; exact h0.2⟩
        have N5 := Lib.hid (N4.out.chg c5 (fun h => NB.out (by simp [h])))
        have TO5 := Lib.hid (TL4.out.chg c5 (fun g h1 h2 => D12.out g h1 h2))
        have C5 := Lib.hid (C4.out.trans c5 (fun g hg _ => by rw [HBL.out]; simp [hg]))
        have HOV := Lib.hid hov
        clear c5 hov
        go_wp2_with fail
        refine hK.out _ _ hS (fun h0 => ?_)
        clear hK K hS
        try simp only [Act.put, List.setIfInBounds_toArray, List.set_cons_zero, List.set_cons_succ]
        refine wpAnyH_take (i := 8) (v := ?_) (by rw [List.getElem?_toArray]; rfl) (by kernel_rfl) (by kernel_rfl) (by kernel_rfl) (by exact fun _ _ _ h => h) (Or.inl ⟨by rfl, ?_⟩) h0 ?_
        rotate_left
        · intro W hW
          go_simp
          all_goals with_reducible rfl
        try simp only [Act.put, List.setIfInBounds_toArray, List.set_cons_zero, List.set_cons_succ]
        refine wpAnyH_done (by kernel_rfl) ?_ _
        clear h0
        have n5o := N5.out
        rcases ho : r.del key with _ | t'
        · -- nothing is left there
          rw [ho] at HOV
          have hv : ov = .pointer none := HOV.out
          subst hv
          have cy : w5.cell? ⟨b, 33, none⟩ = some (.pointer (some ⟨xa, 0, none⟩)) := by
            have := (N5.out.facts OK4.out).2.1
            rw [this, NLO.out]
          have HD := Lib.hid (HDA.out hzz.out ho)
          clear n5o ho
          go_wp2_with fail
          go_ret
          refine ⟨.pointer (some ⟨xa, 0, none⟩), rfl, C5.out, ?_⟩
          rw [HD.out]
          exact ⟨xa, bl1, rfl, TrA.congr TO5.out W1.out, N1.out, fun g hg => by rw [HBL.out]; simp [hg]⟩
        rw [ho] at HOV
        obtain ⟨b', bl', hov, tl5, nd5, in5⟩ := HOV.out
        subst hov
        have HD := Lib.hid (HDB.out hzz.out ho)
        have OK' := Lib.hid (OKC.out hzz.out ho)
        have TM5 := Lib.hid tl5
        have ND5 := Lib.hid nd5
        have IN5 := Lib.hid in5
        have nbm : b ∉ bl' := fun h => NB.out (by simp [in5 b h])
        have nbo : b ∉ bl1 := fun h => NB.out (by simp [h])
        have dis : ∀ g ∈ bl', g ∉ bl1 := fun g h1 h2 => D12.out g h2 (in5 g h1)
        have NBM := Lib.hid nbm
        have NBO := Lib.hid nbo
        have DIS := Lib.hid dis
        clear tl5 nd5 in5 nbm nbo dis HOV ho n5o
        -- the branch
        have f33 := (N5.out.facts OK4.out).2.2.1
        have u33 := N5.out.free 34
        have N6 := Lib.hid (NdB.setHi N5.out OK4.out (some ⟨b', 0, none⟩))
        have C6 := Lib.hid ((Chg.refl w5 [b]).setCell (p := ⟨b, 34, none⟩) (.inl (by simp)) (.pointer (some ⟨b', 0, none⟩)))
        go_upto_region 8 with fail
        clear f33 u33
        generalize w5.setCell ⟨b, 34, none⟩ (.pointer (some ⟨b', 0, none⟩)) = w6 at *
        -- its key
        have TM6 := Lib.hid (TrA.chg C6.out TM5.out (fun g h1 h2 => NBM.out (by obtain rfl := List.mem_singleton.1 h2; exact h1)))
        obtain ⟨xx, yy, nn, m1, m2, m3, -⟩ := TM6.out.node
        have rk : rowOf w6 b' 0 32 = hc t'.key := by rw [(m1.facts m2).2.2.2.2.2.2.1, m3]
        obtain ⟨n6, hn6⟩ : ∃ z : Nd, ({ n4_ with hi := some ⟨b', 0, none⟩ } : Nd) = z := ⟨_, rfl⟩
        rw [hn6] at N6
        have OK6 : Hid n6.ok := by rw [← hn6]; exact ⟨OK4.out.key, OK4.out.own, OK4.out.high⟩
        have ct := N6.out.there OK6.out (i := 0) (k := 32) (by omega)
        have lk := hc_len t'.key
        have kl' := OK'.out.keyOk.len
        have N7 := Lib.hid (NdB.setKey N6.out OK6.out (F := t'.key) kl')
        have C7 := Lib.hid ((Chg.refl w6 [b]).setCells (b := b) (.inl (by simp)) (hc t'.key) 0)
        obtain ⟨n7, hn7⟩ : ∃ z : Nd, ({ n6 with key := t'.key } : Nd) = z := ⟨_, rfl⟩
        rw [hn7] at N7
        have OK7 : Hid n7.ok := by rw [← hn7]; exact ⟨kl', OK6.out.own, OK6.out.high⟩
        have f67 := (N7.out.facts OK7.out).2.2.2.1
        have u67 := N7.out.free 67
        have N8 := N7.out.setTold OK7.out false
        have o8 : Nd.ok { n7 with told := false } := ⟨OK7.out.key, OK7.out.own, OK7.out.high⟩
        have f101 := (N8.facts o8).2.2.2.2.2.1
        have u101 := N8.free 101
        have N9 := Lib.hid (N8.setKnown o8 false)
        have C9 := Lib.hid (((Chg.refl (w6.setCells b 0 (hc t'.key)) [b]).setCell (p := ⟨b, 67, none⟩) (.inl (by simp)) (.bool false)).setCell (p := ⟨b, 101, none⟩) (.inl (by simp)) (.bool false))
        have P1 : Hid (n7.fork = (f : Int)) := by show _ = _; rw [← hn7, ← hn6]; exact NFK.out
        have P2 : Hid (n7.lo = some ⟨xa, 0, none⟩) := by show _ = _; rw [← hn7, ← hn6]; exact NLO.out
        have P3 : Hid (n7.hi = some ⟨b', 0, none⟩) := by show _ = _; rw [← hn7, ← hn6]; 
        have P4 : Hid (n7.key = t'.key) := by show _ = _; rw [← hn7]
        clear m1 m2 m3 hn6 hn7 N8 o8
        go_upto_region 9 with fail
        clear ct rk
        go_wp2_with fail
        clear f67 u67 f101 u101
        generalize ((w6.setCells b 0 (hc t'.key)).setCell ⟨b, 67, none⟩ (.bool false)).setCell ⟨b, 101, none⟩ (.bool false) = w9 at *
        go_ret
        have C69 := C7.out.trans C9.out (fun g hg _ => hg)
        have C59 := C6.out.trans C69 (fun g hg _ => hg)
        have TM9 := TrA.chg C69 TM6.out (fun g h1 h2 => NBM.out (by obtain rfl := List.mem_singleton.1 h2; exact h1))
        have TO9 := TrA.congr (TrA.chg C59 TO5.out (fun g h1 h2 => NBO.out (by obtain rfl := List.mem_singleton.1 h2; exact h1))) W1.out
        have NN : NdA w9 V' (.nd t'.key f l t') b (some ⟨xa, 0, none⟩) (some ⟨b', 0, none⟩) := ⟨_, N9.out, ⟨OK7.out.key, OK7.out.own, OK7.out.high⟩, P4.out, P1.out, P2.out, P3.out, (fun h => by cases h), (fun h => by cases h)⟩
        refine ⟨.pointer (some ⟨b, 0, none⟩), rfl, C5.out.trans C59 (fun g hg _ => by obtain rfl := List.mem_singleton.1 hg; exact BIN.out), ?_⟩
        rw [HD.out]
        refine ⟨b, b :: (bl1 ++ bl'), rfl, ⟨xa, b', bl1, bl', rfl, NN, TO9, TM9⟩, ?_, ?_⟩
        · rw [List.nodup_cons]
          refine ⟨by have h1 := NBM.out; have h2 := NBO.out; simp [h1, h2], ?_⟩
          rw [List.nodup_append]
          exact ⟨N1.out, ND5.out, fun x hx y hy e => DIS.out y hy (by rw [← e]; exact hx)⟩
        · intro g hg
          simp at hg
          rw [HBL.out]
          rcases hg with rfl | hg | hg
          · simp
          · simp [hg]
          · have := IN5.out g hg; simp [this]
end Go.Proofs.YtjlodnecdngdfaaDoor
namespace Go.Proofs.YtjlodnecdngdfaaDoor
open Go.RowKit
set_option maxRecDepth 100000

theorem with_all {key : List Int} (hk : KyOk key) : ∀ {t : Tr}, t.ok → key ∉ t.keys → WiP key t
  | .lf k, ok, hn => with_any hk ok hn (fun k f l r h => by cases h)
  | .nd k f l r, ok, hn => with_any hk ok hn (fun k' f' l' r' h => by
    cases h
    exact ⟨with_all hk ok.2.2.1 (fun hm => hn (List.mem_append.2 (.inl hm))), with_all hk ok.2.2.2.1 (fun hm => hn (List.mem_append.2 (.inr hm)))⟩)
theorem without_all {key : List Int} (hk : KyOk key) : ∀ {t : Tr}, t.ok → WoP key t
  | .lf k, ok => without_any hk ok (fun k f l r h => by cases h)
  | .nd k f l r, ok => without_any hk ok (fun k' f' l' r' h => by
    cases h
    exact ⟨without_all hk ok.2.2.1, without_all hk ok.2.2.2.1⟩)
set_option maxHeartbeats 4000000 in
theorem with_nilB {w : World} {K : List Int} (hK : K.length = 32) : Calls Tryd.prog 35 #[.pointer none, .agg (hc K).toArray] w fun e w' => e = .returned (.pointer (some ⟨w.heap.size + 1, 0, none⟩)) ∧ Below w.heap.size w w' ∧ NdB w' (w.heap.size + 1) ⟨K, 256, none, none, zero32, false, zero32, 0, false⟩ := by
  have H0 := HashAt.new w K
  have r0 := H0.row hK
  have hlK := hc_len K
  have okN : Nd.ok ⟨K, 256, none, none, zero32, false, zero32, 0, false⟩ := ⟨hK, zero32_len, zero32_len⟩
  have hn : NdB ((w.alloc (.cells (hc K).toArray 24)).alloc (.cells (Nd.row ⟨K, 256, none, none, zero32, false, zero32, 0, false⟩).toArray 88)) (w.heap.size + 1) ⟨K, 256, none, none, zero32, false, zero32, 0, false⟩ := by
    have := heap_alloc_new (w.alloc (.cells (hc K).toArray 24)) (.cells (Nd.row ⟨K, 256, none, none, zero32, false, zero32, 0, false⟩).toArray 88)
    simpa [NdB] using this
  have B := Lib.hid (((Below.refl w.heap.size w).alloc (Nat.le_refl _) (.cells (hc K).toArray 24)).alloc (by simp) (.cells (Nd.row ⟨K, 256, none, none, zero32, false, zero32, 0, false⟩).toArray 88))
  have HN := Lib.hid hn
  obtain ⟨R, hR⟩ : ∃ R, Nd.row ⟨K, 256, none, none, zero32, false, zero32, 0, false⟩ = R := ⟨_, rfl⟩
  have hone : R.toArray.all (·.oneCell') = true := by rw [← hR]; exact Nd.one _
  have hrl : R.length = 102 := by rw [← hR]; exact okN.len
  have HRn := Tryd.run_nd
  clear H0 hn okN
  go_enter Tryd.func35, Tryd.ntmps35
  go_wp2_with (simp only [hR])
  go_ret
  exact ⟨rfl, by rw [← hR]; exact B.out, by rw [← hR]; exact HN.out⟩

theorem with_nilA {key : List Int} (hk : KyOk key) (V' : List Int → List Int) (w : World) : Calls Tryd.prog 35 #[.pointer none, .agg (hc key).toArray] w fun e w' => ∃ b', e = .returned (.pointer (some ⟨b', 0, none⟩)) ∧ Below w.heap.size w w' ∧ TrA w' V' (.lf key) b' [b'] ∧ w.heap.size ≤ b' := by
  refine (with_nilB hk.len).mono ?_
  rintro e w' ⟨rfl, hb, hn⟩
  exact ⟨w.heap.size + 1, rfl, hb, ⟨rfl, none, none, _, hn, ⟨hk.len, zero32_len, zero32_len⟩, rfl, rfl, rfl, rfl, (fun h => by cases h), (fun h => by cases h)⟩, by omega⟩
end Go.Proofs.YtjlodnecdngdfaaDoor
namespace Go.Proofs.YtjlodnecdngdfaaDoor
open Go.RowKit
set_option maxRecDepth 100000

theorem Tr.ok.ltl {k : List Int} {f : Nat} {l r : Tr} (h : (Tr.nd k f l r).ok) : f < l.fork := by
  exact h.2.2.2.2.1
theorem Tr.ok.ltr {k : List Int} {f : Nat} {l r : Tr} (h : (Tr.nd k f l r).ok) : f < r.fork := by
  exact h.2.2.2.2.2.1
/-- How far a walk has still to go. -/
def fgm (iv : Value) (w : World) : Nat :=
  match iv with
  | .pointer (some a) => (match w.cell? ⟨a.block, 32, none⟩ with | some (.int _ x) => 257 - x.toNat | _ => 0)
  | _ => 0
theorem fgm_is {w : World} {V : List Int → List Int} {t : Tr} {b : Nat} {bl : List Nat} (_ : t.ok) (h : TrA w V t b bl) : fgm (.pointer (some ⟨b, 0, none⟩)) w = 257 - t.fork := by
  obtain ⟨x, y, n, n1, n2, n3, n4, -⟩ := h.node
  have := (n1.facts n2).1
  rw [n4] at this
  unfold fgm
  simp only [this]
  simp
/-- Within forget: the part of the tree that is still to be walked, and how the whole stands once it is. -/
def FgT (w wr : World) (kb : Nat) (key : List Int) (V V' : List Int → List Int) (t : Tr) (b : Nat) (bl : List Nat) (iv : Value) : Prop :=
  ∃ t' b' bl', iv = .pointer (some ⟨b', 0, none⟩) ∧ t'.ok ∧ key ∈ t'.keys ∧ TrA wr V t' b' bl' ∧ bl'.Nodup ∧ (∀ g ∈ bl', g ∈ bl) ∧ (∀ k ∈ t'.keys, k ≠ key → V k = V' k) ∧ Chg w wr bl ∧
    (∀ W, Chg wr W bl' → TrA W V' t' b' bl' → TrA W V' t b bl) ∧ HashAt wr kb key
set_option maxHeartbeats 16000000 in
theorem forget_any {key : List Int} (hk : KyOk key) {t : Tr} (ok : t.ok) (hn : key ∈ t.keys) {w : World} {V V' : List Int → List Int} {b : Nat} {bl : List Nat} (ht : TrA w V t b bl) (nd : bl.Nodup) (vv : ∀ k ∈ t.keys, k ≠ key → V k = V' k) :
    Calls Tryd.prog 34 #[.pointer (some ⟨b, 0, none⟩), .agg (hc key).toArray] w fun e w' => e = .returned (.tuple #[]) ∧ Chg w w' bl ∧ TrA w' V' t b bl := by
  have HKY := Lib.hid hk
  have b1 : Below w.heap.size w (w.alloc (.cells (hc key).toArray 24)) := (Below.refl _ _).alloc (Nat.le_refl _) _
  have TLT := Lib.hid ht.lt
  have F0 : Hid (FgT w (w.alloc (.cells (hc key).toArray 24)) w.heap.size key V V' t b bl (.pointer (some ⟨b, 0, none⟩))) :=
    ⟨t, b, bl, rfl, ok, hn, ht.on b1, nd, fun _ h => h, vv, Chg.below b1 (Nat.le_refl _) bl, fun _ _ h => h, HashAt.new w key⟩
  clear hk ok hn nd vv ht b1
  go_enter Tryd.func34, Tryd.ntmps34
  go_upto_region 1 with fail
  obtain ⟨kb, hkb⟩ : ∃ z, w.heap.size = z := ⟨_, rfl⟩
  have HKB := Lib.hid hkb
  rw [hkb] at F0 ⊢
  generalize w.alloc (.cells (hc key).toArray 24) = w1 at *
  clear hkb
  have KNB : Hid (kb ∉ bl) := fun h => by have := TLT.out kb h; have := HKB.out; omega
  go_loopw [0] (fun iv wr => Hid (FgT w wr kb key V V' t b bl iv)) (fun iv wr => fgm iv wr)
  case atStart => exact F0
  case round =>
    clear F0
    obtain ⟨t', b', bl', rfl, ok', hn', ht', nd', in', vv', cw', ct', hka⟩ := hrel.out
    clear hrel
    have OKT := Lib.hid ok'
    have HN := Lib.hid hn'
    have TR := Lib.hid ht'
    have NDT := Lib.hid nd'
    have INB := Lib.hid in'
    have VVT := Lib.hid vv'
    have CW := Lib.hid cw'
    have CONT := Lib.hid ct'
    obtain ⟨x, y, n4_, n1, n2, n3, n4, n5, n6, -, -⟩ := ht'.node
    have lk := hc_len key
    have kl := HKY.out.len
    have f67 := (n1.facts n2).2.2.2.1
    have u67 := n1.free 67
    have G33 : Hid (wr.cell? ⟨b', 33, none⟩ = some (.pointer x)) := by show _ = _; rw [← n5]; exact (n1.facts n2).2.1
    have G34 : Hid (wr.cell? ⟨b', 34, none⟩ = some (.pointer y)) := by show _ = _; rw [← n6]; exact (n1.facts n2).2.2.1
    have N8 := n1.setTold n2 false
    have o8 : Nd.ok { n4_ with told := false } := ⟨n2.key, n2.own, n2.high⟩
    have f101 := (N8.facts o8).2.2.2.2.2.1
    have u101 := N8.free 101
    have N9 := N8.setKnown o8 false
    have o9 : Nd.ok { ({ n4_ with told := false } : Nd) with known := false } := ⟨n2.key, n2.own, n2.high⟩
    have C3 := Lib.hid (((Chg.refl wr [b']).setCell (p := ⟨b', 67, none⟩) (.inl (by simp)) (.bool false)).setCell (p := ⟨b', 101, none⟩) (.inl (by simp)) (.bool false))
    have K3 := Lib.hid (hka.chg' C3.out (fun h => KNB.out (in' kb (by obtain rfl := List.mem_singleton.1 h; exact ht'.head))))
    have f32 := (N9.facts o9).1
    have f33 := (N9.facts o9).2.1
    have f34 := (N9.facts o9).2.2.1
    have e32 : ({ ({ n4_ with told := false } : Nd) with known := false } : Nd).fork = (t'.fork : Int) := n4
    have e33 : ({ ({ n4_ with told := false } : Nd) with known := false } : Nd).lo = x := n5
    have e34 : ({ ({ n4_ with told := false } : Nd) with known := false } : Nd).hi = y := n6
    rw [e32] at f32
    rw [e33] at f33
    rw [e34] at f34
    have NNX : Hid (NdA ((wr.setCell ⟨b', 67, none⟩ (.bool false)).setCell ⟨b', 101, none⟩ (.bool false)) V' t' b' x y) := ⟨_, N9, o9, n3, n4, n5, n6, (fun h => by cases h), (fun h => by cases h)⟩
    clear ok' hn' ht' nd' in' vv' cw' ct' hka n1 n2 n3 n4 n5 n6 N8 o8 N9 o9 e32 e33 e34
    go_upto_region 3 with fail
    clear f67 u67 f101 u101
    generalize (wr.setCell ⟨b', 67, none⟩ (.bool false)).setCell ⟨b', 101, none⟩ (.bool false) = w3 at *
    cases t' with
    | lf k =>
      have f32' : w3.cell? ⟨b', 32, none⟩ = some (.int .i64 256) := f32
      clear f32 f33 f34
      go_wp2_with fail
      refine bodyPost_ret (v := .tuple #[]) (results_none rfl _ _ _) rfl ?_
      have hb : bl' = [b'] := TR.out.1
      refine ⟨rfl, CW.out.trans C3.out (fun g hg _ => by obtain rfl := List.mem_singleton.1 hg; exact INB.out g (by rw [hb]; simp)), ?_⟩
      refine CONT.out _ (by rw [hb]; exact C3.out) ⟨hb, x, y, NNX.out⟩
    | nd k f l r =>
      have f32' : w3.cell? ⟨b', 32, none⟩ = some (.int .i64 (f : Int)) := f32
      have ne256 : ((f : Int) == 256) = false := by have := OKT.out.2.1; simp; omega
      clear f32
      have f32 := f32'
      clear f32'
      obtain ⟨xa, ya, bl1, bl2, hbl, hnd, htl, htr⟩ := TR.out
      have hx : x = some ⟨xa, 0, none⟩ ∧ y = some ⟨ya, 0, none⟩ := by
        obtain ⟨q, q1, q2, q3, q4, q5, q6, -, -⟩ := hnd
        have e1 := (q1.facts q2).2.1
        have e2 := (q1.facts q2).2.2.1
        rw [q5, G33.out] at e1
        rw [q6, G34.out] at e2
        simp at e1 e2
        exact ⟨e1, e2⟩
      obtain ⟨rfl, rfl⟩ := hx
      have NN := NNX
      have T1 := Lib.hid htl
      have T2 := Lib.hid htr
      have hnl := NDT.out
      rw [hbl] at hnl
      obtain ⟨nb, nd12⟩ := List.nodup_cons.1 hnl
      obtain ⟨nd1, nd2, nd3⟩ := List.nodup_append.1 nd12
      have HBL := Lib.hid hbl
      have NB := Lib.hid nb
      have ND1 := Lib.hid nd1
      have ND2 := Lib.hid nd2
      have D12 : Hid (∀ g ∈ bl1, g ∉ bl2) := fun g h1 h2 => nd3 g h1 g h2 rfl
      clear NNX hbl hnd htl htr hnl nb nd12 nd1 nd2 nd3
      go_upto_region 4 with fail
      clear ne256
      rcases bit01 key f with hz | hz
      · as_aux_lemma =>
          have hzz := Lib.hid hz
          have b34 : Below w3.heap.size w3 w3.drew := (Below.refl _ _).drew
          have C4 := Lib.hid (Chg.below b34 (Nat.le_refl _) [])
          have NDM := Lib.hid ND1.out
          have NBM : Hid (b' ∉ bl1) := fun h => NB.out (by simp [h])
          have NBO : Hid (b' ∉ bl2) := fun h => NB.out (by simp [h])
          have TM := T1
          have TO := T2
          have VO : Hid (∀ x ∈ r.keys, V x = V' x) := fun x hx => VVT.out x (List.mem_append.2 (.inr hx)) (fun e => by have h1 := (OKT.out.2.2.2.2.2.2.2 x hx).2; have h2 := hzz.out; rw [e] at h1; omega)
          have KM : Hid (bitI key f = 0 → key ∈ l.keys) := fun h1 => by
            rcases List.mem_append.1 HN.out with h | h
            · exact h
            · have := (OKT.out.2.2.2.2.2.2.2 key h).2; omega
          have hS4 : HashAt w3.drew kb key ∧ w3.drew.cell? ⟨b', 32, none⟩ = some (.int .i64 (f : Int)) ∧ w3.drew.cell? ⟨b', 33, none⟩ = some (.pointer (some ⟨xa, 0, none⟩)) := ⟨HashAt.on K3.out b34, f32, f33⟩
          clear b34 hz K3 f33 f34
          go_wp2_with fail
          clear f32
          refine wp_region_held_drew (S := fun W => HashAt W kb key ∧ W.cell? ⟨b', 32, none⟩ = some (.int .i64 (f : Int)) ∧ W.cell? ⟨b', 33, none⟩ = some (.pointer (some ⟨xa, 0, none⟩))) (by kernel_rfl) (hS4) (fun h0 => ?_)
          generalize w3.drew = w4 at *
          refine wpAnyH_take (i := 0) (v := ?_) (by rw [List.getElem?_toArray]; rfl) (by kernel_rfl) (by kernel_rfl) (by kernel_rfl) (by exact fun _ _ _ h => h) (Or.inl ⟨by rfl, ?_⟩) h0 ?_
          rotate_left
          · intro W hW
            go_simp
            all_goals with_reducible rfl
          try simp only [Act.put, List.setIfInBounds_toArray, List.set_cons_zero, List.set_cons_succ]
          refine wpAnyH_take (i := 1) (v := ?_) (by rw [List.getElem?_toArray]; rfl) (by kernel_rfl) (by kernel_rfl) (by kernel_rfl) (by exact fun _ _ _ h => h) (Or.inl ⟨by rfl, ?_⟩) h0 ?_
          rotate_left
          · intro W hW
            have r1 := hW.1.row HKY.out.len
            go_simp
            all_goals with_reducible rfl
          try simp only [Act.put, List.setIfInBounds_toArray, List.set_cons_zero, List.set_cons_succ]
          refine wpAnyH_take (i := 2) (v := ?_) (by rw [List.getElem?_toArray]; rfl) (by kernel_rfl) (by kernel_rfl) (by kernel_rfl) (by exact fun _ _ _ h => h) (Or.inl ⟨by rfl, ?_⟩) h0 ?_
          rotate_left
          · intro W hW
            go_simp
            all_goals with_reducible rfl
          try simp only [Act.put, List.setIfInBounds_toArray, List.set_cons_zero, List.set_cons_succ]
          refine wpAnyH_take (i := 3) (v := ?_) (by rw [List.getElem?_toArray]; rfl) (by kernel_rfl) (by kernel_rfl) (by kernel_rfl) (by exact fun _ _ _ h => h) (Or.inl ⟨by rfl, ?_⟩) h0 ?_
          rotate_left
          · intro W hW
            go_simp
            all_goals with_reducible rfl
          try simp only [Act.put, List.setIfInBounds_toArray, List.set_cons_zero, List.set_cons_succ]
          refine wpAnyH_take (i := 4) (v := ?_) (by rw [List.getElem?_toArray]; rfl) (by kernel_rfl) (by kernel_rfl) (by kernel_rfl) (by exact fun _ _ _ h => h) (Or.inl ⟨by rfl, ?_⟩) h0 ?_
          rotate_left
          · intro W hW
            go_simp
            all_goals with_reducible rfl
          try simp only [Act.put, List.setIfInBounds_toArray, List.set_cons_zero, List.set_cons_succ]
          refine wpAnyH_take (i := 5) (v := ?_) (by rw [List.getElem?_toArray]; rfl) (by kernel_rfl) (by kernel_rfl) (by kernel_rfl) (by exact fun _ _ _ h => h) (Or.inl ⟨by rfl, ?_⟩) h0 ?_
          rotate_left
          · intro W hW
            have c1 := hW.2.1
            go_simp
            all_goals with_reducible rfl
          try simp only [Act.put, List.setIfInBounds_toArray, List.set_cons_zero, List.set_cons_succ]
          refine wpAnyH_take (i := 7) (v := ?_) (by rw [List.getElem?_toArray]; rfl) (by kernel_rfl) (by kernel_rfl) (by kernel_rfl) (by exact fun _ _ _ h => h) (Or.inl ⟨by rfl, ?_⟩) h0 ?_
          rotate_left
          · intro W hW
            go_simp
            all_goals with_reducible rfl
          try simp only [Act.put, List.setIfInBounds_toArray, List.set_cons_zero, List.set_cons_succ]
          refine wpAnyH_take (i := 8) (v := ?_) (by rw [List.getElem?_toArray]; rfl) (by kernel_rfl) (by kernel_rfl) (by kernel_rfl) (by exact fun _ _ _ h => h) (Or.inl ⟨by rfl, ?_⟩) h0 ?_
          rotate_left
          · intro W hW
            go_simp
            all_goals with_reducible rfl
          try simp only [Act.put, List.setIfInBounds_toArray, List.set_cons_zero, List.set_cons_succ]
          refine wpAnyH_ready (rs := [6]) (by kernel_rfl) (by simp) ?_
          refine AllReadyH.cons (by rw [List.getElem?_toArray]; rfl) (fun K hK => ?_) AllReadyH.nil
          rw [if_pos (by rfl)]
          go_wp2_with fail
          refine (bit_any HKY.out.len HKY.out.by_ OKT.out.2.1).mono ?_
          rintro e w5 ⟨rfl, b5⟩
          rw [hzz.out]
          have hS : HashAt w5 kb key ∧ w5.cell? ⟨b', 32, none⟩ = some (.int .i64 (f : Int)) ∧ w5.cell? ⟨b', 33, none⟩ = some (.pointer (some ⟨xa, 0, none⟩)) := ⟨h0.1.on b5, (b5.cell (World.block_lt_of_cell? _ _ h0.2.1)).trans h0.2.1, (b5.cell (World.block_lt_of_cell? _ _ h0.2.2)).trans h0.2.2⟩
          have C5 := Lib.hid (C4.out.trans (Chg.below b5 (Nat.le_refl _) []) (by simp))
          clear b5 C4
          go_wp2_with fail
          refine hK.out _ _ hS (fun h0 => ?_)
          clear hK K hS
          try simp only [Act.put, List.setIfInBounds_toArray, List.set_cons_zero, List.set_cons_succ]
          refine wpAnyH_take (i := 9) (v := ?_) (by rw [List.getElem?_toArray]; rfl) (by kernel_rfl) (by kernel_rfl) (by kernel_rfl) (by exact fun _ _ _ h => h) (Or.inl ⟨by rfl, ?_⟩) h0 ?_
          rotate_left
          · intro W hW
            go_simp
            all_goals with_reducible rfl
          try simp only [Act.put, List.setIfInBounds_toArray, List.set_cons_zero, List.set_cons_succ]
          refine wpAnyH_take (i := 10) (v := ?_) (by rw [List.getElem?_toArray]; rfl) (by kernel_rfl) (by kernel_rfl) (by kernel_rfl) (by exact fun _ _ _ h => h) (Or.inl ⟨by rfl, ?_⟩) h0 ?_
          rotate_left
          · intro W hW
            have c2 := hW.2.2
            go_simp
            all_goals with_reducible rfl
          try simp only [Act.put, List.setIfInBounds_toArray, List.set_cons_zero, List.set_cons_succ]
          refine wpAnyH_take (i := 11) (v := ?_) (by rw [List.getElem?_toArray]; rfl) (by kernel_rfl) (by kernel_rfl) (by kernel_rfl) (by exact fun _ _ _ h => h) (Or.inl ⟨by rfl, ?_⟩) h0 ?_
          rotate_left
          · intro W hW
            go_simp
            all_goals with_reducible rfl
          try simp only [Act.put, List.setIfInBounds_toArray, List.set_cons_zero]
          refine wpAnyH_done (by kernel_rfl) ?_ _
          have hka := Lib.hid h0.1
          clear h0
          go_wp2_with fail
          go_roundw
          case rel =>
            have c5 := C5.out
            have cw := C3.out.trans c5 (by simp)
            have TM5 : TrA w5 V l xa bl1 := TrA.chg cw TM.out (fun g h1 h2 => NBM.out (by obtain rfl := List.mem_singleton.1 h2; exact h1))
            refine ⟨l, xa, bl1, rfl, OKT.out.2.2.1, KM.out hzz.out, TM5, NDM.out, fun g hg => INB.out g (by rw [HBL.out]; simp [hg]), fun k hk => VVT.out k (List.mem_append.2 (.inl hk)), CW.out.trans cw (fun g hg _ => by obtain rfl := List.mem_singleton.1 hg; exact INB.out g (by rw [HBL.out]; simp)), ?_, hka.out⟩
            intro W hc ht
            have hm : ∀ g ∈ bl1, g ∈ bl' := fun g hg => by rw [HBL.out]; simp [hg]
            have hb : b' ∈ bl' := by rw [HBL.out]; simp
            refine CONT.out W (((Chg.refl wr bl').trans cw (fun g hg _ => by obtain rfl := List.mem_singleton.1 hg; exact hb)).trans hc (fun g hg _ => hm g hg)) ?_
            · have h5 : NdA w5 V' (.nd k f l r) b' (some ⟨xa, 0, none⟩) (some ⟨ya, 0, none⟩) := NN.out.chg c5 (by simp)
              have ho := TrA.congr (TrA.chg cw TO.out (fun g h1 h2 => NBO.out (by obtain rfl := List.mem_singleton.1 h2; exact h1))) VO.out
              have ho' := TrA.chg hc ho (fun g h1 h2 => D12.out g h2 h1)
              exact ⟨xa, ya, bl1, bl2, HBL.out, h5.chg hc NBM.out, ht, ho'⟩
          case measure =>
            have c5 := C5.out
            have cw := C3.out.trans c5 (by simp)
            have TM5 : TrA w5 V l xa bl1 := TrA.chg cw TM.out (fun g h1 h2 => NBM.out (by obtain rfl := List.mem_singleton.1 h2; exact h1))
            have e1 := fgm_is OKT.out TR.out
            have e2 := fgm_is (OKT.out.2.2.1) TM5
            have hfo := OKT.out.2.2.1.fork_le
            have hlt := Tr.ok.ltl OKT.out
            rw [e1, e2]
            show 257 - _ < 257 - f
            omega

      · as_aux_lemma =>
          have hzz := Lib.hid hz
          have b34 : Below w3.heap.size w3 w3.drew := (Below.refl _ _).drew
          have C4 := Lib.hid (Chg.below b34 (Nat.le_refl _) [])
          have NDM := Lib.hid ND2.out
          have NBM : Hid (b' ∉ bl2) := fun h => NB.out (by simp [h])
          have NBO : Hid (b' ∉ bl1) := fun h => NB.out (by simp [h])
          have TM := T2
          have TO := T1
          have VO : Hid (∀ x ∈ l.keys, V x = V' x) := fun x hx => VVT.out x (List.mem_append.2 (.inl hx)) (fun e => by have h1 := (OKT.out.2.2.2.2.2.2.1 x hx).2; have h2 := hzz.out; rw [e] at h1; omega)
          have KM : Hid (bitI key f = 1 → key ∈ r.keys) := fun h1 => by
            rcases List.mem_append.1 HN.out with h | h
            · have := (OKT.out.2.2.2.2.2.2.1 key h).2; omega
            · exact h
          have hS4 : HashAt w3.drew kb key ∧ w3.drew.cell? ⟨b', 32, none⟩ = some (.int .i64 (f : Int)) ∧ w3.drew.cell? ⟨b', 34, none⟩ = some (.pointer (some ⟨ya, 0, none⟩)) := ⟨HashAt.on K3.out b34, f32, f34⟩
          clear b34 hz K3 f33 f34
          go_wp2_with fail
          clear f32
          refine wp_region_held_drew (S := fun W => HashAt W kb key ∧ W.cell? ⟨b', 32, none⟩ = some (.int .i64 (f : Int)) ∧ W.cell? ⟨b', 34, none⟩ = some (.pointer (some ⟨ya, 0, none⟩))) (by kernel_rfl) (hS4) (fun h0 => ?_)
          generalize w3.drew = w4 at *
          refine wpAnyH_take (i := 0) (v := ?_) (by rw [List.getElem?_toArray]; rfl) (by kernel_rfl) (by kernel_rfl) (by kernel_rfl) (by exact fun _ _ _ h => h) (Or.inl ⟨by rfl, ?_⟩) h0 ?_
          rotate_left
          · intro W hW
            go_simp
            all_goals with_reducible rfl
          try simp only [Act.put, List.setIfInBounds_toArray, List.set_cons_zero, List.set_cons_succ]
          refine wpAnyH_take (i := 1) (v := ?_) (by rw [List.getElem?_toArray]; rfl) (by kernel_rfl) (by kernel_rfl) (by kernel_rfl) (by exact fun _ _ _ h => h) (Or.inl ⟨by rfl, ?_⟩) h0 ?_
          rotate_left
          · intro W hW
            have r1 := hW.1.row HKY.out.len
            go_simp
            all_goals with_reducible rfl
          try simp only [Act.put, List.setIfInBounds_toArray, List.set_cons_zero, List.set_cons_succ]
          refine wpAnyH_take (i := 2) (v := ?_) (by rw [List.getElem?_toArray]; rfl) (by kernel_rfl) (by kernel_rfl) (by kernel_rfl) (by exact fun _ _ _ h => h) (Or.inl ⟨by rfl, ?_⟩) h0 ?_
          rotate_left
          · intro W hW
            go_simp
            all_goals with_reducible rfl
          try simp only [Act.put, List.setIfInBounds_toArray, List.set_cons_zero, List.set_cons_succ]
          refine wpAnyH_take (i := 3) (v := ?_) (by rw [List.getElem?_toArray]; rfl) (by kernel_rfl) (by kernel_rfl) (by kernel_rfl) (by exact fun _ _ _ h => h) (Or.inl ⟨by rfl, ?_⟩) h0 ?_
          rotate_left
          · intro W hW
            go_simp
            all_goals with_reducible rfl
          try simp only [Act.put, List.setIfInBounds_toArray, List.set_cons_zero, List.set_cons_succ]
          refine wpAnyH_take (i := 4) (v := ?_) (by rw [List.getElem?_toArray]; rfl) (by kernel_rfl) (by kernel_rfl) (by kernel_rfl) (by exact fun _ _ _ h => h) (Or.inl ⟨by rfl, ?_⟩) h0 ?_
          rotate_left
          · intro W hW
            go_simp
            all_goals with_reducible rfl
          try simp only [Act.put, List.setIfInBounds_toArray, List.set_cons_zero, List.set_cons_succ]
          refine wpAnyH_take (i := 5) (v := ?_) (by rw [List.getElem?_toArray]; rfl) (by kernel_rfl) (by kernel_rfl) (by kernel_rfl) (by exact fun _ _ _ h => h) (Or.inl ⟨by rfl, ?_⟩) h0 ?_
          rotate_left
          · intro W hW
            have c1 := hW.2.1
            go_simp
            all_goals with_reducible rfl
          try simp only [Act.put, List.setIfInBounds_toArray, List.set_cons_zero, List.set_cons_succ]
          refine wpAnyH_take (i := 7) (v := ?_) (by rw [List.getElem?_toArray]; rfl) (by kernel_rfl) (by kernel_rfl) (by kernel_rfl) (by exact fun _ _ _ h => h) (Or.inl ⟨by rfl, ?_⟩) h0 ?_
          rotate_left
          · intro W hW
            go_simp
            all_goals with_reducible rfl
          try simp only [Act.put, List.setIfInBounds_toArray, List.set_cons_zero, List.set_cons_succ]
          refine wpAnyH_take (i := 8) (v := ?_) (by rw [List.getElem?_toArray]; rfl) (by kernel_rfl) (by kernel_rfl) (by kernel_rfl) (by exact fun _ _ _ h => h) (Or.inl ⟨by rfl, ?_⟩) h0 ?_
          rotate_left
          · intro W hW
            go_simp
            all_goals with_reducible rfl
          try simp only [Act.put, List.setIfInBounds_toArray, List.set_cons_zero, List.set_cons_succ]
          refine wpAnyH_ready (rs := [6]) (by kernel_rfl) (by simp) ?_
          refine AllReadyH.cons (by rw [List.getElem?_toArray]; rfl) (fun K hK => ?_) AllReadyH.nil
          rw [if_pos (by rfl)]
          go_wp2_with fail
          refine (bit_any HKY.out.len HKY.out.by_ OKT.out.2.1).mono ?_
          rintro e w5 ⟨rfl, b5⟩
          rw [hzz.out]
          have hS : HashAt w5 kb key ∧ w5.cell? ⟨b', 32, none⟩ = some (.int .i64 (f : Int)) ∧ w5.cell? ⟨b', 34, none⟩ = some (.pointer (some ⟨ya, 0, none⟩)) := ⟨h0.1.on b5, (b5.cell (World.block_lt_of_cell? _ _ h0.2.1)).trans h0.2.1, (b5.cell (World.block_lt_of_cell? _ _ h0.2.2)).trans h0.2.2⟩
          have C5 := Lib.hid (C4.out.trans (Chg.below b5 (Nat.le_refl _) []) (by simp))
          clear b5 C4
          go_wp2_with fail
          refine hK.out _ _ hS (fun h0 => ?_)
          clear hK K hS
          try simp only [Act.put, List.setIfInBounds_toArray, List.set_cons_zero, List.set_cons_succ]
          refine wpAnyH_take (i := 9) (v := ?_) (by rw [List.getElem?_toArray]; rfl) (by kernel_rfl) (by kernel_rfl) (by kernel_rfl) (by exact fun _ _ _ h => h) (Or.inl ⟨by rfl, ?_⟩) h0 ?_
          rotate_left
          · intro W hW
            go_simp
            all_goals with_reducible rfl
          try simp only [Act.put, List.setIfInBounds_toArray, List.set_cons_zero, List.set_cons_succ]
          refine wpAnyH_take (i := 10) (v := ?_) (by rw [List.getElem?_toArray]; rfl) (by kernel_rfl) (by kernel_rfl) (by kernel_rfl) (by exact fun _ _ _ h => h) (Or.inl ⟨by rfl, ?_⟩) h0 ?_
          rotate_left
          · intro W hW
            have c2 := hW.2.2
            go_simp
            all_goals with_reducible rfl
          try simp only [Act.put, List.setIfInBounds_toArray, List.set_cons_zero, List.set_cons_succ]
          refine wpAnyH_take (i := 11) (v := ?_) (by rw [List.getElem?_toArray]; rfl) (by kernel_rfl) (by kernel_rfl) (by kernel_rfl) (by exact fun _ _ _ h => h) (Or.inl ⟨by rfl, ?_⟩) h0 ?_
          rotate_left
          · intro W hW
            go_simp
            all_goals with_reducible rfl
          try simp only [Act.put, List.setIfInBounds_toArray, List.set_cons_zero]
          refine wpAnyH_done (by kernel_rfl) ?_ _
          have hka := Lib.hid h0.1
          clear h0
          go_wp2_with fail
          go_roundw
          case rel =>
            have c5 := C5.out
            have cw := C3.out.trans c5 (by simp)
            have TM5 : TrA w5 V r ya bl2 := TrA.chg cw TM.out (fun g h1 h2 => NBM.out (by obtain rfl := List.mem_singleton.1 h2; exact h1))
            refine ⟨r, ya, bl2, rfl, OKT.out.2.2.2.1, KM.out hzz.out, TM5, NDM.out, fun g hg => INB.out g (by rw [HBL.out]; simp [hg]), fun k hk => VVT.out k (List.mem_append.2 (.inr hk)), CW.out.trans cw (fun g hg _ => by obtain rfl := List.mem_singleton.1 hg; exact INB.out g (by rw [HBL.out]; simp)), ?_, hka.out⟩
            intro W hc ht
            have hm : ∀ g ∈ bl2, g ∈ bl' := fun g hg => by rw [HBL.out]; simp [hg]
            have hb : b' ∈ bl' := by rw [HBL.out]; simp
            refine CONT.out W (((Chg.refl wr bl').trans cw (fun g hg _ => by obtain rfl := List.mem_singleton.1 hg; exact hb)).trans hc (fun g hg _ => hm g hg)) ?_
            · have h5 : NdA w5 V' (.nd k f l r) b' (some ⟨xa, 0, none⟩) (some ⟨ya, 0, none⟩) := NN.out.chg c5 (by simp)
              have ho := TrA.congr (TrA.chg cw TO.out (fun g h1 h2 => NBO.out (by obtain rfl := List.mem_singleton.1 h2; exact h1))) VO.out
              have ho' := TrA.chg hc ho (fun g h1 h2 => D12.out g h1 h2)
              exact ⟨xa, ya, bl1, bl2, HBL.out, h5.chg hc NBM.out, ho', ht⟩
          case measure =>
            have c5 := C5.out
            have cw := C3.out.trans c5 (by simp)
            have TM5 : TrA w5 V r ya bl2 := TrA.chg cw TM.out (fun g h1 h2 => NBM.out (by obtain rfl := List.mem_singleton.1 h2; exact h1))
            have e1 := fgm_is OKT.out TR.out
            have e2 := fgm_is (OKT.out.2.2.2.1) TM5
            have hfo := OKT.out.2.2.2.1.fork_le
            have hlt := Tr.ok.ltr OKT.out
            rw [e1, e2]
            show 257 - _ < 257 - f
            omega

end Go.Proofs.YtjlodnecdngdfaaDoor
namespace Go.Proofs.YtjlodnecdngdfaaDoor
open Go.RowKit
set_option maxRecDepth 100000

/-- A map: its block, its values, its top. -/
structure MpS (w : World) (p m : Nat) (es : Array MapEntry) (c : Nat) (top : Option Addr) : Prop where
  blk : w.heap[p]? = some (.cells #[.map (some m), .pointer top] 56 (0, 0))
  mp : w.heap[m]? = some (.map es c)
section
variable {w w' : World} {p m c : Nat} {es : Array MapEntry} {top : Option Addr}
theorem MpS.chg {S : List Nat} (h : MpS w p m es c top) (hc : Chg w w' S) (hp : p ∉ S) (hm : m ∉ S) : MpS w' p m es c top :=
  ⟨by rw [hc.block p (Array.getElem?_eq_some_iff.1 h.blk).1 hp]; exact h.blk, by rw [hc.block m (Array.getElem?_eq_some_iff.1 h.mp).1 hm]; exact h.mp⟩
theorem MpS.on (h : MpS w p m es c top) (hb : Below w.heap.size w w') : MpS w' p m es c top := h.chg (S := []) (Chg.below hb (Nat.le_refl _) []) (by simp) (by simp)
theorem MpS.alloc (h : MpS w p m es c top) (o : Obj) : MpS (w.alloc o) p m es c top := h.on ((Below.refl _ _).alloc (Nat.le_refl _) o)
theorem MpS.c0 (h : MpS w p m es c top) : w.cell? ⟨p, 0, none⟩ = some (.map (some m)) := (Joins.cell_of_block h.blk 0).trans rfl
theorem MpS.c1 (h : MpS w p m es c top) : w.cell? ⟨p, 1, none⟩ = some (.pointer top) := (Joins.cell_of_block h.blk 1).trans rfl
theorem MpS.lp (h : MpS w p m es c top) : p < w.heap.size := (Array.getElem?_eq_some_iff.1 h.blk).1
theorem MpS.lm (h : MpS w p m es c top) : m < w.heap.size := (Array.getElem?_eq_some_iff.1 h.mp).1
theorem MpS.ne (h : MpS w p m es c top) : p ≠ m := by
  rintro rfl
  have := h.blk
  rw [h.mp] at this
  simp at this
theorem MpS.setTop (h : MpS w p m es c top) (t : Option Addr) : MpS (w.setCell ⟨p, 1, none⟩ (.pointer t)) p m es c t := by
  refine ⟨?_, ?_⟩
  · have := setCells_block (b := p) (t := 56) (fr := (0, 0)) [.pointer t] (o := 1) (w := w) (pre := [.map (some m)]) (mid := [.pointer top]) (post := []) (by simpa using h.blk) rfl rfl
    simpa [World.setCells] using this
  · rw [Below.heap_setCell _ _ _ _ h.ne.symm]; exact h.mp
theorem MpS.putMap (h : MpS w p m es c top) (es' : Array MapEntry) (c' : Nat) : MpS (putMap w m es' c') p m es' c' top :=
  ⟨by rw [putMap_other h.ne]; exact h.blk, putMap_there h.lm⟩
theorem Chg.putMap {a w : World} {S : List Nat} (h : Chg a w S) {b : Nat} (hb : b ∈ S ∨ a.heap.size ≤ b) (es : Array MapEntry) (c : Nat) : Chg a (putMap w b es c) S :=
  ⟨h.os, h.tape, h.output, by rw [putMap_size]; exact h.size, fun k hk hn => by
    rw [putMap_other (fun e => by subst e; rcases hb with hb | hb; exact hn hb; omega)]; exact h.block k hk hn⟩
end

set_option maxHeartbeats 4000000 in
theorem above_nil {w : World} {p : Option Addr} {l : Int} : Calls Tryd.prog 40 #[.pointer p, .pointer none, .int .i64 l] w fun e w' => e = .returned (.agg (hc zero32).toArray) ∧ Below w.heap.size w w' := by
  have HZ := HashAt.new w zero32
  have hth := HZ.there zero32_len
  have hput := (HZ.put zero32_len zero32_len).row zero32_len
  have z32 := zero32_len
  have HX := Lib.hid (below_setCells' (B := w.heap.size) w.heap.size (Nat.le_refl _) (hc zero32) 0 ((Below.refl w.heap.size w).alloc (Nat.le_refl _) (.cells (hc zero32).toArray 24)))
  clear HZ
  go_enter Tryd.func40, Tryd.ntmps40
  go_wp2_with fail
  refine bodyPost_ret (v := .agg (hc zero32).toArray) (by simp [results, Tryd.results40, go_sem, hput, z32]) rfl ⟨rfl, HX.out⟩

set_option maxHeartbeats 8000000 in
theorem above_leaf {w : World} {p m b c : Nat} {n : Nd} {V : List Int} {top : Option Addr} (hT : Tbl w) (ok : n.ok) (hk : n.key = K1) (bK : Bytes K1) (hV : V.length = 32) (bV : Bytes V) (hf : n.fork = 256) (ht : n.told = false) (hkn : n.known = false) (hn : NdB w b n) (hM : MpS w p m (M1 (.agg (hc V).toArray)) c top) (hpb : p ≠ b) (hmb : m ≠ b) (hgb : 1 ∉ [b]) :
    Calls Tryd.prog 40 #[.pointer (some ⟨p, 0, none⟩), .pointer (some ⟨b, 0, none⟩), .int .i64 0] w fun e w' => e = .returned (.agg (hc (upH K1 256 (lfH K1 V) 256)).toArray) ∧ Chg w w' [b] ∧ ∃ n', n'.ok ∧ n'.fork = 256 ∧ NdB w' b n' := by
  have HZ := Lib.hid (HashAt.new w zero32)
  have B0 := Lib.hid ((Below.refl w.heap.size w).alloc (Nat.le_refl _) (.cells (hc zero32).toArray 24))
  have hbw : b < w.heap.size := hn.lt
  have hn1 := hn.alloc (.cells (hc zero32).toArray 24)
  have hM1 := hM.alloc (.cells (hc zero32).toArray 24)
  have KH := Lib.hid (climb_leaf (hT.on B0.out hT.pos) ok hk bK hV bV hf ht hn1 hM1.c0 hM1.mp hpb hmb hgb)
  have fk := (hn1.facts ok).2.2.2.2.2.1
  rw [hkn] at fk
  have OK := Lib.hid ok
  have HF := Lib.hid hf
  have HN := Lib.hid hn1
  clear hT hk bK hV bV hf ht hn hM hM1 hn1 hkn
  go_enter Tryd.func40, Tryd.ntmps40
  go_wp2_with fail
  refine KH.out.mono ?_
  rintro e w2 ⟨rfl, hc2, hn2⟩
  have hlF := lfH_len K1 V
  have lX := upH_len K1 256 hlF 256
  obtain ⟨X, hX⟩ : ∃ X, upH K1 256 (lfH K1 V) 256 = X := ⟨_, rfl⟩
  have HX := Lib.hid hX
  rw [hX] at lX ⊢
  clear hX
  have ok2 : Nd.ok { n with own := lfH K1 V, told := true } := ⟨OK.out.key, hlF, OK.out.high⟩
  have C2 := Lib.hid ((Chg.below B0.out (Nat.le_refl _) [b]).trans hc2 (fun x hx _ => hx))
  have Z2 := Lib.hid (HZ.out.chg hc2 (by simp; omega))
  have th2 := hn2.there ok2 (i := 68) (k := 32) (by omega)
  have N3 := Lib.hid (hn2.setHigh ok2 lX)
  have C3 := Lib.hid (C2.out.setCells (b := b) (.inl (by simp)) (hc X) 68)
  have Z3 := Lib.hid (Z2.out.others (k := b) (by omega) 68 (hc X))
  have ok3 : Nd.ok { n with own := lfH K1 V, told := true, high := X } := ⟨OK.out.key, hlF, lX⟩
  have t3 := (N3.out.facts ok3).2.2.2.2.1
  have u3 := N3.out.free 100
  have N4 := Lib.hid (N3.out.setLvl ok3 0)
  have C4 := Lib.hid (C3.out.setCell (p := ⟨b, 100, none⟩) (.inl (by simp)) (.int .i64 0))
  have Z4 := Lib.hid (Z3.out.other (a := ⟨b, 100, none⟩) (by simp; omega) (.int .i64 0))
  have ok4 : Nd.ok { n with own := lfH K1 V, told := true, high := X, lvl := 0 } := ⟨OK.out.key, hlF, lX⟩
  have t4 := (N4.out.facts ok4).2.2.2.2.2.1
  have u4 := N4.out.free 101
  have N5 := Lib.hid (N4.out.setKnown ok4 true)
  have C5 := Lib.hid (C4.out.setCell (p := ⟨b, 101, none⟩) (.inl (by simp)) (.bool true))
  have Z5 := Lib.hid (Z4.out.other (a := ⟨b, 101, none⟩) (by simp; omega) (.bool true))
  have ok5 : Nd.ok { n with own := lfH K1 V, told := true, high := X, lvl := 0, known := true } := ⟨OK.out.key, hlF, lX⟩
  have r5 := (N5.out.facts ok5).2.2.2.2.2.2.2.2
  have z5 := Z5.out.there zero32_len
  have hput := (Z5.out.put zero32_len lX).row lX
  have C6 := Lib.hid (C5.out.setCells (b := w.heap.size) (.inr (Nat.le_refl _)) (hc X) 0)
  have N6 := Lib.hid (N5.out.others (k := w.heap.size) (by omega) 0 (hc X))
  have OK5 := Lib.hid ok5
  have lxx := hc_len X
  clear hc2 hn2 C2 Z2 N3 C3 Z3 N4 C4 Z4 N5 C5 Z5 ok2 ok3 ok4 ok5 KH HN B0 HZ
  go_wp2_with fail
  refine bodyPost_ret (v := .agg (hc X).toArray) (by simp [results, Tryd.results40, go_sem, hput, lX]) rfl ⟨by rw [HX.out], C6.out, _, OK5.out, HF.out, N6.out⟩

set_option maxHeartbeats 4000000 in
theorem Root_nil {w : World} {p m c : Nat} {es : Array MapEntry} (hM : MpS w p m es c none) : Calls Tryd.prog 19 #[.pointer (some ⟨p, 0, none⟩)] w fun e w' => e = .returned (.agg (hc zero32).toArray) ∧ Below w.heap.size w w' := by
  have HZ := Lib.hid (HashAt.new w zero32)
  have B0 := Lib.hid ((Below.refl w.heap.size w).alloc (Nat.le_refl _) (.cells (hc zero32).toArray 24))
  have M1 := hM.alloc (.cells (hc zero32).toArray 24)
  have c0 := M1.c0
  have c1 := M1.c1
  have z32 := zero32_len
  clear hM M1
  go_enter Tryd.func19, Tryd.ntmps19
  go_wp2_with fail
  refine (made_yes c0).mono ?_
  rintro e wn ⟨rfl, h⟩
  obtain rfl := h.symm
  clear h
  go_wp2_with fail
  refine above_nil.mono ?_
  rintro e w2 ⟨rfl, hb2⟩
  have Z2 := Lib.hid (HZ.out.on hb2)
  have B2 := Lib.hid (B0.out.trans (hb2.mono B0.out.size))
  have hth := Z2.out.there zero32_len
  have hput := (Z2.out.put zero32_len zero32_len).row zero32_len
  have HX := Lib.hid (below_setCells' (B := w.heap.size) w.heap.size (Nat.le_refl _) (hc zero32) 0 B2.out)
  clear hb2 Z2 B2 B0 HZ c0 c1
  go_wp2_with fail
  refine bodyPost_ret (v := .agg (hc zero32).toArray) (by simp [results, Tryd.results19, go_sem, hput, z32]) rfl ⟨rfl, HX.out⟩

set_option maxHeartbeats 4000000 in
theorem Root_leaf {w : World} {p m b c : Nat} {n : Nd} {V : List Int} (hT : Tbl w) (ok : n.ok) (hk : n.key = K1) (bK : Bytes K1) (hV : V.length = 32) (bV : Bytes V) (hf : n.fork = 256) (ht : n.told = false) (hkn : n.known = false) (hn : NdB w b n) (hM : MpS w p m (M1 (.agg (hc V).toArray)) c (some ⟨b, 0, none⟩)) (hpb : p ≠ b) (hmb : m ≠ b) (hgb : 1 ∉ [b]) :
    Calls Tryd.prog 19 #[.pointer (some ⟨p, 0, none⟩)] w fun e w' => e = .returned (.agg (hc (upH K1 256 (lfH K1 V) 256)).toArray) ∧ Chg w w' [b] ∧ ∃ n', n'.ok ∧ n'.fork = 256 ∧ NdB w' b n' := by
  have HZ := Lib.hid (HashAt.new w zero32)
  have B0 := Lib.hid ((Below.refl w.heap.size w).alloc (Nat.le_refl _) (.cells (hc zero32).toArray 24))
  have hbw : b < w.heap.size := hn.lt
  have M1 := hM.alloc (.cells (hc zero32).toArray 24)
  have c0 := M1.c0
  have c1 := M1.c1
  have KH := Lib.hid (above_leaf (hT.on B0.out hT.pos) ok hk bK hV bV hf ht hkn (hn.alloc (.cells (hc zero32).toArray 24)) M1 hpb hmb hgb)
  clear hM M1 hT ok hk bK hV bV hf ht hkn hn
  go_enter Tryd.func19, Tryd.ntmps19
  go_wp2_with fail
  refine (made_yes c0).mono ?_
  rintro e wn ⟨rfl, h⟩
  obtain rfl := h.symm
  clear h
  go_wp2_with fail
  refine KH.out.mono ?_
  rintro e w2 ⟨rfl, hc2, n', ok', hf', hn'⟩
  have lX := upH_len K1 256 (lfH_len K1 V) 256
  obtain ⟨X, hX⟩ : ∃ X, upH K1 256 (lfH K1 V) 256 = X := ⟨_, rfl⟩
  have HX := Lib.hid hX
  rw [hX] at lX ⊢
  clear hX
  have Z2 := Lib.hid (HZ.out.chg hc2 (by simp; omega))
  have C2 := Lib.hid ((Chg.below B0.out (Nat.le_refl _) [b]).trans hc2 (fun x hx _ => hx))
  have hth := Z2.out.there zero32_len
  have hput := (Z2.out.put zero32_len lX).row lX
  have C3 := Lib.hid (C2.out.setCells (b := w.heap.size) (.inr (Nat.le_refl _)) (hc X) 0)
  have N3 := Lib.hid (hn'.others (k := w.heap.size) (by omega) 0 (hc X))
  have OK' := Lib.hid ok'
  have HF' := Lib.hid hf'
  have lxx := hc_len X
  clear hc2 hn' ok' hf' Z2 C2 B0 HZ c0 c1 KH
  go_wp2_with fail
  refine bodyPost_ret (v := .agg (hc X).toArray) (by simp [results, Tryd.results19, go_sem, hput, lX]) rfl ⟨by rw [HX.out], C3.out, _, OK'.out, HF'.out, N3.out⟩

set_option maxHeartbeats 4000000 in
theorem with_nil {w : World} {K : List Int} (hK : K.length = 32) : Calls Tryd.prog 35 #[.pointer none, .agg (hc K).toArray] w fun e w' => e = .returned (.pointer (some ⟨w.heap.size + 1, 0, none⟩)) ∧ Below w.heap.size w w' ∧ NdB w' (w.heap.size + 1) ⟨K, 256, none, none, zero32, false, zero32, 0, false⟩ := by
  have H0 := HashAt.new w K
  have r0 := H0.row hK
  have hlK := hc_len K
  have okN : Nd.ok ⟨K, 256, none, none, zero32, false, zero32, 0, false⟩ := ⟨hK, zero32_len, zero32_len⟩
  have hn : NdB ((w.alloc (.cells (hc K).toArray 24)).alloc (.cells (Nd.row ⟨K, 256, none, none, zero32, false, zero32, 0, false⟩).toArray 88)) (w.heap.size + 1) ⟨K, 256, none, none, zero32, false, zero32, 0, false⟩ := by
    have := heap_alloc_new (w.alloc (.cells (hc K).toArray 24)) (.cells (Nd.row ⟨K, 256, none, none, zero32, false, zero32, 0, false⟩).toArray 88)
    simpa [NdB] using this
  have B := Lib.hid (((Below.refl w.heap.size w).alloc (Nat.le_refl _) (.cells (hc K).toArray 24)).alloc (by simp) (.cells (Nd.row ⟨K, 256, none, none, zero32, false, zero32, 0, false⟩).toArray 88))
  have HN := Lib.hid hn
  obtain ⟨R, hR⟩ : ∃ R, Nd.row ⟨K, 256, none, none, zero32, false, zero32, 0, false⟩ = R := ⟨_, rfl⟩
  have hone : R.toArray.all (·.oneCell') = true := by rw [← hR]; exact Nd.one _
  have hrl : R.length = 102 := by rw [← hR]; exact okN.len
  have HRn := Tryd.run_nd
  clear H0 hn okN
  go_enter Tryd.func35, Tryd.ntmps35
  go_wp2_with (simp only [hR])
  go_ret
  exact ⟨rfl, by rw [← hR]; exact B.out, by rw [← hR]; exact HN.out⟩

set_option maxHeartbeats 4000000 in
theorem without_leaf {w : World} {b : Nat} {n : Nd} {K : List Int} (ok : n.ok) (hf : n.fork = 256) (hn : NdB w b n) : Calls Tryd.prog 33 #[.pointer (some ⟨b, 0, none⟩), .agg (hc K).toArray] w fun e w' => e = .returned (.pointer none) ∧ Below w.heap.size w w' := by
  have c0 := ((hn.alloc (.cells (hc K).toArray 24)).facts ok).1
  rw [hf] at c0
  have B := Lib.hid ((Below.refl w.heap.size w).alloc (Nat.le_refl _) (.cells (hc K).toArray 24))
  clear ok hf hn
  go_enter Tryd.func33, Tryd.ntmps33
  go_wp2_with fail
  go_ret
  exact ⟨rfl, B.out⟩

set_option maxHeartbeats 4000000 in
theorem New_nil {w : World} : Calls Tryd.prog 9 #[.slice none 0 0] w fun e w' => ∃ p m, e = .returned (.tuple #[.pointer (some ⟨p, 0, none⟩), .int .i64 0]) ∧ w.heap.size ≤ p ∧ w.heap.size ≤ m ∧ Below w.heap.size w w' ∧ MpS w' p m #[] 0 none := by
  have hmm := @run_makeMap Tryd.prog
  have B := Lib.hid ((((Below.refl w.heap.size w).alloc (Nat.le_refl _) (.map #[] 0)).alloc (by simp) (.cells #[.map (some w.heap.size), .pointer none] 56)).alloc (by simp; omega) (.map #[] 0))
  have M : Hid (MpS (((w.alloc (.map #[] 0)).alloc (.cells #[.map (some w.heap.size), .pointer none] 56)).alloc (.map #[] 0)) (w.heap.size + 1) w.heap.size #[] 0 none) := by
    refine ⟨?_, ?_⟩
    · rw [Below.heap_alloc _ _ _ (by simp)]
      have := heap_alloc_new (w.alloc (.map #[] 0)) (.cells #[.map (some w.heap.size), .pointer none] 56)
      simpa using this
    · rw [Below.heap_alloc _ _ _ (by simp; omega), Below.heap_alloc _ _ _ (by simp)]
      exact heap_alloc_new w _
  go_enter Tryd.func9, Tryd.ntmps9
  go_wp2_with fail
  refine wp_loop_rounds 1 ?_
  rw [rounds_succ]
  go_wp2_with fail
  refine bodyPost_ret (v := .tuple #[.pointer (some ⟨w.heap.size + 1, 0, none⟩), .int .i64 0]) (by simp [results, Tryd.results9, go_sem]) rfl ⟨_, _, rfl, by omega, by omega, B.out, M.out⟩
end Go.Proofs.YtjlodnecdngdfaaDoor
