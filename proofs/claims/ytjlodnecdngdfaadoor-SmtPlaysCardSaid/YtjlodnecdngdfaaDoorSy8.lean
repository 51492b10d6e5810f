/-
  Package smt: a key put into a tree.
-/
import Derived.Deep.RegionHeld3
import Derived.Test.YtjlodnecdngdfaaDoorSy7
namespace Go.Proofs.YtjlodnecdngdfaaDoor
open Go.RowKit
set_option maxRecDepth 100000

section
variable {w : World} {b : Nat} {n : Nd}
theorem NdB.setLo (h : NdB w b n) (ok : n.ok) (x : Option Addr) : NdB (w.setCell ⟨b, 33, none⟩ (.pointer x)) b { n with lo := x } := by
  have := setCells_block (b := b) (t := 88) (fr := (0, 0)) [.pointer x] (o := 33) (w := w) (pre := hc n.key ++ [.int .i64 n.fork]) (mid := [.pointer n.lo]) (post := [.pointer n.hi] ++ (hc n.own ++ ([.bool n.told] ++ (hc n.high ++ [.int .i64 n.lvl, .bool n.known])))) (by simpa [NdB, Nd.row] using h) (by simp [hc_len, ok.key]) rfl
  simpa [NdB, Nd.row, World.setCells] using this
theorem NdB.setHi (h : NdB w b n) (ok : n.ok) (x : Option Addr) : NdB (w.setCell ⟨b, 34, none⟩ (.pointer x)) b { n with hi := x } := by
  have := setCells_block (b := b) (t := 88) (fr := (0, 0)) [.pointer x] (o := 34) (w := w) (pre := hc n.key ++ [.int .i64 n.fork, .pointer n.lo]) (mid := [.pointer n.hi]) (post := hc n.own ++ ([.bool n.told] ++ (hc n.high ++ [.int .i64 n.lvl, .bool n.known]))) (by simpa [NdB, Nd.row] using h) (by simp [hc_len, ok.key]) rfl
  simpa [NdB, Nd.row, World.setCells] using this
theorem NdB.setKey (h : NdB w b n) (ok : n.ok) {F : List Int} (hF : F.length = 32) : NdB (w.setCells b 0 (hc F)) b { n with key := F } := by
  have := setCells_block (b := b) (t := 88) (fr := (0, 0)) (hc F) (o := 0) (w := w) (pre := []) (mid := hc n.key) (post := [.int .i64 n.fork, .pointer n.lo, .pointer n.hi] ++ (hc n.own ++ ([.bool n.told] ++ (hc n.high ++ [.int .i64 n.lvl, .bool n.known])))) (by simpa [NdB, Nd.row] using h) rfl (by rw [hc_len, hc_len, ok.key, hF])
  simpa [NdB, Nd.row] using this
end
theorem HashAt.chg' {w w' : World} {b : Nat} {F : List Int} {S : List Nat} (h : HashAt w b F) (hc' : Chg w w' S) (hb : b ∉ S) : HashAt w' b F := by
  unfold HashAt
  rw [hc'.block b h.lt hb]; exact h
theorem ins_up {key : List Int} : ∀ {t : Tr}, dif key t.key < t.fork → t.ins key = if bitI key (dif key t.key) = 0 then .nd key (dif key t.key) (.lf key) t else .nd key (dif key t.key) t (.lf key)
  | .lf k, h => by
    unfold Tr.ins
    rw [if_pos (show dif key k < 256 from h)]
    rfl
  | .nd k f l r, h => by
    unfold Tr.ins
    rw [if_pos (show dif key k < f from h)]
    rfl
def WiQ (w : World) (V' : List Int → List Int) (key : List Int) (t : Tr) (bl : List Nat) (e : Ending) (w' : World) : Prop :=
  ∃ b' bl', e = .returned (.pointer (some ⟨b', 0, none⟩)) ∧ Chg w w' bl ∧ TrA w' V' (t.ins key) b' bl' ∧ bl'.Nodup ∧ ∀ g ∈ bl', g ∈ bl ∨ w.heap.size ≤ g
def WiP (key : List Int) (t : Tr) : Prop := ∀ (w : World) (V V' : List Int → List Int) (b : Nat) (bl : List Nat), TrA w V t b bl → bl.Nodup → (∀ k ∈ t.keys, V k = V' k) →
  Calls Tryd.prog 35 #[.pointer (some ⟨b, 0, none⟩), .agg (hc key).toArray] w (WiQ w V' key t bl)
set_option maxHeartbeats 16000000 in
theorem with_any {key : List Int} (hk : KyOk key) {t : Tr} (ok : t.ok) (hn : key ∉ t.keys) (ih : ∀ k f l r, t = .nd k f l r → WiP key l ∧ WiP key r) : WiP key t := by
  intro w V V' b bl ht nd vv
  have HKY := Lib.hid hk
  have OK := Lib.hid ok
  have HN := Lib.hid hn
  have IH := Lib.hid ih
  have NDU := Lib.hid nd
  have VV := Lib.hid vv
  have TLT := Lib.hid ht.lt
  have b1 : Below w.heap.size w (w.alloc (.cells (hc key).toArray 24)) := (Below.refl _ _).alloc (Nat.le_refl _) _
  have K1_ := Lib.hid (HashAt.new w key)
  have T1 := Lib.hid (ht.on b1)
  have B1 := Lib.hid b1
  obtain ⟨D, hD⟩ : ∃ D, dif key t.key = D := ⟨_, rfl⟩
  have HD := Lib.hid hD
  clear hk ok hn ih nd vv ht b1 hD
  go_enter Tryd.func35, Tryd.ntmps35
  go_upto_region 1 with fail
  obtain ⟨kb, hkb⟩ : ∃ z, w.heap.size = z := ⟨_, rfl⟩
  have HKB := Lib.hid hkb
  rw [hkb] at K1_ ⊢
  generalize w.alloc (.cells (hc key).toArray 24) = w1 at *
  clear hkb
  have b2 : Below w1.heap.size w1 w1.drew := (Below.refl _ _).drew
  have T2 := Lib.hid (T1.out.on b2)
  have B2 := Lib.hid (B1.out.trans (b2.mono B1.out.size))
  have hS0 : HashAt w1.drew kb key ∧ rowOf w1.drew b 0 32 = hc t.key := ⟨K1_.out.on b2, by
    obtain ⟨x, y, n, n1, n2, n3, -⟩ := T2.out.node
    rw [(n1.facts n2).2.2.2.2.2.2.1, n3]⟩
  have lK := hc_len key
  have kl := HKY.out.len
  have lT := hc_len t.key
  have tl := OK.out.keyOk.len
  clear b2 T1 B1 K1_
  go_wp2_with fail
  refine wp_region_held_drew (S := fun W => HashAt W kb key ∧ rowOf W b 0 32 = hc t.key) (by kernel_rfl) (hS0) (fun h0 => ?_)
  generalize w1.drew = w2 at *
  refine wpAnyH_take (i := 0) (v := ?_) (by rw [List.getElem?_toArray]; rfl) (by kernel_rfl) (by kernel_rfl) (by kernel_rfl) (by exact fun _ _ _ h => h) (Or.inl ⟨by rfl, ?_⟩) h0 ?_
  rotate_left
  · intro W hW
    have r1 := hW.1.row HKY.out.len
    go_simp
    all_goals with_reducible rfl
  try simp only [Act.put, List.setIfInBounds_toArray, List.set_cons_zero, List.set_cons_succ]
  refine wpAnyH_take (i := 1) (v := ?_) (by rw [List.getElem?_toArray]; rfl) (by kernel_rfl) (by kernel_rfl) (by kernel_rfl) (by exact fun _ _ _ h => h) (Or.inl ⟨by rfl, ?_⟩) h0 ?_
  rotate_left
  · intro W hW
    go_simp
    all_goals with_reducible rfl
  try simp only [Act.put, List.setIfInBounds_toArray, List.set_cons_zero, List.set_cons_succ]
  refine wpAnyH_take (i := 2) (v := ?_) (by rw [List.getElem?_toArray]; rfl) (by kernel_rfl) (by kernel_rfl) (by kernel_rfl) (by exact fun _ _ _ h => h) (Or.inl ⟨by rfl, ?_⟩) h0 ?_
  rotate_left
  · intro W hW
    go_simp
    all_goals with_reducible rfl
  try simp only [Act.put, List.setIfInBounds_toArray, List.set_cons_zero, List.set_cons_succ]
  refine wpAnyH_take (i := 3) (v := ?_) (by rw [List.getElem?_toArray]; rfl) (by kernel_rfl) (by kernel_rfl) (by kernel_rfl) (by exact fun _ _ _ h => h) (Or.inl ⟨by rfl, ?_⟩) h0 ?_
  rotate_left
  · intro W hW
    go_simp
    all_goals with_reducible rfl
  try simp only [Act.put, List.setIfInBounds_toArray, List.set_cons_zero, List.set_cons_succ]
  refine wpAnyH_take (i := 4) (v := ?_) (by rw [List.getElem?_toArray]; rfl) (by kernel_rfl) (by kernel_rfl) (by kernel_rfl) (by exact fun _ _ _ h => h) (Or.inl ⟨by rfl, ?_⟩) h0 ?_
  rotate_left
  · intro W hW
    have r2 := hW.2
    go_simp
    all_goals with_reducible rfl
  try simp only [Act.put, List.setIfInBounds_toArray, List.set_cons_zero, List.set_cons_succ]
  refine wpAnyH_ready (rs := [5]) (by kernel_rfl) (by simp) ?_
  refine AllReadyH.cons (by rw [List.getElem?_toArray]; rfl) (fun K hK => ?_) AllReadyH.nil
  rw [if_pos (by rfl)]
  go_wp2_with fail
  refine (differ_any HKY.out OK.out.keyOk).mono ?_
  rintro e w3 ⟨rfl, b3⟩
  have T3 := Lib.hid (T2.out.on b3)
  have hS : HashAt w3 kb key ∧ rowOf w3 b 0 32 = hc t.key := ⟨h0.1.on b3, by
    obtain ⟨x, y, n, n1, n2, n3, -⟩ := T3.out.node
    rw [(n1.facts n2).2.2.2.2.2.2.1, n3]⟩
  have B3 := Lib.hid (B2.out.trans (b3.mono B2.out.size))
  clear b3 T2 B2
  rw [HD.out]
  go_wp2_with fail
  refine hK.out _ _ hS (fun h0 => ?_)
  clear hK K hS
  try simp only [Act.put, List.setIfInBounds_toArray, List.set_cons_zero, List.set_cons_succ]
  refine wpAnyH_take (i := 6) (v := ?_) (by rw [List.getElem?_toArray]; rfl) (by kernel_rfl) (by kernel_rfl) (by kernel_rfl) (by exact fun _ _ _ h => h) (Or.inl ⟨by rfl, ?_⟩) h0 ?_
  rotate_left
  · intro W hW
    go_simp
    all_goals with_reducible rfl
  try simp only [Act.put, List.setIfInBounds_toArray, List.set_cons_zero, List.set_cons_succ]
  refine wpAnyH_done (by kernel_rfl) ?_ _
  have K3 := Lib.hid h0.1
  clear h0
  go_upto_region 4 with fail
  have f32 : w3.cell? ⟨b, 32, none⟩ = some (.int .i64 (t.fork : Int)) := by
    obtain ⟨x, y, n, n1, n2, n3, n4, -⟩ := T3.out.node
    rw [(n1.facts n2).1, n4]
  by_cases hlt : D < t.fork
  · have d1 : decide ((D : Int) < (t.fork : Int)) = true := decide_eq_true (by omega)
    have d2 : decide (D < t.fork) = true := decide_eq_true hlt
    have HIA : Hid (t.ins key = if bitI key D = 0 then .nd key D (.lf key) t else .nd key D t (.lf key)) := by
      show _ = _
      rw [ins_up (by rw [HD.out]; exact hlt), HD.out]
    have D256 : D < 256 := Nat.lt_of_lt_of_le hlt OK.out.fork_le
    have r1 := K3.out.row HKY.out.len
    have lK := hc_len key
    have kl := HKY.out.len
    have b4 : Below w3.heap.size w3 (w3.alloc (.cells (Nd.row ⟨key, (D : Int), none, none, zero32, false, zero32, 0, false⟩).toArray 88)) := (Below.refl _ _).alloc (Nat.le_refl _) _
    have U4 := Lib.hid (heap_alloc_new w3 (.cells (Nd.row ⟨key, (D : Int), none, none, zero32, false, zero32, 0, false⟩).toArray 88))
    have K4 := Lib.hid (K3.out.on b4)
    have T4 := Lib.hid (T3.out.on b4)
    have B4 := Lib.hid (B3.out.trans (b4.mono B3.out.size))
    have UBL : Hid (w.heap.size ≤ w3.heap.size) := B3.out.size
    have UNB : Hid (w3.heap.size ∉ bl) := fun h => by have := T3.out.lt _ h; omega
    have KU : Hid (kb ≠ w3.heap.size) := fun e => by have := K3.out.lt; omega
    clear b4 hlt
    go_upto_region 6 with fail
    clear d1 d2 f32 r1
    obtain ⟨ub, hub⟩ : ∃ z, w3.heap.size = z := ⟨_, rfl⟩
    rw [hub] at U4 UBL UNB KU ⊢
    have U4 : Hid (NdB (w3.alloc (.cells (Nd.row ⟨key, (D : Int), none, none, zero32, false, zero32, 0, false⟩).toArray 88)) ub ⟨key, (D : Int), none, none, zero32, false, zero32, 0, false⟩) := U4.out
    generalize w3.alloc (.cells (Nd.row ⟨key, (D : Int), none, none, zero32, false, zero32, 0, false⟩).toArray 88) = w4_ at *
    clear hub
    have r1 := K4.out.row HKY.out.len
    go_wp2_with fail
    refine (bit_any HKY.out.len HKY.out.by_ D256).mono ?_
    rintro e w4 ⟨rfl, b5⟩
    have U4 := Lib.hid (NdB.on U4.out b5)
    have K4 := Lib.hid (K4.out.on b5)
    have T4 := Lib.hid (T4.out.on b5)
    have B4 := Lib.hid (B4.out.trans (b5.mono B4.out.size))
    clear b5 r1 T3 B3 K3
    rcases bit01 key D with hz | hz
    · as_aux_lemma =>
        have HI : Hid (t.ins key = .nd key D (.lf key) t) := HIA.out.trans (by rw [if_pos hz])
        have HZ := Lib.hid hz
        have b45 : Below w4.heap.size w4 w4.drew := (Below.refl _ _).drew
        have hS7 := HashAt.on K4.out b45
        have T5 := Lib.hid (T4.out.on b45)
        have U5 := Lib.hid (NdB.on U4.out b45)
        have B5 := Lib.hid (B4.out.trans (b45.mono B4.out.size))
        clear b45 T4 U4 B4 K4
        rw [hz]
        clear hz
        go_wp2_with fail
        refine wp_region_held_drew (S := fun W => HashAt W kb key) (by kernel_rfl) (hS7) (fun h0 => ?_)
        generalize w4.drew = w5 at *
        refine wpAnyH_take (i := 0) (v := ?_) (by rw [List.getElem?_toArray]; rfl) (by kernel_rfl) (by kernel_rfl) (by kernel_rfl) (by exact fun _ _ _ h => h) (Or.inl ⟨by rfl, ?_⟩) h0 ?_
        rotate_left
        · intro W hW
          go_simp
          all_goals with_reducible rfl
        try simp only [Act.put, List.setIfInBounds_toArray, List.set_cons_zero, List.set_cons_succ]
        refine wpAnyH_take (i := 1) (v := ?_) (by rw [List.getElem?_toArray]; rfl) (by kernel_rfl) (by kernel_rfl) (by kernel_rfl) (by exact fun _ _ _ h => h) (Or.inl ⟨by rfl, ?_⟩) h0 ?_
        rotate_left
        · intro W hW
          go_simp
          all_goals with_reducible rfl
        try simp only [Act.put, List.setIfInBounds_toArray, List.set_cons_zero, List.set_cons_succ]
        refine wpAnyH_take (i := 2) (v := ?_) (by rw [List.getElem?_toArray]; rfl) (by kernel_rfl) (by kernel_rfl) (by kernel_rfl) (by exact fun _ _ _ h => h) (Or.inl ⟨by rfl, ?_⟩) h0 ?_
        rotate_left
        · intro W hW
          have r1 := hW.row HKY.out.len
          go_simp
          all_goals with_reducible rfl
        try simp only [Act.put, List.setIfInBounds_toArray, List.set_cons_zero, List.set_cons_succ]
        refine wpAnyH_take (i := 3) (v := ?_) (by rw [List.getElem?_toArray]; rfl) (by kernel_rfl) (by kernel_rfl) (by kernel_rfl) (by exact fun _ _ _ h => h) (Or.inl ⟨by rfl, ?_⟩) h0 ?_
        rotate_left
        · intro W hW
          go_simp
          all_goals with_reducible rfl
        try simp only [Act.put, List.setIfInBounds_toArray, List.set_cons_zero, List.set_cons_succ]
        refine wpAnyH_take (i := 5) (v := ?_) (by rw [List.getElem?_toArray]; rfl) (by kernel_rfl) (by kernel_rfl) (by kernel_rfl) (by exact fun _ _ _ h => h) (Or.inl ⟨by rfl, ?_⟩) h0 ?_
        rotate_left
        · intro W hW
          go_simp
          all_goals with_reducible rfl
        try simp only [Act.put, List.setIfInBounds_toArray, List.set_cons_zero, List.set_cons_succ]
        refine wpAnyH_take (i := 6) (v := ?_) (by rw [List.getElem?_toArray]; rfl) (by kernel_rfl) (by kernel_rfl) (by kernel_rfl) (by exact fun _ _ _ h => h) (Or.inl ⟨by rfl, ?_⟩) h0 ?_
        rotate_left
        · intro W hW
          go_simp
          all_goals with_reducible rfl
        try simp only [Act.put, List.setIfInBounds_toArray, List.set_cons_zero, List.set_cons_succ]
        refine wpAnyH_ready (rs := [4]) (by kernel_rfl) (by simp) ?_
        refine AllReadyH.cons (by rw [List.getElem?_toArray]; rfl) (fun K hK => ?_) AllReadyH.nil
        rw [if_pos (by rfl)]
        have b6 : Below w5.heap.size w5 (w5.alloc (.cells (Nd.row ⟨key, 256, none, none, zero32, false, zero32, 0, false⟩).toArray 88)) := (Below.refl _ _).alloc (Nat.le_refl _) _
        have hS := HashAt.on h0 b6
        have LB := Lib.hid (heap_alloc_new w5 (.cells (Nd.row ⟨key, 256, none, none, zero32, false, zero32, 0, false⟩).toArray 88))
        have T6 := Lib.hid (T5.out.on b6)
        have U6 := Lib.hid (NdB.on U5.out b6)
        have B6 := Lib.hid (B5.out.trans (b6.mono B5.out.size))
        have LBU : Hid (ub < w5.heap.size) := U5.out.lt
        have LBT : Hid (∀ g ∈ bl, g < w5.heap.size) := T5.out.lt
        clear b6 T5 U5 B5
        go_wp2_with fail
        obtain ⟨lb, hlb⟩ : ∃ z, w5.heap.size = z := ⟨_, rfl⟩
        rw [hlb] at LB LBU LBT ⊢
        generalize w5.alloc (.cells (Nd.row ⟨key, 256, none, none, zero32, false, zero32, 0, false⟩).toArray 88) = w6 at *
        clear hlb
        refine hK.out _ _ hS (fun h0 => ?_)
        clear hK K hS
        try simp only [Act.put, List.setIfInBounds_toArray, List.set_cons_zero, List.set_cons_succ]
        refine wpAnyH_take (i := 7) (v := ?_) (by rw [List.getElem?_toArray]; rfl) (by kernel_rfl) (by kernel_rfl) (by kernel_rfl) (by exact fun _ _ _ h => h) (Or.inl ⟨by rfl, ?_⟩) h0 ?_
        rotate_left
        · intro W hW
          go_simp
          all_goals with_reducible rfl
        try simp only [Act.put, List.setIfInBounds_toArray, List.set_cons_zero, List.set_cons_succ]
        refine wpAnyH_ready (rs := [8]) (by kernel_rfl) (by simp) ?_
        refine AllReadyH.cons (by rw [List.getElem?_toArray]; rfl) (fun K hK => ?_) AllReadyH.nil
        rw [if_pos (by rfl)]
        have U7 := NdB.setLo (n := ⟨key, (D : Int), none, none, zero32, false, zero32, 0, false⟩) U6.out ⟨HKY.out.len, zero32_len, zero32_len⟩ (some ⟨lb, 0, none⟩)
        have f33 := (NdB.facts (n := ⟨key, (D : Int), none, none, zero32, false, zero32, 0, false⟩) U6.out ⟨HKY.out.len, zero32_len, zero32_len⟩).2.1
        have u33 := NdB.free (n := ⟨key, (D : Int), none, none, zero32, false, zero32, 0, false⟩) U6.out 33
        have C7 := (Chg.refl w6 [ub]).setCell (p := ⟨ub, 33, none⟩) (.inl (by simp)) (.pointer (some ⟨lb, 0, none⟩))
        have hne : ub ≠ lb := by have := LBU.out; omega
        have hS : HashAt (w6.setCell ⟨ub, 33, none⟩ (.pointer (some ⟨lb, 0, none⟩))) kb key := HashAt.chg h0 C7 (by have := KU.out; simpa using this)
        have LB7 : Hid ((w6.setCell ⟨ub, 33, none⟩ (.pointer (some ⟨lb, 0, none⟩))).heap[lb]? = some (.cells (Nd.row ⟨key, 256, none, none, zero32, false, zero32, 0, false⟩).toArray 88 (0, 0))) := by
          show _ = _
          rw [C7.block lb (Array.getElem?_eq_some_iff.1 LB.out).1 (by simpa using fun e => hne e.symm)]; exact LB.out
        have T7 := Lib.hid (T6.out.chg C7 (fun g hg hm => by obtain rfl := List.mem_singleton.1 hm; exact UNB.out hg))
        have B7 := Lib.hid (B6.out.trans (C7.toBelow B6.out.size (fun g hg => by obtain rfl := List.mem_singleton.1 hg; exact UBL.out)))
        have U7 := Lib.hid U7
        clear C7 hne T6 U6 B6 LB
        go_wp2_with fail
        clear f33 u33
        generalize w6.setCell ⟨ub, 33, none⟩ (.pointer (some ⟨lb, 0, none⟩)) = w7 at *
        refine hK.out _ _ hS (fun h0 => ?_)
        clear hK K hS
        try simp only [Act.put, List.setIfInBounds_toArray, List.set_cons_zero, List.set_cons_succ]
        refine wpAnyH_done (by kernel_rfl) ?_ _
        clear h0
        go_upto_region 8 with fail
        have U8 := NdB.setHi (n := ⟨key, (D : Int), some ⟨lb, 0, none⟩, none, zero32, false, zero32, 0, false⟩) U7.out ⟨HKY.out.len, zero32_len, zero32_len⟩ (some ⟨b, 0, none⟩)
        have f34 := (NdB.facts (n := ⟨key, (D : Int), some ⟨lb, 0, none⟩, none, zero32, false, zero32, 0, false⟩) U7.out ⟨HKY.out.len, zero32_len, zero32_len⟩).2.2.1
        have u34 := NdB.free (n := ⟨key, (D : Int), some ⟨lb, 0, none⟩, none, zero32, false, zero32, 0, false⟩) U7.out 34
        have C8 := (Chg.refl w7 [ub]).setCell (p := ⟨ub, 34, none⟩) (.inl (by simp)) (.pointer (some ⟨b, 0, none⟩))
        have hne : ub ≠ lb := by have := LBU.out; omega
        have LB8 : Hid ((w7.setCell ⟨ub, 34, none⟩ (.pointer (some ⟨b, 0, none⟩))).heap[lb]? = some (.cells (Nd.row ⟨key, 256, none, none, zero32, false, zero32, 0, false⟩).toArray 88 (0, 0))) := by
          show _ = _
          rw [C8.block lb (Array.getElem?_eq_some_iff.1 LB7.out).1 (by simpa using fun e => hne e.symm)]; exact LB7.out
        have T8 := Lib.hid (T7.out.chg C8 (fun g hg hm => by obtain rfl := List.mem_singleton.1 hm; exact UNB.out hg))
        have B8 := Lib.hid (B7.out.trans (C8.toBelow B7.out.size (fun g hg => by obtain rfl := List.mem_singleton.1 hg; exact UBL.out)))
        have U8 := Lib.hid U8
        clear C8 T7 B7 U7 LB7 hne
        go_wp2_with fail
        clear f34 u34
        generalize w7.setCell ⟨ub, 34, none⟩ (.pointer (some ⟨b, 0, none⟩)) = w8 at *
        go_ret
        have hwu : w.heap.size ≤ ub := UBL.out
        have hwl : ub < lb := LBU.out
        have hlt : ∀ g ∈ bl, g < w.heap.size := TLT.out
        have TLf : TrA w8 V' (.lf key) lb [lb] := ⟨rfl, none, none, ⟨key, 256, none, none, zero32, false, zero32, 0, false⟩, LB8.out, ⟨HKY.out.len, zero32_len, zero32_len⟩, rfl, rfl, rfl, rfl, (fun h => by cases h), (fun h => by cases h)⟩
        have TT := TrA.congr T8.out VV.out
        have NN : NdA w8 V' (.nd key D (.lf key) t) ub (some ⟨lb, 0, none⟩) (some ⟨b, 0, none⟩) := ⟨⟨key, (D : Int), some ⟨lb, 0, none⟩, some ⟨b, 0, none⟩, zero32, false, zero32, 0, false⟩, U8.out, ⟨HKY.out.len, zero32_len, zero32_len⟩, rfl, rfl, rfl, rfl, (fun h => by cases h), (fun h => by cases h)⟩
        refine ⟨ub, ub :: ([lb] ++ bl), rfl, Chg.below B8.out (Nat.le_refl _) bl, ?_, ?_, ?_⟩
        · rw [HI.out]
          exact ⟨lb, b, [lb], bl, rfl, NN, TLf, TT⟩
        · have h1 : ub ∉ bl := UNB.out
          have h2 : lb ∉ bl := fun h => by have := hlt _ h; omega
          have h3 : bl.Nodup := NDU.out
          rw [List.nodup_cons]; refine ⟨by simp [h1]; omega, ?_⟩; rw [List.singleton_append, List.nodup_cons]; exact ⟨h2, h3⟩
        · intro g hg
          simp at hg
          rcases hg with rfl | rfl | hg
          · exact .inr hwu
          · exact .inr (by omega)
          · exact .inl hg
    · as_aux_lemma =>
        have HI : Hid (t.ins key = .nd key D t (.lf key)) := HIA.out.trans (by rw [if_neg (by rw [hz]; decide)])
        have HZ := Lib.hid hz
        have b45 : Below w4.heap.size w4 w4.drew := (Below.refl _ _).drew
        have hS7 := HashAt.on K4.out b45
        have T5 := Lib.hid (T4.out.on b45)
        have U5 := Lib.hid (NdB.on U4.out b45)
        have B5 := Lib.hid (B4.out.trans (b45.mono B4.out.size))
        clear b45 T4 U4 B4 K4
        rw [hz]
        clear hz
        go_wp2_with fail
        refine wp_region_held_drew (S := fun W => HashAt W kb key) (by kernel_rfl) (hS7) (fun h0 => ?_)
        generalize w4.drew = w5 at *
        refine wpAnyH_take (i := 0) (v := ?_) (by rw [List.getElem?_toArray]; rfl) (by kernel_rfl) (by kernel_rfl) (by kernel_rfl) (by exact fun _ _ _ h => h) (Or.inl ⟨by rfl, ?_⟩) h0 ?_
        rotate_left
        · intro W hW
          go_simp
          all_goals with_reducible rfl
        try simp only [Act.put, List.setIfInBounds_toArray, List.set_cons_zero, List.set_cons_succ]
        refine wpAnyH_take (i := 1) (v := ?_) (by rw [List.getElem?_toArray]; rfl) (by kernel_rfl) (by kernel_rfl) (by kernel_rfl) (by exact fun _ _ _ h => h) (Or.inl ⟨by rfl, ?_⟩) h0 ?_
        rotate_left
        · intro W hW
          go_simp
          all_goals with_reducible rfl
        try simp only [Act.put, List.setIfInBounds_toArray, List.set_cons_zero, List.set_cons_succ]
        refine wpAnyH_take (i := 2) (v := ?_) (by rw [List.getElem?_toArray]; rfl) (by kernel_rfl) (by kernel_rfl) (by kernel_rfl) (by exact fun _ _ _ h => h) (Or.inl ⟨by rfl, ?_⟩) h0 ?_
        rotate_left
        · intro W hW
          have r1 := hW.row HKY.out.len
          go_simp
          all_goals with_reducible rfl
        try simp only [Act.put, List.setIfInBounds_toArray, List.set_cons_zero, List.set_cons_succ]
        refine wpAnyH_take (i := 3) (v := ?_) (by rw [List.getElem?_toArray]; rfl) (by kernel_rfl) (by kernel_rfl) (by kernel_rfl) (by exact fun _ _ _ h => h) (Or.inl ⟨by rfl, ?_⟩) h0 ?_
        rotate_left
        · intro W hW
          go_simp
          all_goals with_reducible rfl
        try simp only [Act.put, List.setIfInBounds_toArray, List.set_cons_zero, List.set_cons_succ]
        refine wpAnyH_take (i := 5) (v := ?_) (by rw [List.getElem?_toArray]; rfl) (by kernel_rfl) (by kernel_rfl) (by kernel_rfl) (by exact fun _ _ _ h => h) (Or.inl ⟨by rfl, ?_⟩) h0 ?_
        rotate_left
        · intro W hW
          go_simp
          all_goals with_reducible rfl
        try simp only [Act.put, List.setIfInBounds_toArray, List.set_cons_zero, List.set_cons_succ]
        refine wpAnyH_take (i := 6) (v := ?_) (by rw [List.getElem?_toArray]; rfl) (by kernel_rfl) (by kernel_rfl) (by kernel_rfl) (by exact fun _ _ _ h => h) (Or.inl ⟨by rfl, ?_⟩) h0 ?_
        rotate_left
        · intro W hW
          go_simp
          all_goals with_reducible rfl
        try simp only [Act.put, List.setIfInBounds_toArray, List.set_cons_zero, List.set_cons_succ]
        refine wpAnyH_ready (rs := [4]) (by kernel_rfl) (by simp) ?_
        refine AllReadyH.cons (by rw [List.getElem?_toArray]; rfl) (fun K hK => ?_) AllReadyH.nil
        rw [if_pos (by rfl)]
        have b6 : Below w5.heap.size w5 (w5.alloc (.cells (Nd.row ⟨key, 256, none, none, zero32, false, zero32, 0, false⟩).toArray 88)) := (Below.refl _ _).alloc (Nat.le_refl _) _
        have hS := HashAt.on h0 b6
        have LB := Lib.hid (heap_alloc_new w5 (.cells (Nd.row ⟨key, 256, none, none, zero32, false, zero32, 0, false⟩).toArray 88))
        have T6 := Lib.hid (T5.out.on b6)
        have U6 := Lib.hid (NdB.on U5.out b6)
        have B6 := Lib.hid (B5.out.trans (b6.mono B5.out.size))
        have LBU : Hid (ub < w5.heap.size) := U5.out.lt
        have LBT : Hid (∀ g ∈ bl, g < w5.heap.size) := T5.out.lt
        clear b6 T5 U5 B5
        go_wp2_with fail
        obtain ⟨lb, hlb⟩ : ∃ z, w5.heap.size = z := ⟨_, rfl⟩
        rw [hlb] at LB LBU LBT ⊢
        generalize w5.alloc (.cells (Nd.row ⟨key, 256, none, none, zero32, false, zero32, 0, false⟩).toArray 88) = w6 at *
        clear hlb
        refine hK.out _ _ hS (fun h0 => ?_)
        clear hK K hS
        try simp only [Act.put, List.setIfInBounds_toArray, List.set_cons_zero, List.set_cons_succ]
        refine wpAnyH_take (i := 7) (v := ?_) (by rw [List.getElem?_toArray]; rfl) (by kernel_rfl) (by kernel_rfl) (by kernel_rfl) (by exact fun _ _ _ h => h) (Or.inl ⟨by rfl, ?_⟩) h0 ?_
        rotate_left
        · intro W hW
          go_simp
          all_goals with_reducible rfl
        try simp only [Act.put, List.setIfInBounds_toArray, List.set_cons_zero, List.set_cons_succ]
        refine wpAnyH_ready (rs := [8]) (by kernel_rfl) (by simp) ?_
        refine AllReadyH.cons (by rw [List.getElem?_toArray]; rfl) (fun K hK => ?_) AllReadyH.nil
        rw [if_pos (by rfl)]
        have U7 := NdB.setHi (n := ⟨key, (D : Int), none, none, zero32, false, zero32, 0, false⟩) U6.out ⟨HKY.out.len, zero32_len, zero32_len⟩ (some ⟨lb, 0, none⟩)
        have f33 := (NdB.facts (n := ⟨key, (D : Int), none, none, zero32, false, zero32, 0, false⟩) U6.out ⟨HKY.out.len, zero32_len, zero32_len⟩).2.2.1
        have u33 := NdB.free (n := ⟨key, (D : Int), none, none, zero32, false, zero32, 0, false⟩) U6.out 34
        have C7 := (Chg.refl w6 [ub]).setCell (p := ⟨ub, 34, none⟩) (.inl (by simp)) (.pointer (some ⟨lb, 0, none⟩))
        have hne : ub ≠ lb := by have := LBU.out; omega
        have hS : HashAt (w6.setCell ⟨ub, 34, none⟩ (.pointer (some ⟨lb, 0, none⟩))) kb key := HashAt.chg h0 C7 (by have := KU.out; simpa using this)
        have LB7 : Hid ((w6.setCell ⟨ub, 34, none⟩ (.pointer (some ⟨lb, 0, none⟩))).heap[lb]? = some (.cells (Nd.row ⟨key, 256, none, none, zero32, false, zero32, 0, false⟩).toArray 88 (0, 0))) := by
          show _ = _
          rw [C7.block lb (Array.getElem?_eq_some_iff.1 LB.out).1 (by simpa using fun e => hne e.symm)]; exact LB.out
        have T7 := Lib.hid (T6.out.chg C7 (fun g hg hm => by obtain rfl := List.mem_singleton.1 hm; exact UNB.out hg))
        have B7 := Lib.hid (B6.out.trans (C7.toBelow B6.out.size (fun g hg => by obtain rfl := List.mem_singleton.1 hg; exact UBL.out)))
        have U7 := Lib.hid U7
        clear C7 hne T6 U6 B6 LB
        go_wp2_with fail
        clear f33 u33
        generalize w6.setCell ⟨ub, 34, none⟩ (.pointer (some ⟨lb, 0, none⟩)) = w7 at *
        refine hK.out _ _ hS (fun h0 => ?_)
        clear hK K hS
        try simp only [Act.put, List.setIfInBounds_toArray, List.set_cons_zero, List.set_cons_succ]
        refine wpAnyH_done (by kernel_rfl) ?_ _
        clear h0
        go_upto_region 8 with fail
        have U8 := NdB.setLo (n := ⟨key, (D : Int), none, some ⟨lb, 0, none⟩, zero32, false, zero32, 0, false⟩) U7.out ⟨HKY.out.len, zero32_len, zero32_len⟩ (some ⟨b, 0, none⟩)
        have f34 := (NdB.facts (n := ⟨key, (D : Int), none, some ⟨lb, 0, none⟩, zero32, false, zero32, 0, false⟩) U7.out ⟨HKY.out.len, zero32_len, zero32_len⟩).2.1
        have u34 := NdB.free (n := ⟨key, (D : Int), none, some ⟨lb, 0, none⟩, zero32, false, zero32, 0, false⟩) U7.out 33
        have C8 := (Chg.refl w7 [ub]).setCell (p := ⟨ub, 33, none⟩) (.inl (by simp)) (.pointer (some ⟨b, 0, none⟩))
        have hne : ub ≠ lb := by have := LBU.out; omega
        have LB8 : Hid ((w7.setCell ⟨ub, 33, none⟩ (.pointer (some ⟨b, 0, none⟩))).heap[lb]? = some (.cells (Nd.row ⟨key, 256, none, none, zero32, false, zero32, 0, false⟩).toArray 88 (0, 0))) := by
          show _ = _
          rw [C8.block lb (Array.getElem?_eq_some_iff.1 LB7.out).1 (by simpa using fun e => hne e.symm)]; exact LB7.out
        have T8 := Lib.hid (T7.out.chg C8 (fun g hg hm => by obtain rfl := List.mem_singleton.1 hm; exact UNB.out hg))
        have B8 := Lib.hid (B7.out.trans (C8.toBelow B7.out.size (fun g hg => by obtain rfl := List.mem_singleton.1 hg; exact UBL.out)))
        have U8 := Lib.hid U8
        clear C8 T7 B7 U7 LB7 hne
        go_wp2_with fail
        clear f34 u34
        generalize w7.setCell ⟨ub, 33, none⟩ (.pointer (some ⟨b, 0, none⟩)) = w8 at *
        go_ret
        have hwu : w.heap.size ≤ ub := UBL.out
        have hwl : ub < lb := LBU.out
        have hlt : ∀ g ∈ bl, g < w.heap.size := TLT.out
        have TLf : TrA w8 V' (.lf key) lb [lb] := ⟨rfl, none, none, ⟨key, 256, none, none, zero32, false, zero32, 0, false⟩, LB8.out, ⟨HKY.out.len, zero32_len, zero32_len⟩, rfl, rfl, rfl, rfl, (fun h => by cases h), (fun h => by cases h)⟩
        have TT := TrA.congr T8.out VV.out
        have NN : NdA w8 V' (.nd key D t (.lf key)) ub (some ⟨b, 0, none⟩) (some ⟨lb, 0, none⟩) := ⟨⟨key, (D : Int), some ⟨b, 0, none⟩, some ⟨lb, 0, none⟩, zero32, false, zero32, 0, false⟩, U8.out, ⟨HKY.out.len, zero32_len, zero32_len⟩, rfl, rfl, rfl, rfl, (fun h => by cases h), (fun h => by cases h)⟩
        refine ⟨ub, ub :: (bl ++ [lb]), rfl, Chg.below B8.out (Nat.le_refl _) bl, ?_, ?_, ?_⟩
        · rw [HI.out]
          exact ⟨b, lb, bl, [lb], rfl, NN, TT, TLf⟩
        · have h1 : ub ∉ bl := UNB.out
          have h2 : lb ∉ bl := fun h => by have := hlt _ h; omega
          have h3 : bl.Nodup := NDU.out
          rw [List.nodup_cons]; refine ⟨by simp [h1]; omega, ?_⟩; rw [List.nodup_append]; exact ⟨h3, by simp, fun x hx y hy e => by obtain rfl := List.mem_singleton.1 hy; exact h2 (by rw [← e]; exact hx)⟩
        · intro g hg
          simp at hg
          rcases hg with rfl | hg | rfl
          · exact .inr hwu
          · exact .inl hg
          · exact .inr (by omega)
  · cases t with
    | lf k =>
      exact absurd (key_eq HKY.out OK.out ((dif_agree key k).mono (by have h1 : dif key k = D := HD.out; have h2 : ¬ D < 256 := hlt; omega))) (fun e => HN.out (by rw [e]; simp [Tr.keys]))
    | nd k f l r =>
      have d1 : decide ((D : Int) < (f : Int)) = false := decide_eq_false (by have h2 : ¬ D < f := hlt; omega)
      have d2 : decide (D < f) = false := decide_eq_false hlt
      have f32' : w3.cell? ⟨b, 32, none⟩ = some (.int .i64 (f : Int)) := f32
      have HIA : Hid ((Tr.nd k f l r).ins key = if bitI key f = 0 then .nd k f (l.ins key) r else .nd k f l (r.ins key)) := by
        show (if dif key k < f then _ else _) = _
        rw [if_neg (by have h1 : dif key k = D := HD.out; rw [h1]; exact hlt)]
      obtain ⟨xa, ya, bl1, bl2, hbl, hnd, htl, htr⟩ := T3.out
      obtain ⟨n, n1, n2, n3, n4, n5, n6, -, -⟩ := hnd
      have hnl := NDU.out
      rw [hbl] at hnl
      obtain ⟨nb, nd12⟩ := List.nodup_cons.1 hnl
      obtain ⟨nd1, nd2, nd3⟩ := List.nodup_append.1 nd12
      have HBL := Lib.hid hbl
      have NB := Lib.hid nb
      have N1 := Lib.hid nd1
      have N2 := Lib.hid nd2
      have D12 : Hid (∀ g ∈ bl1, g ∉ bl2) := fun g h1 h2 => nd3 g h1 g h2 rfl
      have BIN : Hid (b ∈ bl) := by show _ ∈ _; rw [hbl]; simp
      have KNB : Hid (kb ∉ bl) := fun h => by have := TLT.out kb h; have := HKB.out; omega
      have V1 : Hid (∀ x ∈ l.keys, V x = V' x) := fun x hx => VV.out x (List.mem_append.2 (.inl hx))
      have V2 : Hid (∀ x ∈ r.keys, V x = V' x) := fun x hx => VV.out x (List.mem_append.2 (.inr hx))
      obtain ⟨il, ir⟩ := IH.out k f l r rfl
      have IL := Lib.hid il
      have IR := Lib.hid ir
      -- told and known are forgotten
      have m1 := n1.setTold n2 false
      have o1 : Nd.ok { n with told := false } := ⟨n2.key, n2.own, n2.high⟩
      have m2 := m1.setKnown o1 false
      have f67 := (n1.facts n2).2.2.2.1
      have u67 := n1.free 67
      have f101 := (m1.facts o1).2.2.2.2.2.1
      have u101 := m1.free 101
      have c5 := ((Chg.refl w3 [b]).setCell (p := ⟨b, 67, none⟩) (.inl (by simp)) (.bool false)).setCell (p := ⟨b, 101, none⟩) (.inl (by simp)) (.bool false)
      obtain ⟨n4_, hn4⟩ : ∃ z : Nd, ({ n with told := false, known := false } : Nd) = z := ⟨_, rfl⟩
      have OK4 : Hid n4_.ok := by rw [← hn4]; exact ⟨n2.key, n2.own, n2.high⟩
      have NKY : Hid (n4_.key = k) := by show _ = _; rw [← hn4]; exact n3
      have NFK : Hid (n4_.fork = (f : Int)) := by show _ = _; rw [← hn4]; exact n4
      have NLO : Hid (n4_.lo = some ⟨xa, 0, none⟩) := by show _ = _; rw [← hn4]; exact n5
      have NHI : Hid (n4_.hi = some ⟨ya, 0, none⟩) := by show _ = _; rw [← hn4]; exact n6
      have NTD : Hid (n4_.told = false) := by show _ = _; rw [← hn4]
      have NKN : Hid (n4_.known = false) := by show _ = _; rw [← hn4]
      have N4 : Hid (NdB ((w3.setCell ⟨b, 67, none⟩ (.bool false)).setCell ⟨b, 101, none⟩ (.bool false)) b n4_) := by rw [← hn4]; exact m2
      have TL4 := Lib.hid (TrA.chg c5 htl (fun g h1 h2 => nb (by obtain rfl := List.mem_singleton.1 h2; simp [h1])))
      have TT4 := Lib.hid (TrA.chg c5 htr (fun g h1 h2 => nb (by obtain rfl := List.mem_singleton.1 h2; simp [h1])))
      have C4 := Lib.hid ((Chg.below B3.out (Nat.le_refl _) bl).trans c5 (fun g hg _ => by obtain rfl := List.mem_singleton.1 hg; exact BIN.out))
      have K4 := Lib.hid (HashAt.chg' K3.out c5 (fun h => KNB.out (by obtain rfl := List.mem_singleton.1 h; exact BIN.out)))
      clear hbl n1 n2 n3 n4 n5 n6 hnl nb nd12 nd1 nd2 nd3 il ir m1 o1 m2 c5 hn4 htl htr T3 B3 K3 f32 hlt
      go_upto_region 11 with fail
      clear d1 d2 f32' f67 u67 f101 u101
      generalize (w3.setCell ⟨b, 67, none⟩ (.bool false)).setCell ⟨b, 101, none⟩ (.bool false) = w4 at *
      have b45 : Below w4.heap.size w4 w4.drew := (Below.refl _ _).drew
      have N5 := Lib.hid (NdB.on N4.out b45)
      have TL5 := Lib.hid (TL4.out.on b45)
      have TT5 := Lib.hid (TT4.out.on b45)
      have C5 := Lib.hid (C4.out.trans (Chg.below b45 (Nat.le_refl _) []) (by simp))
      have hS0 : HashAt w4.drew kb key ∧ w4.drew.cell? ⟨b, 32, none⟩ = some (.int .i64 (f : Int)) := ⟨HashAt.on K4.out b45, by
        have := (N5.out.facts OK4.out).1
        rw [this, NFK.out]⟩
      clear b45 N4 TL4 TT4 C4 K4
      go_wp2_with fail
      refine wp_region_held_drew (S := fun W => HashAt W kb key ∧ W.cell? ⟨b, 32, none⟩ = some (.int .i64 (f : Int))) (by kernel_rfl) (hS0) (fun h0 => ?_)
      generalize w4.drew = w5 at *
      refine wpAnyH_take (i := 0) (v := ?_) (by rw [List.getElem?_toArray]; rfl) (by kernel_rfl) (by kernel_rfl) (by kernel_rfl) (by exact fun _ _ _ h => h) (Or.inl ⟨by rfl, ?_⟩) h0 ?_
      rotate_left
      · intro W hW
        have r1 := hW.1.row HKY.out.len
        go_simp
        all_goals with_reducible rfl
      try simp only [Act.put, List.setIfInBounds_toArray, List.set_cons_zero, List.set_cons_succ]
      refine wpAnyH_take (i := 1) (v := ?_) (by rw [List.getElem?_toArray]; rfl) (by kernel_rfl) (by kernel_rfl) (by kernel_rfl) (by exact fun _ _ _ h => h) (Or.inl ⟨by rfl, ?_⟩) h0 ?_
      rotate_left
      · intro W hW
        go_simp
        all_goals with_reducible rfl
      try simp only [Act.put, List.setIfInBounds_toArray, List.set_cons_zero, List.set_cons_succ]
      refine wpAnyH_take (i := 2) (v := ?_) (by rw [List.getElem?_toArray]; rfl) (by kernel_rfl) (by kernel_rfl) (by kernel_rfl) (by exact fun _ _ _ h => h) (Or.inl ⟨by rfl, ?_⟩) h0 ?_
      rotate_left
      · intro W hW
        go_simp
        all_goals with_reducible rfl
      try simp only [Act.put, List.setIfInBounds_toArray, List.set_cons_zero, List.set_cons_succ]
      refine wpAnyH_take (i := 3) (v := ?_) (by rw [List.getElem?_toArray]; rfl) (by kernel_rfl) (by kernel_rfl) (by kernel_rfl) (by exact fun _ _ _ h => h) (Or.inl ⟨by rfl, ?_⟩) h0 ?_
      rotate_left
      · intro W hW
        go_simp
        all_goals with_reducible rfl
      try simp only [Act.put, List.setIfInBounds_toArray, List.set_cons_zero, List.set_cons_succ]
      refine wpAnyH_take (i := 4) (v := ?_) (by rw [List.getElem?_toArray]; rfl) (by kernel_rfl) (by kernel_rfl) (by kernel_rfl) (by exact fun _ _ _ h => h) (Or.inl ⟨by rfl, ?_⟩) h0 ?_
      rotate_left
      · intro W hW
        have c1 := hW.2
        go_simp
        all_goals with_reducible rfl
      try simp only [Act.put, List.setIfInBounds_toArray, List.set_cons_zero, List.set_cons_succ]
      refine wpAnyH_ready (rs := [5]) (by kernel_rfl) (by simp) ?_
      refine AllReadyH.cons (by rw [List.getElem?_toArray]; rfl) (fun K hK => ?_) AllReadyH.nil
      rw [if_pos (by rfl)]
      go_wp2_with fail
      refine (bit_any HKY.out.len HKY.out.by_ OK.out.2.1).mono ?_
      rintro e w6 ⟨rfl, b6⟩
      have hS : HashAt w6 kb key ∧ w6.cell? ⟨b, 32, none⟩ = some (.int .i64 (f : Int)) := ⟨h0.1.on b6, (b6.cell (World.block_lt_of_cell? _ _ h0.2)).trans h0.2⟩
      have N6 := Lib.hid (NdB.on N5.out b6)
      have TL6 := Lib.hid (TL5.out.on b6)
      have TT6 := Lib.hid (TT5.out.on b6)
      have C6 := Lib.hid (C5.out.trans (Chg.below b6 (Nat.le_refl _) []) (by simp))
      clear b6 N5 TL5 TT5 C5
      go_wp2_with fail
      refine hK.out _ _ hS (fun h0 => ?_)
      clear hK K hS
      try simp only [Act.put, List.setIfInBounds_toArray, List.set_cons_zero, List.set_cons_succ]
      refine wpAnyH_take (i := 6) (v := ?_) (by rw [List.getElem?_toArray]; rfl) (by kernel_rfl) (by kernel_rfl) (by kernel_rfl) (by exact fun _ _ _ h => h) (Or.inl ⟨by rfl, ?_⟩) h0 ?_
      rotate_left
      · intro W hW
        go_simp
        all_goals with_reducible rfl
      try simp only [Act.put, List.setIfInBounds_toArray, List.set_cons_zero, List.set_cons_succ]
      refine wpAnyH_done (by kernel_rfl) ?_ _
      have K6 := Lib.hid h0.1
      clear h0
      go_upto_region 12 with fail
      rcases bit01 key f with hz | hz
      · as_aux_lemma =>
          have HI : Hid ((Tr.nd k f l r).ins key = .nd k f (l.ins key) r) := HIA.out.trans (by rw [if_pos hz])
          have b67 : Below w6.heap.size w6 w6.drew := (Below.refl _ _).drew
          have hS7 := HashAt.on K6.out b67
          have N7 := Lib.hid (NdB.on N6.out b67)
          have TL := Lib.hid (TL6.out.on b67)
          have TT := Lib.hid (TT6.out.on b67)
          have C7 := Lib.hid (C6.out.trans (Chg.below b67 (Nat.le_refl _) []) (by simp))
          clear b67 TL6 TT6 N6 C6 K6
          rw [hz]
          clear hz
          go_wp2_with fail
          refine wp_region_held_drew (S := fun W => HashAt W kb key) (by kernel_rfl) (hS7) (fun h0 => ?_)
          generalize w6.drew = w7 at *
          refine wpAnyH_take (i := 0) (v := ?_) (by rw [List.getElem?_toArray]; rfl) (by kernel_rfl) (by kernel_rfl) (by kernel_rfl) (by exact fun _ _ _ h => h) (Or.inl ⟨by rfl, ?_⟩) h0 ?_
          rotate_left
          · intro W hW
            go_simp
            all_goals with_reducible rfl
          try simp only [Act.put, List.setIfInBounds_toArray, List.set_cons_zero, List.set_cons_succ]
          refine wpAnyH_take (i := 1) (v := ?_) (by rw [List.getElem?_toArray]; rfl) (by kernel_rfl) (by kernel_rfl) (by kernel_rfl) (by exact fun _ _ _ h => h) (Or.inl ⟨by rfl, ?_⟩) h0 ?_
          rotate_left
          · intro W hW
            go_simp
            all_goals with_reducible rfl
          try simp only [Act.put, List.setIfInBounds_toArray, List.set_cons_zero, List.set_cons_succ]
          refine wpAnyH_take (i := 2) (v := ?_) (by rw [List.getElem?_toArray]; rfl) (by kernel_rfl) (by kernel_rfl) (by kernel_rfl) (by exact fun _ _ _ h => h) (Or.inl ⟨by rfl, ?_⟩) h0 ?_
          rotate_left
          · intro W hW
            go_simp
            all_goals with_reducible rfl
          try simp only [Act.put, List.setIfInBounds_toArray, List.set_cons_zero, List.set_cons_succ]
          refine wpAnyH_take (i := 3) (v := ?_) (by rw [List.getElem?_toArray]; rfl) (by kernel_rfl) (by kernel_rfl) (by kernel_rfl) (by exact fun _ _ _ h => h) (Or.inl ⟨by rfl, ?_⟩) h0 ?_
          rotate_left
          · intro W hW
            go_simp
            all_goals with_reducible rfl
          try simp only [Act.put, List.setIfInBounds_toArray, List.set_cons_zero, List.set_cons_succ]
          refine wpAnyH_take (i := 4) (v := ?_) (by rw [List.getElem?_toArray]; rfl) (by kernel_rfl) (by kernel_rfl) (by kernel_rfl) (by exact fun _ _ _ h => h) (Or.inl ⟨by rfl, ?_⟩) h0 ?_
          rotate_left
          · intro W hW
            go_simp
            all_goals with_reducible rfl
          try simp only [Act.put, List.setIfInBounds_toArray, List.set_cons_zero, List.set_cons_succ]
          refine wpAnyH_take (i := 5) (v := ?_) (by rw [List.getElem?_toArray]; rfl) (by kernel_rfl) (by kernel_rfl) (by kernel_rfl) (by exact fun _ _ _ h => h) (Or.inl ⟨by rfl, ?_⟩) h0 ?_
          rotate_left
          · intro W hW
            go_simp
            all_goals with_reducible rfl
          try simp only [Act.put, List.setIfInBounds_toArray, List.set_cons_zero, List.set_cons_succ]
          refine wpAnyH_take (i := 6) (v := ?_) (by rw [List.getElem?_toArray]; rfl) (by kernel_rfl) (by kernel_rfl) (by kernel_rfl) (by exact fun _ _ _ h => h) (Or.inl ⟨by rfl, ?_⟩) h0 ?_
          rotate_left
          · intro W hW
            go_simp
            all_goals with_reducible rfl
          try simp only [Act.put, List.setIfInBounds_toArray, List.set_cons_zero, List.set_cons_succ]
          refine wpAnyH_take (i := 8) (v := ?_) (by rw [List.getElem?_toArray]; rfl) (by kernel_rfl) (by kernel_rfl) (by kernel_rfl) (by exact fun _ _ _ h => h) (Or.inl ⟨by rfl, ?_⟩) h0 ?_
          rotate_left
          · intro W hW
            have r1 := hW.row HKY.out.len
            go_simp
            all_goals with_reducible rfl
          try simp only [Act.put, List.setIfInBounds_toArray, List.set_cons_zero, List.set_cons_succ]
          refine wpAnyH_take (i := 10) (v := ?_) (by rw [List.getElem?_toArray]; rfl) (by kernel_rfl) (by kernel_rfl) (by kernel_rfl) (by exact fun _ _ _ h => h) (Or.inl ⟨by rfl, ?_⟩) h0 ?_
          rotate_left
          · intro W hW
            go_simp
            all_goals with_reducible rfl
          try simp only [Act.put, List.setIfInBounds_toArray, List.set_cons_zero, List.set_cons_succ]
          refine wpAnyH_take (i := 11) (v := ?_) (by rw [List.getElem?_toArray]; rfl) (by kernel_rfl) (by kernel_rfl) (by kernel_rfl) (by exact fun _ _ _ h => h) (Or.inl ⟨by rfl, ?_⟩) h0 ?_
          rotate_left
          · intro W hW
            go_simp
            all_goals with_reducible rfl
          try simp only [Act.put, List.setIfInBounds_toArray, List.set_cons_zero, List.set_cons_succ]
          refine wpAnyH_ready (rs := [7]) (by kernel_rfl) (by simp) ?_
          refine AllReadyH.cons (by rw [List.getElem?_toArray]; rfl) (fun K hK => ?_) AllReadyH.nil
          rw [if_pos (by rfl)]
          have c1 : w7.cell? ⟨b, 33, none⟩ = some (.pointer (some ⟨xa, 0, none⟩)) := by
            have := (N7.out.facts OK4.out).2.1
            rw [this, NLO.out]
          go_wp2_with fail
          clear c1
          have hS : HashAt w7 kb key := h0
          refine hK.out _ _ hS (fun h0 => ?_)
          clear hK K hS
          try simp only [Act.put, List.setIfInBounds_toArray, List.set_cons_zero, List.set_cons_succ]
          refine wpAnyH_ready (rs := [9]) (by kernel_rfl) (by simp) ?_
          refine AllReadyH.cons (by rw [List.getElem?_toArray]; rfl) (fun K hK => ?_) AllReadyH.nil
          rw [if_pos (by rfl)]
          go_wp2_with fail
          refine (IL.out _ V V' xa bl1 TL.out N1.out V1.out).mono ?_
          rintro e w8 ⟨b', bl', rfl, c8, tl8, nd8, in8⟩
          have hS : HashAt w8 kb key := h0.chg' c8 (by have := KNB.out; exact fun h => this (by rw [HBL.out]; simp [h]))
          have N8 := Lib.hid (N7.out.chg c8 (by exact fun h => NB.out (by simp [h])))
          have TO8 := Lib.hid (TT.out.chg c8 (fun g h1 h2 => D12.out g h2 h1))
          have C8 := Lib.hid (C7.out.trans c8 (fun g hg _ => by rw [HBL.out]; simp [hg]))
          have TM8 := Lib.hid tl8
          have ND8 := Lib.hid nd8
          have IN8 := Lib.hid in8
          have SZ8 := Lib.hid (show w7.heap.size ≤ w8.heap.size from c8.size)
          clear c8 tl8 nd8 in8
          go_wp2_with fail
          refine hK.out _ _ hS (fun h0 => ?_)
          clear hK K hS
          try simp only [Act.put, List.setIfInBounds_toArray, List.set_cons_zero, List.set_cons_succ]
          refine wpAnyH_take (i := 12) (v := ?_) (by rw [List.getElem?_toArray]; rfl) (by kernel_rfl) (by kernel_rfl) (by kernel_rfl) (by exact fun _ _ _ h => h) (Or.inl ⟨by rfl, ?_⟩) h0 ?_
          rotate_left
          · intro W hW
            go_simp
            all_goals with_reducible rfl
          try simp only [Act.put, List.setIfInBounds_toArray, List.set_cons_zero, List.set_cons_succ]
          refine wpAnyH_ready (rs := [13]) (by kernel_rfl) (by simp) ?_
          refine AllReadyH.cons (by rw [List.getElem?_toArray]; rfl) (fun K hK => ?_) AllReadyH.nil
          rw [if_pos (by rfl)]
          have N9 := NdB.setLo N8.out OK4.out (some ⟨b', 0, none⟩)
          have f33 := (N8.out.facts OK4.out).2.1
          have u33 := N8.out.free 33
          have C9 := (Chg.refl w8 [b]).setCell (p := ⟨b, 33, none⟩) (.inl (by simp)) (.pointer (some ⟨b', 0, none⟩))
          have hS : HashAt (w8.setCell ⟨b, 33, none⟩ (.pointer (some ⟨b', 0, none⟩))) kb key := HashAt.chg' h0 C9 (by have := KNB.out; intro h; obtain rfl := List.mem_singleton.1 h; exact this BIN.out)
          have N9 := Lib.hid N9
          have C9 := Lib.hid C9
          go_wp2_with fail
          clear f33 u33
          generalize w8.setCell ⟨b, 33, none⟩ (.pointer (some ⟨b', 0, none⟩)) = w9 at *
          refine hK.out _ _ hS (fun h0 => ?_)
          clear hK K hS
          try simp only [Act.put, List.setIfInBounds_toArray, List.set_cons_zero, List.set_cons_succ]
          refine wpAnyH_done (by kernel_rfl) ?_ _
          clear h0
          go_wp2_with fail
          go_ret
          have hbl1 : b < w.heap.size := TLT.out b BIN.out
          have h7 : w.heap.size ≤ w7.heap.size := C7.out.size
          have nbm : b ∉ bl' := fun h => by
            rcases IN8.out b h with h | h
            · exact NB.out (by simp [h])
            · omega
          have nbo : b ∉ bl2 := fun h => NB.out (by simp [h])
          have dis : ∀ g ∈ bl', g ∉ bl2 := fun g h1 h2 => by
            rcases IN8.out g h1 with h | h
            · exact D12.out g h h2
            · have := TLT.out g (by rw [HBL.out]; simp [h2])
              omega
          have TM9 := TrA.chg C9.out TM8.out (fun g h1 h2 => nbm (by obtain rfl := List.mem_singleton.1 h2; exact h1))
          have TO9 := TrA.congr (TrA.chg C9.out TO8.out (fun g h1 h2 => nbo (by obtain rfl := List.mem_singleton.1 h2; exact h1))) V2.out
          have NN : NdA w9 V' (.nd k f (l.ins key) r) b (some ⟨b', 0, none⟩) (some ⟨ya, 0, none⟩) := ⟨_, N9.out, ⟨OK4.out.key, OK4.out.own, OK4.out.high⟩, NKY.out, NFK.out, rfl, NHI.out, (fun h => by have := NTD.out; rw [show _ = true from h] at this; cases this), (fun h => by have := NKN.out; rw [show _ = true from h] at this; cases this)⟩
          refine ⟨b, b :: (bl' ++ bl2), rfl, C8.out.trans C9.out (fun g hg _ => by obtain rfl := List.mem_singleton.1 hg; exact BIN.out), ?_, ?_, ?_⟩
          · rw [HI.out]
            exact ⟨b', ya, bl', bl2, rfl, NN, TM9, TO9⟩
          · rw [List.nodup_cons]
            refine ⟨by simp [nbm, nbo], ?_⟩
            rw [List.nodup_append]
            exact ⟨ND8.out, N2.out, fun x hx y hy e => dis x hx (by rw [e]; exact hy)⟩
          · intro g hg
            simp at hg
            rcases hg with rfl | hg | hg
            · exact .inl BIN.out
            · rcases IN8.out g hg with h | h
              · exact .inl (by rw [HBL.out]; simp [h])
              · exact .inr (by omega)
            · exact .inl (by rw [HBL.out]; simp [hg])
              
              
      · as_aux_lemma =>
          have HI : Hid ((Tr.nd k f l r).ins key = .nd k f l (r.ins key)) := HIA.out.trans (by rw [if_neg (by rw [hz]; decide)])
          have b67 : Below w6.heap.size w6 w6.drew := (Below.refl _ _).drew
          have hS7 := HashAt.on K6.out b67
          have N7 := Lib.hid (NdB.on N6.out b67)
          have TL := Lib.hid (TL6.out.on b67)
          have TT := Lib.hid (TT6.out.on b67)
          have C7 := Lib.hid (C6.out.trans (Chg.below b67 (Nat.le_refl _) []) (by simp))
          clear b67 TL6 TT6 N6 C6 K6
          rw [hz]
          clear hz
          go_wp2_with fail
          refine wp_region_held_drew (S := fun W => HashAt W kb key) (by kernel_rfl) (hS7) (fun h0 => ?_)
          generalize w6.drew = w7 at *
          refine wpAnyH_take (i := 0) (v := ?_) (by rw [List.getElem?_toArray]; rfl) (by kernel_rfl) (by kernel_rfl) (by kernel_rfl) (by exact fun _ _ _ h => h) (Or.inl ⟨by rfl, ?_⟩) h0 ?_
          rotate_left
          · intro W hW
            go_simp
            all_goals with_reducible rfl
          try simp only [Act.put, List.setIfInBounds_toArray, List.set_cons_zero, List.set_cons_succ]
          refine wpAnyH_take (i := 1) (v := ?_) (by rw [List.getElem?_toArray]; rfl) (by kernel_rfl) (by kernel_rfl) (by kernel_rfl) (by exact fun _ _ _ h => h) (Or.inl ⟨by rfl, ?_⟩) h0 ?_
          rotate_left
          · intro W hW
            go_simp
            all_goals with_reducible rfl
          try simp only [Act.put, List.setIfInBounds_toArray, List.set_cons_zero, List.set_cons_succ]
          refine wpAnyH_take (i := 2) (v := ?_) (by rw [List.getElem?_toArray]; rfl) (by kernel_rfl) (by kernel_rfl) (by kernel_rfl) (by exact fun _ _ _ h => h) (Or.inl ⟨by rfl, ?_⟩) h0 ?_
          rotate_left
          · intro W hW
            go_simp
            all_goals with_reducible rfl
          try simp only [Act.put, List.setIfInBounds_toArray, List.set_cons_zero, List.set_cons_succ]
          refine wpAnyH_take (i := 3) (v := ?_) (by rw [List.getElem?_toArray]; rfl) (by kernel_rfl) (by kernel_rfl) (by kernel_rfl) (by exact fun _ _ _ h => h) (Or.inl ⟨by rfl, ?_⟩) h0 ?_
          rotate_left
          · intro W hW
            go_simp
            all_goals with_reducible rfl
          try simp only [Act.put, List.setIfInBounds_toArray, List.set_cons_zero, List.set_cons_succ]
          refine wpAnyH_take (i := 4) (v := ?_) (by rw [List.getElem?_toArray]; rfl) (by kernel_rfl) (by kernel_rfl) (by kernel_rfl) (by exact fun _ _ _ h => h) (Or.inl ⟨by rfl, ?_⟩) h0 ?_
          rotate_left
          · intro W hW
            go_simp
            all_goals with_reducible rfl
          try simp only [Act.put, List.setIfInBounds_toArray, List.set_cons_zero, List.set_cons_succ]
          refine wpAnyH_take (i := 5) (v := ?_) (by rw [List.getElem?_toArray]; rfl) (by kernel_rfl) (by kernel_rfl) (by kernel_rfl) (by exact fun _ _ _ h => h) (Or.inl ⟨by rfl, ?_⟩) h0 ?_
          rotate_left
          · intro W hW
            go_simp
            all_goals with_reducible rfl
          try simp only [Act.put, List.setIfInBounds_toArray, List.set_cons_zero, List.set_cons_succ]
          refine wpAnyH_take (i := 6) (v := ?_) (by rw [List.getElem?_toArray]; rfl) (by kernel_rfl) (by kernel_rfl) (by kernel_rfl) (by exact fun _ _ _ h => h) (Or.inl ⟨by rfl, ?_⟩) h0 ?_
          rotate_left
          · intro W hW
            go_simp
            all_goals with_reducible rfl
          try simp only [Act.put, List.setIfInBounds_toArray, List.set_cons_zero, List.set_cons_succ]
          refine wpAnyH_take (i := 8) (v := ?_) (by rw [List.getElem?_toArray]; rfl) (by kernel_rfl) (by kernel_rfl) (by kernel_rfl) (by exact fun _ _ _ h => h) (Or.inl ⟨by rfl, ?_⟩) h0 ?_
          rotate_left
          · intro W hW
            have r1 := hW.row HKY.out.len
            go_simp
            all_goals with_reducible rfl
          try simp only [Act.put, List.setIfInBounds_toArray, List.set_cons_zero, List.set_cons_succ]
          refine wpAnyH_take (i := 10) (v := ?_) (by rw [List.getElem?_toArray]; rfl) (by kernel_rfl) (by kernel_rfl) (by kernel_rfl) (by exact fun _ _ _ h => h) (Or.inl ⟨by rfl, ?_⟩) h0 ?_
          rotate_left
          · intro W hW
            go_simp
            all_goals with_reducible rfl
          try simp only [Act.put, List.setIfInBounds_toArray, List.set_cons_zero, List.set_cons_succ]
          refine wpAnyH_take (i := 11) (v := ?_) (by rw [List.getElem?_toArray]; rfl) (by kernel_rfl) (by kernel_rfl) (by kernel_rfl) (by exact fun _ _ _ h => h) (Or.inl ⟨by rfl, ?_⟩) h0 ?_
          rotate_left
          · intro W hW
            go_simp
            all_goals with_reducible rfl
          try simp only [Act.put, List.setIfInBounds_toArray, List.set_cons_zero, List.set_cons_succ]
          refine wpAnyH_ready (rs := [7]) (by kernel_rfl) (by simp) ?_
          refine AllReadyH.cons (by rw [List.getElem?_toArray]; rfl) (fun K hK => ?_) AllReadyH.nil
          rw [if_pos (by rfl)]
          have c1 : w7.cell? ⟨b, 34, none⟩ = some (.pointer (some ⟨ya, 0, none⟩)) := by
            have := (N7.out.facts OK4.out).2.2.1
            rw [this, NHI.out]
          go_wp2_with fail
          clear c1
          have hS : HashAt w7 kb key := h0
          refine hK.out _ _ hS (fun h0 => ?_)
          clear hK K hS
          try simp only [Act.put, List.setIfInBounds_toArray, List.set_cons_zero, List.set_cons_succ]
          refine wpAnyH_ready (rs := [9]) (by kernel_rfl) (by simp) ?_
          refine AllReadyH.cons (by rw [List.getElem?_toArray]; rfl) (fun K hK => ?_) AllReadyH.nil
          rw [if_pos (by rfl)]
          go_wp2_with fail
          refine (IR.out _ V V' ya bl2 TT.out N2.out V2.out).mono ?_
          rintro e w8 ⟨b', bl', rfl, c8, tl8, nd8, in8⟩
          have hS : HashAt w8 kb key := h0.chg' c8 (by have := KNB.out; exact fun h => this (by rw [HBL.out]; simp [h]))
          have N8 := Lib.hid (N7.out.chg c8 (by exact fun h => NB.out (by simp [h])))
          have TO8 := Lib.hid (TL.out.chg c8 (fun g h1 h2 => D12.out g h1 h2))
          have C8 := Lib.hid (C7.out.trans c8 (fun g hg _ => by rw [HBL.out]; simp [hg]))
          have TM8 := Lib.hid tl8
          have ND8 := Lib.hid nd8
          have IN8 := Lib.hid in8
          have SZ8 := Lib.hid (show w7.heap.size ≤ w8.heap.size from c8.size)
          clear c8 tl8 nd8 in8
          go_wp2_with fail
          refine hK.out _ _ hS (fun h0 => ?_)
          clear hK K hS
          try simp only [Act.put, List.setIfInBounds_toArray, List.set_cons_zero, List.set_cons_succ]
          refine wpAnyH_take (i := 12) (v := ?_) (by rw [List.getElem?_toArray]; rfl) (by kernel_rfl) (by kernel_rfl) (by kernel_rfl) (by exact fun _ _ _ h => h) (Or.inl ⟨by rfl, ?_⟩) h0 ?_
          rotate_left
          · intro W hW
            go_simp
            all_goals with_reducible rfl
          try simp only [Act.put, List.setIfInBounds_toArray, List.set_cons_zero, List.set_cons_succ]
          refine wpAnyH_ready (rs := [13]) (by kernel_rfl) (by simp) ?_
          refine AllReadyH.cons (by rw [List.getElem?_toArray]; rfl) (fun K hK => ?_) AllReadyH.nil
          rw [if_pos (by rfl)]
          have N9 := NdB.setHi N8.out OK4.out (some ⟨b', 0, none⟩)
          have f33 := (N8.out.facts OK4.out).2.2.1
          have u33 := N8.out.free 34
          have C9 := (Chg.refl w8 [b]).setCell (p := ⟨b, 34, none⟩) (.inl (by simp)) (.pointer (some ⟨b', 0, none⟩))
          have hS : HashAt (w8.setCell ⟨b, 34, none⟩ (.pointer (some ⟨b', 0, none⟩))) kb key := HashAt.chg' h0 C9 (by have := KNB.out; intro h; obtain rfl := List.mem_singleton.1 h; exact this BIN.out)
          have N9 := Lib.hid N9
          have C9 := Lib.hid C9
          go_wp2_with fail
          clear f33 u33
          generalize w8.setCell ⟨b, 34, none⟩ (.pointer (some ⟨b', 0, none⟩)) = w9 at *
          refine hK.out _ _ hS (fun h0 => ?_)
          clear hK K hS
          try simp only [Act.put, List.setIfInBounds_toArray, List.set_cons_zero, List.set_cons_succ]
          refine wpAnyH_done (by kernel_rfl) ?_ _
          clear h0
          go_wp2_with fail
          go_ret
          have hbl1 : b < w.heap.size := TLT.out b BIN.out
          have h7 : w.heap.size ≤ w7.heap.size := C7.out.size
          have nbm : b ∉ bl' := fun h => by
            rcases IN8.out b h with h | h
            · exact NB.out (by simp [h])
            · omega
          have nbo : b ∉ bl1 := fun h => NB.out (by simp [h])
          have dis : ∀ g ∈ bl', g ∉ bl1 := fun g h1 h2 => by
            rcases IN8.out g h1 with h | h
            · exact D12.out g h2 h
            · have := TLT.out g (by rw [HBL.out]; simp [h2])
              omega
          have TM9 := TrA.chg C9.out TM8.out (fun g h1 h2 => nbm (by obtain rfl := List.mem_singleton.1 h2; exact h1))
          have TO9 := TrA.congr (TrA.chg C9.out TO8.out (fun g h1 h2 => nbo (by obtain rfl := List.mem_singleton.1 h2; exact h1))) V1.out
          have NN : NdA w9 V' (.nd k f l (r.ins key)) b (some ⟨xa, 0, none⟩) (some ⟨b', 0, none⟩) := ⟨_, N9.out, ⟨OK4.out.key, OK4.out.own, OK4.out.high⟩, NKY.out, NFK.out, NLO.out, rfl, (fun h => by have := NTD.out; rw [show _ = true from h] at this; cases this), (fun h => by have := NKN.out; rw [show _ = true from h] at this; cases this)⟩
          refine ⟨b, b :: (bl1 ++ bl'), rfl, C8.out.trans C9.out (fun g hg _ => by obtain rfl := List.mem_singleton.1 hg; exact BIN.out), ?_, ?_, ?_⟩
          · rw [HI.out]
            exact ⟨xa, b', bl1, bl', rfl, NN, TO9, TM9⟩
          · rw [List.nodup_cons]
            refine ⟨by simp [nbm, nbo], ?_⟩
            rw [List.nodup_append]
            exact ⟨N1.out, ND8.out, fun x hx y hy e => dis y hy (by rw [← e]; exact hx)⟩
          · intro g hg
            simp at hg
            rcases hg with rfl | hg | hg
            · exact .inl BIN.out
            · exact .inl (by rw [HBL.out]; simp [hg])
              
              
            · rcases IN8.out g hg with h | h
              · exact .inl (by rw [HBL.out]; simp [h])
              · exact .inr (by omega)
end Go.Proofs.YtjlodnecdngdfaaDoor
