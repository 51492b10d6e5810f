/-
  Whether inputs are the document's; whether two rows of inputs are alike.; More blocks: what was known stays; two rows of one's own joined.; What is known of blocks stays when more come.
-/
import Derived.Test.YtonjkhhihiigfaaDv14
import Derived.Test.YtonjkhhihiigfaaDv15
import Derived.Test.YtonjkhhihiigfaaDv17
namespace Go.Proofs.Ytonjkhhihiigfaa
set_option maxRecDepth 100000
open Go.RowKit

/-- Inputs whose data are not too long. -/
def InsOk (I : List Inp) : Prop := ∀ x ∈ I, x.m.data.length ≤ 1000000 ∧ x.t.data.length ≤ 1000000
theorem InsOk.get {I : List Inp} (h : InsOk I) {i : Nat} (hi : i < I.length) : (I.getD i inp0).m.data.length ≤ 1000000 ∧ (I.getD i inp0).t.data.length ≤ 1000000 := h _ (getD_mem hi)
/-- The row of an input, in all worlds to come. -/
theorem RwF.inp {w : World} {F : Fp} {q : Option Addr} {I : List Inp} (h : RwF 24 inp0 PIn w F q I) {i : Nat} (hi : i < I.length) : ∃ b off qm km qt kt, q = some ⟨b, off, none⟩ ∧ (∀ W, Below w.heap.size w W → rowOf W b (off + i * 24) 24 = inRow (I.getD i inp0) qm (I.getD i inp0).m.data.length km qt (I.getD i inp0).t.data.length kt) ∧ (∀ W, Below w.heap.size w W → Rd W (.slice qm (I.getD i inp0).m.data.length km) (I.getD i inp0).m.data) ∧ (∀ W, Below w.heap.size w W → Rd W (.slice qt (I.getD i inp0).t.data.length kt) (I.getD i inp0).t.data) := by
  obtain ⟨b, off, r, hq, _, hr, hrow, qm, km, qt, kt, rfl, h1, h2⟩ := h.get hi
  have hb := rowOf_lt (by decide) hr hrow
  exact ⟨b, off, qm, km, qt, kt, hq, fun W hW => by rw [rowOf_agr (hW.block b hb)]; exact hrow, fun W hW => h1.rd.on hW, fun W hW => h2.rd.on hW⟩

set_option maxHeartbeats 4000000 in
theorem Same14_any {w : World} {F G : Fp} {I : List Inp} {q q' : Option Addr} {c c' : Nat} (hr : RwF 24 inp0 PIn w F q I) (hr' : RwF 24 inp0 PIn w G q' I) (ok : InsOk I) (hl : I.length ≤ 1000000) :
    Calls Try.prog 17 #[.slice q I.length c, .slice q' I.length c'] w fun e w' => e = .returned (.bool true) ∧ Below w.heap.size w w' := by
  have HA := Lib.hid hr
  have HB := Lib.hid hr'
  have OK := Lib.hid ok
  have B0 : Hid (Below w.heap.size w w) := Below.refl _ _
  have hne : ((I.length : Int) != (I.length : Int)) = false := by simp
  clear hr hr' ok
  go_enter Try.func17, Try.ntmps17
  go_wp2_with fail
  clear hne
  go_loopw [5] (fun iv wr => ∃ (i : Nat), iv = .int .i64 (i : Int) ∧ i ≤ I.length ∧ Hid (Below w.heap.size w wr)) (fun iv _ => I.length - (intOf iv).toNat)
  case atStart => exact ⟨0, rfl, by omega, B0⟩
  case round =>
    clear B0
    obtain ⟨i, rfl, hil, hB⟩ := hrel
    by_cases hlt : i < I.length
    · obtain ⟨b, off, qm, km, qt, kt, hq, R1, M1, T1⟩ := HA.out.inp hlt
      obtain ⟨b2, off2, qm2, km2, qt2, kt2, hq2, R2, M2, T2⟩ := HB.out.inp hlt
      subst hq hq2
      obtain ⟨lm, lt⟩ := OK.out.get hlt
      have HLT := Lib.hid hlt
      obtain ⟨x, hx⟩ : ∃ x, I.getD i inp0 = x := ⟨_, rfl⟩
      rw [hx] at R1 M1 T1 R2 M2 T2 lm lt
      have R1 := Lib.hid R1
      have R2 := Lib.hid R2
      have M1 := Lib.hid M1
      have M2 := Lib.hid M2
      have T1 := Lib.hid T1
      have T2 := Lib.hid T2
      have LM := Lib.hid lm
      have LT := Lib.hid lt
      have h24 := inRow_len x qm x.m.data.length km qt x.t.data.length kt
      have h24' := inRow_len x qm2 x.m.data.length km2 qt2 x.t.data.length kt2
      clear hx lm lt
      go_wp2_with fail
      have S0 : Below w.heap.size w wr.drew := hB.out.drew
      clear hB
      refine wp_region_held_drew (S := fun W => Below w.heap.size w W) (by kernel_rfl) (S0) (fun h0 => ?_)
      generalize wr.drew = w1 at *
      refine wpAnyH_take (i := 0) (v := ?_) (by rw [List.getElem?_toArray]; rfl) (by kernel_rfl) (by kernel_rfl) (by kernel_rfl) (by exact fun _ _ _ h => h) (Or.inl ⟨by rfl, ?_⟩) h0 ?_
      rotate_left
      · intro W hW
        go_simp
        all_goals with_reducible rfl
      try simp only [Act.put, List.setIfInBounds_toArray, List.set_cons_zero, List.set_cons_succ]
      refine wpAnyH_take (i := 1) (v := ?_) (by rw [List.getElem?_toArray]; rfl) (by kernel_rfl) (by kernel_rfl) (by kernel_rfl) (by exact fun _ _ _ h => h) (Or.inl ⟨by rfl, ?_⟩) h0 ?_
      rotate_left
      · intro W hW
        go_simp
        all_goals with_reducible rfl
      try simp only [Act.put, List.setIfInBounds_toArray, List.set_cons_zero, List.set_cons_succ]
      refine wpAnyH_take (i := 2) (v := ?_) (by rw [List.getElem?_toArray]; rfl) (by kernel_rfl) (by kernel_rfl) (by kernel_rfl) (by exact fun _ _ _ h => h) (Or.inl ⟨by rfl, ?_⟩) h0 ?_
      rotate_left
      · intro W hW
        go_simp
        all_goals with_reducible rfl
      try simp only [Act.put, List.setIfInBounds_toArray, List.set_cons_zero, List.set_cons_succ]
      refine wpAnyH_take (i := 3) (v := ?_) (by rw [List.getElem?_toArray]; rfl) (by kernel_rfl) (by kernel_rfl) (by kernel_rfl) (by exact fun _ _ _ h => h) (Or.inl ⟨by rfl, ?_⟩) h0 ?_
      rotate_left
      · intro W hW
        have hrw := R1.out W hW
        go_simp
        all_goals with_reducible rfl
      try simp only [Act.put, List.setIfInBounds_toArray, List.set_cons_zero, List.set_cons_succ]
      refine wpAnyH_take (i := 5) (v := ?_) (by rw [List.getElem?_toArray]; rfl) (by kernel_rfl) (by kernel_rfl) (by kernel_rfl) (by exact fun _ _ _ h => h) (Or.inl ⟨by rfl, ?_⟩) h0 ?_
      rotate_left
      · intro W hW
        go_simp
        all_goals with_reducible rfl
      try simp only [Act.put, List.setIfInBounds_toArray, List.set_cons_zero, List.set_cons_succ]
      refine wpAnyH_take (i := 6) (v := ?_) (by rw [List.getElem?_toArray]; rfl) (by kernel_rfl) (by kernel_rfl) (by kernel_rfl) (by exact fun _ _ _ h => h) (Or.inl ⟨by rfl, ?_⟩) h0 ?_
      rotate_left
      · intro W hW
        go_simp
        all_goals with_reducible rfl
      try simp only [Act.put, List.setIfInBounds_toArray, List.set_cons_zero, List.set_cons_succ]
      refine wpAnyH_take (i := 7) (v := ?_) (by rw [List.getElem?_toArray]; rfl) (by kernel_rfl) (by kernel_rfl) (by kernel_rfl) (by exact fun _ _ _ h => h) (Or.inl ⟨by rfl, ?_⟩) h0 ?_
      rotate_left
      · intro W hW
        go_simp
        all_goals with_reducible rfl
      try simp only [Act.put, List.setIfInBounds_toArray, List.set_cons_zero, List.set_cons_succ]
      refine wpAnyH_take (i := 8) (v := ?_) (by rw [List.getElem?_toArray]; rfl) (by kernel_rfl) (by kernel_rfl) (by kernel_rfl) (by exact fun _ _ _ h => h) (Or.inl ⟨by rfl, ?_⟩) h0 ?_
      rotate_left
      · intro W hW
        have hrw := R2.out W hW
        go_simp
        all_goals with_reducible rfl
      try simp only [Act.put, List.setIfInBounds_toArray, List.set_cons_zero, List.set_cons_succ]
      refine wpAnyH_ready (rs := [4]) (by kernel_rfl) (by simp) ?_
      refine AllReadyH.cons (by rw [List.getElem?_toArray]; rfl) (fun K hK => ?_) AllReadyH.nil
      rw [if_pos (by rfl)]
      go_wp2_with fail
      refine (Ref9_any (M1.out _ h0) (by have := LM.out; omega) (T1.out _ h0) (by have := LT.out; omega)).mono ?_
      rintro e w2 ⟨q2, k2, q3, k3, rfl, hm2, ht2, hb2⟩
      have B2 : Below w.heap.size w w2 := Below.trans h0 (hb2.mono (Below.size h0))
      have M3 := Lib.hid hm2
      have T3 := Lib.hid ht2
      clear hm2 ht2 hb2
      go_wp2_with fail
      refine hK.out _ _ (B2) (fun h1x => ?_)
      clear hK K
      try simp only [Act.put, List.setIfInBounds_toArray, List.set_cons_zero, List.set_cons_succ]
      clear B2
      refine wpAnyH_ready (rs := [9]) (by kernel_rfl) (by simp) ?_
      refine AllReadyH.cons (by rw [List.getElem?_toArray]; rfl) (fun K hK => ?_) AllReadyH.nil
      rw [if_pos (by rfl)]
      go_wp2_with fail
      refine (Same9_any M3.out T3.out (M2.out _ h1x) (T2.out _ h1x)).mono ?_
      rintro e w3 ⟨rfl, hb3⟩
      have B3 : Below w.heap.size w w3 := Below.trans h1x (hb3.mono (Below.size h1x))
      clear hb3 M3 T3
      go_wp2_with fail
      refine hK.out _ _ (B3) (fun h2x => ?_)
      clear hK K
      try simp only [Act.put, List.setIfInBounds_toArray, List.set_cons_zero, List.set_cons_succ]
      clear B3
      refine wpAnyH_take (i := 10) (v := ?_) (by rw [List.getElem?_toArray]; rfl) (by kernel_rfl) (by kernel_rfl) (by kernel_rfl) (by exact fun _ _ _ h => h) (Or.inl ⟨by rfl, ?_⟩) h2x ?_
      rotate_left
      · intro W hW
        go_simp
        all_goals with_reducible rfl
      try simp only [Act.put, List.setIfInBounds_toArray, List.set_cons_zero, List.set_cons_succ]
      refine wpAnyH_done (by kernel_rfl) ?_ _
      have B9 := Lib.hid h2x
      clear h0 h1x h2x
      go_wp2_with fail
      go_roundw
      case rel => exact ⟨i + 1, by go_num, by have := HLT.out; omega, B9⟩
      case measure => have := HLT.out; simp [intOf]; omega
    · go_wp2_with fail
      go_ret
      exact ⟨rfl, hB.out⟩
set_option maxHeartbeats 8000000 in
theorem RefF_any {w : World} {x : Inp} {qm qt : Option Addr} {km kt : Nat} (hr : Rd w (.slice qm x.m.data.length km) x.m.data) (hm : x.m.data.length ≤ 140737488355328) (ht : Rd w (.slice qt x.t.data.length kt) x.t.data) (hn : x.t.data.length ≤ 140737488355328) :
    Calls Try.prog 32 #[.agg (inRow x qm x.m.data.length km qt x.t.data.length kt).toArray] w fun e w' => ∃ qm' km' qt' kt', e = .returned (.agg (inRow x qm' x.m.data.length km' qt' x.t.data.length kt').toArray) ∧ RdF w' (fun g => w.heap.size ≤ g) (.slice qm' x.m.data.length km') x.m.data ∧ RdF w' (fun g => w.heap.size ≤ g) (.slice qt' x.t.data.length kt') x.t.data ∧ Below w.heap.size w w' := by
  have HM : Hid (∀ W, Below w.heap.size w W → Rd W (.slice qm x.m.data.length km) x.m.data) := fun W hb => hr.on hb
  have HT : Hid (∀ W, Below w.heap.size w W → Rd W (.slice qt x.t.data.length kt) x.t.data) := fun W hb => ht.on hb
  have b1 : Below w.heap.size w (w.alloc (.cells (inRow x qm x.m.data.length km qt x.t.data.length kt).toArray 56)) := (Below.refl _ _).alloc (Nat.le_refl _) _
  have b2 : Below (w.alloc (.cells (inRow x qm x.m.data.length km qt x.t.data.length kt).toArray 56)).heap.size (w.alloc (.cells (inRow x qm x.m.data.length km qt x.t.data.length kt).toArray 56)) ((w.alloc (.cells (inRow x qm x.m.data.length km qt x.t.data.length kt).toArray 56)).alloc (.cells (inRow inp0 none 0 0 none 0 0).toArray 86)) := (Below.refl _ _).alloc (Nat.le_refl _) _
  have hz : (w.alloc (.cells (inRow x qm x.m.data.length km qt x.t.data.length kt).toArray 56)).heap.size = w.heap.size + 1 := by simp
  have K0 := Lib.hid ((InAt.new w 56 x qm x.m.data.length km qt x.t.data.length kt).on b2)
  have R0 := InAt.new (w.alloc (.cells (inRow x qm x.m.data.length km qt x.t.data.length kt).toArray 56)) 86 inp0 none 0 0 none 0 0
  rw [hz] at R0
  have R0 := Lib.hid R0
  have B0 := Lib.hid (b1.trans (b2.mono b1.size))
  have SZ : Hid (((w.alloc (.cells (inRow x qm x.m.data.length km qt x.t.data.length kt).toArray 56)).alloc (.cells (inRow inp0 none 0 0 none 0 0).toArray 86)).heap.size = w.heap.size + 2) := by show _ = _; simp
  have RM := Lib.hid (fun (W : World) (q1 q2 : Option Addr) (k1 k2 : Nat) => Try.run_inr W x q1 x.m.data.length k1 q2 x.t.data.length k2)
  have h24 := inRow_len x qm x.m.data.length km qt x.t.data.length kt
  clear hr ht b1 b2 hz
  go_enter Try.func32, Try.ntmps32
  go_wp2_with fail
  generalize ((w.alloc (.cells (inRow x qm x.m.data.length km qt x.t.data.length kt).toArray 56)).alloc (.cells (inRow inp0 none 0 0 none 0 0).toArray 86)) = wa at *
  have B1 : Hid (Below w.heap.size w wa.drew) := Lib.hid B0.out.drew
  have R1 := Lib.hid (R0.out.on (Below.refl _ _).drew)
  have SZ1 : Hid (wa.drew.heap.size = w.heap.size + 2) := SZ.out
  have K1 : InAt wa.drew w.heap.size 56 x qm x.m.data.length km qt x.t.data.length kt := K0.out.on (Below.refl _ _).drew
  clear K0 R0 B0 SZ
  refine wp_region_held_drew (S := fun W => InAt W w.heap.size 56 x qm x.m.data.length km qt x.t.data.length kt) (by kernel_rfl) (K1) (fun h0 => ?_)
  generalize wa.drew = w1 at *
  refine wpAnyH_take (i := 0) (v := ?_) (by rw [List.getElem?_toArray]; rfl) (by kernel_rfl) (by kernel_rfl) (by kernel_rfl) (by exact fun _ _ _ h => h) (Or.inl ⟨by rfl, ?_⟩) h0 ?_
  rotate_left
  · intro W hW
    obtain ⟨c0, c1, c2, c3, c4⟩ := hW.cells
    have rm := hW.rowm
    have rt := hW.rowt
    go_simp
    all_goals with_reducible rfl
  try simp only [Act.put, List.setIfInBounds_toArray, List.set_cons_zero, List.set_cons_succ]
  refine wpAnyH_take (i := 1) (v := ?_) (by rw [List.getElem?_toArray]; rfl) (by kernel_rfl) (by kernel_rfl) (by kernel_rfl) (by exact fun _ _ _ h => h) (Or.inl ⟨by rfl, ?_⟩) h0 ?_
  rotate_left
  · intro W hW
    obtain ⟨c0, c1, c2, c3, c4⟩ := hW.cells
    have rm := hW.rowm
    have rt := hW.rowt
    go_simp
    all_goals with_reducible rfl
  try simp only [Act.put, List.setIfInBounds_toArray, List.set_cons_zero, List.set_cons_succ]
  refine wpAnyH_take (i := 2) (v := ?_) (by rw [List.getElem?_toArray]; rfl) (by kernel_rfl) (by kernel_rfl) (by kernel_rfl) (by exact fun _ _ _ h => h) (Or.inl ⟨by rfl, ?_⟩) h0 ?_
  rotate_left
  · intro W hW
    obtain ⟨c0, c1, c2, c3, c4⟩ := hW.cells
    have rm := hW.rowm
    have rt := hW.rowt
    go_simp
    all_goals with_reducible rfl
  try simp only [Act.put, List.setIfInBounds_toArray, List.set_cons_zero, List.set_cons_succ]
  refine wpAnyH_take (i := 3) (v := ?_) (by rw [List.getElem?_toArray]; rfl) (by kernel_rfl) (by kernel_rfl) (by kernel_rfl) (by exact fun _ _ _ h => h) (Or.inl ⟨by rfl, ?_⟩) h0 ?_
  rotate_left
  · intro W hW
    obtain ⟨c0, c1, c2, c3, c4⟩ := hW.cells
    have rm := hW.rowm
    have rt := hW.rowt
    go_simp
    all_goals with_reducible rfl
  try simp only [Act.put, List.setIfInBounds_toArray, List.set_cons_zero, List.set_cons_succ]
  refine wpAnyH_take (i := 4) (v := ?_) (by rw [List.getElem?_toArray]; rfl) (by kernel_rfl) (by kernel_rfl) (by kernel_rfl) (by exact fun _ _ _ h => h) (Or.inl ⟨by rfl, ?_⟩) h0 ?_
  rotate_left
  · intro W hW
    obtain ⟨c0, c1, c2, c3, c4⟩ := hW.cells
    have rm := hW.rowm
    have rt := hW.rowt
    go_simp
    all_goals with_reducible rfl
  try simp only [Act.put, List.setIfInBounds_toArray, List.set_cons_zero, List.set_cons_succ]
  refine wpAnyH_take (i := 5) (v := ?_) (by rw [List.getElem?_toArray]; rfl) (by kernel_rfl) (by kernel_rfl) (by kernel_rfl) (by exact fun _ _ _ h => h) (Or.inl ⟨by rfl, ?_⟩) h0 ?_
  rotate_left
  · intro W hW
    obtain ⟨c0, c1, c2, c3, c4⟩ := hW.cells
    have rm := hW.rowm
    have rt := hW.rowt
    go_simp
    all_goals with_reducible rfl
  try simp only [Act.put, List.setIfInBounds_toArray, List.set_cons_zero, List.set_cons_succ]
  refine wpAnyH_take (i := 7) (v := ?_) (by rw [List.getElem?_toArray]; rfl) (by kernel_rfl) (by kernel_rfl) (by kernel_rfl) (by exact fun _ _ _ h => h) (Or.inl ⟨by rfl, ?_⟩) h0 ?_
  rotate_left
  · intro W hW
    obtain ⟨c0, c1, c2, c3, c4⟩ := hW.cells
    have rm := hW.rowm
    have rt := hW.rowt
    go_simp
    all_goals with_reducible rfl
  try simp only [Act.put, List.setIfInBounds_toArray, List.set_cons_zero, List.set_cons_succ]
  refine wpAnyH_take (i := 8) (v := ?_) (by rw [List.getElem?_toArray]; rfl) (by kernel_rfl) (by kernel_rfl) (by kernel_rfl) (by exact fun _ _ _ h => h) (Or.inl ⟨by rfl, ?_⟩) h0 ?_
  rotate_left
  · intro W hW
    obtain ⟨c0, c1, c2, c3, c4⟩ := hW.cells
    have rm := hW.rowm
    have rt := hW.rowt
    go_simp
    all_goals with_reducible rfl
  try simp only [Act.put, List.setIfInBounds_toArray, List.set_cons_zero, List.set_cons_succ]
  refine wpAnyH_ready (rs := [6]) (by kernel_rfl) (by simp) ?_
  refine AllReadyH.cons (by rw [List.getElem?_toArray]; rfl) (fun K hK => ?_) AllReadyH.nil
  rw [if_pos (by rfl)]
  go_wp2_with fail
  refine (RefMessage_any (HM.out _ B1.out) hm).mono ?_
  rintro e w2 ⟨q2, k2, rfl, hs⟩
  have K2 := h0.on hs.below
  have R2 := Lib.hid (R1.out.on hs.below)
  have M2 := Lib.hid hs.rd
  have F2 : Hid (∀ g, (Value.slice q2 x.m.data.length k2).ownBlock = some g → w1.heap.size ≤ g) := hs.fresh
  have B2 := Lib.hid (B1.out.trans (hs.below.mono B1.out.size))
  have Z2 : Hid (w1.heap.size ≤ w2.heap.size) := hs.below.size
  clear hs R1 B1
  go_wp2_with fail
  refine hK.out _ _ (K2) (fun h2 => ?_)
  clear hK K
  try simp only [Act.put, List.setIfInBounds_toArray, List.set_cons_zero, List.set_cons_succ]
  clear K2
  refine wpAnyH_ready (rs := [9]) (by kernel_rfl) (by simp) ?_
  refine AllReadyH.cons (by rw [List.getElem?_toArray]; rfl) (fun K hK => ?_) AllReadyH.nil
  rw [if_pos (by rfl)]
  go_wp2_with fail
  refine (RefTx_any (HT.out _ B2.out) hn).mono ?_
  rintro e w3 ⟨q3, k3, rfl, hs⟩
  have K3 := h2.on hs.below
  have R3 := Lib.hid (R2.out.on hs.below)
  have M3 := Lib.hid (M2.out.on hs.below)
  have T3 := Lib.hid hs.rd
  have F3 : Hid (∀ g, (Value.slice q3 x.t.data.length k3).ownBlock = some g → w1.heap.size ≤ g) := fun g hg => Nat.le_trans Z2.out (hs.fresh g hg)
  have B3 := Lib.hid (B2.out.trans (hs.below.mono B2.out.size))
  clear hs R2 B2 M2 Z2
  go_wp2_with fail
  refine hK.out _ _ (K3) (fun h3 => ?_)
  clear hK K
  try simp only [Act.put, List.setIfInBounds_toArray, List.set_cons_zero, List.set_cons_succ]
  clear K3
  have hrm := fun W => RM.out W q2 q3 k2 k3
  refine wpAnyH_take (i := 10) (v := ?_) (by rw [List.getElem?_toArray]; rfl) (by kernel_rfl) (by kernel_rfl) (by kernel_rfl) (by exact fun _ _ _ h => h) (Or.inl ⟨by rfl, ?_⟩) h3 ?_
  rotate_left
  · intro W hW
    have hrm1 := hrm W
    go_simp
    all_goals with_reducible rfl
  try simp only [Act.put, List.setIfInBounds_toArray, List.set_cons_zero, List.set_cons_succ]
  refine wpAnyH_ready (rs := [11]) (by kernel_rfl) (by simp) ?_
  refine AllReadyH.cons (by rw [List.getElem?_toArray]; rfl) (fun K hK => ?_) AllReadyH.nil
  rw [if_pos (by rfl)]
  have th := R3.out.there
  have hput := (R3.out.put x q2 x.m.data.length k2 q3 x.t.data.length k3).row
  have cS : Chg w3 (w3.setCells (w.heap.size + 1) 0 (inRow x q2 x.m.data.length k2 q3 x.t.data.length k3)) [w.heap.size + 1] := chg_setCells _ _ _ (Chg.refl _ _)
  have M4 : Hid (Rd (w3.setCells (w.heap.size + 1) 0 (inRow x q2 x.m.data.length k2 q3 x.t.data.length k3)) (.slice q2 x.m.data.length k2) x.m.data) := M3.out.chg cS (fun _ g hg _ hm => by
    obtain rfl : g = w.heap.size + 1 := by simpa using hm
    have := F2.out _ hg
    have := SZ1.out
    omega)
  have T4 : Hid (Rd (w3.setCells (w.heap.size + 1) 0 (inRow x q2 x.m.data.length k2 q3 x.t.data.length k3)) (.slice q3 x.t.data.length k3) x.t.data) := T3.out.chg cS (fun _ g hg _ hm => by
    obtain rfl : g = w.heap.size + 1 := by simpa using hm
    have := F3.out _ hg
    have := SZ1.out
    omega)
  have B4 : Hid (Below w.heap.size w (w3.setCells (w.heap.size + 1) 0 (inRow x q2 x.m.data.length k2 q3 x.t.data.length k3))) := below_setCells' (w.heap.size + 1) (by omega) _ _ B3.out
  have K4 : InAt (w3.setCells (w.heap.size + 1) 0 (inRow x q2 x.m.data.length k2 q3 x.t.data.length k3)) w.heap.size 56 x qm x.m.data.length km qt x.t.data.length kt := InAt.chg h3 cS (by simp)
  have h24' := inRow_len x q2 x.m.data.length k2 q3 x.t.data.length k3
  clear cS hrm
  go_wp2_with fail
  refine hK.out _ _ (K4) (fun h4 => ?_)
  clear hK K
  try simp only [Act.put, List.setIfInBounds_toArray, List.set_cons_zero, List.set_cons_succ]
  clear K4
  refine wpAnyH_done (by kernel_rfl) ?_ _
  clear h0 h2 h3 h4
  go_wp2_with fail
  refine bodyPost_ret (v := .agg (inRow x q2 x.m.data.length k2 q3 x.t.data.length k3).toArray) (by simp [results, Try.results32, go_sem, hput]) rfl ⟨q2, k2, q3, k3, rfl, ⟨M4.out, fun _ g hg => by have := F2.out g hg; have := SZ1.out; omega⟩, ⟨T4.out, fun _ g hg => by have := F3.out g hg; have := SZ1.out; omega⟩, B4.out⟩

@[go_sem ↓] theorem Try.slice_inr (ps : Array (Nat × Value)) : Instr.buildSlice 34 1 ps = rowNew 34 ps := rfl
theorem Try.run_slice_inr (w : World) (R : List Value) (hR : R.length = 24) :
    (rowNew 34 #[(0, .agg R.toArray)]).run Try.prog w = .ok (.slice (some ⟨w.heap.size, 0, none⟩) 1 1) (w.alloc (.cells R.toArray 86)) :=
  run_bs_one w Try.underlying34 (by kernel_rfl) (Try.zero_inr w) (n := 24) (by decide) (by decide) hR
theorem Try.infoInR : (Try.prog.info? 86).map (fun i => (i.zero, i.size, i.bytes)) = some (some (.agg (inRow inp0 none 0 0 none 0 0).toArray), 24, 224) := by kernel_rfl
set_option maxHeartbeats 8000000 in
theorem alike_any {w : World} {F G : Fp} {I : List Inp} {q q' : Option Addr} {c c' : Nat} (hr : RwF 24 inp0 PIn w F q I) (hr' : RwF 24 inp0 PIn w G q' I) (ok : InsOk I) (hl : I.length ≤ 1000000) :
    Calls Try.prog 21 #[.slice q I.length c, .slice q' I.length c'] w fun e w' => e = .returned (.bool true) ∧ Below w.heap.size w w' := by
  obtain ⟨i0, hi, hz0, hz1, hz2⟩ := info_parts Try.infoInR
  replace hi := Lib.hid hi
  replace hz0 := Lib.hid hz0
  replace hz1 := Lib.hid hz1
  replace hz2 := Lib.hid hz2
  have HA := Lib.hid hr
  have HB := Lib.hid hr'
  have OK := Lib.hid ok
  have O0 : Hid (OwF 24 inp0 PIn (fun x => w.heap.size ≤ x) w w 86 (.slice none ([] : List Inp).length 0) [] []) := OwF.start (Below.refl _ _)
  clear hr hr' ok
  go_enter Try.func21, Try.ntmps21
  go_wp2_with fail
  go_loopw [5, 6] (fun ov iv wr => ∃ (q1 : Option Addr) (c1 : Nat) (L : List Inp) (done : List Value), iv = .int .i64 (L.length : Int) ∧ ov = .slice q1 L.length c1 ∧ L.length ≤ I.length ∧ Hid (L = I.take L.length) ∧ Hid (OwF 24 inp0 PIn (fun x => w.heap.size ≤ x) w wr 86 (.slice q1 L.length c1) L done)) (fun _ iv _ => I.length - (intOf iv).toNat)
  case atStart => exact ⟨none, 0, [], [], rfl, rfl, by simp, rfl, O0⟩
  case round =>
    clear O0
    obtain ⟨q1, c1, L, done, rfl, rfl, hil, hLe, hO⟩ := hrel
    by_cases hlt : L.length < I.length
    · obtain ⟨b, off, qm, km, qt, kt, hq, R1, M1, T1⟩ := HB.out.inp hlt
      subst hq
      have hrow := R1 _ hO.out.below
      have KR := fun (h1 : (I.getD L.length inp0).m.data.length ≤ 140737488355328) (h2 : (I.getD L.length inp0).t.data.length ≤ 140737488355328) => RefF_any (M1 _ hO.out.below) h1 (T1 _ hO.out.below) h2
      obtain ⟨lm, lt⟩ := OK.out.get hlt
      have KR := Lib.hid (KR (by omega) (by omega))
      have HLM : Hid (L ++ [I.getD L.length inp0] = I.take (L.length + 1)) := take_snoc hLe.out hlt
      obtain ⟨x, hx⟩ : ∃ x, I.getD L.length inp0 = x := ⟨_, rfl⟩
      rw [hx] at hrow KR HLM
      have HLT := Lib.hid hlt
      have h24' := inRow_len x qm x.m.data.length km qt x.t.data.length kt
      clear hx lm lt R1 M1 T1 hLe
      go_wp2_with fail
      clear hrow h24'
      refine KR.out.mono ?_
      rintro e w2 ⟨q2, k2, q3, k3, rfl, hm2, ht2, hb⟩
      have O2 := hO.out.on PIn_ok hb
      have F2 : ∀ g, wr.heap.size ≤ g → (w.heap.size ≤ g ∧ (Value.slice q1 L.length c1).ownBlock ≠ some g) := fun g hg => ⟨by have := hO.out.below.size; omega, fun e => by have := own_lt hO.out.own e; omega⟩
      have h24 := inRow_len x q2 x.m.data.length k2 q3 x.t.data.length k3
      have hone := inRow_one x q2 x.m.data.length k2 q3 x.t.data.length k3
      obtain ⟨R, hR⟩ : ∃ R, inRow x q2 x.m.data.length k2 q3 x.t.data.length k3 = R := ⟨_, rfl⟩
      have P2 : PIn w2 (fun g => w.heap.size ≤ g ∧ (Value.slice q1 L.length c1).ownBlock ≠ some g) x R := ⟨q2, k2, q3, k3, hR.symm, hm2.mono F2, ht2.mono F2⟩
      rw [hR] at h24 hone ⊢
      have hsl := Try.run_slice_inr w2 R h24
      have b7 : Below w2.heap.size w2 (w2.alloc (.cells R.toArray 86)) := (Below.refl _ _).alloc (Nat.le_refl _) _
      have O7 := Lib.hid (O2.on PIn_ok b7)
      have P7 := Lib.hid (PIn_ok.on P2 b7)
      have SR := Lib.hid (src_any (P := Try.prog) (T := 86) (w := w2) Try.underlying34 h24 hone)
      have OWN := Lib.hid O7.out.own
      clear hR O2 P2 b7 hO hm2 ht2 hb F2 hone KR
      go_wp2_with (at_builtin; refine wpList_append_row rfl _ _ rfl Try.underlying34 hi.out hz0.out hz1.out hz2.out in0_cells OWN.out SR.out ?b1 ?b2 ?_)
      case b1 => unfold maxLen; omega
      case b2 => omega
      intro q8 k8 w8 own8 grow8 fr8
      have fr9 : (Value.slice q8 (L.length + 1) k8).ownBlock = (Value.slice q1 L.length c1).ownBlock ∨ (Value.slice q8 (L.length + 1) k8).ownBlock = some (w2.alloc (.cells R.toArray 86)).heap.size := by rw [show (w2.alloc (.cells R.toArray 86)).heap.size = w2.heap.size + 1 by simp]; exact fr8
      have O8 := Lib.hid (O7.out.grow PIn_ok h24 P7.out own8 grow8 fr9)
      clear own8 grow8 fr8 fr9 O7 P7 SR OWN hsl
      go_wp2_with fail
      go_roundw
      case rel =>
        refine ⟨q8, k8, L ++ [x], done ++ R, ?_, ?_, ?_, ?_, ?_⟩
        · rw [List.length_append, List.length_singleton]; go_num
        · rw [List.length_append, List.length_singleton]
        · have := HLT.out
          rw [List.length_append, List.length_singleton]
          omega
        · show _ = _
          rw [List.length_append, List.length_singleton]
          exact HLM.out
        · rw [List.length_append, List.length_singleton]
          exact O8.out
      case measure => have := HLT.out; simp [intOf]; omega
    · have hLD : L = I := by
        have e : L.length = I.length := by omega
        have := hLe.out
        rw [e, List.take_length] at this
        exact this
      have KS := Lib.hid (Same14_any (c := c) (c' := c1) (HA.out.on PIn_ok (by decide) hO.out.below) (by have := hO.out.rd PIn_ok (fun g hg => hg); rw [hLD] at this; exact this) OK.out hl)
      have BB := Lib.hid hO.out.below
      have hLL : L.length = I.length := by rw [hLD]
      clear hO hLe hLD
      obtain ⟨n1, hn1⟩ : ∃ n, L.length = n := ⟨_, rfl⟩
      rw [hn1] at hLL ⊢
      subst hLL
      clear hn1
      go_wp2_with fail
      refine KS.out.mono ?_
      rintro e w9 ⟨rfl, hb⟩
      have B9 := Lib.hid (BB.out.trans (hb.mono BB.out.size))
      clear hb BB
      go_wp2_with fail
      go_ret
      exact ⟨rfl, B9.out⟩
end Go.Proofs.Ytonjkhhihiigfaa
namespace Go.Proofs.Ytonjkhhihiigfaa
set_option maxRecDepth 100000
open Go.RowKit

theorem getD_pre {Ls Ms : List Bk} {i : Nat} (h : i < Ls.length) : (Ls ++ Ms).getD i bk0 = Ls.getD i bk0 := by simp [List.getD, List.getElem?_append_left h]
theorem fScan_pre {Ls Ms : List Bk} {n : Int} : ∀ {f b : Nat}, 1 ≤ b → b + f ≤ Ls.length + 1 → fScan (Ls ++ Ms) n b f = fScan Ls n b f
  | 0, _, _, _ => rfl
  | f + 1, b, h1, h2 => by
    unfold fScan
    rw [getD_pre (show b - 1 < Ls.length by omega), fScan_pre (f := f) (b := b + 1) (by omega) (by omega)]
theorem fScan_in {Ls : List Bk} {n : Int} : ∀ {f b c i : Nat}, fScan Ls n b f = some (c, i) → b ≤ c ∧ c < b + f
  | 0, _, _, _, h => by cases h
  | f + 1, b, c, i, h => by
    unfold fScan at h
    split at h
    · simp only [Option.some.injEq, Prod.mk.injEq] at h
      omega
    · have := fScan_in h
      omega
theorem kN_in {h k n : Int} (h1 : 1 ≤ n) (h2 : n ≤ kN h k) : wOk k = true ∧ 1 ≤ k ∧ k ≤ 64 ∧ n + k ≤ h := by
  unfold kN at h2
  split at h2
  · rename_i e
    have : 1 ≤ k ∧ k ≤ 64 := by simpa [wOk] using e.1
    exact ⟨e.1, this.1, this.2, by omega⟩
  · omega
theorem kN_of {h k n : Int} (hw : wOk k = true) (h1 : 1 ≤ n) (h2 : n + k ≤ h) : n ≤ kN h k := by
  unfold kN
  rw [if_pos ⟨hw, by omega⟩]
  omega
theorem fFind_known {Ls : List Bk} {n k : Int} (h1 : 1 ≤ n) (h2 : n ≤ kN Ls.length k) : fFind Ls n k = fScan Ls n (n.toNat + 1) k.toNat := by
  obtain ⟨hw, a, b, c⟩ := kN_in h1 h2
  unfold fFind
  rw [if_pos ⟨hw, h1, by omega⟩]
  congr 1
  omega
theorem fFind_pre {Ls Ms : List Bk} {n k : Int} (h1 : 1 ≤ n) (h2 : n ≤ kN Ls.length k) : fFind (Ls ++ Ms) n k = fFind Ls n k := by
  obtain ⟨hw, a, b, c⟩ := kN_in h1 h2
  rw [fFind_known h1 h2, fFind_known h1 (kN_of hw h1 (by rw [List.length_append]; omega)), fScan_pre (by omega) (by omega)]
theorem foL_pre {Ls Ms : List Bk} {n k : Int} (h1 : 1 ≤ n) (h2 : n ≤ kN Ls.length k) : foL (Ls ++ Ms) (fFind Ls n k) = foL Ls (fFind Ls n k) := by
  obtain ⟨hw, a, b, c⟩ := kN_in h1 h2
  unfold foL
  cases e : fFind Ls n k with
  | none => rfl
  | some p =>
    obtain ⟨x, i⟩ := p
    rw [fFind_known h1 h2] at e
    have := fScan_in e
    unfold foX
    simp only [getD_pre (Ms := Ms) (show x - 1 < Ls.length by omega)]
theorem fInL_pre {Ls Ms : List Bk} {n k : Int} (h1 : 1 ≤ n) (h2 : n ≤ kN Ls.length k) : fInL (Ls ++ Ms) n k = fInL Ls n k := by
  obtain ⟨hw, a, b, c⟩ := kN_in h1 h2
  unfold fInL
  have hm : n ≤ kN (Ls ++ Ms).length k := kN_of hw h1 (by rw [List.length_append]; omega)
  rw [if_pos ⟨hw, h1, hm⟩, if_pos ⟨hw, h1, h2⟩, fFind_pre h1 h2, foL_pre h1 h2, getD_pre (by omega)]
theorem kN_mono {Ls Ms : List Bk} {k : Int} : kN Ls.length k ≤ kN (Ls ++ Ms).length k := by
  unfold kN
  rw [List.length_append]
  split
  · rename_i e
    rw [if_pos ⟨e.1, by omega⟩]
    omega
  · split <;> omega
theorem fAll_pre {Ls Ms : List Bk} {k : Int} {i : Nat} (hi : i < (fAll Ls k).length) : (fAll (Ls ++ Ms) k).getD i [] = (fAll Ls k).getD i [] := by
  rw [fAll_len] at hi
  have := kN_mono (Ls := Ls) (Ms := Ms) (k := k)
  rw [fAll_get _ _ (by omega), fAll_get _ _ hi, fInL_pre (by omega) (by omega)]
theorem bGl_small (xs : List Int) : ∀ t ∈ bGl xs, t.data.length ≤ 256 := by
  unfold bGl
  split
  · rename_i h
    intro t ht
    have h2 : okB (bIt xs (bN xs)).1 = true := by
      unfold bOk at h
      simp only [Bool.and_eq_true] at h
      exact h.2
    unfold okB at h2
    simp only [Bool.and_eq_true] at h2
    have h3 := List.all_eq_true.1 h2.2 t ht
    unfold okT at h3
    simp only [Bool.and_eq_true, decide_eq_true_eq] at h3
    omega
  · intro t ht; cases ht
theorem foL_small (Ls : List Bk) (o : Option (Nat × Nat)) : ∀ t ∈ foL Ls o, t.data.length ≤ 256 := by
  unfold foL
  split
  · exact bGl_small _
  · intro t ht; cases ht
theorem fInL_ok {Ls : List Bk} (sm : BksSm Ls) (n k : Int) : InsOk (fInL Ls n k) := by
  unfold fInL
  split
  · intro x hx
    rcases List.mem_append.1 hx with h | h
    · obtain ⟨m, hm, rfl⟩ := List.mem_map.1 h
      have := (sm.get (n.toNat - 1)).md m hm
      exact ⟨by show m.data.length ≤ _; omega, by show tg0.data.length ≤ _; decide⟩
    · obtain ⟨t, ht, rfl⟩ := List.mem_map.1 h
      have := foL_small _ _ t ht
      exact ⟨by show mg0.data.length ≤ _; decide, by show t.data.length ≤ _; omega⟩
  · intro x hx; cases hx
theorem fInL_short {Ls : List Bk} (sm : BksSm Ls) (n k : Int) : (fInL Ls n k).length ≤ 28 := by
  unfold fInL
  split
  · have := (sm.get (n.toNat - 1)).ds
    have := foL_len8 Ls (fFind Ls n k)
    simp only [List.length_append, List.length_map]
    omega
  · simp
theorem BksSm.app {Ls Ms : List Bk} (h1 : BksSm Ls) (h2 : BksSm Ms) : BksSm (Ls ++ Ms) := fun x hx => by
  rcases List.mem_append.1 hx with h | h
  · exact h1 x h
  · exact h2 x h
theorem fAll_mem {Ls : List Bk} {k : Int} {i : Nat} (hi : i < (fAll Ls k).length) : (fAll Ls k).getD i [] = fInL Ls ((i : Int) + 1) k := by
  rw [fAll_len] at hi
  exact fAll_get _ _ hi
section
variable {α : Type} {P : World → Fp → α → List Value → Prop} {d : α} {n : Nat}
variable {F G : Fp} {w x W W' : World} {T : TypeId} {v v2 : Value} {L M : List α} {done done2 : List Value}
/-- Rows of one's own and, behind them, others. -/
theorem OwF.join (k : FpOk P) {q : Option Addr} {c : Nat} (h : OwF n d P F w W T v L done) (h2 : OwF n d P G x W T v2 M done2) (hG : ∀ g, G g → F g ∧ v.ownBlock ≠ some g)
    (own : W'.ownsRow 0 T n (.slice q (L.length + M.length) c) (L.length + M.length) (done ++ done2)) (grow : W.grownBy W' v.ownBlock) (fr : (Value.slice q (L.length + M.length) c).ownBlock = v.ownBlock ∨ (Value.slice q (L.length + M.length) c).ownBlock = some W.heap.size) :
    OwF n d P F w W' T (.slice q (L.length + M.length) c) (L ++ M) (done ++ done2) := by
  have hl := h.len
  have hl2 := h2.len
  have key : ∀ {y : α} {s : List Value}, P W (fun g => F g ∧ v.ownBlock ≠ some g) y s → P W' (fun g => F g ∧ (Value.slice q (L.length + M.length) c).ownBlock ≠ some g) y s := fun {y s} hy => k.grown hy grow fr
  refine ⟨?_, fun i hi => ?_, fun g hg => ?_, ?_⟩
  · rw [List.length_append]; exact own
  · rw [List.length_append] at hi
    by_cases hil : i < L.length
    · obtain ⟨s, h1, h2, h3⟩ := h.each i hil
      have eg : (L ++ M).getD i d = L.getD i d := by simp [List.getD, List.getElem?_append_left hil]
      rw [eg]
      have h5 : i * n + n ≤ L.length * n := by rw [← Nat.succ_mul]; exact Nat.mul_le_mul_right n hil
      refine ⟨s, h1, ?_, key h3⟩
      rw [List.drop_append_of_le_length (by omega), List.take_append_of_le_length (by rw [List.length_drop]; omega)]
      exact h2
    · obtain ⟨j, rfl⟩ : ∃ j, i = L.length + j := ⟨i - L.length, by omega⟩
      obtain ⟨s, h1, h3, h4⟩ := h2.each j (by omega)
      have eg : (L ++ M).getD (L.length + j) d = M.getD j d := by simp [List.getD, List.getElem?_append_right]
      rw [eg]
      refine ⟨s, h1, ?_, key (k.mono h4 (fun g hg => hG g hg.1))⟩
      rw [Nat.add_mul, ← hl, List.drop_append, List.drop_eq_nil_of_le (by omega), List.nil_append, Nat.add_sub_cancel_left]
      exact h3
  · rcases fr with e | e
    · rw [e] at hg; exact h.fresh g hg
    · rw [e] at hg
      have := h.below.size
      have : W.heap.size = g := Option.some.inj hg
      omega
  · exact h.below.grown grow h.below.size (fun g hg => h.fresh g hg)
end
end Go.Proofs.Ytonjkhhihiigfaa
namespace Go.Proofs.Ytonjkhhihiigfaa
set_option maxRecDepth 100000
open Go.RowKit

theorem bk0_cells : (Value.agg #[.slice none 0 0, .slice none 0 0]).cells.size = 2 := by rfl
/-- A slice's cell, in all worlds to come. -/
theorem RwF.cellAt {w : World} {F : Fp} {q : Option Addr} {A : List (List Inp)} (h : RwF 1 [] (PSl 24 inp0 PIn) w F q A) {i : Nat} (hi : i < A.length) : ∃ b off q' c', q = some ⟨b, off, none⟩ ∧ (∀ W, Below w.heap.size w W → W.cell? ⟨b, off + i, none⟩ = some (.slice q' (A.getD i []).length c')) ∧ ∀ W, Below w.heap.size w W → RwF 24 inp0 PIn W F q' (A.getD i []) := by
  obtain ⟨b, off, r, hq, _, hr, hrow, q', c', rfl, h1⟩ := h.get hi
  have c := row_cell hrow hr (j := 0) (v := .slice q' (A.getD i []).length c') rfl
  rw [Nat.add_zero, Nat.mul_one] at c
  exact ⟨b, off, q', c', hq, fun W hW => (hW.cell (lt_of_cell c)).trans c, fun W hW => h1.on PIn_ok (by decide) hW⟩
set_option maxHeartbeats 8000000 in
theorem DerivePrefix_walk {w : World} {F G : Fp} {Ls Ms : List Bk} {q q' : Option Addr} {c c' : Nat} {k : Int} (hr : RwF 2 bk0 PBk w F q Ls) (hr2 : RwF 2 bk0 PBk w G q' Ms) (ok : BksOk Ls) (ok2 : BksOk Ms) (hl : Ls.length ≤ 3000000000000) (hl2 : Ms.length ≤ 3000000000000) (hk : -9223372036854775808 ≤ k ∧ k < 9223372036854775808) :
    Calls Try.prog 4 #[.slice q Ls.length c, .slice q' Ms.length c', .int .i64 k] w fun e w' => e = .returned (.bool true) ∧ Below w.heap.size w w' := by
  obtain ⟨i0, hi, hz0, hz1, hz2⟩ := info_parts Try.infoBk
  replace hi := Lib.hid hi
  replace hz0 := Lib.hid hz0
  replace hz1 := Lib.hid hz1
  replace hz2 := Lib.hid hz2
  have H0 := Lib.hid (fun (W : World) (hb : Below w.heap.size w W) => hr.on PBk_ok (by decide) hb)
  have H1 := Lib.hid (fun (W : World) (hb : Below w.heap.size w W) => hr2.on PBk_ok (by decide) hb)
  have OK := Lib.hid ok
  have OK2 := Lib.hid ok2
  have KB0 := Lib.hid (fun (W : World) (hb : Below w.heap.size w W) => Big_any (c := c) (hr.on PBk_ok (by decide) hb) hl ok)
  have KB1 := Lib.hid (fun (W : World) (hb : Below w.heap.size w W) => Big_any (c := c') (hr2.on PBk_ok (by decide) hb) hl2 ok2)
  have KW := Lib.hid (fun (W : World) => knows14_any W)
  have HK := Lib.hid hk
  clear hr hr2 ok ok2 hl hl2 hk
  go_enter Try.func4, Try.ntmps4
  go_wp2_with fail
  refine (KB0.out _ (Below.refl _ _)).mono ?_
  rintro e w1 ⟨v1, rfl, b1, hv1⟩
  have B1 := Lib.hid b1
  clear b1 KB0
  cases v1 with
  | true =>
    clear KB1 hv1
    go_wp2_with fail
    refine (KW.out _).mono ?_
    rintro e w9 ⟨rfl, hb⟩
    have B9 := Lib.hid (B1.out.trans (hb.mono B1.out.size))
    clear hb
    go_wp2_with fail
    go_ret
    exact ⟨rfl, B9.out⟩
  | false =>
  obtain ⟨hL, hS⟩ := hv1 rfl
  have SM := Lib.hid (BksSm.of OK.out hS)
  clear hS OK
  go_wp2_with fail
  refine (KB1.out _ B1.out).mono ?_
  rintro e w2 ⟨v2, rfl, b2, hv2⟩
  have B2 := Lib.hid (B1.out.trans (b2.mono B1.out.size))
  clear b2 KB1 B1
  cases v2 with
  | true =>
    clear hv2
    go_wp2_with fail
    refine (KW.out _).mono ?_
    rintro e w9 ⟨rfl, hb⟩
    have B9 := Lib.hid (B2.out.trans (hb.mono B2.out.size))
    clear hb
    go_wp2_with fail
    go_ret
    exact ⟨rfl, B9.out⟩
  | false =>
  obtain ⟨hM, hS2⟩ := hv2 rfl
  have SM2 := Lib.hid (BksSm.of OK2.out hS2)
  clear hS2 OK2
  have HL := Lib.hid hL
  have HM := Lib.hid hM
  go_wp2_with fail
  refine (Blocks_any (H0.out _ B2.out) SM.out (by have := HL.out; omega)).mono ?_
  rintro e w3 ⟨q3, c3, dn3, rfl, o3, n3⟩
  have B3 := Lib.hid (B2.out.trans (o3.below.mono B2.out.size))
  have R3 := Lib.hid (o3.rd PBk_ok (fun g hg => hg))
  clear o3 n3 B2
  go_wp2_with fail
  refine (All_any R3.out SM.out (by have := HL.out; omega)).mono ?_
  rintro e w4 ⟨q4, c4, rfl, r4, b4⟩
  have B4 := Lib.hid (B3.out.trans (b4.mono B3.out.size))
  have R4 := Lib.hid (fun (W : World) (hb : Below w4.heap.size w4 W) => r4.on PIn_sl (by decide) hb)
  clear r4 b4 R3 B3
  go_wp2_with fail
  refine (Blocks_any (H0.out _ B4.out) SM.out (by have := HL.out; omega)).mono ?_
  rintro e w5 ⟨q5, c5, dn5, rfl, o5, n5⟩
  have B5 := Lib.hid (B4.out.trans (o5.below.mono B4.out.size))
  have O5 := Lib.hid o5
  have X5 : Hid (Below w4.heap.size w4 w5) := o5.below
  clear o5 n5 H0
  go_wp2_with fail
  refine (Blocks_any (H1.out _ B5.out) SM2.out (by have := HM.out; omega)).mono ?_
  rintro e w6 ⟨q6, c6, dn6, rfl, o6, n6⟩
  have B6 := Lib.hid (B5.out.trans (o6.below.mono B5.out.size))
  have X6 := Lib.hid (X5.out.trans (o6.below.mono X5.out.size))
  have O5' := Lib.hid (O5.out.on PBk_ok o6.below)
  have O6 := Lib.hid o6
  have OWN := Lib.hid O5'.out.own
  have SR := Lib.hid (o6.src (Pr := Try.prog) (tx := 25) Try.underlying25 n6)
  have HG : Hid (∀ g, w5.heap.size ≤ g → (w4.heap.size ≤ g ∧ (Value.slice q5 Ls.length c5).ownBlock ≠ some g)) := fun g hg => ⟨by have := X5.out.size; omega, fun e => by have := own_lt O5.out.own e; omega⟩
  clear o6 n6 H1 B5 X5 O5
  go_wp2_with (at_builtin; refine wpList_append_row rfl _ _ rfl Try.underlying25 hi.out hz0.out hz1.out hz2.out bk0_cells OWN.out SR.out ?b1 ?b2 ?_)
  case b1 => have := HL.out; have := HM.out; unfold maxLen; omega
  case b2 => have := HL.out; have := HM.out; omega
  intro q8 c8 w8 own8 grow8 fr8
  have O8 := Lib.hid (O5'.out.join PBk_ok O6.out HG.out own8 grow8 fr8)
  have HLM : Hid (Ls.length + Ms.length = (Ls ++ Ms).length) := (List.length_append ..).symm
  have R8 : Hid (RwF 2 bk0 PBk w8 (fun g => w4.heap.size ≤ g) q8 (Ls ++ Ms)) := O8.out.rd PBk_ok (fun g hg => hg)
  have X8 : Hid (Below w4.heap.size w4 w8) := O8.out.below
  have B8 := Lib.hid (B4.out.trans (X8.out.mono B4.out.size))
  clear own8 grow8 fr8 OWN SR HG O5' O6 O8 X6 B6
  have SMN := Lib.hid (SM.out.app SM2.out)
  have hAB :  (fAll Ls k).length ≤ (fAll (Ls ++ Ms) k).length := by
    rw [fAll_len, fAll_len]
    have := kN_mono (Ls := Ls) (Ms := Ms) (k := k)
    omega
  have HE := Lib.hid (fun (i : Nat) (hi : i < (fAll Ls k).length) => fAll_pre (Ms := Ms) hi)
  have HI := Lib.hid (fun (i : Nat) (hi : i < (fAll Ls k).length) => (show InsOk ((fAll Ls k).getD i []) ∧ ((fAll Ls k).getD i []).length ≤ 28 from by rw [fAll_mem hi]; exact ⟨fInL_ok SM.out _ _, fInL_short SM.out _ _⟩))
  have HN : Hid (1 ≤ k ∧ k ≤ 64 → ((fAll Ls k).length : Int) = max 0 ((Ls.length : Int) - k)) := fun h => by
    rw [fAll_len]
    have e : wOk k = true := by simpa [wOk] using h
    unfold kN
    by_cases hh : k < Ls.length
    · rw [if_pos ⟨e, hh⟩]; omega
    · rw [if_neg (fun x => hh x.2)]; omega
  have hA20 : (fAll Ls k).length ≤ 20 := by
    rw [fAll_len]
    have := kN_le Ls.length k (by omega)
    have := HL.out
    omega
  have hB40 : (fAll (Ls ++ Ms) k).length ≤ 40 := by
    rw [fAll_len]
    have := kN_le (Ls ++ Ms).length k (by omega)
    have := HL.out
    have := HM.out
    have : (Ls ++ Ms).length = Ls.length + Ms.length := List.length_append ..
    omega
  have hN20 : (Ls ++ Ms).length ≤ 1000 := by have := HL.out; have := HM.out; rw [List.length_append]; omega
  obtain ⟨N, hN⟩ : ∃ N, Ls ++ Ms = N := ⟨_, rfl⟩
  rw [hN] at R8 SMN hAB HE hB40 HLM hN20
  obtain ⟨A, hA⟩ : ∃ A, fAll Ls k = A := ⟨_, rfl⟩
  rw [hA] at R4 hAB HE HI HN hA20 ⊢
  have KAN := Lib.hid (All_any (c := c8) (k := k) R8 SMN.out hN20)
  obtain ⟨B, hB⟩ : ∃ B, fAll N k = B := ⟨_, rfl⟩
  rw [hB] at hAB HE hB40 KAN
  rw [HLM.out]
  have hAB' := Lib.hid hAB
  have hA20' := Lib.hid hA20
  have hB40' := Lib.hid hB40
  clear hN hA hB SM SM2 HM SMN R8 HLM hAB hA20 hB40 hN20
  go_wp2_with fail
  refine KAN.out.mono ?_
  rintro e w9 ⟨q9, c9, rfl, r9, b9⟩
  have B9 := Lib.hid (B8.out.trans (b9.mono B8.out.size))
  have R4' := Lib.hid (R4.out _ (X8.out.trans (b9.mono X8.out.size)))
  have R9' := Lib.hid r9
  clear r9 b9 X8 R4 B8 KAN
  have hAB := hAB'.out
  have hA20 := hA20'.out
  have hB40 := hB40'.out
  have hL20 := HL.out
  have hk := HK.out
  have c1 : decide (B.length < A.length) = false := decide_eq_false (by omega)
  have c2 : decide ((B.length : Int) < (A.length : Int)) = false := decide_eq_false (by omega)
  have c3 : ¬ B.length < A.length := by omega
  have T0 : Hid (Below w9.heap.size w9 w9) := Below.refl _ _
  go_upto_region 5 with fail
  go_cut [50] from 28 (fun u W => u = .bool false ∧ Hid (Below w9.heap.size w9 W))
  case first =>
    by_cases k1 : k ≥ 1
    · by_cases k2 : k ≤ 64
      · have d1 : decide (k ≥ 1) = true := decide_eq_true k1
        have d1' : decide (1 ≤ k) = true := decide_eq_true k1
        have d2 : decide (k ≤ 64) = true := decide_eq_true k2
        have hw : IntKind.i64.wrap ((Ls.length : Int) - k) = (Ls.length : Int) - k := IntWalk.i64_in _ (by omega)
        have hn := HN.out ⟨k1, k2⟩
        have HNN := Lib.hid hn
        clear hn
        go_wp2_with fail
        all_goals go_meet
        all_goals
          refine ⟨?_, T0⟩
          have hn := HNN.out
          simp only [Value.bool.injEq, bne_eq_false_iff_eq]
          omega
      · have d1 : decide (k ≥ 1) = true := decide_eq_true k1
        have d1' : decide (1 ≤ k) = true := decide_eq_true k1
        have d2 : decide (k ≤ 64) = false := decide_eq_false k2
        go_wp2_with fail
        go_meet
        case rel => exact ⟨rfl, T0⟩
    · have d1 : decide (k ≥ 1) = false := decide_eq_false k1
      have d1' : decide (1 ≤ k) = false := decide_eq_false k1
      go_wp2_with fail
      go_meet
      case rel => exact ⟨rfl, T0⟩
  case rest =>
  obtain ⟨rfl, T1⟩ := hcut
  clear T0 HN c1 c2 c3 hAB HK hk
  go_wp2_with fail
  go_loopw [9] (fun iv wr => ∃ (i : Nat), iv = .int .i64 (i : Int) ∧ i ≤ A.length ∧ Hid (Below w9.heap.size w9 wr)) (fun iv _ => A.length - (intOf iv).toNat)
  case atStart => exact ⟨0, rfl, by omega, T1⟩
  case round =>
    clear T1
    obtain ⟨i, rfl, hil, hT⟩ := hrel
    by_cases hlt : i < A.length
    · have hlB : i < B.length := by have := hAB'.out; omega
      obtain ⟨ba, oa, qa, ca, hqa, CA, RA⟩ := R4'.out.cellAt hlt
      obtain ⟨bb, ob, qb, cb, hqb, CB, RB⟩ := R9'.out.cellAt hlB
      subst hqa hqb
      rw [HE.out i hlt] at CB RB
      obtain ⟨ok, sh⟩ := HI.out i hlt
      have KA := Lib.hid (fun (W : World) (hW : Below w9.heap.size w9 W) => alike_any (c := ca) (c' := cb) (RA W hW) (RB W hW) ok (by omega))
      obtain ⟨I, hI⟩ : ∃ I, A.getD i [] = I := ⟨_, rfl⟩
      rw [hI] at CA CB KA
      have CA := Lib.hid CA
      have CB := Lib.hid CB
      have HLT := Lib.hid hlt
      clear hI RA RB ok sh
      go_wp2_with fail
      have S0 : Below w9.heap.size w9 wr.drew := hT.out.drew
      clear hT
      refine wp_region_held_drew (S := fun W => Below w9.heap.size w9 W) (by kernel_rfl) (S0) (fun h0 => ?_)
      generalize wr.drew = w10 at *
      refine wpAnyH_take (i := 0) (v := ?_) (by rw [List.getElem?_toArray]; rfl) (by kernel_rfl) (by kernel_rfl) (by kernel_rfl) (by exact fun _ _ _ h => h) (Or.inl ⟨by rfl, ?_⟩) h0 ?_
      rotate_left
      · intro W hW
        go_simp
        all_goals with_reducible rfl
      try simp only [Act.put, List.setIfInBounds_toArray, List.set_cons_zero, List.set_cons_succ]
      refine wpAnyH_take (i := 1) (v := ?_) (by rw [List.getElem?_toArray]; rfl) (by kernel_rfl) (by kernel_rfl) (by kernel_rfl) (by exact fun _ _ _ h => h) (Or.inl ⟨by rfl, ?_⟩) h0 ?_
      rotate_left
      · intro W hW
        go_simp
        all_goals with_reducible rfl
      try simp only [Act.put, List.setIfInBounds_toArray, List.set_cons_zero, List.set_cons_succ]
      refine wpAnyH_take (i := 2) (v := ?_) (by rw [List.getElem?_toArray]; rfl) (by kernel_rfl) (by kernel_rfl) (by kernel_rfl) (by exact fun _ _ _ h => h) (Or.inl ⟨by rfl, ?_⟩) h0 ?_
      rotate_left
      · intro W hW
        go_simp
        all_goals with_reducible rfl
      try simp only [Act.put, List.setIfInBounds_toArray, List.set_cons_zero, List.set_cons_succ]
      refine wpAnyH_take (i := 3) (v := ?_) (by rw [List.getElem?_toArray]; rfl) (by kernel_rfl) (by kernel_rfl) (by kernel_rfl) (by exact fun _ _ _ h => h) (Or.inl ⟨by rfl, ?_⟩) h0 ?_
      rotate_left
      · intro W hW
        have hrow := CA.out W hW
        go_simp
        all_goals with_reducible rfl
      try simp only [Act.put, List.setIfInBounds_toArray, List.set_cons_zero, List.set_cons_succ]
      refine wpAnyH_take (i := 4) (v := ?_) (by rw [List.getElem?_toArray]; rfl) (by kernel_rfl) (by kernel_rfl) (by kernel_rfl) (by exact fun _ _ _ h => h) (Or.inl ⟨by rfl, ?_⟩) h0 ?_
      rotate_left
      · intro W hW
        go_simp
        all_goals with_reducible rfl
      try simp only [Act.put, List.setIfInBounds_toArray, List.set_cons_zero, List.set_cons_succ]
      refine wpAnyH_take (i := 5) (v := ?_) (by rw [List.getElem?_toArray]; rfl) (by kernel_rfl) (by kernel_rfl) (by kernel_rfl) (by exact fun _ _ _ h => h) (Or.inl ⟨by rfl, ?_⟩) h0 ?_
      rotate_left
      · intro W hW
        go_simp
        all_goals with_reducible rfl
      try simp only [Act.put, List.setIfInBounds_toArray, List.set_cons_zero, List.set_cons_succ]
      refine wpAnyH_take (i := 6) (v := ?_) (by rw [List.getElem?_toArray]; rfl) (by kernel_rfl) (by kernel_rfl) (by kernel_rfl) (by exact fun _ _ _ h => h) (Or.inl ⟨by rfl, ?_⟩) h0 ?_
      rotate_left
      · intro W hW
        go_simp
        all_goals with_reducible rfl
      try simp only [Act.put, List.setIfInBounds_toArray, List.set_cons_zero, List.set_cons_succ]
      refine wpAnyH_take (i := 7) (v := ?_) (by rw [List.getElem?_toArray]; rfl) (by kernel_rfl) (by kernel_rfl) (by kernel_rfl) (by exact fun _ _ _ h => h) (Or.inl ⟨by rfl, ?_⟩) h0 ?_
      rotate_left
      · intro W hW
        have hrow := CB.out W hW
        go_simp
        all_goals with_reducible rfl
      try simp only [Act.put, List.setIfInBounds_toArray, List.set_cons_zero, List.set_cons_succ]
      refine wpAnyH_ready (rs := [8]) (by kernel_rfl) (by simp) ?_
      refine AllReadyH.cons (by rw [List.getElem?_toArray]; rfl) (fun K hK => ?_) AllReadyH.nil
      rw [if_pos (by rfl)]
      go_wp2_with fail
      refine (KA.out _ h0).mono ?_
      rintro e w2 ⟨rfl, hb2⟩
      have B2 : Below w9.heap.size w9 w2 := Below.trans h0 (hb2.mono (Below.size h0))
      clear hb2
      go_wp2_with fail
      refine hK.out _ _ (B2) (fun h1x => ?_)
      clear hK K
      try simp only [Act.put, List.setIfInBounds_toArray, List.set_cons_zero, List.set_cons_succ]
      clear B2
      refine wpAnyH_take (i := 9) (v := ?_) (by rw [List.getElem?_toArray]; rfl) (by kernel_rfl) (by kernel_rfl) (by kernel_rfl) (by exact fun _ _ _ h => h) (Or.inl ⟨by rfl, ?_⟩) h1x ?_
      rotate_left
      · intro W hW
        go_simp
        all_goals with_reducible rfl
      try simp only [Act.put, List.setIfInBounds_toArray, List.set_cons_zero, List.set_cons_succ]
      refine wpAnyH_done (by kernel_rfl) ?_ _
      have T9 := Lib.hid h1x
      clear h0 h1x
      go_wp2_with fail
      go_roundw
      case rel => exact ⟨i + 1, by go_num, by have := HLT.out; omega, T9⟩
      case measure => have := HLT.out; simp [intOf]; omega
    · go_wp2_with fail
      refine (KW.out _).mono ?_
      rintro e wz ⟨rfl, hb⟩
      have B10 := Lib.hid (B9.out.trans (hT.out.mono B9.out.size))
      have B11 := Lib.hid (B10.out.trans (hb.mono B10.out.size))
      clear hb
      go_wp2_with fail
      go_ret
      exact ⟨rfl, B11.out⟩
end Go.Proofs.Ytonjkhhihiigfaa
