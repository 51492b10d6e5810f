/-
  The program's code and context, made of the document's.
-/
import Derived.Test.YtamkmeigcmpkjaaMcRu
import Derived.Test.YtamkmeigcmpkjaaBsG
namespace Go.Proofs.Ytamkmeigcmpkjaa
set_option maxRecDepth 100000
open Go.RowKit

theorem Try.infoIns : (Try.prog.info? 43).map (fun i => (i.zero, i.size, i.bytes)) = some (some (.agg #[.int .i64 0, .int .u64 0]), 2, 16) := by kernel_rfl
@[go_sem ↓] theorem Try.slice_ins (ps : Array (Nat × Value)) : Instr.buildSlice 34 1 ps = rowNew 34 ps := rfl
theorem Try.run_slice_ins (w : World) (a b : Int) :
    (rowNew 34 #[(0, .agg #[.int .i64 a, .int .u64 b])]).run Try.prog w = .ok (.slice (some ⟨w.heap.size, 0, none⟩) 1 1) (w.alloc (.cells #[.int .i64 a, .int .u64 b] 43)) :=
  run_bs_one w Try.underlying34 (by kernel_rfl) (zs := [.int .i64 0, .int .u64 0]) (by kernel_rfl) (n := 2) (xs := [.int .i64 a, .int .u64 b]) (by decide) (by decide) rfl
set_option maxHeartbeats 4000000 in
theorem Own8_any {w : World} {F : Fp} {L : List Ins} {q : Option Addr} {c : Nat} (hr : RwF 2 ins0 PIs w F q L) (hl : L.length ≤ 1000) :
    Calls Try.prog 7 #[.slice q L.length c] w fun e w' => ∃ q' c', e = .returned (.slice q' L.length c') ∧ RwF 2 ins0 PIs w' (fun g => w.heap.size ≤ g) q' L ∧ Below w.heap.size w w' := by
  obtain ⟨i0, hi, hz0, hz1, hz2⟩ := info_parts Try.infoIns
  replace hi := Lib.hid hi
  replace hz0 := Lib.hid hz0
  replace hz1 := Lib.hid hz1
  replace hz2 := Lib.hid hz2
  have HR := Lib.hid (fun (W : World) (hb : Below w.heap.size w W) => hr.on PIs_ok (by decide) hb)
  have HL := Lib.hid hl
  have O0 : Hid (OwF 2 ins0 PIs (fun _ => True) w w 43 (.slice none ([] : List Ins).length 0) [] []) := OwF.start (Below.refl _ _)
  clear hr hl
  go_enter Try.func7, Try.ntmps7
  go_wp2_with fail
  go_loopw [3, 4] (fun ov iv wr => ∃ (q1 : Option Addr) (c1 : Nat) (C : List Ins) (done : List Value), iv = .int .i64 (C.length : Int) ∧ ov = .slice q1 C.length c1 ∧ C.length ≤ L.length ∧ Hid (C = L.take C.length) ∧ Hid (OwF 2 ins0 PIs (fun _ => True) w wr 43 (.slice q1 C.length c1) C done)) (fun _ iv _ => L.length - (intOf iv).toNat)
  case atStart => exact ⟨none, 0, [], [], rfl, rfl, by simp, rfl, O0⟩
  case round =>
    clear O0
    obtain ⟨q1, c1, C, done, rfl, rfl, hil, hCe, hO⟩ := hrel
    by_cases hlt : C.length < L.length
    · obtain ⟨b, off, r, rfl, _, hr2, hrow, hp⟩ := (HR.out _ (Below.refl _ _)).get hlt
      subst hp
      have HTK := Lib.hid (take_snocG (d := ins0) hCe.out hlt)
      obtain ⟨y, hy⟩ : ∃ y, L.getD C.length ins0 = y := ⟨_, rfl⟩
      rw [hy] at hrow HTK
      obtain ⟨op, x⟩ := y
      have g0w := row_cellG hrow rfl (j := 0) (v := .int .i64 op) rfl
      have g1w := row_cellG hrow rfl (j := 1) (v := .int .u64 x) rfl
      rw [Nat.add_zero] at g0w
      have G0 := Lib.hid (fun (W : World) (hb : Below w.heap.size w W) => (hb.cell (lt_of_cell g0w)).trans g0w)
      have G1 := Lib.hid (fun (W : World) (hb : Below w.heap.size w W) => (hb.cell (lt_of_cell g1w)).trans g1w)
      have HLT : Hid (C.length < L.length ∧ L.length ≤ 1000) := ⟨hlt, HL.out⟩
      have b12 : Below wr.heap.size wr wr.drew := (Below.refl _ _).drew
      have O2 := Lib.hid (hO.out.on PIs_ok b12)
      have H1 := O2.out.below
      clear g0w g1w hrow hr2 hCe hO hy b12
      go_wp2_with fail
      refine wp_region_held_drew (S := fun W => Below w.heap.size w W) (by kernel_rfl) (H1) (fun h0 => ?_)
      generalize wr.drew = w2 at *
      refine wpAnyH_take (i := 0) (v := ?_) (by rw [List.getElem?_toArray]; rfl) (by kernel_rfl) (by kernel_rfl) (by kernel_rfl) (by exact fun _ _ _ h => h) (Or.inl ⟨by rfl, ?_⟩) h0 ?_
      rotate_left
      · intro W hW
        go_simp
        all_goals with_reducible rfl
      try simp only [Act.put, List.setIfInBounds_toArray, List.set_cons_zero, List.set_cons_succ]
      refine wpAnyH_take (i := 1) (v := ?_) (by rw [List.getElem?_toArray]; rfl) (by kernel_rfl) (by kernel_rfl) (by kernel_rfl) (by exact fun _ _ _ h => h) (Or.inl ⟨by rfl, ?_⟩) h0 ?_
      rotate_left
      · intro W hW
        go_simp
        all_goals with_reducible rfl
      try simp only [Act.put, List.setIfInBounds_toArray, List.set_cons_zero, List.set_cons_succ]
      refine wpAnyH_take (i := 2) (v := ?_) (by rw [List.getElem?_toArray]; rfl) (by kernel_rfl) (by kernel_rfl) (by kernel_rfl) (by exact fun _ _ _ h => h) (Or.inl ⟨by rfl, ?_⟩) h0 ?_
      rotate_left
      · intro W hW
        go_simp
        all_goals with_reducible rfl
      try simp only [Act.put, List.setIfInBounds_toArray, List.set_cons_zero, List.set_cons_succ]
      refine wpAnyH_take (i := 3) (v := ?_) (by rw [List.getElem?_toArray]; rfl) (by kernel_rfl) (by kernel_rfl) (by kernel_rfl) (by exact fun _ _ _ h => h) (Or.inl ⟨by rfl, ?_⟩) h0 ?_
      rotate_left
      · intro W hW
        go_simp
        all_goals with_reducible rfl
      try simp only [Act.put, List.setIfInBounds_toArray, List.set_cons_zero, List.set_cons_succ]
      refine wpAnyH_take (i := 4) (v := ?_) (by rw [List.getElem?_toArray]; rfl) (by kernel_rfl) (by kernel_rfl) (by kernel_rfl) (by exact fun _ _ _ h => h) (Or.inl ⟨by rfl, ?_⟩) h0 ?_
      rotate_left
      · intro W hW
        go_simp
        all_goals with_reducible rfl
      try simp only [Act.put, List.setIfInBounds_toArray, List.set_cons_zero, List.set_cons_succ]
      refine wpAnyH_take (i := 5) (v := ?_) (by rw [List.getElem?_toArray]; rfl) (by kernel_rfl) (by kernel_rfl) (by kernel_rfl) (by exact fun _ _ _ h => h) (Or.inl ⟨by rfl, ?_⟩) h0 ?_
      rotate_left
      · intro W hW
        have c0 := G0.out W hW
        go_simp
        all_goals with_reducible rfl
      try simp only [Act.put, List.setIfInBounds_toArray, List.set_cons_zero, List.set_cons_succ]
      refine wpAnyH_take (i := 6) (v := ?_) (by rw [List.getElem?_toArray]; rfl) (by kernel_rfl) (by kernel_rfl) (by kernel_rfl) (by exact fun _ _ _ h => h) (Or.inl ⟨by rfl, ?_⟩) h0 ?_
      rotate_left
      · intro W hW
        go_simp
        all_goals with_reducible rfl
      try simp only [Act.put, List.setIfInBounds_toArray, List.set_cons_zero, List.set_cons_succ]
      refine wpAnyH_take (i := 7) (v := ?_) (by rw [List.getElem?_toArray]; rfl) (by kernel_rfl) (by kernel_rfl) (by kernel_rfl) (by exact fun _ _ _ h => h) (Or.inl ⟨by rfl, ?_⟩) h0 ?_
      rotate_left
      · intro W hW
        go_simp
        all_goals with_reducible rfl
      try simp only [Act.put, List.setIfInBounds_toArray, List.set_cons_zero, List.set_cons_succ]
      refine wpAnyH_take (i := 8) (v := ?_) (by rw [List.getElem?_toArray]; rfl) (by kernel_rfl) (by kernel_rfl) (by kernel_rfl) (by exact fun _ _ _ h => h) (Or.inl ⟨by rfl, ?_⟩) h0 ?_
      rotate_left
      · intro W hW
        go_simp
        all_goals with_reducible rfl
      try simp only [Act.put, List.setIfInBounds_toArray, List.set_cons_zero, List.set_cons_succ]
      refine wpAnyH_take (i := 9) (v := ?_) (by rw [List.getElem?_toArray]; rfl) (by kernel_rfl) (by kernel_rfl) (by kernel_rfl) (by exact fun _ _ _ h => h) (Or.inl ⟨by rfl, ?_⟩) h0 ?_
      rotate_left
      · intro W hW
        go_simp
        all_goals with_reducible rfl
      try simp only [Act.put, List.setIfInBounds_toArray, List.set_cons_zero, List.set_cons_succ]
      refine wpAnyH_take (i := 10) (v := ?_) (by rw [List.getElem?_toArray]; rfl) (by kernel_rfl) (by kernel_rfl) (by kernel_rfl) (by exact fun _ _ _ h => h) (Or.inl ⟨by rfl, ?_⟩) h0 ?_
      rotate_left
      · intro W hW
        have c1 := G1.out W hW
        go_simp
        all_goals with_reducible rfl
      try simp only [Act.put, List.setIfInBounds_toArray, List.set_cons_zero, List.set_cons_succ]
      refine wpAnyH_take (i := 11) (v := ?_) (by rw [List.getElem?_toArray]; rfl) (by kernel_rfl) (by kernel_rfl) (by kernel_rfl) (by exact fun _ _ _ h => h) (Or.inl ⟨by rfl, ?_⟩) h0 ?_
      rotate_left
      · intro W hW
        go_simp
        all_goals with_reducible rfl
      try simp only [Act.put, List.setIfInBounds_toArray, List.set_cons_zero, List.set_cons_succ]
      refine wpAnyH_ready (rs := [12]) (by kernel_rfl) (by simp) ?_
      refine AllReadyH.cons (by rw [List.getElem?_toArray]; rfl) (fun K hK => ?_) AllReadyH.nil
      rw [if_pos (by rfl)]
      have ba : Below w2.heap.size w2 (w2.alloc (.cells #[.int .i64 op, .int .u64 x] 43)) := (Below.refl _ _).alloc (Nat.le_refl _) _
      have O3 := Lib.hid (O2.out.on PIs_ok ba)
      have SR := Lib.hid (src_any (P := Try.prog) (T := 43) (n := 2) (w := w2) (R := [.int .i64 op, .int .u64 x]) Try.underlying34 rfl (by simp [Value.oneCell']))
      have OW := Lib.hid O3.out.own
      have hsl := Try.run_slice_ins w2 op x
      have h3 : Below w.heap.size w (w2.alloc (.cells #[.int .i64 op, .int .u64 x] 43)) := O3.out.below
      clear ba O2
      go_wp2_with fail
      clear hsl
      generalize w2.alloc (.cells #[.int .i64 op, .int .u64 x] 43) = w3 at *
      refine hK.out _ _ h3 (fun h0 => ?_)
      clear hK K h3
      try simp only [Act.put, List.setIfInBounds_toArray, List.set_cons_zero, List.set_cons_succ]
      refine wpAnyH_ready (rs := [13]) (by kernel_rfl) (by simp) ?_
      refine AllReadyH.cons (by rw [List.getElem?_toArray]; rfl) (fun K hK => ?_) AllReadyH.nil
      rw [if_pos (by rfl)]
      refine wp_append_row _ _ rfl Try.underlying34 hi.out hz0.out hz1.out hz2.out rfl OW.out SR.out (by have := HLT.out; unfold maxLen; omega) (by have := HLT.out; omega) ?_
      intro q8 k8 w8 own8 grow8 fr8
      have O8 := Lib.hid (O3.out.grow PIs_ok (n := 2) rfl (show PIs w3 _ ⟨op, x⟩ _ from rfl) own8 grow8 fr8)
      have h8 := O8.out.below
      clear own8 grow8 fr8 O3 SR OW
      refine hK.out _ _ h8 (fun h0 => ?_)
      clear hK K h8
      try simp only [Act.put, List.setIfInBounds_toArray, List.set_cons_zero, List.set_cons_succ]
      refine wpAnyH_take (i := 14) (v := ?_) (by rw [List.getElem?_toArray]; rfl) (by kernel_rfl) (by kernel_rfl) (by kernel_rfl) (by exact fun _ _ _ h => h) (Or.inl ⟨by rfl, ?_⟩) h0 ?_
      rotate_left
      · intro W hW
        go_simp
        all_goals with_reducible rfl
      try simp only [Act.put, List.setIfInBounds_toArray, List.set_cons_zero, List.set_cons_succ]
      refine wpAnyH_done (by kernel_rfl) ?_ _
      clear h0
      obtain ⟨hq1, hq2⟩ := HLT.out
      go_wp2_with fail
      go_roundw
      case rel =>
        refine ⟨q8, k8, C ++ [⟨op, x⟩], done ++ [.int .i64 op, .int .u64 x], ?_, ?_, ?_, ?_, ?_⟩
        · rw [List.length_append, List.length_singleton]; go_num
        · rw [List.length_append, List.length_singleton]
        · have := HLT.out
          rw [List.length_append, List.length_singleton]
          omega
        · show _ = _
          rw [List.length_append, List.length_singleton]
          exact HTK.out
        · rw [List.length_append, List.length_singleton]
          exact O8.out
      case measure => have := HLT.out; simp [intOf]; omega
    · have hCL : C.length = L.length := by omega
      have hC : C = L := by
        have := hCe.out
        rw [hCL, List.take_length] at this
        exact this
      have RX : Hid (RwF 2 ins0 PIs wr (fun g => w.heap.size ≤ g) q1 C) := by
        rcases OwF.rows PIs_ok hO.out with h | ⟨b, off, e, hb, hx⟩
        · exact .inl h
        · refine .inr ⟨b, off, e, hO.out.fresh b hb, fun i hi => ?_⟩
          obtain ⟨r, h1, h2, h3⟩ := hx i hi
          exact ⟨r, h1, h2, h3⟩
      have BB := Lib.hid hO.out.below
      subst hC
      clear hO hCe hCL hlt hil
      go_wp2_with fail
      go_ret
      exact ⟨q1, c1, rfl, RX.out, BB.out⟩

set_option maxHeartbeats 4000000 in
theorem Context8_any {w : World} {c : Cx} {qi : Option Addr} {ki : Nat} (hi : RdU w (.slice qi c.inp.length ki) c.inp) (hl : c.inp.length ≤ 1000) :
    Calls Try.prog 8 #[.agg #[.int .u64 c.who, .int .u64 c.val, .slice qi c.inp.length ki]] w fun e w' => ∃ q k, e = .returned (cxV c q k) ∧ RdU w' (.slice q c.inp.length k) c.inp ∧ Below w.heap.size w w' := by
  obtain ⟨i0, hi0, hz0, hz1, hz2⟩ := info_parts Try.infoU64
  replace hi0 := Lib.hid hi0
  replace hz0 := Lib.hid hz0
  replace hz1 := Lib.hid hz1
  replace hz2 := Lib.hid hz2
  have HIL := Lib.hid hl
  have b1 : Below w.heap.size w (w.alloc (.cells #[.int .u64 c.who, .int .u64 c.val, .slice qi c.inp.length ki] 26)) := (Below.refl _ _).alloc (Nat.le_refl _) _
  have b2 : Below w.heap.size w ((w.alloc (.cells #[.int .u64 c.who, .int .u64 c.val, .slice qi c.inp.length ki] 26)).alloc (.cells #[.int .u64 0, .int .u64 0, .slice none 0 0] 36)) := b1.alloc b1.size _
  have b3 : Below w.heap.size w ((w.alloc (.cells #[.int .u64 c.who, .int .u64 c.val, .slice qi c.inp.length ki] 26)).alloc (.cells #[.int .u64 0, .int .u64 0, .slice none 0 0] 36)).drew := b2.drew
  have hz : (w.alloc (.cells #[.int .u64 c.who, .int .u64 c.val, .slice qi c.inp.length ki] 26)).heap.size = w.heap.size + 1 := by simp
  have KX0 : ((w.alloc (.cells #[.int .u64 c.who, .int .u64 c.val, .slice qi c.inp.length ki] 26)).alloc (.cells #[.int .u64 0, .int .u64 0, .slice none 0 0] 36)).drew.heap[w.heap.size]? = some (.cells #[.int .u64 c.who, .int .u64 c.val, .slice qi c.inp.length ki] 26 (0, 0)) := by
    show ((w.alloc (.cells #[.int .u64 c.who, .int .u64 c.val, .slice qi c.inp.length ki] 26)).alloc (.cells #[.int .u64 0, .int .u64 0, .slice none 0 0] 36)).heap[w.heap.size]? = _
    rw [Below.heap_alloc _ _ _ (by rw [hz]; omega)]
    exact heap_alloc_new w _
  have KR : Hid (((w.alloc (.cells #[.int .u64 c.who, .int .u64 c.val, .slice qi c.inp.length ki] 26)).alloc (.cells #[.int .u64 0, .int .u64 0, .slice none 0 0] 36)).drew.heap[w.heap.size + 1]? = some (.cells #[.int .u64 0, .int .u64 0, .slice none 0 0] 36 (0, 0))) := by
    show ((w.alloc (.cells #[.int .u64 c.who, .int .u64 c.val, .slice qi c.inp.length ki] 26)).alloc (.cells #[.int .u64 0, .int .u64 0, .slice none 0 0] 36)).heap[w.heap.size + 1]? = _
    have := heap_alloc_new (w.alloc (.cells #[.int .u64 c.who, .int .u64 c.val, .slice qi c.inp.length ki] 26)) (.cells #[.int .u64 0, .int .u64 0, .slice none 0 0] 36)
    rw [hz] at this
    exact this
  have KX := Lib.hid KX0
  have RI := Lib.hid (hi.on b3)
  have B2 := Lib.hid b3
  clear b1 b2 b3 hz hi hl
  go_enter Try.func8, Try.ntmps8
  go_wp2_with fail
  refine wp_region_held_drew (S := fun W => W.heap[w.heap.size]? = some (.cells #[.int .u64 c.who, .int .u64 c.val, .slice qi c.inp.length ki] 26 (0, 0))) (by kernel_rfl) (KX0) (fun h0 => ?_)
  generalize ((w.alloc (.cells #[.int .u64 c.who, .int .u64 c.val, .slice qi c.inp.length ki] 26)).alloc (.cells #[.int .u64 0, .int .u64 0, .slice none 0 0] 36)).drew = w2 at *
  refine wpAnyH_take (i := 0) (v := ?_) (by rw [List.getElem?_toArray]; rfl) (by kernel_rfl) (by kernel_rfl) (by kernel_rfl) (by exact fun _ _ _ h => h) (Or.inl ⟨by rfl, ?_⟩) h0 ?_
  rotate_left
  · intro W hW
    go_simp
    all_goals with_reducible rfl
  try simp only [Act.put, List.setIfInBounds_toArray, List.set_cons_zero, List.set_cons_succ]
  refine wpAnyH_take (i := 1) (v := ?_) (by rw [List.getElem?_toArray]; rfl) (by kernel_rfl) (by kernel_rfl) (by kernel_rfl) (by exact fun _ _ _ h => h) (Or.inl ⟨by rfl, ?_⟩) h0 ?_
  rotate_left
  · intro W hW
    have c0 := (Joins.cell_of_block hW 0).trans (rfl : _ = some _)
    have c1 := (Joins.cell_of_block hW 1).trans (rfl : _ = some _)
    have c2 := (Joins.cell_of_block hW 2).trans (rfl : _ = some _)
    go_simp
    all_goals with_reducible rfl
  try simp only [Act.put, List.setIfInBounds_toArray, List.set_cons_zero, List.set_cons_succ]
  refine wpAnyH_take (i := 2) (v := ?_) (by rw [List.getElem?_toArray]; rfl) (by kernel_rfl) (by kernel_rfl) (by kernel_rfl) (by exact fun _ _ _ h => h) (Or.inl ⟨by rfl, ?_⟩) h0 ?_
  rotate_left
  · intro W hW
    go_simp
    all_goals with_reducible rfl
  try simp only [Act.put, List.setIfInBounds_toArray, List.set_cons_zero, List.set_cons_succ]
  refine wpAnyH_take (i := 3) (v := ?_) (by rw [List.getElem?_toArray]; rfl) (by kernel_rfl) (by kernel_rfl) (by kernel_rfl) (by exact fun _ _ _ h => h) (Or.inl ⟨by rfl, ?_⟩) h0 ?_
  rotate_left
  · intro W hW
    have c0 := (Joins.cell_of_block hW 0).trans (rfl : _ = some _)
    have c1 := (Joins.cell_of_block hW 1).trans (rfl : _ = some _)
    have c2 := (Joins.cell_of_block hW 2).trans (rfl : _ = some _)
    go_simp
    all_goals with_reducible rfl
  try simp only [Act.put, List.setIfInBounds_toArray, List.set_cons_zero, List.set_cons_succ]
  refine wpAnyH_take (i := 5) (v := ?_) (by rw [List.getElem?_toArray]; rfl) (by kernel_rfl) (by kernel_rfl) (by kernel_rfl) (by exact fun _ _ _ h => h) (Or.inl ⟨by rfl, ?_⟩) h0 ?_
  rotate_left
  · intro W hW
    go_simp
    all_goals with_reducible rfl
  try simp only [Act.put, List.setIfInBounds_toArray, List.set_cons_zero, List.set_cons_succ]
  refine wpAnyH_take (i := 6) (v := ?_) (by rw [List.getElem?_toArray]; rfl) (by kernel_rfl) (by kernel_rfl) (by kernel_rfl) (by exact fun _ _ _ h => h) (Or.inl ⟨by rfl, ?_⟩) h0 ?_
  rotate_left
  · intro W hW
    have c0 := (Joins.cell_of_block hW 0).trans (rfl : _ = some _)
    have c1 := (Joins.cell_of_block hW 1).trans (rfl : _ = some _)
    have c2 := (Joins.cell_of_block hW 2).trans (rfl : _ = some _)
    go_simp
    all_goals with_reducible rfl
  try simp only [Act.put, List.setIfInBounds_toArray, List.set_cons_zero, List.set_cons_succ]
  refine wpAnyH_ready (rs := [4]) (by kernel_rfl) (by simp) ?_
  refine AllReadyH.cons (by rw [List.getElem?_toArray]; rfl) (fun K hK => ?_) AllReadyH.nil
  rw [if_pos (by rfl)]
  have E7 := Lib.hid (own_empty w2 23 1)
  have b7 : Below w2.heap.size w2 (w2.alloc (.cells #[] 23)) := (Below.refl _ _).alloc (Nat.le_refl _) _
  have B7 := Lib.hid b7
  have R7 := Lib.hid ((RI.out.on b7).src (P := Try.prog) Try.underlying24)
  have h7 : (w2.alloc (.cells #[] 23)).heap[w.heap.size]? = some (.cells #[.int .u64 c.who, .int .u64 c.val, .slice qi c.inp.length ki] 26 (0, 0)) := by rw [b7.block _ (Array.getElem?_eq_some_iff.1 h0).1]; exact h0
  clear b7
  go_wp2_with fail
  obtain ⟨z7, hz7⟩ : ∃ z, w2.heap.size = z := ⟨_, rfl⟩
  have HZ7 := Lib.hid hz7
  rw [hz7] at E7 ⊢
  generalize w2.alloc (.cells #[] 23) = w7 at *
  clear hz7
  refine hK.out _ _ h7 (fun h0 => ?_)
  clear hK K h7
  try simp only [Act.put, List.setIfInBounds_toArray, List.set_cons_zero, List.set_cons_succ]
  refine wpAnyH_ready (rs := [7]) (by kernel_rfl) (by simp) ?_
  refine AllReadyH.cons (by rw [List.getElem?_toArray]; rfl) (fun K hK => ?_) AllReadyH.nil
  rw [if_pos (by rfl)]
  refine wp_append_row _ _ rfl Try.underlying24 hi0.out hz0.out hz1.out hz2.out rfl E7.out R7.out (by have := HIL.out; unfold maxLen; omega) (by have := HIL.out; omega) ?_
  intro q8 k8 w8 own8 grow8 fr8
  try simp only [Nat.zero_add, List.nil_append] at own8
  try simp only [Nat.zero_add]
  have b8 : Below w2.heap.size w2 w8 := B7.out.grown grow8 B7.out.size (fun j hj => by
    have h1 := HZ7.out
    have hj2 : (Value.slice (some ⟨z7, 0, none⟩) 0 0).ownBlock = some j := hj
    simp [Value.ownBlock] at hj2
    omega)
  have B8 := Lib.hid (B2.out.trans (b8.mono B2.out.size))
  have h8 : w8.heap[w.heap.size]? = some (.cells #[.int .u64 c.who, .int .u64 c.val, .slice qi c.inp.length ki] 26 (0, 0)) := by rw [b8.block _ (Array.getElem?_eq_some_iff.1 KX.out).1]; exact KX.out
  have KR8 : Hid (w8.heap[w.heap.size + 1]? = some (.cells #[.int .u64 0, .int .u64 0, .slice none 0 0] 36 (0, 0))) := by
    show _ = _
    rw [b8.block _ (Array.getElem?_eq_some_iff.1 KR.out).1]; exact KR.out
  have O8 := Lib.hid own8
  clear own8 grow8 fr8 E7 R7 B7 KR b8
  refine hK.out _ _ h8 (fun h0 => ?_)
  clear hK K h8
  try simp only [Act.put, List.setIfInBounds_toArray, List.set_cons_zero, List.set_cons_succ]
  refine wpAnyH_take (i := 8) (v := ?_) (by rw [List.getElem?_toArray]; rfl) (by kernel_rfl) (by kernel_rfl) (by kernel_rfl) (by exact fun _ _ _ h => h) (Or.inl ⟨by rfl, ?_⟩) h0 ?_
  rotate_left
  · intro W hW
    go_simp
    all_goals with_reducible rfl
  try simp only [Act.put, List.setIfInBounds_toArray, List.set_cons_zero, List.set_cons_succ]
  refine wpAnyH_ready (rs := [9]) (by kernel_rfl) (by simp) ?_
  refine AllReadyH.cons (by rw [List.getElem?_toArray]; rfl) (fun K hK => ?_) AllReadyH.nil
  rw [if_pos (by rfl)]
  have x0 := (Joins.cell_of_block KR8.out 0).trans (rfl : _ = some _)
  have x1 := (Joins.cell_of_block KR8.out 1).trans (rfl : _ = some _)
  have x2 := (Joins.cell_of_block KR8.out 2).trans (rfl : _ = some _)
  have y0 := Joins.unfrozen_of_block KR8.out 0
  have y1 := Joins.unfrozen_of_block KR8.out 1
  have y2 := Joins.unfrozen_of_block KR8.out 2
  have K9 : (((w8.setCell ⟨w.heap.size + 1, 0, none⟩ (.int .u64 c.who)).setCell ⟨w.heap.size + 1, 1, none⟩ (.int .u64 c.val)).setCell ⟨w.heap.size + 1, 2, none⟩ (.slice q8 c.inp.length k8)).heap[w.heap.size + 1]? = some (.cells #[.int .u64 c.who, .int .u64 c.val, .slice q8 c.inp.length k8] 36 (0, 0)) :=
    Joins.block_setCell (Joins.block_setCell (Joins.block_setCell KR8.out _) _) _
  have kn : ∀ g, g ≠ w.heap.size + 1 → (((w8.setCell ⟨w.heap.size + 1, 0, none⟩ (.int .u64 c.who)).setCell ⟨w.heap.size + 1, 1, none⟩ (.int .u64 c.val)).setCell ⟨w.heap.size + 1, 2, none⟩ (.slice q8 c.inp.length k8)).heap[g]? = w8.heap[g]? := fun g hg => by
    rw [Below.heap_setCell _ _ _ _ (by simpa using hg), Below.heap_setCell _ _ _ _ (by simpa using hg), Below.heap_setCell _ _ _ _ (by simpa using hg)]
  have h9 : (((w8.setCell ⟨w.heap.size + 1, 0, none⟩ (.int .u64 c.who)).setCell ⟨w.heap.size + 1, 1, none⟩ (.int .u64 c.val)).setCell ⟨w.heap.size + 1, 2, none⟩ (.slice q8 c.inp.length k8)).heap[w.heap.size]? = some (.cells #[.int .u64 c.who, .int .u64 c.val, .slice qi c.inp.length ki] 26 (0, 0)) := (kn _ (by omega)).trans h0
  have R9 := Lib.hid (rdU_of_own (own_keep O8.out (fun g hg => kn g (fun e => own_ne O8.out KR8.out (by decide) (by rw [← e]; exact hg)))))
  have hge : w.heap.size ≤ w.heap.size + 1 := by omega
  have B9 := Lib.hid (((B8.out.setCell (p := ⟨w.heap.size + 1, 0, none⟩) hge (.int .u64 c.who)).setCell (p := ⟨w.heap.size + 1, 1, none⟩) hge (.int .u64 c.val)).setCell (p := ⟨w.heap.size + 1, 2, none⟩) hge (.slice q8 c.inp.length k8))
  have K9 := Lib.hid K9
  clear kn O8 hge
  go_wp2_with fail
  clear x0 x1 x2 y0 y1 y2 KR8 B8
  generalize ((w8.setCell ⟨w.heap.size + 1, 0, none⟩ (.int .u64 c.who)).setCell ⟨w.heap.size + 1, 1, none⟩ (.int .u64 c.val)).setCell ⟨w.heap.size + 1, 2, none⟩ (.slice q8 c.inp.length k8) = w9 at *
  refine hK.out _ _ h9 (fun h0 => ?_)
  clear hK K h9
  try simp only [Act.put, List.setIfInBounds_toArray, List.set_cons_zero, List.set_cons_succ]
  refine wpAnyH_done (by kernel_rfl) ?_ _
  clear h0
  go_wp2_with fail
  have f0 := (Joins.cell_of_block K9.out 0).trans (rfl : _ = some _)
  have f1 := (Joins.cell_of_block K9.out 1).trans (rfl : _ = some _)
  have f2 := (Joins.cell_of_block K9.out 2).trans (rfl : _ = some _)
  refine bodyPost_ret (v := cxV c q8 k8) (by simp [results, Try.results8, go_sem, f0, f1, f2, cxV]) rfl ⟨q8, k8, rfl, R9.out, B9.out⟩

/-- The law's own code of four. -/
def kL8 : List Ins := [⟨1, 2⟩, ⟨1, 3⟩, ⟨6, 0⟩, ⟨0, 0⟩]
def cx0 : Cx := ⟨0, 0, []⟩
theorem k_run : runM kL8 cx0 (startM 9 ws0) 99 = (⟨3, 5, 1, 0, [18446744073709551615], ws0⟩, 4) := by kernel_rfl
def kLit : Array (Nat × Value) := #[(0, .agg #[.int .i64 1, .int .u64 2]), (1, .agg #[.int .i64 1, .int .u64 3]), (2, .agg #[.int .i64 6, .int .u64 0]), (3, .agg #[.int .i64 0, .int .u64 0])]
def kCells : List Value := [.int .i64 1, .int .u64 2, .int .i64 1, .int .u64 3, .int .i64 6, .int .u64 0, .int .i64 0, .int .u64 0]
theorem Try.run_klit (w : World) : (Instr.buildSlice 34 4 #[(0, .agg #[.int .i64 1, .int .u64 2]), (1, .agg #[.int .i64 1, .int .u64 3]), (2, .agg #[.int .i64 6, .int .u64 0]), (3, .agg #[.int .i64 0, .int .u64 0])]).run Try.prog w = .ok (.slice (some ⟨w.heap.size, 0, none⟩) 4 4) (w.alloc (.cells #[.int .i64 1, .int .u64 2, .int .i64 1, .int .u64 3, .int .i64 6, .int .u64 0, .int .i64 0, .int .u64 0] 43)) := by kernel_rfl
end Go.Proofs.Ytamkmeigcmpkjaa
