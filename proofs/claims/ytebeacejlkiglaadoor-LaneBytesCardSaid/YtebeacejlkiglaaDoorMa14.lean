/-
  LaneChecks returns true for all roots, bytes and proofs.; The frame of every law's proof: a call that answers true, and of what there was turns nothing, is what the row asks.; A slice of bytes, as a law's argument.; A list of slices of bytes, as a law's argument; what it weighs.; How many slices an argument of slices holds; a hash as an argument, and its bytes.; A hash as a law's argument.; A struct's fields, as a law's argument holds them.; Cells that make a row.; A proof of a list, as a law's argument.; What a row's list of variables gives: the table of digest's rounds.; The proofs of all places; what is short.
-/
import Derived.Test.YtebeacejlkiglaaDoorRows
import Derived.WalkKit
import Derived.ProofKit
import Derived.OpenShut
import Derived.Lib.SmallJoins
import Derived.Deep.Slices
import Derived.Deep.Grids
import Derived.RangeFuncOwn
import Derived.SizedLaws
import Derived.Test.YtebeacejlkiglaaDoorTie
import Derived.Test.YtebeacejlkiglaaDoorCards
import Derived.LaidMore
import Derived.Stop.Joined
import Derived.SevenTiedAt
import Derived.Lib.LaidTab
import Derived.Test.YtebeacejlkiglaaDoorMa1
import Derived.Test.YtebeacejlkiglaaDoorMa3
import Derived.Test.YtebeacejlkiglaaDoorMa4
import Derived.Test.YtebeacejlkiglaaDoorMa9
import Derived.Test.YtebeacejlkiglaaDoorMa10
import Derived.Test.YtebeacejlkiglaaDoorMa12
import Derived.Test.YtebeacejlkiglaaDoorMa13
namespace Go.Proofs.YtebeacejlkiglaaDoor
open Go.RowKit
set_option maxRecDepth 100000

set_option maxHeartbeats 8000000 in
theorem Checks_walk {w : World} {G xs : List Int} {v : Value} {P C : Int} {q : Option Addr} {k : Nat} {Ss : List (List Int)} (hG : G.length = 32) (h : Rd w v xs) (hX : Bytes xs) (hl : xs.length ≤ maxLen) (hs : RdHs w q Ss) (ok : HsOk Ss) (hn : Ss.length * 32 ≤ 140737488355328) (hT : Tbl w) :
    Calls Tryd.prog 4 #[.agg (hc G).toArray, v, .agg #[.int .i64 P, .int .i64 C, .slice q Ss.length k]] w fun e w' => e = .returned (.bool true) ∧ Below w.heap.size w w' := by
  unfold maxLen at hl
  obtain ⟨qv, cv, rfl⟩ := h.len
  have HR := Lib.hid h
  have HX := Lib.hid hX
  have HT := Lib.hid hT
  have HOK := Lib.hid ok
  have HSl : Hid (∀ i, i < Ss.length → (Ss.getD i []).length = 32) := fun i hi => (ok.get i hi).1
  have HQ := Lib.hid hs
  have hnm : Ss.length ≤ maxLen := by unfold maxLen; omega
  have b1 : Below w.heap.size w (w.alloc (.cells (hc G).toArray 36)) := (Below.refl _ _).alloc (Nat.le_refl _) _
  have b2 : Below (w.alloc (.cells (hc G).toArray 36)).heap.size (w.alloc (.cells (hc G).toArray 36)) ((w.alloc (.cells (hc G).toArray 36)).alloc (.cells #[.int .i64 P, .int .i64 C, .slice q Ss.length k] 32)) := (Below.refl _ _).alloc (Nat.le_refl _) _
  have hp2 := heap_alloc_new (w.alloc (.cells (hc G).toArray 36)) (.cells #[.int .i64 P, .int .i64 C, .slice q Ss.length k] 32)
  rw [show (w.alloc (.cells (hc G).toArray 36)).heap.size = w.heap.size + 1 by simp] at hp2
  have K0 : Hid (HashAt ((w.alloc (.cells (hc G).toArray 36)).alloc (.cells #[.int .i64 P, .int .i64 C, .slice q Ss.length k] 32)) w.heap.size G ∧ ((w.alloc (.cells (hc G).toArray 36)).alloc (.cells #[.int .i64 P, .int .i64 C, .slice q Ss.length k] 32)).heap[w.heap.size + 1]? = some (.cells #[.int .i64 P, .int .i64 C, .slice q Ss.length k] 32 (0, 0))) := Lib.hid ⟨(HashAt.new w G).on b2, hp2⟩
  have B0 := Lib.hid (b1.trans (b2.mono b1.size))
  have c0 := (Joins.cell_of_block K0.out.2 0).trans (rfl : _ = some _)
  have c1 := (Joins.cell_of_block K0.out.2 1).trans (rfl : _ = some _)
  have c2 := (Joins.cell_of_block K0.out.2 2).trans (rfl : _ = some _)
  have lG := hc_len G
  clear h hX hT ok hs b1 b2 hp2
  go_enter Tryd.func4, Tryd.ntmps4
  by_cases hx : xs.length ≤ 4000
  · go_wp2_with fail
    generalize ((w.alloc (.cells (hc G).toArray 36)).alloc (.cells #[.int .i64 P, .int .i64 C, .slice q Ss.length k] 32)) = w0 at *
    refine (Lent_any (HR.out.on B0.out) (by omega)).mono ?_
    rintro e w1 ⟨u, rfl, hu, hb1⟩
    have U1 := Lib.hid hu
    have K1 : Hid (HashAt w1 w.heap.size G ∧ w1.heap[w.heap.size + 1]? = some (.cells #[.int .i64 P, .int .i64 C, .slice q Ss.length k] 32 (0, 0))) := Lib.hid ⟨K0.out.1.on hb1, blk_onB2 K0.out.2 hb1⟩
    have B1 := Lib.hid (B0.out.trans (hb1.mono B0.out.size))
    obtain ⟨g, cu, rfl, -⟩ := hu.own
    clear hu hb1 K0 B0 c0 c1 c2
    have c0 := (Joins.cell_of_block K1.out.2 0).trans (rfl : _ = some _)
    have c1 := (Joins.cell_of_block K1.out.2 1).trans (rfl : _ = some _)
    have c2 := (Joins.cell_of_block K1.out.2 2).trans (rfl : _ = some _)
    go_wp2_with fail
    refine (Own_any (P := P) (C := C) (k := k) (HQ.out.on HSl.out B1.out) HOK.out hn).mono ?_
    rintro e w2 ⟨q', k', rfl, hs2⟩
    have hb2 := hs2.below
    obtain ⟨-, rd2, hkn, hkm⟩ := hs2.rd
    have b3 : Below w2.heap.size w2 (w2.alloc (.cells #[.int .i64 P, .int .i64 C, .slice q' Ss.length k'] 28)) := (Below.refl _ _).alloc (Nat.le_refl _) _
    have B2 := B1.out.trans (hb2.mono B1.out.size)
    have B3 : Hid (Below w.heap.size w (w2.alloc (.cells #[.int .i64 P, .int .i64 C, .slice q' Ss.length k'] 28)).drew) := Lib.hid (B2.trans (b3.mono B2.size)).drew
    have K3 : Hid (HashAt (w2.alloc (.cells #[.int .i64 P, .int .i64 C, .slice q' Ss.length k'] 28)).drew w.heap.size G ∧ (w2.alloc (.cells #[.int .i64 P, .int .i64 C, .slice q' Ss.length k'] 28)).drew.heap[w.heap.size + 1]? = some (.cells #[.int .i64 P, .int .i64 C, .slice q Ss.length k] 32 (0, 0)) ∧ (w2.alloc (.cells #[.int .i64 P, .int .i64 C, .slice q' Ss.length k'] 28)).drew.heap[w2.heap.size]? = some (.cells #[.int .i64 P, .int .i64 C, .slice q' Ss.length k'] 28 (0, 0))) := Lib.hid ⟨(K1.out.1.on hb2).on b3.drew, (blk_onB2 (blk_onB2 K1.out.2 hb2) b3 : (w2.alloc (.cells #[.int .i64 P, .int .i64 C, .slice q' Ss.length k'] 28)).heap[w.heap.size + 1]? = _), heap_alloc_new w2 _⟩
    have U3 := Lib.hid ((U1.out.on hb2).on b3.drew)
    have RX3 : Hid (RdHs (w2.alloc (.cells #[.int .i64 P, .int .i64 C, .slice q' Ss.length k'] 28)).drew q' Ss) := Lib.hid (rd2.on HSl.out b3.drew)
    have RQ3 : Hid (RdHs (w2.alloc (.cells #[.int .i64 P, .int .i64 C, .slice q' Ss.length k'] 28)).drew q Ss) := Lib.hid (HQ.out.on HSl.out B3.out)
    have HN0 : ∃ N, ckR P C Ss xs G = N := ⟨_, rfl⟩
    obtain ⟨N, hN⟩ := HN0
    have HN := Lib.hid hN
    clear hN hs2 hb2 rd2 b3 B2 K1 U1 B1 c0 c1 c2
    go_wp2_with fail
    refine wp_region_held_drew (S := fun W => HashAt W w.heap.size G ∧ W.heap[w.heap.size + 1]? = some (.cells #[.int .i64 P, .int .i64 C, .slice q Ss.length k] 32 (0, 0)) ∧ W.heap[w2.heap.size]? = some (.cells #[.int .i64 P, .int .i64 C, .slice q' Ss.length k'] 28 (0, 0))) (by kernel_rfl) (K3.out) (fun h0 => ?_)
    generalize (w2.alloc (.cells #[.int .i64 P, .int .i64 C, .slice q' Ss.length k'] 28)).drew = w3 at *
    refine wpAnyH_take (i := 0) (v := ?_) (by rw [List.getElem?_toArray]; rfl) (by kernel_rfl) (by kernel_rfl) (by kernel_rfl) (by exact fun _ _ _ h => h) (Or.inl ⟨by rfl, ?_⟩) h0 ?_
    rotate_left
    · intro W hW
      have cc := hW.1.row hG
      go_simp
      all_goals with_reducible rfl
    try simp only [Act.put, List.setIfInBounds_toArray, List.set_cons_zero, List.set_cons_succ]
    refine wpAnyH_take (i := 1) (v := ?_) (by rw [List.getElem?_toArray]; rfl) (by kernel_rfl) (by kernel_rfl) (by kernel_rfl) (by exact fun _ _ _ h => h) (Or.inl ⟨by rfl, ?_⟩) h0 ?_
    rotate_left
    · intro W hW
      go_simp
      all_goals with_reducible rfl
    try simp only [Act.put, List.setIfInBounds_toArray, List.set_cons_zero, List.set_cons_succ]
    refine wpAnyH_take (i := 2) (v := ?_) (by rw [List.getElem?_toArray]; rfl) (by kernel_rfl) (by kernel_rfl) (by kernel_rfl) (by exact fun _ _ _ h => h) (Or.inl ⟨by rfl, ?_⟩) h0 ?_
    rotate_left
    · intro W hW
      have c0 := (Joins.cell_of_block hW.2.2 0).trans (rfl : _ = some _)
      have c1 := (Joins.cell_of_block hW.2.2 1).trans (rfl : _ = some _)
      have c2 := (Joins.cell_of_block hW.2.2 2).trans (rfl : _ = some _)
      go_simp
      all_goals with_reducible rfl
    try simp only [Act.put, List.setIfInBounds_toArray, List.set_cons_zero, List.set_cons_succ]
    refine wpAnyH_take (i := 5) (v := ?_) (by rw [List.getElem?_toArray]; rfl) (by kernel_rfl) (by kernel_rfl) (by kernel_rfl) (by exact fun _ _ _ h => h) (Or.inl ⟨by rfl, ?_⟩) h0 ?_
    rotate_left
    · intro W hW
      have cc := hW.1.row hG
      go_simp
      all_goals with_reducible rfl
    try simp only [Act.put, List.setIfInBounds_toArray, List.set_cons_zero, List.set_cons_succ]
    refine wpAnyH_take (i := 6) (v := ?_) (by rw [List.getElem?_toArray]; rfl) (by kernel_rfl) (by kernel_rfl) (by kernel_rfl) (by exact fun _ _ _ h => h) (Or.inl ⟨by rfl, ?_⟩) h0 ?_
    rotate_left
    · intro W hW
      go_simp
      all_goals with_reducible rfl
    try simp only [Act.put, List.setIfInBounds_toArray, List.set_cons_zero, List.set_cons_succ]
    refine wpAnyH_take (i := 7) (v := ?_) (by rw [List.getElem?_toArray]; rfl) (by kernel_rfl) (by kernel_rfl) (by kernel_rfl) (by exact fun _ _ _ h => h) (Or.inl ⟨by rfl, ?_⟩) h0 ?_
    rotate_left
    · intro W hW
      have c0 := (Joins.cell_of_block hW.2.1 0).trans (rfl : _ = some _)
      have c1 := (Joins.cell_of_block hW.2.1 1).trans (rfl : _ = some _)
      have c2 := (Joins.cell_of_block hW.2.1 2).trans (rfl : _ = some _)
      go_simp
      all_goals with_reducible rfl
    try simp only [Act.put, List.setIfInBounds_toArray, List.set_cons_zero, List.set_cons_succ]
    refine wpAnyH_ready (rs := [3]) (by kernel_rfl) (by simp) ?_
    refine AllReadyH.cons (by rw [List.getElem?_toArray]; rfl) (fun K hK => ?_) AllReadyH.nil
    rw [if_pos (by rfl)]
    go_wp2_with fail
    refine (Check_any (w := w3) (P := P) (C := C) (q := q') (k := k') (Ss := Ss) (G := G) hG RX3.out (fun i hi => HOK.out.get i hi) hnm U3.out.rdc.rd HX.out hx hkn hkm (HT.out.on B3.out HT.out.pos)).mono ?_
    rintro e w4 ⟨rfl, bb⟩
    rw [HN.out]
    have K4 : Hid (HashAt w4 w.heap.size G ∧ w4.heap[w.heap.size + 1]? = some (.cells #[.int .i64 P, .int .i64 C, .slice q Ss.length k] 32 (0, 0)) ∧ w4.heap[w2.heap.size]? = some (.cells #[.int .i64 P, .int .i64 C, .slice q' Ss.length k'] 28 (0, 0))) := Lib.hid ⟨K3.out.1.on bb, blk_onB2 K3.out.2.1 bb, blk_onB2 K3.out.2.2 bb⟩
    have B4 := Lib.hid (B3.out.trans (bb.mono B3.out.size))
    have U4 := Lib.hid (U3.out.on bb)
    have RQ4 := Lib.hid (RQ3.out.on HSl.out bb)
    have RX4 := Lib.hid (RX3.out.on HSl.out bb)
    clear bb K3 B3 U3 RQ3 RX3
    go_wp2_with fail
    refine hK.out _ _ (K4.out) (fun hk => ?_)
    clear hK K
    try simp only [Act.put, List.setIfInBounds_toArray, List.set_cons_zero, List.set_cons_succ]
    refine wpAnyH_ready (rs := [4]) (by kernel_rfl) (by simp) ?_
    refine AllReadyH.cons (by rw [List.getElem?_toArray]; rfl) (fun K hK => ?_) AllReadyH.nil
    rw [if_pos (by rfl)]
    go_wp2_with fail
    refine (num_any N w4).mono ?_
    rintro e wx ⟨rfl, hwx⟩
    obtain rfl := hwx.symm
    clear hwx
    go_wp2_with fail
    refine hK.out _ _ (hk) (fun hn => ?_)
    clear hK K
    try simp only [Act.put, List.setIfInBounds_toArray, List.set_cons_zero, List.set_cons_succ]
    refine wpAnyH_ready (rs := [8]) (by kernel_rfl) (by simp) ?_
    refine AllReadyH.cons (by rw [List.getElem?_toArray]; rfl) (fun K hK => ?_) AllReadyH.nil
    rw [if_pos (by rfl)]
    go_wp2_with fail
    refine (refCheck_any (w := w4) (P := P) (C := C) (q := q) (k := k) (Ss := Ss) (G := G) hG RQ4.out (fun i hi => HOK.out.get i hi) hnm (HR.out.on B4.out) HX.out hx).mono ?_
    rintro e w5 ⟨rfl, bb⟩
    rw [HN.out]
    have K5 : Hid (HashAt w5 w.heap.size G ∧ w5.heap[w.heap.size + 1]? = some (.cells #[.int .i64 P, .int .i64 C, .slice q Ss.length k] 32 (0, 0)) ∧ w5.heap[w2.heap.size]? = some (.cells #[.int .i64 P, .int .i64 C, .slice q' Ss.length k'] 28 (0, 0))) := Lib.hid ⟨K4.out.1.on bb, blk_onB2 K4.out.2.1 bb, blk_onB2 K4.out.2.2 bb⟩
    have B5 := Lib.hid (B4.out.trans (bb.mono B4.out.size))
    have U5 := Lib.hid (U4.out.on bb)
    have RQ5 := Lib.hid (RQ4.out.on HSl.out bb)
    have RX5 := Lib.hid (RX4.out.on HSl.out bb)
    clear bb K4 B4 U4 RQ4 RX4
    go_wp2_with fail
    refine hK.out _ _ (K5.out) (fun hk => ?_)
    clear hK K
    try simp only [Act.put, List.setIfInBounds_toArray, List.set_cons_zero, List.set_cons_succ]
    refine wpAnyH_take (i := 9) (v := ?_) (by rw [List.getElem?_toArray]; rfl) (by kernel_rfl) (by kernel_rfl) (by kernel_rfl) (by exact fun _ _ _ h => h) (Or.inl ⟨by rfl, ?_⟩) hk ?_
    rotate_left
    · intro W hW
      go_simp
      all_goals with_reducible rfl
    try simp only [Act.put, List.setIfInBounds_toArray, List.set_cons_zero, List.set_cons_succ]
    refine wpAnyH_take (i := 10) (v := ?_) (by rw [List.getElem?_toArray]; rfl) (by kernel_rfl) (by kernel_rfl) (by kernel_rfl) (by exact fun _ _ _ h => h) (Or.inl ⟨by rfl, ?_⟩) hk ?_
    rotate_left
    · intro W hW
      go_simp
      all_goals with_reducible rfl
    try simp only [Act.put, List.setIfInBounds_toArray, List.set_cons_zero, List.set_cons_succ]
    refine wpAnyH_take (i := 11) (v := ?_) (by rw [List.getElem?_toArray]; rfl) (by kernel_rfl) (by kernel_rfl) (by kernel_rfl) (by exact fun _ _ _ h => h) (Or.inl ⟨by rfl, ?_⟩) hk ?_
    rotate_left
    · intro W hW
      go_simp
      all_goals with_reducible rfl
    try simp only [Act.put, List.setIfInBounds_toArray, List.set_cons_zero, List.set_cons_succ]
    refine wpAnyH_take (i := 12) (v := ?_) (by rw [List.getElem?_toArray]; rfl) (by kernel_rfl) (by kernel_rfl) (by kernel_rfl) (by exact fun _ _ _ h => h) (Or.inl ⟨by rfl, ?_⟩) hk ?_
    rotate_left
    · intro W hW
      go_simp
      all_goals with_reducible rfl
    try simp only [Act.put, List.setIfInBounds_toArray, List.set_cons_zero, List.set_cons_succ]
    refine wpAnyH_ready (rs := [13]) (by kernel_rfl) (by simp) ?_
    refine AllReadyH.cons (by rw [List.getElem?_toArray]; rfl) (fun K hK => ?_) AllReadyH.nil
    rw [if_pos (by rfl)]
    go_wp2_with fail
    refine (Stays_any U5.out (HR.out.on B5.out) (by omega)).mono ?_
    rintro e w6 ⟨rfl, bb⟩
    have K6 : Hid (HashAt w6 w.heap.size G ∧ w6.heap[w.heap.size + 1]? = some (.cells #[.int .i64 P, .int .i64 C, .slice q Ss.length k] 32 (0, 0)) ∧ w6.heap[w2.heap.size]? = some (.cells #[.int .i64 P, .int .i64 C, .slice q' Ss.length k'] 28 (0, 0))) := Lib.hid ⟨K5.out.1.on bb, blk_onB2 K5.out.2.1 bb, blk_onB2 K5.out.2.2 bb⟩
    have B6 := Lib.hid (B5.out.trans (bb.mono B5.out.size))
    have U6 := Lib.hid (U5.out.on bb)
    have RQ6 := Lib.hid (RQ5.out.on HSl.out bb)
    have RX6 := Lib.hid (RX5.out.on HSl.out bb)
    clear bb K5 B5 U5 RQ5 RX5
    go_wp2_with fail
    refine hK.out _ _ (K6.out) (fun hk => ?_)
    clear hK K
    try simp only [Act.put, List.setIfInBounds_toArray, List.set_cons_zero, List.set_cons_succ]
    refine wpAnyH_take (i := 14) (v := ?_) (by rw [List.getElem?_toArray]; rfl) (by kernel_rfl) (by kernel_rfl) (by kernel_rfl) (by exact fun _ _ _ h => h) (Or.inl ⟨by rfl, ?_⟩) hk ?_
    rotate_left
    · intro W hW
      go_simp
      all_goals with_reducible rfl
    try simp only [Act.put, List.setIfInBounds_toArray, List.set_cons_zero, List.set_cons_succ]
    refine wpAnyH_take (i := 15) (v := ?_) (by rw [List.getElem?_toArray]; rfl) (by kernel_rfl) (by kernel_rfl) (by kernel_rfl) (by exact fun _ _ _ h => h) (Or.inl ⟨by rfl, ?_⟩) hk ?_
    rotate_left
    · intro W hW
      go_simp
      all_goals with_reducible rfl
    try simp only [Act.put, List.setIfInBounds_toArray, List.set_cons_zero, List.set_cons_succ]
    refine wpAnyH_take (i := 16) (v := ?_) (by rw [List.getElem?_toArray]; rfl) (by kernel_rfl) (by kernel_rfl) (by kernel_rfl) (by exact fun _ _ _ h => h) (Or.inl ⟨by rfl, ?_⟩) hk ?_
    rotate_left
    · intro W hW
      have c0 := (Joins.cell_of_block hW.2.2 0).trans (rfl : _ = some _)
      have c1 := (Joins.cell_of_block hW.2.2 1).trans (rfl : _ = some _)
      have c2 := (Joins.cell_of_block hW.2.2 2).trans (rfl : _ = some _)
      go_simp
      all_goals with_reducible rfl
    try simp only [Act.put, List.setIfInBounds_toArray, List.set_cons_zero, List.set_cons_succ]
    refine wpAnyH_take (i := 17) (v := ?_) (by rw [List.getElem?_toArray]; rfl) (by kernel_rfl) (by kernel_rfl) (by kernel_rfl) (by exact fun _ _ _ h => h) (Or.inl ⟨by rfl, ?_⟩) hk ?_
    rotate_left
    · intro W hW
      have c0 := (Joins.cell_of_block hW.2.1 0).trans (rfl : _ = some _)
      have c1 := (Joins.cell_of_block hW.2.1 1).trans (rfl : _ = some _)
      have c2 := (Joins.cell_of_block hW.2.1 2).trans (rfl : _ = some _)
      go_simp
      all_goals with_reducible rfl
    try simp only [Act.put, List.setIfInBounds_toArray, List.set_cons_zero, List.set_cons_succ]
    refine wpAnyH_ready (rs := [18]) (by kernel_rfl) (by simp) ?_
    refine AllReadyH.cons (by rw [List.getElem?_toArray]; rfl) (fun K hK => ?_) AllReadyH.nil
    rw [if_pos (by rfl)]
    go_wp2_with fail
    refine (Same_any RX6.out RQ6.out HOK.out hnm).mono ?_
    rintro e w7 ⟨rfl, bb⟩
    have K7 : Hid (HashAt w7 w.heap.size G ∧ w7.heap[w.heap.size + 1]? = some (.cells #[.int .i64 P, .int .i64 C, .slice q Ss.length k] 32 (0, 0)) ∧ w7.heap[w2.heap.size]? = some (.cells #[.int .i64 P, .int .i64 C, .slice q' Ss.length k'] 28 (0, 0))) := Lib.hid ⟨K6.out.1.on bb, blk_onB2 K6.out.2.1 bb, blk_onB2 K6.out.2.2 bb⟩
    have B7 := Lib.hid (B6.out.trans (bb.mono B6.out.size))
    have U7 := Lib.hid (U6.out.on bb)
    have RQ7 := Lib.hid (RQ6.out.on HSl.out bb)
    have RX7 := Lib.hid (RX6.out.on HSl.out bb)
    clear bb K6 B6 U6 RQ6 RX6
    go_wp2_with fail
    refine hK.out _ _ (K7.out) (fun hk => ?_)
    clear hK K
    try simp only [Act.put, List.setIfInBounds_toArray, List.set_cons_zero, List.set_cons_succ]
    refine wpAnyH_take (i := 19) (v := ?_) (by rw [List.getElem?_toArray]; rfl) (by kernel_rfl) (by kernel_rfl) (by kernel_rfl) (by exact fun _ _ _ h => h) (Or.inl ⟨by rfl, ?_⟩) hk ?_
    rotate_left
    · intro W hW
      go_simp
      all_goals with_reducible rfl
    try simp only [Act.put, List.setIfInBounds_toArray, List.set_cons_zero, List.set_cons_succ]
    refine wpAnyH_take (i := 20) (v := ?_) (by rw [List.getElem?_toArray]; rfl) (by kernel_rfl) (by kernel_rfl) (by kernel_rfl) (by exact fun _ _ _ h => h) (Or.inl ⟨by rfl, ?_⟩) hk ?_
    rotate_left
    · intro W hW
      go_simp
      all_goals with_reducible rfl
    try simp only [Act.put, List.setIfInBounds_toArray, List.set_cons_zero, List.set_cons_succ]
    refine wpAnyH_ready (rs := [21]) (by kernel_rfl) (by simp) ?_
    refine AllReadyH.cons (by rw [List.getElem?_toArray]; rfl) (fun K hK => ?_) AllReadyH.nil
    rw [if_pos (by rfl)]
    go_wp2_with fail
    refine (knows_any (HT.out.on B7.out HT.out.pos)).mono ?_
    rintro e w8 ⟨rfl, bb⟩
    have K8 : Hid (HashAt w8 w.heap.size G ∧ w8.heap[w.heap.size + 1]? = some (.cells #[.int .i64 P, .int .i64 C, .slice q Ss.length k] 32 (0, 0)) ∧ w8.heap[w2.heap.size]? = some (.cells #[.int .i64 P, .int .i64 C, .slice q' Ss.length k'] 28 (0, 0))) := Lib.hid ⟨K7.out.1.on bb, blk_onB2 K7.out.2.1 bb, blk_onB2 K7.out.2.2 bb⟩
    have B8 := Lib.hid (B7.out.trans (bb.mono B7.out.size))
    have U8 := Lib.hid (U7.out.on bb)
    have RQ8 := Lib.hid (RQ7.out.on HSl.out bb)
    have RX8 := Lib.hid (RX7.out.on HSl.out bb)
    clear bb K7 B7 U7 RQ7 RX7
    go_wp2_with fail
    refine hK.out _ _ (K8.out) (fun hk => ?_)
    clear hK K
    try simp only [Act.put, List.setIfInBounds_toArray, List.set_cons_zero, List.set_cons_succ]
    refine wpAnyH_take (i := 22) (v := ?_) (by rw [List.getElem?_toArray]; rfl) (by kernel_rfl) (by kernel_rfl) (by kernel_rfl) (by exact fun _ _ _ h => h) (Or.inl ⟨by rfl, ?_⟩) hk ?_
    rotate_left
    · intro W hW
      go_simp
      all_goals with_reducible rfl
    try simp only [Act.put, List.setIfInBounds_toArray, List.set_cons_zero, List.set_cons_succ]
    refine wpAnyH_take (i := 23) (v := ?_) (by rw [List.getElem?_toArray]; rfl) (by kernel_rfl) (by kernel_rfl) (by kernel_rfl) (by exact fun _ _ _ h => h) (Or.inl ⟨by rfl, ?_⟩) hk ?_
    rotate_left
    · intro W hW
      go_simp
      all_goals with_reducible rfl
    try simp only [Act.put, List.setIfInBounds_toArray, List.set_cons_zero, List.set_cons_succ]
    refine wpAnyH_done (by kernel_rfl) ?_ _
    have BE := Lib.hid B8.out
    clear K8 U8 RQ8 RX8 hk
    go_wp2_with fail
    go_ret
    exact ⟨rfl, BE.out⟩
  · have hx' : 4000 < xs.length := by omega
    go_wp2_with fail
    refine (knows_any (HT.out.on B0.out HT.out.pos)).mono ?_
    rintro e w5 ⟨rfl, hb5⟩
    have B5 := Lib.hid (B0.out.trans (hb5.mono B0.out.size))
    clear hb5 c0 c1 c2
    go_wp2_with fail
    go_ret
    exact ⟨rfl, B5.out⟩
end Go.Proofs.YtebeacejlkiglaaDoor
namespace Go.Proofs.YtebeacejlkiglaaDoor
open Go.ChangeShapes Go.WideShapes Go.ChangeAt Go.RowKit

theorem Tryd.ownNone : ownKnob Tryd.prog.godebug = none := by kernel_rfl
theorem Tryd.laidOutTrue : laidOutB Tryd.prog = true := by kernel_rfl

section
variable {H : Type} {enc : TypeId × Value → H} {P : Program}

theorem post_of_below {f : Func} {s : ChangeSpec} {apart fresh handsOn again : Bool} {W W' : World} {args : Array Value} {v : Value} {ds gs : List (DataW H)} {before pa pv : List MemPlace}
    (hW : DataW.Whole enc P f.params.toList s.vars apart W args.toList ds gs before)
    (hres : ∀ (b : Nat) (sp : Nat → Bool) (hd : Bool), DataW.TrodAll enc P W' b sp hd f.resultTypes.toList (v.resultList f.resultTypes.size) (s.fn H (ds ++ gs)).results [])
    (hargs : ∀ sp : Nat → Bool, (∀ p ∈ before, sp p.block = true) → DataW.TrodAll enc P W' 0 sp true f.params.toList args.toList (s.fn H (ds ++ gs)).args pa)
    (hvars : ∀ sp : Nat → Bool, (∀ p ∈ before, sp p.block = true) → DataW.TrodVars enc P W' sp s.vars (s.fn H (ds ++ gs)).vars pv)
    (hps : before = pa ++ pv) (hb : Below W.heap.size W W')
    (hok : ∀ (j : Nat) (t : TypeId) (r : Value), f.resultTypes[j]? = some t → (v.resultList f.resultTypes.size)[j]? = some r → Value.okWide P W' .any 0 t r) :
    s.post enc P f apart fresh handsOn again W args v W' := by
  have hlt : ∀ p ∈ before, p.block < W.heap.size := fun p hp => hW.lt p hp
  have hold : ∀ p ∈ before, (fun b => decide (b < W.heap.size)) p.block = true := fun p hp => by simpa using hlt p hp
  refine ⟨ds, gs, before, [], pa, pv, hW, hres _ _ _, hargs _ hold, hvars _ hold, World.keptBut_mono (fun p hp => ⟨hp, ?_⟩) (hb.frame (· ∈ before)), fun _ => ?_⟩
  · rw [hps, List.mem_append] at hp
    exact Or.inr hp
  · obtain ⟨_, _, _, _, _, hz, hn⟩ := hW
    refine ⟨hok, _, _, ([] ++ pa) ++ pv, ⟨[] ++ pa, pv, trodAll_append (hargs _ (fun _ _ => rfl)) (hres _ _ _), hvars _ (fun _ _ => rfl), rfl, ?_, ?_⟩, ?_⟩
    · intro b off hp
      have hin : MemPlace.cell b off ∈ before := by rw [hps]; simpa using hp
      rw [hb.frozen (hlt _ hin)]
      exact hz b off hin
    · intro ha
      have := hn ha
      rw [hps] at this
      simpa using this
    · intro p hp _
      rw [hps]
      simpa using hp

theorem trodAll_stays (hl : laidOutB P = true) {W W' : World} {sp' : Nat → Bool} : ∀ (ts : List TypeId) (_ : ts.all (fun t => P.readableRec t && decide (t < P.types.size)) = true) {vs : List Value} {ds : List (DataW H)} {ps : List MemPlace}
    (_ : DataW.TrodAll enc P W 0 (fun _ => true) true ts vs ds ps) (_ : ∀ p ∈ ps, W.sameAt W' p) (_ : ∀ p ∈ ps, sp' p.block = true), DataW.TrodAll enc P W' 0 sp' true ts vs ds ps
  | [], _, vs, ds, ps, h, _, _ => by
    obtain ⟨rfl, rfl, rfl⟩ := trodAll_nil h
    exact trodAll_mk0
  | t :: ts, hr, vs, ds, ps, h, hsame, hs => by
    obtain ⟨v, vs', d, ds', p, q, rfl, rfl, rfl, h1, h2⟩ := trodAll_cons h
    simp only [List.all_cons, Bool.and_eq_true, decide_eq_true_eq] at hr
    exact trodAll_cons_mk (WideElems.Trod_stays hl hr.1.1 hr.1.2 h1 (fun x hx => hsame x (by simp [hx])) (fun x hx => hs x (by simp [hx])))
      (trodAll_stays hl ts hr.2 h2 (fun x hx => hsame x (by simp [hx])) (fun x hx => hs x (by simp [hx])))

/-- A LAW's END: it answers true, and of what there was nothing has turned. -/
theorem law_post {f : Func} {s : ChangeSpec} {tb : TypeId} {W W' : World} {args : Array Value} {ds gs : List (DataW H)} {before : List MemPlace} (hl : laidOutB P = true)
    (hW : DataW.Whole enc P f.params.toList s.vars false W args.toList ds gs before) (hvars : s.vars = []) (hpar : f.params.toList.all (fun t => P.readableRec t && decide (t < P.types.size)) = true)
    (hrt : f.resultTypes = #[tb]) (htb : P.underlying tb = some .bool) (hres : (s.fn H ds).results = [.lit (.bool true)]) (hargs : (s.fn H ds).args = ds) (hvs : (s.fn H ds).vars = [])
    (hb : Below W.heap.size W W') : s.post enc P f false true false false W args (.bool true) W' := by
  have hW' := hW
  have hlt : ∀ p ∈ before, p.block < W.heap.size := fun p hp => hW.lt p hp
  obtain ⟨p, q, hA, hV, rfl, hfz, hnd⟩ := hW
  rw [hvars] at hV
  obtain ⟨rfl, rfl⟩ := trodVars_none hV
  refine post_of_below (pa := p) (pv := []) hW' ?_ ?_ ?_ rfl hb ?_
  · intro b sp hd
    rw [List.append_nil, hres, hrt]
    exact trodAll_mk1 (shut_bool htb true)
  · intro sp hsp
    rw [List.append_nil, hargs]
    exact trodAll_stays hl _ hpar hA (fun x hx => hb.same (hlt x (by simp [hx]))) (fun x hx => hsp x (by simp [hx]))
  · intro sp hsp
    rw [List.append_nil, hvs, hvars]
    rfl
  · exact ok_one hrt rfl (okWide_bool_mk htb true)
end
end Go.Proofs.YtebeacejlkiglaaDoor
namespace Go.Proofs.YtebeacejlkiglaaDoor
set_option maxRecDepth 100000
open Go.ChangeShapes Go.WideShapes Go.ChangeAt Go.RowKit Go.Deep

theorem u8_bounds {x : Int} (h : (Lit.int .u8 x).wf = true) : 0 ≤ x ∧ x < 256 := by
  have : 0 ≤ x ∧ x ≤ 255 := by simpa [Lit.wf, IntKind.min, IntKind.max, IntKind.signed, IntKind.bits] using h
  omega

section
variable {H : Type} {enc : TypeId × Value → H} {w : World} {base : Nat} {held : Bool}
theorem open_bytes {r : Reach} {b0 : Nat} {v : Value} {d : DataW H} {p : List MemPlace} (hv : Value.okWide Tryd.prog w r b0 42 v) (h : DataW.Trod enc Tryd.prog w base (fun _ => true) held 42 v d p) :
    ∃ xs : List Int, Rd w v xs ∧ Bytes xs ∧ xs.length ≤ maxLen := by
  obtain ⟨a0, len, cap, rfl⟩ := okWide_slice Tryd.underlying42 hv
  obtain ⟨fuel, hf⟩ := h
  rcases open_ints Tryd.underlying42 Tryd.underlying5 (by kernel_rfl) hf with ⟨h0, _⟩ | ⟨a, len', cap', zs, hcs, _, hl, hm, hz, _, hx, hwf⟩
  · simp [Value.cells] at h0
    obtain ⟨rfl, rfl, rfl⟩ := h0
    exact ⟨[], Rd.nil w, (by unfold Bytes; simp), Nat.zero_le _⟩
  · simp [Value.cells] at hcs
    obtain ⟨e1, e2, e3⟩ := hcs
    subst e1 e2 e3
    simp only [if_true] at hz
    refine ⟨zs.take len, ?_, fun x hx' => u8_bounds (hwf x (List.mem_of_mem_take hx')), by simp; omega⟩
    have hl2 : (zs.take len).length = len := by simp; omega
    by_cases h0 : len = 0
    · subst h0
      exact ⟨some a, _, by rw [hl2], .inl (by simp)⟩
    · obtain ⟨b, o, sp⟩ := a
      have hsp : sp = none := by
        have := hx 0 (by omega)
        simpa [Addr.add] using World.cell?_spot this
      subst hsp
      refine ⟨_, _, by rw [hl2], .inr ⟨b, o, rfl, fun i hi => ?_⟩⟩
      have h := hx i (by omega)
      rw [addr_add] at h
      rw [h]
      simp [List.getD, show i < len by omega]
end
end Go.Proofs.YtebeacejlkiglaaDoor
namespace Go.Proofs.YtebeacejlkiglaaDoor
set_option maxRecDepth 100000
open Go.ChangeShapes Go.WideShapes Go.ChangeAt Go.RowKit Go.Deep

theorem bulk_pos {H : Type} (d : DataW H) : 1 ≤ Rows.uptoBulk d := by
  cases d with
  | lit l => cases l <;> simp [Rows.uptoBulk]
  | nil => simp [Rows.uptoBulk]
  | ptr d => simp [Rows.uptoBulk]
  | slice elems spare => simp [Rows.uptoBulk]
  | agg parts => simp [Rows.uptoBulk]
  | iface t d => simp [Rows.uptoBulk]
  | map entries => simp [Rows.uptoBulk]
  | held h => simp [Rows.uptoBulk]
theorem bulk_app {H : Type} (l r : List (DataW H)) : Rows.uptoBulkAll (l ++ r) = Rows.uptoBulkAll l + Rows.uptoBulkAll r := by
  induction l with
  | nil => simp [Rows.uptoBulkAll]
  | cons x l ih => simp only [List.cons_append, Rows.uptoBulkAll, ih]; omega
theorem bulk_len {H : Type} (l : List (DataW H)) : l.length ≤ Rows.uptoBulkAll l := by
  induction l with
  | nil => simp [Rows.uptoBulkAll]
  | cons x r ih => have := bulk_pos x; simp only [Rows.uptoBulkAll, List.length_cons]; omega
theorem bulk_slice {H : Type} (el sp : List (DataW H)) : Rows.uptoBulkAll el + 1 ≤ Rows.uptoBulk (.slice el sp) := by
  simp only [Rows.uptoBulk]; omega
theorem blobs_app (L M : List (List Int)) : blobs (L ++ M) = blobs L ++ blobs M := by simp [blobs]
theorem blobs_bulk {H : Type} {f : Nat → List Int} {D : Nat → DataW H} : ∀ n, (∀ i, i < n → (f i).length + 1 ≤ Rows.uptoBulk (D i)) → (blobs ((List.range n).map f)).length ≤ 8 * Rows.uptoBulkAll ((List.range n).map D)
  | 0, _ => by simp [blobs]
  | n + 1, h => by
    have ih := blobs_bulk n (fun i hi => h i (by omega))
    have hn := h n (by omega)
    rw [List.range_succ, List.map_append, List.map_append, blobs_app, bulk_app, List.length_append]
    have e : (blobs (List.map f [n])).length = 8 + (f n).length := by simp [blobs]
    have e2 : Rows.uptoBulkAll (List.map D [n]) = Rows.uptoBulk (D n) := by simp [Rows.uptoBulkAll]
    omega

section
variable {H : Type} {enc : TypeId × Value → H} {w : World} {base : Nat} {held : Bool}
theorem trod_bytesB {fuel : Nat} {cs : List Value} {y : DataW H × List MemPlace} (h : DataW.trod enc Tryd.prog w base (fun _ => true) held fuel 42 cs = some y) :
    ∃ v xs, cs = [v] ∧ Rd w v xs ∧ Bytes xs ∧ xs.length + 1 ≤ Rows.uptoBulk y.1 := by
  rcases Deep.open_slice Tryd.underlying42 h with ⟨rfl, _⟩ | ⟨a, len, cap, m, n, D, Pl, rfl, hb, hl, hm, hmm, hy, hx⟩
  · exact ⟨_, [], rfl, Rd.nil w, (fun x hx => by simp at hx), by have := bulk_pos y.1; simpa using this⟩
  · rcases open_ints Tryd.underlying42 Tryd.underlying5 (by kernel_rfl) h with ⟨h0, _⟩ | ⟨a', len', cap', zs, hcs, _, hl', hm', hz, _, hx', hwf⟩
    · simp at h0
    · simp only [List.cons.injEq, Value.slice.injEq, Option.some.injEq, and_true] at hcs
      obtain ⟨rfl, rfl, rfl⟩ := hcs
      simp only [if_true] at hz
      have hl2 : (zs.take len).length = len := by simp; omega
      refine ⟨_, zs.take len, rfl, ?_, fun x hx => u8_bounds (hwf x (List.mem_of_mem_take hx)), ?_⟩
      · by_cases h0 : len = 0
        · subst h0
          exact ⟨some a, _, by rw [hl2], .inl (by simp)⟩
        · obtain ⟨b, o, sp⟩ := a
          have hsp : sp = none := by
            have := hx' 0 (by omega)
            simpa [Addr.add] using World.cell?_spot this
          subst hsp
          refine ⟨_, _, by rw [hl2], .inr ⟨b, o, rfl, fun i hi => ?_⟩⟩
          have h := hx' i (by omega)
          rw [addr_add] at h
          rw [h]
          simp [List.getD, show i < len by omega]
      · rw [hy, hl2]
        have h1 := bulk_slice ((List.range len).map D) ((List.range (m - len)).map fun j => D (len + j))
        have h2 := bulk_len ((List.range len).map D)
        simp only [List.length_map, List.length_range] at h2
        simp only [Rows.uptoBulk]
        omega
theorem open_blobs {r : Reach} {b0 : Nat} {v : Value} {d : DataW H} {p : List MemPlace} (hv : Value.okWide Tryd.prog w r b0 22 v) (h : DataW.Trod enc Tryd.prog w base (fun _ => true) held 22 v d p) :
    ∃ L, RdL w v L [] ∧ (∀ b ∈ L, Bytes b) ∧ (blobs L).length ≤ 8 * Rows.uptoBulk d := by
  obtain ⟨a0, len0, cap0, rfl⟩ := okWide_slice Tryd.underlying22 hv
  obtain ⟨fuel, hf⟩ := h
  rcases Deep.open_slice Tryd.underlying22 hf with ⟨h0, _⟩ | ⟨a, len, cap, m, n, D, Pl, h0, hb, hl, hm, hmm, hy, hx⟩
  · simp [Value.cells] at h0
    obtain ⟨rfl, rfl, rfl⟩ := h0
    exact ⟨[], ⟨_, _, rfl, .inl rfl⟩, (fun b hb => by simp at hb), by simp [blobs]⟩
  · simp [Value.cells] at h0
    obtain ⟨rfl, rfl, rfl⟩ := h0
    simp only [if_true] at hmm
    subst hmm
    have key : ∀ i, ∃ xs : List Int, i < len0 → ∃ u, w.cell? (a.add i) = some u ∧ Rd w u xs ∧ Bytes xs ∧ xs.length + 1 ≤ Rows.uptoBulk (D i) := by
      intro i
      by_cases hi : i < len0
      · obtain ⟨cs', hc, ht⟩ := hx i (by omega)
        rw [show Tryd.prog.cellsOf 42 = 1 by kernel_rfl, Nat.mul_one] at hc
        obtain ⟨v, xs, rfl, hrd, hbx, hd⟩ := trod_bytesB ht
        refine ⟨xs, fun _ => ⟨v, ?_, hrd, hbx, hd⟩⟩
        have := (World.cells?_some hc).2.2 0 (by decide)
        simpa [Addr.add_add] using this
      · exact ⟨[], fun h => absurd h hi⟩
    obtain ⟨f, hf⟩ := Classical.axiomOfChoice key
    have hlen : ((List.range len0).map f).length = len0 := by simp
    refine ⟨(List.range len0).map f, ⟨some a, _, by rw [hlen], ?_⟩, ?_, ?_⟩
    · by_cases h0 : len0 = 0
      · exact .inl (by simp [h0])
      · obtain ⟨b, o, sp⟩ := a
        have hsp : sp = none := by
          obtain ⟨u, hu, _⟩ := hf 0 (by omega)
          simpa [Addr.add] using World.cell?_spot hu
        subst hsp
        refine .inr ⟨b, o, rfl, by simp, fun i hi => ?_⟩
        have hi' : i < len0 := by simpa using hi
        obtain ⟨u, hu, hrd, _⟩ := hf i hi'
        rw [addr_add] at hu
        have e : ((List.range len0).map f).getD i [] = f i := by simp [List.getD, hi']
        exact ⟨u, hu, by rw [e]; exact hrd, fun _ _ _ => by simp⟩
    · intro b hb
      obtain ⟨i, hi, rfl⟩ := List.mem_map.1 hb
      obtain ⟨u, _, _, h3, _⟩ := hf i (by simpa using hi)
      exact h3
    · have h1 := blobs_bulk (D := D) len0 (fun i hi => by obtain ⟨_, _, _, _, h4⟩ := hf i hi; exact h4)
      have h2 := bulk_slice ((List.range len0).map D) ((List.range (m - len0)).map fun j => D (len0 + j))
      rw [show d = (d, p).1 from rfl, hy]
      simp only [Rows.uptoBulk]
      omega
end
end Go.Proofs.YtebeacejlkiglaaDoor
namespace Go.Proofs.YtebeacejlkiglaaDoor
set_option maxRecDepth 100000
open Go.ChangeShapes Go.WideShapes Go.ChangeAt Go.RowKit Go.Deep

section
variable {H : Type} {enc : TypeId × Value → H} {w : World} {base : Nat} {held : Bool}
theorem blobs_count {v : Value} {d : DataW H} {p : List MemPlace} {L : List (List Int)} (hR : RdL w v L []) (h : DataW.Trod enc Tryd.prog w base (fun _ => true) held 22 v d p) : L.length ≤ maxLen := by
  obtain ⟨q, c, rfl, _⟩ := hR
  obtain ⟨fuel, hf⟩ := h
  rcases Deep.open_slice Tryd.underlying22 hf with ⟨h0, _⟩ | ⟨a, len, cap, m, n, D, Pl, h0, hb, hl, hm, _⟩
  · simp only [Value.cells, List.cons.injEq, Value.slice.injEq, and_true] at h0
    rw [h0.2.1]; exact Nat.zero_le _
  · simp only [Value.cells, List.cons.injEq, Value.slice.injEq, and_true] at h0
    omega

theorem mapM_memB {α β : Type} {f : α → Option β} : ∀ {L : List α} {xs : List β}, L.mapM f = some xs → ∀ i ∈ L, ∃ y, f i = some y
  | [], _, _, i, hi => by simp at hi
  | a :: L, xs, h, i, hi => by
    rw [List.mapM_cons] at h
    simp only [bind, Option.bind_eq_some_iff, pure, Option.some.injEq] at h
    obtain ⟨y, hy, ys, hys, _⟩ := h
    rcases List.mem_cons.1 hi with rfl | hi
    · exact ⟨y, hy⟩
    · exact mapM_memB hys i hi
theorem trod_hashB {t e : TypeId} {P : Program} {spare : Nat → Bool} {fuel : Nat} {cs : List Value} {x : DataW H × List MemPlace} (ht : P.underlying t = some (.array 32 e)) (he : P.underlying e = some (.int .u8)) (hC : P.cellsOf t = 32) (h1 : P.cellsOf e = 1)
    (h : DataW.trod enc P w base spare held fuel t cs = some x) : ∃ F : List Int, F.length = 32 ∧ cs = hc F ∧ Bytes F := by
  cases fuel with
  | zero => simp [DataW.trod] at h
  | succ m =>
    rw [DataW.trod_step] at h
    unfold DataW.trodStep at h
    simp only [ht, h1, hC, Nat.mul_one] at h
    split at h
    · rename_i hl
      simp only [Option.map_eq_some_iff] at h
      obtain ⟨ys, hy, _⟩ := h
      have key : ∀ i, i < 32 → ∃ a, cs[i]? = some (.int .u8 a) ∧ 0 ≤ a ∧ a < 256 := by
        intro i hi
        obtain ⟨y, hy⟩ := mapM_memB hy i (by simp [hi])
        obtain ⟨a, ea, _, wa⟩ := DataW.trod_int he hy
        refine ⟨a, ?_, u8_bounds wa⟩
        have := congrArg (fun l => l[0]?) ea
        simpa [List.getElem?_take, List.getElem?_drop] using this
      refine ⟨cs.map fun v => match v with | .int _ q => q | _ => 0, by simp [hl], ?_, ?_⟩
      · apply List.ext_getElem?
        intro i
        by_cases hi : i < 32
        · obtain ⟨a, e0, _⟩ := key i hi
          simp [hc, e0]
        · rw [List.getElem?_eq_none (by omega), List.getElem?_eq_none (by simp [hc]; omega)]
      · intro z hz
        obtain ⟨v, hv, rfl⟩ := List.mem_map.1 hz
        obtain ⟨i, hi, rfl⟩ := List.getElem_of_mem hv
        obtain ⟨a, e0, ha⟩ := key i (by omega)
        rw [List.getElem?_eq_getElem hi, Option.some.injEq] at e0
        rw [e0]
        exact ha
    · simp at h
theorem open_hashB {r : Reach} {b0 : Nat} {v : Value} {d : DataW H} {p : List MemPlace} (hv : Value.okWide Tryd.prog w r b0 36 v) (h : DataW.Trod enc Tryd.prog w base (fun _ => true) held 36 v d p) :
    ∃ F : List Int, F.length = 32 ∧ v = .agg (hc F).toArray ∧ Bytes F := by
  obtain ⟨cs, rfl, _, _⟩ : ∃ cs, v = .agg cs ∧ cs.size = Tryd.prog.cellsOf 36 ∧ Row.okWide Tryd.prog w r b0 36 cs := by
    simpa [Value.okWide, Tryd.underlying36] using hv
  obtain ⟨fuel, hf⟩ := h
  obtain ⟨F, hF, e, hb⟩ := trod_hashB Tryd.underlying36 Tryd.underlying5 (by kernel_rfl) (by kernel_rfl) hf
  exact ⟨F, hF, by rw [← e]; simp [Value.cells], hb⟩
end
end Go.Proofs.YtebeacejlkiglaaDoor
namespace Go.Proofs.YtebeacejlkiglaaDoor
set_option maxRecDepth 100000
open Go.ChangeShapes Go.WideShapes Go.ChangeAt Go.RowKit

theorem mapM_mem {α β : Type} {f : α → Option β} : ∀ {L : List α} {xs : List β}, L.mapM f = some xs → ∀ i ∈ L, ∃ y, f i = some y
  | [], _, _, i, hi => by simp at hi
  | a :: L, xs, h, i, hi => by
    rw [List.mapM_cons] at h
    simp only [bind, Option.bind_eq_some_iff, pure, Option.some.injEq] at h
    obtain ⟨y, hy, ys, hys, _⟩ := h
    rcases List.mem_cons.1 hi with rfl | hi
    · exact ⟨y, hy⟩
    · exact mapM_mem hys i hi

section
variable {H : Type} {enc : TypeId × Value → H} {P : Program} {w : World} {base : Nat} {spare : Nat → Bool} {held : Bool}

theorem trod_hash {t e : TypeId} {fuel : Nat} {cs : List Value} {x : DataW H × List MemPlace} (ht : P.underlying t = some (.array 32 e)) (he : P.underlying e = some (.int .u8)) (hC : P.cellsOf t = 32) (h1 : P.cellsOf e = 1)
    (h : DataW.trod enc P w base spare held fuel t cs = some x) : ∃ F : List Int, F.length = 32 ∧ cs = hc F := by
  cases fuel with
  | zero => simp [DataW.trod] at h
  | succ m =>
    rw [DataW.trod_step] at h
    unfold DataW.trodStep at h
    simp only [ht, h1, hC, Nat.mul_one] at h
    split at h
    · rename_i hl
      simp only [Option.map_eq_some_iff] at h
      obtain ⟨ys, hy, _⟩ := h
      refine ⟨cs.map fun v => match v with | .int _ q => q | _ => 0, by simp [hl], ?_⟩
      apply List.ext_getElem?
      intro i
      by_cases hi : i < 32
      · obtain ⟨y, hy⟩ := mapM_mem hy i (by simp [hi])
        obtain ⟨a, ea, _, _⟩ := DataW.trod_int he hy
        have e0 : cs[i]? = some (.int .u8 a) := by
          have := congrArg (fun l => l[0]?) ea
          simpa [List.getElem?_take, List.getElem?_drop] using this
        simp [hc, e0]
      · rw [List.getElem?_eq_none (by omega), List.getElem?_eq_none (by simp [hc]; omega)]
    · simp at h

theorem open_hash {r : Reach} {b0 : Nat} {v : Value} {d : DataW H} {p : List MemPlace} (hv : Value.okWide Tryd.prog w r b0 36 v) (h : DataW.Trod enc Tryd.prog w base spare held 36 v d p) :
    ∃ F : List Int, F.length = 32 ∧ v = .agg (hc F).toArray := by
  obtain ⟨cs, rfl, _, _⟩ : ∃ cs, v = .agg cs ∧ cs.size = Tryd.prog.cellsOf 36 ∧ Row.okWide Tryd.prog w r b0 36 cs := by
    simpa [Value.okWide, Tryd.underlying36] using hv
  obtain ⟨fuel, hf⟩ := h
  obtain ⟨F, hF, e⟩ := trod_hash Tryd.underlying36 Tryd.underlying5 (by kernel_rfl) (by kernel_rfl) hf
  exact ⟨F, hF, by rw [← e]; simp [Value.cells]⟩
end
end Go.Proofs.YtebeacejlkiglaaDoor
namespace Go.Proofs.YtebeacejlkiglaaDoor
set_option maxRecDepth 100000
open Go.ChangeShapes Go.WideShapes Go.ChangeAt Go.RowKit

section
variable {H : Type} {enc : TypeId × Value → H} {P : Program} {w : World} {base : Nat} {spare : Nat → Bool} {held : Bool}

theorem trod_fields {t : TypeId} {fs : Array Field} {fuel n : Nat} {cs : List Value} {x : DataW H × List MemPlace} (ht : P.underlying t = some (.struct fs)) (hC : P.cellsOf t = n) (h : DataW.trod enc P w base spare held fuel t cs = some x) :
    cs.length = n ∧ ∃ m, ∀ f ∈ fs.toList, ∃ y, DataW.trod enc P w base spare held m f.type ((cs.drop f.offset).take (P.cellsOf f.type)) = some y := by
  cases fuel with
  | zero => simp [DataW.trod] at h
  | succ m =>
    rw [DataW.trod_step] at h
    unfold DataW.trodStep at h
    simp only [ht, hC] at h
    split at h
    · rename_i hl
      simp only [Option.map_eq_some_iff] at h
      obtain ⟨ys, hy, _⟩ := h
      exact ⟨hl, m, mapM_mem hy⟩
    · simp at h
theorem trod_sl {t e : TypeId} {fuel : Nat} {cs : List Value} {x : DataW H × List MemPlace} (ht : P.underlying t = some (.slice e)) (h : DataW.trod enc P w base spare held fuel t cs = some x) :
    ∃ q n c, cs = [.slice q n c] ∧ n ≤ maxLen := by
  rcases Deep.open_slice ht h with ⟨rfl, _⟩ | ⟨a, len, cap, m, n, D, Pl, rfl, hb, hl, hm, _⟩
  · exact ⟨_, _, _, rfl, Nat.zero_le _⟩
  · exact ⟨_, _, _, rfl, Nat.le_trans hl hm⟩
theorem one_at {cs : List Value} {i : Nat} {v : Value} (h : (cs.drop i).take 1 = [v]) : cs[i]? = some v := by
  have := congrArg (fun l => l[0]?) h
  simpa [List.getElem?_take, List.getElem?_drop] using this
end
end Go.Proofs.YtebeacejlkiglaaDoor
namespace Go.Proofs.YtebeacejlkiglaaDoor
theorem rowOf_cells {w : World} {b o : Nat} {F : List Int} (h : ∀ i, i < F.length → w.cell? ⟨b, o + i, none⟩ = some (.int .u8 (F.getD i 0))) : rowOf w b o F.length = hc F := by
  by_cases h0 : F.length = 0
  · obtain rfl := List.eq_nil_of_length_eq_zero h0
    unfold rowOf
    split <;> simp [hc]
  · obtain ⟨x, hb, hx⟩ := cells_of_cell (h 0 (by omega))
    obtain ⟨cs, t, fr, rfl⟩ : ∃ cs t fr, x = .cells cs t fr := by
      cases x <;> first | exact ⟨_, _, _, rfl⟩ | simp [Obj.isCells] at hx
    rw [rowOf_block hb]
    apply List.ext_getElem?
    intro i
    by_cases hi : i < F.length
    · have := h i hi
      rw [Joins.cell_of_block hb] at this
      have e1 : (cs.extract o (o + F.length)).toList[i]? = cs[o + i]? := by
        simp [List.getElem?_drop, hi]
      rw [e1, this]
      simp [hc, List.getD, hi]
    · have hs : cs.size ≥ o + F.length := by
        have := h (F.length - 1) (by omega)
        rw [Joins.cell_of_block hb] at this
        have := (Array.getElem?_eq_some_iff.1 this).1
        omega
      rw [List.getElem?_eq_none (by simp; omega), List.getElem?_eq_none (by rw [hc_len]; omega)]
end Go.Proofs.YtebeacejlkiglaaDoor
namespace Go.Proofs.YtebeacejlkiglaaDoor
set_option maxRecDepth 100000
open Go.ChangeShapes Go.WideShapes Go.ChangeAt Go.RowKit Go.Deep

section
variable {H : Type} {enc : TypeId × Value → H} {P : Program} {w : World} {base : Nat} {held : Bool}

theorem trod_struct {t : TypeId} {fs : Array Field} {fuel n : Nat} {cs : List Value} {x : DataW H × List MemPlace} (ht : P.underlying t = some (.struct fs)) (hC : P.cellsOf t = n) (h : DataW.trod enc P w base (fun _ => true) held fuel t cs = some x) :
    cs.length = n ∧ ∃ m, ∃ ys : List (DataW H × List MemPlace), x.1 = .agg (ys.map (·.1)) ∧
      ∀ (i : Nat) f, fs.toList[i]? = some f → ∃ y, ys[i]? = some y ∧ DataW.trod enc P w base (fun _ => true) held m f.type ((cs.drop f.offset).take (P.cellsOf f.type)) = some y := by
  cases fuel with
  | zero => simp [DataW.trod] at h
  | succ m =>
    rw [DataW.trod_step] at h
    unfold DataW.trodStep at h
    simp only [ht, hC] at h
    split at h
    · rename_i hl
      simp only [Option.map_eq_some_iff] at h
      obtain ⟨ys, hy, hx⟩ := h
      refine ⟨hl, m, ys, by rw [← hx], fun i f hf => ?_⟩
      have h1 := mapM_some_get hy i f hf
      obtain ⟨y, hyy⟩ := mapM_mem hy f (List.mem_of_getElem? hf)
      exact ⟨y, by rw [← h1]; exact hyy, hyy⟩
    · simp at h
theorem weights_mem_all {e : TypeId} : ∀ {el : List (DataW H)} {d : DataW H}, d ∈ el → ∀ n ∈ d.weights P e, n ∈ DataW.weightsAll P e el
  | [], d, hd, _, _ => by cases hd
  | c :: el, d, hd, n, hn => by
    rw [DataW.weightsAll]
    rcases List.mem_cons.1 hd with rfl | hd
    · exact List.mem_append.2 (.inl hn)
    · exact List.mem_append.2 (.inr (weights_mem_all hd n hn))
theorem weights_struct {t : TypeId} {fs : Array Field} (ht : P.underlying t = some (.struct fs)) {parts : List (DataW H)} (h : ∀ n ∈ (DataW.agg parts).weights P t, n ≤ reachBytes) {j : Nat} {f : Field} {d : DataW H} (hf : fs.toList[j]? = some f) (hd : parts[j]? = some d) :
    ∀ n ∈ d.weights P f.type, n ≤ reachBytes := by
  intro n hn
  refine h n ?_
  rw [DataW.weights, ht]
  exact DataW.weights_mem_each (by rw [List.getElem?_map, hf]; rfl) hd n hn
theorem weights_slice {t e : TypeId} (ht : P.underlying t = some (.slice e)) {el sp : List (DataW H)} (h : ∀ n ∈ (DataW.slice el sp).weights P t, n ≤ reachBytes) : el.length * P.bytesOf e ≤ reachBytes ∧ ∀ d ∈ el, ∀ n ∈ d.weights P e, n ≤ reachBytes := by
  rw [DataW.weights, ht] at h
  simp only at h
  refine ⟨Nat.le_trans (Nat.mul_le_mul_right _ (Nat.le_add_right _ sp.length)) (h _ (List.mem_cons_self ..)), fun d hd n hn => h n ?_⟩
  exact List.mem_cons.2 (.inr (List.mem_append.2 (.inl (weights_mem_all hd n hn))))
end

section
variable {H : Type} {enc : TypeId × Value → H} {w : World} {base : Nat} {held : Bool}
theorem reach47 : reachBytes ≤ 140737488355328 := by decide
theorem trod_hs {fuel : Nat} {cs : List Value} {y : DataW H × List MemPlace} (h : DataW.trod enc Tryd.prog w base (fun _ => true) held fuel 26 cs = some y) :
    ∃ q k Ss, cs = [.slice q Ss.length k] ∧ RdHs w q Ss ∧ HsOk Ss ∧ (Ss.length = 0 ∨ ∃ el sp, y.1 = .slice el sp ∧ el.length = Ss.length) := by
  rcases Deep.open_slice Tryd.underlying26 h with ⟨rfl, _⟩ | ⟨a, len, cap, m, n, D, Pl, rfl, hb, hl, hm, hmm, hy, hx⟩
  · exact ⟨none, 0, [], rfl, .inl rfl, HsOk.nil, .inl rfl⟩
  · simp only [if_true] at hmm
    subst hmm
    rw [show Tryd.prog.cellsOf 36 = 32 by kernel_rfl] at hx
    have key : ∀ i, ∃ F : List Int, i < len → F.length = 32 ∧ Bytes F ∧ ∀ j, j < 32 → w.cell? (a.add (i * 32 + j)) = some (.int .u8 (F.getD j 0)) := by
      intro i
      by_cases hi : i < len
      · obtain ⟨cs', hc1, ht⟩ := hx i (by omega)
        obtain ⟨F, hF, rfl, bF⟩ := trod_hashB Tryd.underlying36 Tryd.underlying5 (by kernel_rfl) (by kernel_rfl) ht
        refine ⟨F, fun _ => ⟨hF, bF, fun j hj => ?_⟩⟩
        have := (World.cells?_some hc1).2.2 j hj
        rw [Addr.add_add] at this
        rw [this]
        simp [hc, List.getD, hF, hj]
      · exact ⟨[], fun h => absurd h hi⟩
    obtain ⟨f, hf⟩ := Classical.axiomOfChoice key
    have hlen : ((List.range len).map f).length = len := by simp
    have hg : ∀ i, i < len → ((List.range len).map f).getD i [] = f i := fun i hi => by simp [List.getD, hi]
    refine ⟨some a, _, (List.range len).map f, by rw [hlen], ?_, ?_, .inr ⟨_, _, by rw [hy], by simp⟩⟩
    · by_cases h0 : len = 0
      · exact .inl (by simp [h0])
      · obtain ⟨b, o, sp⟩ := a
        have hsp : sp = none := by
          have := (hf 0 (by omega)).2.2 0 (by omega)
          simpa [Addr.add] using World.cell?_spot this
        subst hsp
        refine .inr ⟨b, o, rfl, fun i hi => ?_⟩
        rw [hlen] at hi
        obtain ⟨h1, h2, h3⟩ := hf i hi
        rw [hg i hi]
        have := rowOf_cells (w := w) (b := b) (o := o + i * 32) (F := f i) (fun j hj => by
          have := h3 j (by omega)
          rw [addr_add] at this
          rw [← this]
          congr 2
          omega)
        rw [h1] at this
        exact this
    · intro F hF
      obtain ⟨i, hi, rfl⟩ := List.mem_map.1 hF
      obtain ⟨h1, h2, _⟩ := hf i (List.mem_range.1 hi)
      exact ⟨h1, h2⟩
theorem open_pf {r : Reach} {b0 : Nat} {v : Value} {d : DataW H} {p : List MemPlace} (hv : Value.okWide Tryd.prog w r b0 32 v) (h : DataW.Trod enc Tryd.prog w base (fun _ => true) held 32 v d p)
    (hs : ∀ n ∈ d.weights Tryd.prog 32, n ≤ reachBytes) : ∃ P C q k Ss, v = .agg #[.int .i64 P, .int .i64 C, .slice q Ss.length k] ∧ RdHs w q Ss ∧ HsOk Ss ∧ Ss.length * 32 ≤ 140737488355328 := by
  have hr := reach47
  obtain ⟨arr, rfl, _, _⟩ : ∃ cs, v = .agg cs ∧ cs.size = Tryd.prog.cellsOf 32 ∧ Row.okWide Tryd.prog w r b0 32 cs := by
    simpa [Value.okWide, Tryd.underlying32] using hv
  obtain ⟨fuel, hf⟩ := h
  obtain ⟨hl, m, ys, hx, hfld⟩ := trod_struct Tryd.underlying32 (n := 3) (by kernel_rfl) hf
  simp only at hx
  subst hx
  obtain ⟨y0, g0, t0⟩ := hfld 0 _ rfl
  dsimp only at t0
  rw [show Tryd.prog.cellsOf 3 = 1 by kernel_rfl] at t0
  obtain ⟨P, e0, _, _⟩ := DataW.trod_int Tryd.underlying3 t0
  obtain ⟨y1, g1, t1⟩ := hfld 1 _ rfl
  dsimp only at t1
  rw [show Tryd.prog.cellsOf 3 = 1 by kernel_rfl] at t1
  obtain ⟨C, e1, _, _⟩ := DataW.trod_int Tryd.underlying3 t1
  obtain ⟨y2, g2, t2⟩ := hfld 2 _ rfl
  dsimp only at t2
  rw [show Tryd.prog.cellsOf 26 = 1 by kernel_rfl] at t2
  have m2 := weights_struct Tryd.underlying32 hs (j := 2) rfl (show (ys.map (·.1))[2]? = some y2.1 by rw [List.getElem?_map, g2]; rfl)
  dsimp only at m2
  obtain ⟨q, k, Ss, e2, r2, ok, z2⟩ := trod_hs t2
  have s2 : Ss.length * 32 ≤ 140737488355328 := by
    rcases z2 with z | ⟨el, sp, z1, z2⟩
    · omega
    · rw [z1] at m2
      have := (weights_slice Tryd.underlying26 m2).1
      rw [show Tryd.prog.bytesOf 36 = 32 by kernel_rfl, z2] at this
      omega
  refine ⟨P, C, q, k, Ss, ?_, r2, ok, s2⟩
  obtain ⟨cs, hcs⟩ : ∃ cs, (Value.agg arr).cells.toList = cs := ⟨_, rfl⟩
  have ha : arr = cs.toArray := by rw [← hcs]; simp [Value.cells]
  rw [hcs] at hl e0 e1 e2
  rw [ha]
  rcases cs with _ | ⟨a, _ | ⟨b, _ | ⟨c, _ | _⟩⟩⟩ <;> simp at hl
  simp at e0 e1 e2
  subst e0 e1 e2
  rfl
end
end Go.Proofs.YtebeacejlkiglaaDoor
namespace Go.Proofs.YtebeacejlkiglaaDoor
open Go.ChangeShapes Go.WideShapes Go.ChangeAt Go.RowKit
set_option maxRecDepth 100000

def rootsL : List (String × DataW Unit) := [("bascule/digest.roots", Rows.laid_bascule_digest_roots)]
theorem gRoots : Tryd.prog.globalNamed "bascule/digest.roots" = some 0 := by kernel_rfl
theorem gRootsType : (Tryd.prog.globals[0]?).map (·.type) = some 112 := by kernel_rfl
theorem rootsData : (Rows.laid_bascule_digest_roots : DataW Unit) = Lib.tabData .u32 rootsZ := by rfl
theorem tbl_of {W : World} (h : laidMetH Tryd.prog rootsL W) : Tbl W := by
  have h' : laidMetH Tryd.prog (("bascule/digest.roots", Lib.tabData .u32 rootsZ) :: []) W := by rw [← rootsData]; exact h
  have := Lib.tabIs_of_head (rest := []) gRoots gRootsType Tryd.underlying112 Tryd.underlying110 (by kernel_rfl) (by kernel_rfl) h'
  intro i hi
  exact this.cell gRoots i (by have : rootsZ.length = 64 := rfl; omega)
/-- The door's own heap meets the condition. -/
theorem door_met (os : Os) (args : Array Value) : laidMetH Tryd.prog rootsL ((World.doorLaid Tryd.prog 400 os).forCall (fun _ _ => 0) ⟨#[], args, []⟩).memory :=
  laidMetH_of_parts3 (fuel := 8) (laidMet_of_run' 8 (by kernel_rfl) (by kernel_rfl)) (by kernel_rfl) (by kernel_rfl)
end Go.Proofs.YtebeacejlkiglaaDoor
namespace Go.Proofs.YtebeacejlkiglaaDoor
open Go.RowKit
set_option maxRecDepth 100000

def pvS (P : Int) (L : List (List Int)) : List (List Int) := if 0 ≤ P ∧ P < (L.length : Int) then pth 17 P.toNat (lvN L L.length) else []
def pvP (P : Int) (L : List (List Int)) : Int := if 0 ≤ P ∧ P < (L.length : Int) then P else 0
def pvC (P : Int) (L : List (List Int)) : Int := if 0 ≤ P ∧ P < (L.length : Int) then L.length else 0
def pvE (P : Int) (L : List (List Int)) : Int := if 0 ≤ P ∧ P < (L.length : Int) then 0 else 1
theorem pvS_ok (P : Int) (L : List (List Int)) : HsOk (pvS P L) := by
  unfold pvS
  split
  · exact pth_ok _ _ (lvN_ok _ _)
  · exact HsOk.nil
theorem sd_most : ∀ (f p c : Nat), sd f p c ≤ f
  | 0, _, _ => Nat.le_refl _
  | f + 1, p, c => by
    unfold sd
    have := sd_most f (p / 2) ((c + 1) / 2)
    split
    · omega
    · split <;> omega
theorem pth_most : ∀ (f p : Nat) (Ss : List (List Int)), (pth f p Ss).length ≤ f
  | 0, _, _ => Nat.le_refl _
  | f + 1, p, Ss => by
    unfold pth
    have := pth_most f (p / 2) (upL Ss)
    split
    · simp
    · rw [List.length_append]; split <;> simp <;> omega
theorem pvS_most (P : Int) (L : List (List Int)) : (pvS P L).length ≤ 17 := by
  unfold pvS
  split
  · exact pth_most _ _ _
  · simp
theorem blobs_each {L : List (List Int)} {n : Nat} (h : (blobs L).length ≤ n) (i : Nat) : (L.getD i []).length ≤ n := by
  by_cases hi : i < L.length
  · have h1 := blobs_len hi
    have h2 := blobs_le L (i + 1)
    omega
  · have e : L.getD i [] = [] := by simp [List.getD, List.getElem?_eq_none (by omega : L.length ≤ i)]
    rw [e]; simp
theorem Prove_all {w : World} {v : Value} {L : List (List Int)} {P : Int} (hL : RdL w v L []) (bL : ∀ b ∈ L, Bytes b) (hn : L.length ≤ 65536) (hx : ∀ i, (L.getD i []).length ≤ 1000000) (hT : Tbl w) :
    Calls Tryd.prog 10 #[.int .i64 P, v] w fun e w' => ∃ q k, e = .returned (.tuple #[.agg #[.int .i64 (pvP P L), .int .i64 (pvC P L), .slice q (pvS P L).length k], .int .i64 (pvE P L)]) ∧ RdHs w' q (pvS P L) ∧ Below w.heap.size w w' ∧ (pvS P L).length ≤ k ∧ k ≤ maxLen := by
  by_cases h : 0 ≤ P ∧ P < (L.length : Int)
  · obtain ⟨p0, rfl⟩ : ∃ p0 : Nat, P = p0 := ⟨P.toNat, by omega⟩
    have hp : p0 < L.length := by omega
    refine (Prove_yes hp hL bL hn hx hT).mono ?_
    rintro e w' ⟨q, k, rfl, hs⟩
    have e1 : pvS (p0 : Int) L = pth 17 p0 (lvN L L.length) := by unfold pvS; rw [if_pos h]; rfl
    have e2 : pvP (p0 : Int) L = p0 := if_pos h
    have e3 : pvC (p0 : Int) L = L.length := if_pos h
    have e4 : pvE (p0 : Int) L = 0 := if_pos h
    obtain ⟨-, h1, h2, h3⟩ := hs.rd
    rw [e1, e2, e3, e4]
    exact ⟨q, k, rfl, h1, hs.below, h2, h3⟩
  · obtain ⟨q, c, rfl⟩ : ∃ q c, v = .slice q L.length c := by obtain ⟨q, c, e, _⟩ := hL; exact ⟨q, c, e⟩
    refine (Prove_no (q := q) (c := c) (by unfold maxLen; omega) h).mono ?_
    rintro e w' ⟨rfl, hb⟩
    have e1 : pvS P L = [] := if_neg h
    have e2 : pvP P L = 0 := if_neg h
    have e3 : pvC P L = 0 := if_neg h
    have e4 : pvE P L = 1 := if_neg h
    rw [e1, e2, e3, e4]
    exact ⟨none, 0, rfl, .inl rfl, hb, Nat.le_refl _, by unfold maxLen; omega⟩
theorem refProve_all {w : World} {v : Value} {L : List (List Int)} {P : Int} (hL : RdL w v L []) (bL : ∀ b ∈ L, Bytes b) (hn : L.length ≤ 65536) (hx : ∀ i, (L.getD i []).length ≤ 1000000) :
    Calls Tryd.prog 11 #[.int .i64 P, v] w fun e w' => ∃ q k, e = .returned (.tuple #[.agg #[.int .i64 (pvP P L), .int .i64 (pvC P L), .slice q (pvS P L).length k], .int .i64 (pvE P L)]) ∧ RdHs w' q (pvS P L) ∧ Below w.heap.size w w' ∧ (pvS P L).length ≤ k ∧ k ≤ maxLen := by
  by_cases h : 0 ≤ P ∧ P < (L.length : Int)
  · obtain ⟨p0, rfl⟩ : ∃ p0 : Nat, P = p0 := ⟨P.toNat, by omega⟩
    have hp : p0 < L.length := by omega
    refine (refProve_yes hp hL bL hn hx).mono ?_
    rintro e w' ⟨q, k, rfl, hs⟩
    have e1 : pvS (p0 : Int) L = pth 17 p0 (lvN L L.length) := by unfold pvS; rw [if_pos h]; rfl
    have e2 : pvP (p0 : Int) L = p0 := if_pos h
    have e3 : pvC (p0 : Int) L = L.length := if_pos h
    have e4 : pvE (p0 : Int) L = 0 := if_pos h
    obtain ⟨-, h1, h2, h3⟩ := hs.rd
    rw [e1, e2, e3, e4]
    exact ⟨q, k, rfl, h1, hs.below, h2, h3⟩
  · obtain ⟨q, c, rfl⟩ : ∃ q c, v = .slice q L.length c := by obtain ⟨q, c, e, _⟩ := hL; exact ⟨q, c, e⟩
    refine (refProve_no (q := q) (c := c) (by unfold maxLen; omega) h).mono ?_
    rintro e w' ⟨rfl, hb⟩
    have e1 : pvS P L = [] := if_neg h
    have e2 : pvP P L = 0 := if_neg h
    have e3 : pvC P L = 0 := if_neg h
    have e4 : pvE P L = 1 := if_neg h
    rw [e1, e2, e3, e4]
    exact ⟨none, 0, rfl, .inl rfl, hb, Nat.le_refl _, by unfold maxLen; omega⟩
end Go.Proofs.YtebeacejlkiglaaDoor
