/-
  LaneRoots returns true for all lists and places.
-/
import Derived.Test.YtebeacejlkiglaaDoorMa13
import Derived.Test.YtebeacejlkiglaaDoorMa14
namespace Go.Proofs.YtebeacejlkiglaaDoor
open Go.RowKit
set_option maxRecDepth 100000

set_option maxHeartbeats 8000000 in
theorem Roots_walk {w : World} {v : Value} {L : List (List Int)} {P : Int} (hL : RdL w v L []) (bL : ∀ b ∈ L, Bytes b) (hln : L.length ≤ maxLen) (hT : Tbl w) :
    Calls Tryd.prog 3 #[v, .int .i64 P] w fun e w' => e = .returned (.bool true) ∧ Below w.heap.size w w' := by
  have HL := Lib.hid hL
  have HB := Lib.hid bL
  have HT := Lib.hid hT
  obtain ⟨q, c, rfl⟩ : ∃ q c, v = .slice q L.length c := by obtain ⟨q, c, e, _⟩ := hL; exact ⟨q, c, e⟩
  clear hL bL hT
  go_enter Tryd.func3, Tryd.ntmps3
  go_wp2_with fail
  refine (Long_any HL.out hln).mono ?_
  rintro e w1 ⟨b, rfl, hlong, hb1⟩
  have B1 := Lib.hid hb1
  clear hb1
  cases b with
  | true =>
    go_wp2_with fail
    refine (knows_any (HT.out.on B1.out HT.out.pos)).mono ?_
    rintro e w5 ⟨rfl, hb5⟩
    have B5 := Lib.hid (B1.out.trans (hb5.mono B1.out.size))
    clear hb5
    go_wp2_with fail
    go_ret
    exact ⟨rfl, B5.out⟩
  | false =>
    obtain ⟨hbl, hm⟩ := hlong rfl
    have HX : Hid (∀ i, (L.getD i []).length ≤ 1000000) := fun i => by have := blobs_each hbl i; omega
    have hn6 : L.length ≤ 65536 := by omega
    clear hlong hbl
    go_wp2_with fail
    refine (Parts_any (HL.out.onb B1.out) (by omega) (fun i => by have := HX.out i; omega)).mono ?_
    rintro e w2 ⟨vx, vs, rfl, hP⟩
    have RX2 := Lib.hid hP.rdl
    have B2 := Lib.hid (B1.out.trans (hP.below.mono B1.out.size))
    obtain ⟨qx, cx, rfl⟩ : ∃ qx cx, vx = .slice qx L.length cx := by obtain ⟨q, c, e, _⟩ := RX2.out; exact ⟨q, c, e⟩
    clear hP
    go_wp2_with fail
    refine (Prove_all (P := P) RX2.out HB.out hn6 HX.out (HT.out.on B2.out HT.out.pos)).mono ?_
    rintro e w3 ⟨q3, k3, rfl, hr3, hb3, -⟩
    have b4 : Below w3.heap.size w3 (w3.alloc (.cells #[.int .i64 (pvP P L), .int .i64 (pvC P L), .slice q3 (pvS P L).length k3] 28)) := (Below.refl _ _).alloc (Nat.le_refl _) _
    have B3 := B2.out.trans (hb3.mono B2.out.size)
    have B4 := Lib.hid (B3.trans (b4.mono B3.size))
    have OK := Lib.hid (pvS_ok P L)
    have HSl : Hid (∀ i, i < (pvS P L).length → ((pvS P L).getD i []).length = 32) := fun i hi => (OK.out.get i hi).1
    have R4 := Lib.hid (hr3.on HSl.out b4)
    have RX4 := Lib.hid ((RX2.out.onb hb3).onb b4)
    have P4 := Lib.hid (heap_alloc_new w3 (.cells #[.int .i64 (pvP P L), .int .i64 (pvC P L), .slice q3 (pvS P L).length k3] 28))
    have K5 := Lib.hid (refProve_all (w := (w3.alloc (.cells #[.int .i64 (pvP P L), .int .i64 (pvC P L), .slice q3 (pvS P L).length k3] 28))) (P := P) (HL.out.onb B4.out) HB.out hn6 HX.out)
    clear hr3 hb3 b4 B3 RX2 B2 B1
    go_wp2_with fail
    generalize (w3.alloc (.cells #[.int .i64 (pvP P L), .int .i64 (pvC P L), .slice q3 (pvS P L).length k3] 28)) = w4 at *
    refine K5.out.mono ?_
    rintro e w5 ⟨q5, k5, rfl, hr5, hb5, -⟩
    have b6 : Below w5.heap.size w5 (w5.alloc (.cells #[.int .i64 (pvP P L), .int .i64 (pvC P L), .slice q5 (pvS P L).length k5] 32)) := (Below.refl _ _).alloc (Nat.le_refl _) _
    have B5 := B4.out.trans (hb5.mono B4.out.size)
    have B6 := Lib.hid (B5.trans (b6.mono B5.size))
    have R6 := Lib.hid ((R4.out.on HSl.out hb5).on HSl.out b6)
    have Q6 := Lib.hid (hr5.on HSl.out b6)
    have RX6 := Lib.hid ((RX4.out.onb hb5).onb b6)
    have P6 := Lib.hid (blk_onB2 (blk_onB2 P4.out hb5) b6)
    have PR6 := Lib.hid (heap_alloc_new w5 (.cells #[.int .i64 (pvP P L), .int .i64 (pvC P L), .slice q5 (pvS P L).length k5] 32))
    have K7 := Lib.hid (Root_any (w := (w5.alloc (.cells #[.int .i64 (pvP P L), .int .i64 (pvC P L), .slice q5 (pvS P L).length k5] 32))) RX6.out HB.out hn6 HX.out (HT.out.on B6.out HT.out.pos))
    clear hr5 hb5 b6 B5 RX4 B4 R4 P4 K5
    go_wp2_with fail
    generalize (w5.alloc (.cells #[.int .i64 (pvP P L), .int .i64 (pvC P L), .slice q5 (pvS P L).length k5] 32)) = w6 at *
    refine K7.out.mono ?_
    rintro e w7 ⟨rfl, hb7⟩
    have B7 := Lib.hid (B6.out.trans (hb7.mono B6.out.size))
    have R7 := Lib.hid (R6.out.on HSl.out hb7)
    have Q7 := Lib.hid (Q6.out.on HSl.out hb7)
    have P7 := Lib.hid (blk_onB2 P6.out hb7)
    have PR7 := Lib.hid (blk_onB2 PR6.out hb7)
    clear hb7 B6 R6 Q6 P6 PR6 K7
    go_wp2_with fail
    refine (refRoot_any (HL.out.onb B7.out) HB.out hn6 HX.out).mono ?_
    rintro e w8 ⟨rfl, hb8⟩
    have B8 := Lib.hid (B7.out.trans (hb8.mono B7.out.size))
    have R8 := Lib.hid (R7.out.on HSl.out hb8)
    have Q8 := Lib.hid (Q7.out.on HSl.out hb8)
    have P8 := blk_onB2 P7.out hb8
    have PR8 := blk_onB2 PR7.out hb8
    have lR := rtL_len L
    obtain ⟨R, hR⟩ : ∃ R, rtL L = R := ⟨_, rfl⟩
    rw [hR] at lR ⊢
    have dg : (R == R) = true := by simp
    have hcR := hc_len R
    have c0 := (Joins.cell_of_block P8 0).trans (rfl : _ = some _)
    have c1 := (Joins.cell_of_block P8 1).trans (rfl : _ = some _)
    have c2 := (Joins.cell_of_block P8 2).trans (rfl : _ = some _)
    have d0 := (Joins.cell_of_block PR8 0).trans (rfl : _ = some _)
    have d1 := (Joins.cell_of_block PR8 1).trans (rfl : _ = some _)
    have d2 := (Joins.cell_of_block PR8 2).trans (rfl : _ = some _)
    have hmost := pvS_most P L
    clear hb8 B7 R7 Q7 P7 PR7 hR P8 PR8
    go_wp2_with fail
    refine (Same_any R8.out Q8.out OK.out (by unfold maxLen; omega)).mono ?_
    rintro e w9 ⟨rfl, hb9⟩
    have B9 := Lib.hid (B8.out.trans (hb9.mono B8.out.size))
    clear hb9 B8 R8 Q8 c0 c1 c2 d0 d1 d2
    go_wp2_with fail
    refine (num_any _ w9).mono ?_
    rintro e wx ⟨rfl, hwx⟩
    obtain rfl := hwx.symm
    clear hwx
    go_wp2_with fail
    refine (knows_any (HT.out.on B9.out HT.out.pos)).mono ?_
    rintro e w10 ⟨rfl, hb10⟩
    have B10 := Lib.hid (B9.out.trans (hb10.mono B9.out.size))
    clear hb10 B9
    go_wp2_with fail
    go_ret
    exact ⟨rfl, B10.out⟩
end Go.Proofs.YtebeacejlkiglaaDoor
