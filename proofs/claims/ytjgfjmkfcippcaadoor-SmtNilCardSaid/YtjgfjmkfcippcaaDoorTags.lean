/-
  Tagged, in the program and in the reference.
-/
import Derived.Test.YtjgfjmkfcippcaaDoorDgRw
import Derived.Test.YtjgfjmkfcippcaaDoorRefFrame
import Derived.Test.YtjgfjmkfcippcaaDoorRefSum2
namespace Go.Proofs.YtjgfjmkfcippcaaDoor
open Go.RowKit
set_option maxRecDepth 100000

set_option maxHeartbeats 4000000 in
theorem Tagged_any {w : World} {s t : ByteArray} {v : Value} {L : List (List Int)} (hL : RdL w v L []) (hT : Tbl w) (hs : s.size ≤ maxLen) (hst : cut255 s = t) (hn : (frm (sn t) L).length ≤ 140737488355328) (hx : Bytes (frm (sn t) L)) :
    Calls Tryd.prog 42 #[.string s, v] w fun e w' => e = .returned (.agg (hc (sha (frm (sn t) L))).toArray) ∧ Below w.heap.size w w' := by
  have H0 := Lib.hid (HashAt.new w zero32)
  have B0 := Lib.hid ((Below.refl w.heap.size w).alloc (Nat.le_refl _) (.cells (hc zero32).toArray 23))
  have KF := Lib.hid (Frame_cut (hL.chg (Chg.below B0.out (Nat.le_refl _) [])) hs hst hn)
  have HX := Lib.hid hx
  clear hL hx
  go_enter Tryd.func42, Tryd.ntmps42
  go_wp2_with fail
  refine KF.out.mono ?_
  rintro e w1 ⟨rfl, hr1, hb1⟩
  simp only [World.size_alloc] at hr1
  have H1 := Lib.hid (H0.out.on hb1)
  have B1 := Lib.hid (B0.out.trans (hb1.mono B0.out.size))
  have KS := Lib.hid (Sum_any (rdc_of_rw hr1) HX.out (hT.on B1.out hT.pos))
  clear hr1
  clear KF H0 hn hs hst HX hT
  generalize hX : frm (sn t) L = X at *
  have HXX := Lib.hid hX
  clear hX
  go_wp2_with fail
  refine KS.out.mono ?_
  rintro e w3 ⟨rfl, hb3⟩
  have H3 := H1.out.on hb3
  have B3 := B1.out.trans (hb3.mono B1.out.size)
  have hth3 := H3.there zero32_len
  have hlen := sha_len X
  have hput := (H3.put zero32_len hlen).row hlen
  have HB := Lib.hid (below_setCells' (B := w.heap.size) w.heap.size (Nat.le_refl _) (hc (sha X)) 0 B3)
  generalize hF : sha X = F at *
  have HF := Lib.hid hF
  clear hF
  clear hb3 H3 B3 KS H1 B1 hb1
  go_wp2_with fail
  refine bodyPost_ret (v := .agg (hc F).toArray) (by simp [results, Tryd.results42, go_sem, hput, hlen]) rfl ⟨by rw [HXX.out, HF.out], HB.out⟩

set_option maxHeartbeats 4000000 in
theorem refTagged_any {w : World} {s t : ByteArray} {v : Value} {L : List (List Int)} (hL : RdL w v L []) (hs : s.size ≤ maxLen) (hst : cut255 s = t) (hn : (frm (sn t) L).length ≤ 100000000000000) (hx : Bytes (frm (sn t) L)) :
    Calls Tryd.prog 43 #[.string s, v] w fun e w' => e = .returned (.agg (hc (sha (frm (sn t) L))).toArray) ∧ Below w.heap.size w w' := by
  have H0 := Lib.hid (HashAt.new w zero32)
  have B0 := Lib.hid ((Below.refl w.heap.size w).alloc (Nat.le_refl _) (.cells (hc zero32).toArray 23))
  have KF := Lib.hid (refFrame_any (hL.chg (Chg.below B0.out (Nat.le_refl _) [])) hs hst hn)
  have HX := Lib.hid hx
  clear hL hx
  go_enter Tryd.func43, Tryd.ntmps43
  go_wp2_with fail
  refine KF.out.mono ?_
  rintro e w1 ⟨q, n, c, rfl, hf1⟩
  have hb1 := hf1.below
  have H1 := Lib.hid (H0.out.on hb1)
  have B1 := Lib.hid (B0.out.trans (hb1.mono B0.out.size))
  have KS := Lib.hid (refSum_any hf1.rd HX.out hn)
  clear hf1
  clear KF H0 hn hs hst HX
  generalize hX : frm (sn t) L = X at *
  have HXX := Lib.hid hX
  clear hX
  go_wp2_with fail
  refine KS.out.mono ?_
  rintro e w3 ⟨rfl, hb3⟩
  have H3 := H1.out.on hb3
  have B3 := B1.out.trans (hb3.mono B1.out.size)
  have hth3 := H3.there zero32_len
  have hlen := sha_len X
  have hput := (H3.put zero32_len hlen).row hlen
  have HB := Lib.hid (below_setCells' (B := w.heap.size) w.heap.size (Nat.le_refl _) (hc (sha X)) 0 B3)
  generalize hF : sha X = F at *
  have HF := Lib.hid hF
  clear hF
  clear hb3 H3 B3 KS H1 B1 hb1
  go_wp2_with fail
  refine bodyPost_ret (v := .agg (hc F).toArray) (by simp [results, Tryd.results43, go_sem, hput, hlen]) rfl ⟨by rw [HXX.out, HF.out], HB.out⟩
end Go.Proofs.YtjgfjmkfcippcaaDoor
