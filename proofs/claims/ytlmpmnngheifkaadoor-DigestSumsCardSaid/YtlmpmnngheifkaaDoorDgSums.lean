/-
  DigestSums returns true for all bytes, and leaves its argument: the digest of any bytes of at most 20000 is the document's.
-/
import Derived.Test.YtlmpmnngheifkaaDoorDgLent
import Derived.Test.YtlmpmnngheifkaaDoorDgKnows
import Derived.Test.YtlmpmnngheifkaaDoorRefSum2
namespace Go.Proofs.YtlmpmnngheifkaaDoor
open Go.RowKit
set_option maxRecDepth 100000

set_option maxHeartbeats 4000000 in
theorem Sums_walk {w : World} {v : Value} {xs : List Int} (h : Rd w v xs) (hx : Bytes xs) (hl : xs.length ≤ maxLen) (hT : Tbl w) :
    Calls Tryd.prog 3 #[v] w fun e w' => e = .returned (.bool true) ∧ Below w.heap.size w w' := by
  unfold maxLen at hl
  obtain ⟨q, c, rfl⟩ := h.len
  have HR := Lib.hid h
  have HX := Lib.hid hx
  have HT := Lib.hid hT
  clear h hx hT
  go_enter Tryd.func3, Tryd.ntmps3
  by_cases h2 : xs.length ≤ 20000
  · go_wp2_with fail
    refine (Lent_any HR.out (by omega)).mono ?_
    rintro e w1 ⟨u, rfl, hu, hb1⟩
    have HU := Lib.hid hu
    have B1 := Lib.hid hb1
    obtain ⟨g, cu, rfl, -⟩ := hu.own
    clear hu hb1
    go_wp2_with fail
    refine (Sum_any HU.out.rdc HX.out (HT.out.on B1.out HT.out.pos)).mono ?_
    rintro e w2 ⟨rfl, hb2⟩
    have HU2 := Lib.hid (HU.out.on hb2)
    have B2 := Lib.hid (B1.out.trans (hb2.mono B1.out.size))
    clear hb2 HU B1
    go_wp2_with fail
    refine (refSum_any (HR.out.on B2.out) HX.out (by omega)).mono ?_
    rintro e w3 ⟨rfl, hb3⟩
    have HU3 := Lib.hid (HU2.out.on hb3)
    have B3 := Lib.hid (B2.out.trans (hb3.mono B2.out.size))
    have hlen := sha_len xs
    generalize sha xs = F at *
    clear hb3 HU2 B2
    go_wp2_with fail
    refine (Stays_any HU3.out (HR.out.on B3.out) (by omega)).mono ?_
    rintro e w4 ⟨rfl, hb4⟩
    have B4 := Lib.hid (B3.out.trans (hb4.mono B3.out.size))
    clear hb4 HU3 B3
    go_wp2_with fail
    refine (knows_any (HT.out.on B4.out HT.out.pos)).mono ?_
    rintro e w5 ⟨rfl, hb5⟩
    have B5 := Lib.hid (B4.out.trans (hb5.mono B4.out.size))
    clear hb5 B4
    go_wp2_with fail
    go_ret
    exact ⟨rfl, B5.out⟩
  · go_wp2_with fail
    refine (knows_any HT.out).mono ?_
    rintro e w5 ⟨rfl, hb5⟩
    have B5 := Lib.hid hb5
    clear hb5
    go_wp2_with fail
    go_ret
    exact ⟨rfl, B5.out⟩
end Go.Proofs.YtlmpmnngheifkaaDoor
