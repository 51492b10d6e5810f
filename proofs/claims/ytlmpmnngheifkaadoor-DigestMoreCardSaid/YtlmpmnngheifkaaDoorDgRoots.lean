/-
  DigestRoots returns true for all bytes, and leaves its argument: the digest of any bytes of at most 200 is the document's, with constants out of roots.
-/
import Derived.Test.YtlmpmnngheifkaaDoorDgKnows
import Derived.Test.YtlmpmnngheifkaaDoorPair
import Derived.Test.YtlmpmnngheifkaaDoorSlow
namespace Go.Proofs.YtlmpmnngheifkaaDoor
open Go.RowKit
set_option maxRecDepth 100000

theorem rdc_of_own {w : World} {v : Value} {n : Nat} {xs : List Int} (h : w.ownsRow 0 5 1 v n (bc xs)) : RdC w v xs := by
  have hl : xs.length = n := by have := h.1; simpa using this
  subst hl
  have hr := rd_of_row h
  rcases h.2 with ⟨rfl, h0⟩ | ⟨g, cap, cur, rfl, _, hg, hnc, _⟩
  · obtain rfl := List.eq_nil_of_length_eq_zero h0
    exact ⟨none, 0, rfl, Nat.le_refl _, .inl rfl⟩
  · obtain ⟨q, c, e, hx⟩ := hr
    simp only [Value.slice.injEq] at e
    exact ⟨_, cap, rfl, hnc, by rw [e.1]; exact hx⟩

set_option maxHeartbeats 4000000 in
theorem Roots_walk {w : World} {v : Value} {xs : List Int} (h : Rd w v xs) (hx : Bytes xs) (hl : xs.length ≤ maxLen) (hT : Tbl w) :
    Calls Tryd.prog 4 #[v] w fun e w' => e = .returned (.bool true) ∧ Below w.heap.size w w' := by
  unfold maxLen at hl
  obtain ⟨q, c, rfl⟩ := h.len
  have HR := Lib.hid h
  have HX := Lib.hid hx
  have HT := Lib.hid hT
  clear h hx hT
  obtain ⟨i0, hi, hz0, hz1, hz2⟩ := info_parts Tryd.infoU8
  replace hi := Lib.hid hi
  replace hz0 := Lib.hid hz0
  replace hz1 := Lib.hid hz1
  replace hz2 := Lib.hid hz2
  go_enter Tryd.func4, Tryd.ntmps4
  by_cases h2 : xs.length ≤ 200
  · go_wp2_with (at_builtin; refine wpList_append_row rfl _ _ rfl Tryd.underlying22 hi.out hz0.out hz1.out hz2.out rfl (own_empty w 5 1) ((HR.out.alloc _).src (P := Tryd.prog) Tryd.underlying22) ?b1 ?b2 ?_)
    case b1 => unfold maxLen; omega
    (try case b2 => omega)
    intro q2 k2 w1 own1 grow1 fr1
    have hf : FrS w w1 (.slice q2 xs.length k2) xs xs.length := by
      have h := (FrS.born (Below.refl _ w) rfl).grow (m := xs.length) (ys := xs) (by rw [Nat.zero_add]; exact own1) grow1 (by first | exact fr1 | simpa using fr1)
      simpa using h
    have RU := Lib.hid (rdc_of_own hf.own)
    have B1 := Lib.hid hf.below
    clear own1 grow1 fr1 hf
    go_wp2_with fail
    refine (Sum_any RU.out HX.out (HT.out.on B1.out HT.out.pos)).mono ?_
    rintro e w2 ⟨rfl, hb2⟩
    have B2 := Lib.hid (B1.out.trans (hb2.mono B1.out.size))
    clear hb2 B1
    go_wp2_with fail
    refine (Slow_any (HR.out.on B2.out) HX.out (by omega)).mono ?_
    rintro e w3 ⟨rfl, hb3⟩
    have B3 := Lib.hid (B2.out.trans (hb3.mono B2.out.size))
    have hlen := sha_len xs
    generalize sha xs = F at *
    clear hb3 B2
    go_wp2_with fail
    refine (knows_any (HT.out.on B3.out HT.out.pos)).mono ?_
    rintro e w5 ⟨rfl, hb5⟩
    have B5 := Lib.hid (B3.out.trans (hb5.mono B3.out.size))
    clear hb5 B3
    go_wp2_with fail
    go_ret
    exact ⟨rfl, B5.out⟩
  · go_wp2_with fail
    refine (knows_any HT.out).mono ?_
    rintro e w5 ⟨rfl, hb5⟩
    have B5 := Lib.hid hb5
    clear hb5
    go_wp2_with fail
    go_ret
    exact ⟨rfl, B5.out⟩
end Go.Proofs.YtlmpmnngheifkaaDoor
