/-
  Put and Get, each in one.; LaneBytes returns true for all proofs and bytes.; Bytes as a law's argument, with their size.
-/
import Derived.Test.YtebeacejlkiglaaDoorMa10
import Derived.Test.YtebeacejlkiglaaDoorMa13
import Derived.Test.YtebeacejlkiglaaDoorMa14
import Derived.Test.YtebeacejlkiglaaDoorMa23
namespace Go.Proofs.YtebeacejlkiglaaDoor
set_option maxRecDepth 100000
open Go.RowKit

def pB (P C : Int) (Ss : List (List Int)) : List Int := if okPf P C Ss.length = true then pfB P C Ss else []
def pE (P C : Int) (Ss : List (List Int)) : Int := if okPf P C Ss.length = true then 0 else 21
theorem Put_all {w : World} {P C : Int} {q : Option Addr} {k : Nat} {Ss : List (List Int)} (hs : RdHs w q Ss) (ok : HsOk Ss) (hn : Ss.length ≤ maxLen) :
    Calls Tryd.prog 21 #[.agg #[.int .i64 P, .int .i64 C, .slice q Ss.length k]] w fun e w' => ∃ q' k', e = .returned (.tuple #[.slice q' (pB P C Ss).length k', .int .i64 (pE P C Ss)]) ∧ Rd w' (.slice q' (pB P C Ss).length k') (pB P C Ss) ∧ Below w.heap.size w w' := by
  by_cases h : okPf P C Ss.length = true
  · obtain ⟨p1, p2, p3, p4⟩ := of_decide_eq_true h
    obtain ⟨p0, rfl⟩ : ∃ p0 : Nat, P = p0 := ⟨P.toNat, by omega⟩
    obtain ⟨k0, rfl⟩ : ∃ k0 : Nat, C = k0 := ⟨C.toNat, by omega⟩
    rw [Int.toNat_natCast, Int.toNat_natCast] at p4
    have e1 : pB (p0 : Int) (k0 : Int) Ss = pfB p0 k0 Ss := if_pos h
    have e2 : pE (p0 : Int) (k0 : Int) Ss = 0 := if_pos h
    rw [e1, e2]
    refine (Put_yes hs ok (by omega) (by omega) p4).mono ?_
    rintro e w' ⟨u, rfl, hN⟩
    obtain ⟨q', k', rfl⟩ := hN.rd.len
    exact ⟨q', k', rfl, hN.rd, hN.2.2.1⟩
  · have e1 : pB P C Ss = [] := if_neg h
    have e2 : pE P C Ss = 21 := if_neg h
    rw [e1, e2]
    refine (Put_no hn (by simpa using h)).mono ?_
    rintro e w' ⟨rfl, hb⟩
    exact ⟨none, 0, rfl, Rd.nil w', hb⟩
theorem refPut_all {w : World} {P C : Int} {q : Option Addr} {k : Nat} {Ss : List (List Int)} (hs : RdHs w q Ss) (ok : HsOk Ss) (hn : Ss.length ≤ maxLen) :
    Calls Tryd.prog 22 #[.agg #[.int .i64 P, .int .i64 C, .slice q Ss.length k]] w fun e w' => ∃ q' k', e = .returned (.tuple #[.slice q' (pB P C Ss).length k', .int .i64 (pE P C Ss)]) ∧ Rd w' (.slice q' (pB P C Ss).length k') (pB P C Ss) ∧ Below w.heap.size w w' := by
  by_cases h : okPf P C Ss.length = true
  · obtain ⟨p1, p2, p3, p4⟩ := of_decide_eq_true h
    obtain ⟨p0, rfl⟩ : ∃ p0 : Nat, P = p0 := ⟨P.toNat, by omega⟩
    obtain ⟨k0, rfl⟩ : ∃ k0 : Nat, C = k0 := ⟨C.toNat, by omega⟩
    rw [Int.toNat_natCast, Int.toNat_natCast] at p4
    have e1 : pB (p0 : Int) (k0 : Int) Ss = pfB p0 k0 Ss := if_pos h
    have e2 : pE (p0 : Int) (k0 : Int) Ss = 0 := if_pos h
    rw [e1, e2]
    refine (refPut_yes hs ok (by omega) (by omega) p4).mono ?_
    rintro e w' ⟨u, rfl, hN⟩
    obtain ⟨q', k', rfl⟩ := hN.rd.len
    exact ⟨q', k', rfl, hN.rd, hN.below⟩
  · have e1 : pB P C Ss = [] := if_neg h
    have e2 : pE P C Ss = 21 := if_neg h
    rw [e1, e2]
    refine (refPut_no hn (by simpa using h)).mono ?_
    rintro e w' ⟨rfl, hb⟩
    exact ⟨none, 0, rfl, Rd.nil w', hb⟩

/-- What Get answers hangs on the bytes alone. -/
theorem GetU (xs : List Int) : ∃ (P' C' E : Int) (Sx : List (List Int)), HsOk Sx ∧ Sx.length ≤ 16 ∧
    (∀ (w w' : World) (e : Ending), GetP xs w e w' → ∃ q k, e = .returned (.tuple #[.agg #[.int .i64 P', .int .i64 C', .slice q Sx.length k], .int .i64 E]) ∧ RdHs w' q Sx ∧ Below w.heap.size w w') ∧
    (∀ p c Ss, Told xs p c Ss → P' = p ∧ C' = c ∧ Sx = Ss ∧ E = 0) := by
  by_cases h : ∃ p c Ss, Told xs p c Ss
  · obtain ⟨p, c, Ss, ht⟩ := h
    refine ⟨p, c, 0, Ss, ht.1, ht.bounds.2.2.1, fun w w' e hg => ?_, fun p' c' Ss' ht' => ?_⟩
    · obtain ⟨hb, ⟨p', c', Ss', q, k, ht', rfl, hr, _, _⟩ | ⟨hn, rfl⟩⟩ := hg
      · obtain ⟨rfl, rfl, rfl⟩ := ht.one ht'
        exact ⟨q, k, rfl, hr, hb⟩
      · exact absurd ht (hn _ _ _)
    · obtain ⟨rfl, rfl, rfl⟩ := ht.one ht'
      exact ⟨rfl, rfl, rfl, rfl⟩
  · refine ⟨0, 0, 21, [], HsOk.nil, by simp, fun w w' e hg => ?_, fun p' c' Ss' ht' => absurd ⟨p', c', Ss', ht'⟩ h⟩
    obtain ⟨hb, ⟨p', c', Ss', q, k, ht', rfl, hr, _, _⟩ | ⟨hn, rfl⟩⟩ := hg
    · exact absurd ⟨p', c', Ss', ht'⟩ h
    · exact ⟨Option.none, 0, rfl, .inl rfl, hb⟩
end Go.Proofs.YtebeacejlkiglaaDoor
namespace Go.Proofs.YtebeacejlkiglaaDoor
set_option maxRecDepth 100000
open Go.RowKit

set_option maxHeartbeats 16000000 in
theorem Bytes_walk {w : World} {P C : Int} {q : Option Addr} {k : Nat} {Ss : List (List Int)} {v : Value} {xs : List Int} (hs : RdHs w q Ss) (ok : HsOk Ss) (hn : Ss.length * 32 ≤ 140737488355328) (hr : Rd w v xs) (hx : Bytes xs) (hl : xs.length ≤ 140737488355000) (hT : Tbl w) :
    Calls Tryd.prog 5 #[.agg #[.int .i64 P, .int .i64 C, .slice q Ss.length k], v] w fun e w' => e = .returned (.bool true) ∧ Below w.heap.size w w' := by
  obtain ⟨PX, CX, EX, SX, okX, lX, uX, -⟩ := GetU xs
  obtain ⟨PZ, CZ, EZ, SZ, okZ, lZ, uZ, tZ⟩ := GetU (pB P C Ss)
  obtain ⟨qv, cv, rfl⟩ := hr.len
  have hnm : Ss.length ≤ maxLen := by unfold maxLen; omega
  have HR := Lib.hid hr
  have HX := Lib.hid hx
  have HT := Lib.hid hT
  have HOK := Lib.hid ok
  have HQ := Lib.hid hs
  have HUX := Lib.hid uX
  have HUZ := Lib.hid uZ
  have OKX := Lib.hid okX
  have OKZ := Lib.hid okZ
  have HSl : Hid (∀ i, i < Ss.length → (Ss.getD i []).length = 32) := fun i hi => (ok.get i hi).1
  have HSX : Hid (∀ i, i < SX.length → (SX.getD i []).length = 32) := fun i hi => (okX.get i hi).1
  have HSZ : Hid (∀ i, i < SZ.length → (SZ.getD i []).length = 32) := fun i hi => (okZ.get i hi).1
  have hpB : (pB P C Ss).length ≤ 140737488355328 := by
    unfold pB
    split
    · rename_i h
      obtain ⟨h1, h2, h3, h4⟩ := of_decide_eq_true h
      have := sd_le 17 P.toNat C.toNat
      rw [pfB_len ok]; omega
    · simp
  have bpB : Hid (Bytes (pB P C Ss)) := by
    show Bytes _
    unfold pB
    split
    · exact pfB_bytes ok
    · intro x hx; cases hx
  -- what holds where the proof may be
  have HE : Hid ((pE P C Ss = 21) ∨ (pE P C Ss = 0 ∧ EZ = 0 ∧ PZ = P ∧ CZ = C ∧ SZ = Ss)) := by
    by_cases h : okPf P C Ss.length = true
    · obtain ⟨h1, h2, h3, h4⟩ := of_decide_eq_true h
      obtain ⟨p0, rfl⟩ : ∃ p0 : Nat, P = p0 := ⟨P.toNat, by omega⟩
      obtain ⟨k0, rfl⟩ : ∃ k0 : Nat, C = k0 := ⟨C.toNat, by omega⟩
      obtain ⟨a1, a2, a3, a4⟩ := tZ p0 k0 Ss ⟨ok, h, if_pos h⟩
      exact .inr ⟨if_pos h, a4, a1, a2, a3⟩
    · exact .inl (if_neg h)
  obtain ⟨XB, hXB⟩ : ∃ XB, pB P C Ss = XB := ⟨_, rfl⟩
  have HXB := Lib.hid hXB
  obtain ⟨EP, hEP⟩ : ∃ EP, pE P C Ss = EP := ⟨_, rfl⟩
  have HEP := Lib.hid hEP
  rw [hXB] at HUZ bpB hpB
  rw [hEP] at HE
  have K0 := Lib.hid (heap_alloc_new w (.cells #[.int .i64 P, .int .i64 C, .slice q Ss.length k] 32))
  have B0 := Lib.hid ((Below.refl w.heap.size w).alloc (Nat.le_refl _) (.cells #[.int .i64 P, .int .i64 C, .slice q Ss.length k] 32))
  clear hs ok hr hx hT okX okZ uX uZ tZ hXB hEP
  go_enter Tryd.func5, Tryd.ntmps5
  go_wp2_with fail
  generalize (w.alloc (.cells #[.int .i64 P, .int .i64 C, .slice q Ss.length k] 32)) = w0 at *
  refine (Lent_any (HR.out.on B0.out) (by omega)).mono ?_
  rintro e w1 ⟨u, rfl, hu, hb⟩
  have U1 := Lib.hid hu
  obtain ⟨g, cu, rfl, -⟩ := hu.own
  have K1 := Lib.hid (blk_onB2 K0.out hb)
  have B1 := Lib.hid (B0.out.trans (hb.mono B0.out.size))
  clear hu hb K0 B0
  have c0 := (Joins.cell_of_block K1.out 0).trans (rfl : _ = some _)
  have c1 := (Joins.cell_of_block K1.out 1).trans (rfl : _ = some _)
  have c2 := (Joins.cell_of_block K1.out 2).trans (rfl : _ = some _)
  go_wp2_with fail
  refine (Own_any (P := P) (C := C) (k := k) (HQ.out.on HSl.out B1.out) HOK.out hn).mono ?_
  rintro e w2 ⟨q2, k2, rfl, hs2⟩
  have hb := hs2.below
  have RO2 := Lib.hid hs2.rd.2.1
  clear c0 c1 c2
  have B2 := Lib.hid (B1.out.trans (hb.mono B1.out.size))
  have K2 := Lib.hid (blk_onB2 K1.out hb)
  have U2 := Lib.hid (U1.out.on hb)
  clear K1 U1 B1
  clear hb hs2
  go_wp2_with fail
  refine (Put_all (P := P) (C := C) (q := q2) (k := k2) RO2.out HOK.out hnm).mono ?_
  rintro e w3 ⟨q3, k3, rfl, rc, hb⟩
  rw [HXB.out, HEP.out]
  rw [HXB.out] at rc
  have RC3 := Lib.hid rc
  have B3 := Lib.hid (B2.out.trans (hb.mono B2.out.size))
  have K3 := Lib.hid (blk_onB2 K2.out hb)
  have U3 := Lib.hid (U2.out.on hb)
  clear K2 U2 B2
  clear hb rc RO2
  have c0 := (Joins.cell_of_block K3.out 0).trans (rfl : _ = some _)
  have c1 := (Joins.cell_of_block K3.out 1).trans (rfl : _ = some _)
  have c2 := (Joins.cell_of_block K3.out 2).trans (rfl : _ = some _)
  go_wp2_with fail
  refine (refPut_all (P := P) (C := C) (q := q) (k := k) (HQ.out.on HSl.out B3.out) HOK.out hnm).mono ?_
  rintro e w4 ⟨q4, k4, rfl, rd, hb⟩
  rw [HXB.out, HEP.out]
  rw [HXB.out] at rd
  have RD4 := Lib.hid rd
  have B4 := Lib.hid (B3.out.trans (hb.mono B3.out.size))
  have K4 := Lib.hid (blk_onB2 K3.out hb)
  have U4 := Lib.hid (U3.out.on hb)
  have RC4 := Lib.hid (RC3.out.on hb)
  clear K3 U3 RC3 B3
  clear hb rd c0 c1 c2
  go_wp2_with fail
  refine (Get_any U4.out.rdc.rd HX.out (by omega)).mono ?_
  rintro e w5 hg
  obtain ⟨q5, k5, rfl, rx, hb⟩ := HUX.out _ _ _ hg
  have bb : Below w5.heap.size w5 (w5.alloc (.cells #[.int .i64 PX, .int .i64 CX, .slice q5 SX.length k5] 28)) := (Below.refl _ _).alloc (Nat.le_refl _) _
  have hb6 := hb.trans (bb.mono hb.size)
  have K106 := Lib.hid (heap_alloc_new w5 (.cells #[.int .i64 PX, .int .i64 CX, .slice q5 SX.length k5] 28))
  have RX6 := Lib.hid (rx.on HSX.out bb)
  have B6 := Lib.hid (B4.out.trans (hb6.mono B4.out.size))
  have K6 := Lib.hid (blk_onB2 K4.out hb6)
  have U6 := Lib.hid (U4.out.on hb6)
  have RC6 := Lib.hid (RC4.out.on hb6)
  have RD6 := Lib.hid (RD4.out.on hb6)
  clear K4 U4 RC4 RD4 B4
  have KG := Lib.hid (refGet_any (HR.out.on B6.out) HX.out (by omega))
  clear hg hb bb hb6 rx
  go_wp2_with fail
  generalize (w5.alloc (.cells #[.int .i64 PX, .int .i64 CX, .slice q5 SX.length k5] 28)) = w6 at *
  generalize w5.heap.size = b10 at *
  refine KG.out.mono ?_
  rintro e w7 hg
  obtain ⟨q6, k6, rfl, ry, hb⟩ := HUX.out _ _ _ hg
  have bb : Below w7.heap.size w7 (w7.alloc (.cells #[.int .i64 PX, .int .i64 CX, .slice q6 SX.length k6] 32)) := (Below.refl _ _).alloc (Nat.le_refl _) _
  have hb8 := hb.trans (bb.mono hb.size)
  have K128 := Lib.hid (heap_alloc_new w7 (.cells #[.int .i64 PX, .int .i64 CX, .slice q6 SX.length k6] 32))
  have RY8 := Lib.hid (ry.on HSX.out bb)
  have B8 := Lib.hid (B6.out.trans (hb8.mono B6.out.size))
  have K8 := Lib.hid (blk_onB2 K6.out hb8)
  have U8 := Lib.hid (U6.out.on hb8)
  have RC8 := Lib.hid (RC6.out.on hb8)
  have RD8 := Lib.hid (RD6.out.on hb8)
  have K108 := Lib.hid (blk_onB2 K106.out hb8)
  have RX8 := Lib.hid (RX6.out.on HSX.out hb8)
  clear K6 U6 RC6 RD6 K106 RX6 B6
  have KG := Lib.hid (Get_any RC8.out bpB.out hpB)
  clear hg hb bb hb8 ry
  go_wp2_with fail
  generalize (w7.alloc (.cells #[.int .i64 PX, .int .i64 CX, .slice q6 SX.length k6] 32)) = w8 at *
  generalize w7.heap.size = b12 at *
  refine KG.out.mono ?_
  rintro e w9 hg
  obtain ⟨q7, k7, rfl, rz, hb⟩ := HUZ.out _ _ _ hg
  have bb : Below w9.heap.size w9 (w9.alloc (.cells #[.int .i64 PZ, .int .i64 CZ, .slice q7 SZ.length k7] 28)) := (Below.refl _ _).alloc (Nat.le_refl _) _
  have hb10 := hb.trans (bb.mono hb.size)
  have K1410 := Lib.hid (heap_alloc_new w9 (.cells #[.int .i64 PZ, .int .i64 CZ, .slice q7 SZ.length k7] 28))
  have RZ10 := Lib.hid (rz.on HSZ.out bb)
  have B10 := Lib.hid (B8.out.trans (hb10.mono B8.out.size))
  have K10 := Lib.hid (blk_onB2 K8.out hb10)
  have U10 := Lib.hid (U8.out.on hb10)
  have RC10 := Lib.hid (RC8.out.on hb10)
  have RD10 := Lib.hid (RD8.out.on hb10)
  have K1010 := Lib.hid (blk_onB2 K108.out hb10)
  have RX10 := Lib.hid (RX8.out.on HSX.out hb10)
  have K1210 := Lib.hid (blk_onB2 K128.out hb10)
  have RY10 := Lib.hid (RY8.out.on HSX.out hb10)
  clear K8 U8 RC8 RD8 K108 RX8 K128 RY8 B8
  have KN := Lib.hid (num_any EP (w9.alloc (.cells #[.int .i64 PZ, .int .i64 CZ, .slice q7 SZ.length k7] 28)))
  clear hg hb bb hb10 rz KG
  go_wp2_with fail
  generalize (w9.alloc (.cells #[.int .i64 PZ, .int .i64 CZ, .slice q7 SZ.length k7] 28)) = w10 at *
  generalize w9.heap.size = b14 at *
  refine KN.out.mono ?_
  rintro e wz ⟨rfl, hwz⟩
  obtain rfl := hwz.symm
  clear hwz KN
  rcases HE.out with hE | ⟨hE, hEZ, hPZ, hCZ, hSZ⟩
  · subst hE
    obtain ⟨sX, hsX⟩ : ∃ sX, strOfNums XB = sX := ⟨_, rfl⟩
    have sc : (convert 42 9 (.slice q3 XB.length k3)).run Tryd.prog w10 = .ok (.string sX) w10 := by rw [← hsX]; exact RC10.out.str (P := Tryd.prog) Tryd.underlying42 Tryd.underlying5 Tryd.underlying9
    have sd' : (convert 42 9 (.slice q4 XB.length k4)).run Tryd.prog w10 = .ok (.string sX) w10 := by rw [← hsX]; exact RD10.out.str (P := Tryd.prog) Tryd.underlying42 Tryd.underlying5 Tryd.underlying9
    have ds : (sX.toList == sX.toList) = true := by simp
    clear hsX
    have c0 := (Joins.cell_of_block K1010.out 0).trans (rfl : _ = some _)
    have c1 := (Joins.cell_of_block K1010.out 1).trans (rfl : _ = some _)
    have c2 := (Joins.cell_of_block K1010.out 2).trans (rfl : _ = some _)
    have d0 := (Joins.cell_of_block K1210.out 0).trans (rfl : _ = some _)
    have d1 := (Joins.cell_of_block K1210.out 1).trans (rfl : _ = some _)
    have d2 := (Joins.cell_of_block K1210.out 2).trans (rfl : _ = some _)
    go_wp2_with fail
    refine (num_any _ w10).mono ?_
    rintro e wz ⟨rfl, hwz⟩
    obtain rfl := hwz.symm
    clear hwz sc sd'
    go_wp2_with fail
    refine (Same_any RX10.out RY10.out OKX.out (by unfold maxLen; omega)).mono ?_
    rintro e w12 ⟨rfl, hb⟩
    have B12 := Lib.hid (B10.out.trans (hb.mono B10.out.size))
    have U12 := Lib.hid (U10.out.on hb)
    clear hb c0 c1 c2 d0 d1 d2
    go_wp2_with fail
    refine (num_any _ w12).mono ?_
    rintro e wz ⟨rfl, hwz⟩
    obtain rfl := hwz.symm
    clear hwz
    go_wp2_with fail
    refine (Stays_any U12.out (HR.out.on B12.out) (by omega)).mono ?_
    rintro e w13 ⟨rfl, hb⟩
    have B13 := Lib.hid (B12.out.trans (hb.mono B12.out.size))
    clear hb
    go_wp2_with fail
    refine (knows_any (HT.out.on B13.out HT.out.pos)).mono ?_
    rintro e w14 ⟨rfl, hb⟩
    have B14 := Lib.hid (B13.out.trans (hb.mono B13.out.size))
    clear hb
    go_wp2_with fail
    go_ret
    exact ⟨rfl, B14.out⟩
  · subst hE hEZ hPZ hCZ hSZ
    go_wp2_with fail
    refine (num_any 0 w10).mono ?_
    rintro e wz ⟨rfl, hwz⟩
    obtain rfl := hwz.symm
    clear hwz
    have c0 := (Joins.cell_of_block K10.out 0).trans (rfl : _ = some _)
    have c1 := (Joins.cell_of_block K10.out 1).trans (rfl : _ = some _)
    have c2 := (Joins.cell_of_block K10.out 2).trans (rfl : _ = some _)
    have d0 := (Joins.cell_of_block K1410.out 0).trans (rfl : _ = some _)
    have d1 := (Joins.cell_of_block K1410.out 1).trans (rfl : _ = some _)
    have d2 := (Joins.cell_of_block K1410.out 2).trans (rfl : _ = some _)
    go_wp2_with fail
    refine (Same_any RZ10.out (HQ.out.on HSl.out B10.out) HOK.out hnm).mono ?_
    rintro e w11 ⟨rfl, hb⟩
    clear c0 c1 c2 d0 d1 d2
    have B11 := Lib.hid (B10.out.trans (hb.mono B10.out.size))
    have K11 := Lib.hid (blk_onB2 K10.out hb)
    have U11 := Lib.hid (U10.out.on hb)
    have RC11 := Lib.hid (RC10.out.on hb)
    have RD11 := Lib.hid (RD10.out.on hb)
    have K1011 := Lib.hid (blk_onB2 K1010.out hb)
    have RX11 := Lib.hid (RX10.out.on HSX.out hb)
    have K1211 := Lib.hid (blk_onB2 K1210.out hb)
    have RY11 := Lib.hid (RY10.out.on HSX.out hb)
    have K1411 := Lib.hid (blk_onB2 K1410.out hb)
    have RZ11 := Lib.hid (RZ10.out.on HSZ.out hb)
    clear K10 U10 RC10 RD10 K1010 RX10 K1210 RY10 K1410 RZ10 B10
    clear hb
    obtain ⟨sX, hsX⟩ : ∃ sX, strOfNums XB = sX := ⟨_, rfl⟩
    have sc : (convert 42 9 (.slice q3 XB.length k3)).run Tryd.prog w11 = .ok (.string sX) w11 := by rw [← hsX]; exact RC11.out.str (P := Tryd.prog) Tryd.underlying42 Tryd.underlying5 Tryd.underlying9
    have sd' : (convert 42 9 (.slice q4 XB.length k4)).run Tryd.prog w11 = .ok (.string sX) w11 := by rw [← hsX]; exact RD11.out.str (P := Tryd.prog) Tryd.underlying42 Tryd.underlying5 Tryd.underlying9
    have ds : (sX.toList == sX.toList) = true := by simp
    clear hsX
    have c0 := (Joins.cell_of_block K1011.out 0).trans (rfl : _ = some _)
    have c1 := (Joins.cell_of_block K1011.out 1).trans (rfl : _ = some _)
    have c2 := (Joins.cell_of_block K1011.out 2).trans (rfl : _ = some _)
    have d0 := (Joins.cell_of_block K1211.out 0).trans (rfl : _ = some _)
    have d1 := (Joins.cell_of_block K1211.out 1).trans (rfl : _ = some _)
    have d2 := (Joins.cell_of_block K1211.out 2).trans (rfl : _ = some _)
    go_wp2_with fail
    refine (num_any _ w11).mono ?_
    rintro e wz ⟨rfl, hwz⟩
    obtain rfl := hwz.symm
    clear hwz sc sd'
    go_wp2_with fail
    refine (Same_any RX11.out RY11.out OKX.out (by unfold maxLen; omega)).mono ?_
    rintro e w12 ⟨rfl, hb⟩
    have B12 := Lib.hid (B11.out.trans (hb.mono B11.out.size))
    have U12 := Lib.hid (U11.out.on hb)
    clear hb c0 c1 c2 d0 d1 d2
    go_wp2_with fail
    refine (num_any _ w12).mono ?_
    rintro e wz ⟨rfl, hwz⟩
    obtain rfl := hwz.symm
    clear hwz
    go_wp2_with fail
    refine (Stays_any U12.out (HR.out.on B12.out) (by omega)).mono ?_
    rintro e w13 ⟨rfl, hb⟩
    have B13 := Lib.hid (B12.out.trans (hb.mono B12.out.size))
    clear hb
    go_wp2_with fail
    refine (knows_any (HT.out.on B13.out HT.out.pos)).mono ?_
    rintro e w14 ⟨rfl, hb⟩
    have B14 := Lib.hid (B13.out.trans (hb.mono B13.out.size))
    clear hb
    go_wp2_with fail
    go_ret
    exact ⟨rfl, B14.out⟩
end Go.Proofs.YtebeacejlkiglaaDoor
namespace Go.Proofs.YtebeacejlkiglaaDoor
set_option maxRecDepth 100000
open Go.ChangeShapes Go.WideShapes Go.ChangeAt Go.RowKit Go.Deep

section
variable {H : Type} {enc : TypeId × Value → H} {w : World} {base : Nat} {held : Bool}
theorem trod_bytes {fuel : Nat} {cs : List Value} {y : DataW H × List MemPlace} (h : DataW.trod enc Tryd.prog w base (fun _ => true) held fuel 42 cs = some y) :
    ∃ v xs, cs = [v] ∧ Rd w v xs ∧ (xs = [] ∨ ∃ el sp, y.1 = .slice el sp ∧ el.length = xs.length) := by
  rcases Deep.open_slice Tryd.underlying42 h with ⟨rfl, _⟩ | ⟨a, len, cap, m, n, D, Pl, rfl, hb, hl, hm, hmm, hy, hx⟩
  · exact ⟨_, [], rfl, Rd.nil w, .inl rfl⟩
  · rcases open_ints Tryd.underlying42 Tryd.underlying5 (by kernel_rfl) h with ⟨h0, _⟩ | ⟨a', len', cap', zs, hcs, _, hl', hm', hz, _, hx', hwf⟩
    · simp at h0
    · simp only [List.cons.injEq, Value.slice.injEq, Option.some.injEq, and_true] at hcs
      obtain ⟨rfl, rfl, rfl⟩ := hcs
      simp only [if_true] at hz
      have hl2 : (zs.take len).length = len := by simp; omega
      refine ⟨_, zs.take len, rfl, ?_, .inr ⟨_, _, by rw [hy], by simp; omega⟩⟩
      by_cases h0 : len = 0
      · subst h0
        exact ⟨some a, _, by rw [hl2], .inl (by simp)⟩
      · obtain ⟨b, o, sp⟩ := a
        have hsp : sp = none := by
          have := hx' 0 (by omega)
          simpa [Addr.add] using World.cell?_spot this
        subst hsp
        refine ⟨_, _, by rw [hl2], .inr ⟨b, o, rfl, fun i hi => ?_⟩⟩
        have h := hx' i (by omega)
        rw [addr_add] at h
        rw [h]
        simp [List.getD, show i < len by omega]
theorem reach46 : reachBytes ≤ 140737488355000 := by decide
theorem open_bytesS {r : Reach} {b0 : Nat} {v : Value} {d : DataW H} {p : List MemPlace} (hv : Value.okWide Tryd.prog w r b0 42 v) (h : DataW.Trod enc Tryd.prog w base (fun _ => true) held 42 v d p)
    (hs : ∀ n ∈ d.weights Tryd.prog 42, n ≤ reachBytes) : ∃ xs : List Int, Rd w v xs ∧ Bytes xs ∧ xs.length ≤ 140737488355000 := by
  have hr := reach46
  obtain ⟨xs, rx, bx, lx⟩ := open_bytes hv h
  obtain ⟨fuel, hf⟩ := h
  obtain ⟨v', xs', e, r', z⟩ := trod_bytes hf
  obtain ⟨q, c, rfl⟩ := rx.len
  obtain ⟨q', c', rfl⟩ := r'.len
  simp only [Value.cells, List.cons.injEq, Value.slice.injEq, and_true] at e
  refine ⟨xs, rx, bx, ?_⟩
  rcases z with rfl | ⟨el, sp, z1, z2⟩
  · have h5 : xs.length = ([] : List Int).length := e.2.1
    rw [h5]
    simp
  · simp only at z1
    rw [z1] at hs
    have h4 := (weights_slice Tryd.underlying42 hs).1
    rw [show Tryd.prog.bytesOf 5 = 1 by kernel_rfl, z2] at h4
    omega
end
end Go.Proofs.YtebeacejlkiglaaDoor
