/-
  Each deposit of a known block is in the inputs of its number, once, in order.
-/
import Derived.Test.YtonjkhhihiigfaaDv18
namespace Go.Proofs.Ytonjkhhihiigfaa
set_option maxRecDepth 100000
open Go.RowKit

theorem InAt.val {w : World} {b : Nat} {T : TypeId} {x : Inp} {qm qt : Option Addr} {nm km nt kt : Nat} (h : InAt w b T x qm nm km qt nt kt) : w.cell? ⟨b, 8, none⟩ = some (.int .u64 x.m.val.a) ∧ w.cell? ⟨b, 9, none⟩ = some (.int .u64 x.m.val.b) ∧ w.cell? ⟨b, 10, none⟩ = some (.int .u64 x.m.val.c) ∧ w.cell? ⟨b, 11, none⟩ = some (.int .u64 x.m.val.d) :=
  ⟨(Joins.cell_of_block h 8).trans rfl, (Joins.cell_of_block h 9).trans rfl, (Joins.cell_of_block h 10).trans rfl, (Joins.cell_of_block h 11).trans rfl⟩
/-- A known number's inputs: its deposits, and then none. -/
theorem fInL_dep {Ls : List Bk} {n k : Int} (h1 : 1 ≤ n) (h2 : n ≤ kN Ls.length k) :
    (Ls.getD (n.toNat - 1) bk0).ds.length ≤ (fInL Ls n k).length ∧ (∀ j, j < (Ls.getD (n.toNat - 1) bk0).ds.length → (fInL Ls n k).getD j inp0 = dIn ((Ls.getD (n.toNat - 1) bk0).ds.getD j mg0)) ∧
    ∀ j, (Ls.getD (n.toNat - 1) bk0).ds.length ≤ j → ((fInL Ls n k).getD j inp0).dep = false := by
  obtain ⟨hw, a, b, c⟩ := kN_in h1 h2
  unfold fInL
  rw [if_pos ⟨hw, h1, h2⟩]
  obtain ⟨D, hD⟩ : ∃ D, (Ls.getD (n.toNat - 1) bk0).ds = D := ⟨_, rfl⟩
  obtain ⟨T, hT⟩ : ∃ T, foL Ls (fFind Ls n k) = T := ⟨_, rfl⟩
  rw [hD, hT]
  refine ⟨by simp, fun j hj => ?_, fun j hj => ?_⟩
  · simp [List.getD, List.getElem?_append_left, hj]
  · by_cases ht : j - D.length < T.length
    · simp [List.getD, List.getElem?_append_right, hj, ht, tIn]
    · simp [List.getD, List.getElem?_append_right, hj, Nat.not_lt.1 ht, inp0]
theorem min_in {j D : Nat} (h : j < D) : min j D = j ∧ min (j + 1) D = j + 1 := by omega
theorem min_out {j D : Nat} (h : D ≤ j) : min j D = D ∧ min (j + 1) D = D := by omega
set_option maxHeartbeats 16000000 in
theorem DeriveDeposits_walk {w : World} {F : Fp} {Ls : List Bk} {q : Option Addr} {c : Nat} {k : Int} (hr : RwF 2 bk0 PBk w F q Ls) (ok : BksOk Ls) (hl : Ls.length ≤ 3000000000000) :
    Calls Try.prog 5 #[.slice q Ls.length c, .int .i64 k] w fun e w' => e = .returned (.bool true) ∧ Below w.heap.size w w' := by
  have H0 := Lib.hid (fun (W : World) (hb : Below w.heap.size w W) => hr.on PBk_ok (by decide) hb)
  have OK := Lib.hid ok
  have KB0 := Lib.hid (fun (W : World) (hb : Below w.heap.size w W) => Big_any (c := c) (hr.on PBk_ok (by decide) hb) hl ok)
  have KW := Lib.hid (fun (W : World) => knows14_any W)
  clear hr ok hl
  go_enter Try.func5, Try.ntmps5
  go_wp2_with fail
  refine (KB0.out _ (Below.refl _ _)).mono ?_
  rintro e w1 ⟨v1, rfl, b1, hv1⟩
  have B1 := Lib.hid b1
  clear b1 KB0
  cases v1 with
  | true =>
    clear hv1
    go_wp2_with fail
    refine (KW.out _).mono ?_
    rintro e w9 ⟨rfl, hb⟩
    have B9 := Lib.hid (B1.out.trans (hb.mono B1.out.size))
    clear hb
    go_wp2_with fail
    go_ret
    exact ⟨rfl, B9.out⟩
  | false =>
  obtain ⟨hL, hS⟩ := hv1 rfl
  have SM := Lib.hid (BksSm.of OK.out hS)
  clear hS OK hv1
  have HL := Lib.hid hL
  go_wp2_with fail
  refine (Blocks_any (H0.out _ B1.out) SM.out (by have := HL.out; omega)).mono ?_
  rintro e w3 ⟨q3, c3, dn3, rfl, o3, n3⟩
  have B3 := Lib.hid (B1.out.trans (o3.below.mono B1.out.size))
  have R3 := Lib.hid (o3.rd PBk_ok (fun g hg => hg))
  clear o3 n3 B1
  go_wp2_with fail
  refine (All_any R3.out SM.out (by have := HL.out; omega)).mono ?_
  rintro e w4 ⟨q4, c4, rfl, r4, b4⟩
  have B4 := Lib.hid (B3.out.trans (b4.mono B3.out.size))
  have R4 := Lib.hid r4
  clear r4 b4 R3 B3
  have hAL : (fAll Ls k).length ≤ Ls.length := by
    rw [fAll_len]
    have := kN_le Ls.length k (by omega)
    omega
  have HI := Lib.hid (fun (i : Nat) (hi : i < (fAll Ls k).length) => (show ((fAll Ls k).getD i []).length ≤ 28 ∧ (Ls.getD i bk0).ds.length ≤ ((fAll Ls k).getD i []).length ∧ (∀ j, j < (Ls.getD i bk0).ds.length → ((fAll Ls k).getD i []).getD j inp0 = dIn ((Ls.getD i bk0).ds.getD j mg0)) ∧ ∀ j, (Ls.getD i bk0).ds.length ≤ j → (((fAll Ls k).getD i []).getD j inp0).dep = false from by
    have hi' := hi
    rw [fAll_len] at hi'
    obtain ⟨x1, x2, x3⟩ := fInL_dep (Ls := Ls) (n := (i : Int) + 1) (k := k) (by omega) (by omega)
    rw [show ((i : Int) + 1).toNat - 1 = i by omega] at x1 x2 x3
    rw [fAll_mem hi]
    exact ⟨fInL_short SM.out _ _, x1, x2, x3⟩))
  have HD := Lib.hid (fun (i : Nat) => (SM.out.get i))
  obtain ⟨A, hA⟩ : ∃ A, fAll Ls k = A := ⟨_, rfl⟩
  rw [hA] at R4 hAL HI ⊢
  have HAL := Lib.hid hAL
  have T0 : Hid (Below w4.heap.size w4 w4) := Below.refl _ _
  have a1 : decide (A.length > Ls.length) = false := decide_eq_false (by omega)
  have a2 : decide ((A.length : Int) > (Ls.length : Int)) = false := decide_eq_false (by omega)
  have a3 : decide (Ls.length < A.length) = false := decide_eq_false (by omega)
  have a4 : ¬ Ls.length < A.length := by omega
  clear hA SM
  go_wp2_with fail
  clear a1 a2 a3 a4 hAL
  go_loopw [6, 7, 8, 9] (fun iv nv jv xv wr => ∃ (i : Nat), iv = .int .i64 (i : Int) ∧ i ≤ A.length ∧ Hid (Below w4.heap.size w4 wr)) (fun iv _ _ _ _ => A.length - (intOf iv).toNat)
  case atStart => exact ⟨0, rfl, by omega, T0⟩
  case round =>
    clear T0
    obtain ⟨i, rfl, hil, hT⟩ := hrel
    by_cases hlt : i < A.length
    · have hlL : i < Ls.length := by have := HAL.out; omega
      obtain ⟨ba, oa, qa, ca, hqa, CA0, RA0⟩ := R4.out.cellAt hlt
      obtain ⟨bl, ol, r1, hql, _, hr3, hrow3, qd, kd, qb, kb, hre3, hds, _⟩ := (H0.out _ B4.out).get hlL
      subst hqa hql hre3
      have c0w := row_cell hrow3 hr3 (j := 0) (v := .slice qd (Ls.getD i bk0).ds.length kd) rfl
      rw [Nat.add_zero] at c0w
      have E00 : ∀ (W : World), Below w4.heap.size w4 W → W.cell? ⟨bl, ol + i * 2, none⟩ = some (.slice qd (Ls.getD i bk0).ds.length kd) := fun W hb => (hb.cell (lt_of_cell c0w)).trans c0w
      have LD0 : ∀ (W : World), Below w4.heap.size w4 W → RwF 9 mg0 PMg W F qd (Ls.getD i bk0).ds := fun W hb => hds.on PMg_ok (by decide) hb
      obtain ⟨s1, s2, s3, s4⟩ := HI.out i hlt
      have sx := HD.out i
      obtain ⟨I, hI⟩ : ∃ I, A.getD i [] = I := ⟨_, rfl⟩
      obtain ⟨X, hX⟩ : ∃ X, Ls.getD i bk0 = X := ⟨_, rfl⟩
      rw [hI] at CA0 RA0 s1 s2 s3 s4
      rw [hX] at E00 LD0 s2 s3 s4 sx
      have CA := Lib.hid CA0
      have RA := Lib.hid RA0
      have EL := Lib.hid E00
      have LD := Lib.hid LD0
      have S3 := Lib.hid s3
      have S4 := Lib.hid s4
      have SX := Lib.hid sx
      have HLT := Lib.hid hlt
      have S2 := Lib.hid s2
      have S1 := Lib.hid s1
      have cc := CA.out _ hT.out
      clear hI hX CA0 RA0 E00 LD0 s3 s4 sx c0w hrow3 hr3 hds
      go_wp2_with fail
      clear cc
      go_loopw [7, 8, 9] (fun nv jv xv wr => ∃ (j : Nat), nv = .int .i64 ((min j X.ds.length : Nat) : Int) ∧ jv = .int .i64 (j : Int) ∧ j ≤ I.length ∧ Hid (Below w4.heap.size w4 wr)) (fun _ jv _ _ => I.length - (intOf jv).toNat)
      case atStart => exact ⟨0, by simp, rfl, by omega, hT⟩
      case round =>
        clear hT
        obtain ⟨j, rfl, rfl, hjl, hT⟩ := hrel
        have cc := CA.out _ hT.out
        by_cases hjt : j < I.length
        · obtain ⟨b, off, qm, km, qt, kt, hqx, R1, M1, T1⟩ := (RA.out _ hT.out).inp hjt
          subst hqx
          have h24 := inRow_len (I.getD j inp0) qm (I.getD j inp0).m.data.length km qt (I.getD j inp0).t.data.length kt
          have KA := InAt.new wr 56 inp0 none 0 0 none 0 0
          have th := KA.there
          have KP := KA.put (I.getD j inp0) qm (I.getD j inp0).m.data.length km qt (I.getD j inp0).t.data.length kt
          have ba0 : Below wr.heap.size wr (wr.alloc (.cells (inRow inp0 none 0 0 none 0 0).toArray 56)) := (Below.refl _ _).alloc (Nat.le_refl _) _
          have cs : Below wr.heap.size wr ((wr.alloc (.cells (inRow inp0 none 0 0 none 0 0).toArray 56)).setCells wr.heap.size 0 (inRow (I.getD j inp0) qm (I.getD j inp0).m.data.length km qt (I.getD j inp0).t.data.length kt)) := below_setCells' _ (Nat.le_refl _) _ _ ba0
          have szz : ((wr.alloc (.cells (inRow inp0 none 0 0 none 0 0).toArray 56)).setCells wr.heap.size 0 (inRow (I.getD j inp0) qm (I.getD j inp0).m.data.length km qt (I.getD j inp0).t.data.length kt)).heap.size = wr.heap.size + 1 := by rw [size_setCells]; simp
          have hrw := R1 _ (Below.refl _ _)
          have T4 := Lib.hid (hT.out.trans (cs.mono hT.out.size))
          have KX := Lib.hid KP
          have MD' := Lib.hid (fun (W : World) (hb : Below ((wr.alloc (.cells (inRow inp0 none 0 0 none 0 0).toArray 56)).setCells wr.heap.size 0 (inRow (I.getD j inp0) qm (I.getD j inp0).m.data.length km qt (I.getD j inp0).t.data.length kt)).heap.size ((wr.alloc (.cells (inRow inp0 none 0 0 none 0 0).toArray 56)).setCells wr.heap.size 0 (inRow (I.getD j inp0) qm (I.getD j inp0).m.data.length km qt (I.getD j inp0).t.data.length kt)) W) => M1 W (cs.trans (hb.mono cs.size)))
          obtain ⟨x, hx⟩ : ∃ x, I.getD j inp0 = x := ⟨_, rfl⟩
          have S3' := Lib.hid (S3.out j)
          have S4' := Lib.hid (S4.out j)
          rw [hx] at h24 hrw szz T4 KX MD' S3' S4'
          have HJT := Lib.hid hjt
          clear hx R1 M1 T1 KA KP ba0 cs
          go_upto_region 14 with fail
          clear th szz hrw h24 cc
          obtain ⟨by_, hbe⟩ : ∃ b, wr.heap.size = b := ⟨_, rfl⟩
          rw [hbe] at T4 KX MD' ⊢
          clear hT
          generalize (wr.alloc (.cells (inRow inp0 none 0 0 none 0 0).toArray 56)).setCells by_ 0 (inRow x qm x.m.data.length km qt x.t.data.length kt) = w4x at *
          clear hbe
          have x0 := KX.out.cells.1
          by_cases hjd : j < X.ds.length
          · have hxd := S3'.out hjd
            obtain ⟨m, hm⟩ : ∃ m, X.ds.getD j mg0 = m := ⟨_, rfl⟩
            obtain ⟨mn1, mn2⟩ := min_in hjd
            have sxm := SX.out.md _ (getD_mem (d := mg0) hjd)
            obtain ⟨bd, od, r9, hqd, _, hr9, hrow9, qq, kk, hre9, hdd⟩ := (LD.out _ T4.out).get hjd
            rw [hm] at hxd sxm hre9 hdd
            subst hxd hqd hre9
            have JJ : Hid (((j : Int) != (j : Int)) = false) := by show _ = _; simp
            have JD : Hid (decide ((j : Int) ≥ (X.ds.length : Int)) = false ∧ decide ((X.ds.length : Int) ≤ (j : Int)) = false ∧ decide (X.ds.length ≤ j) = false ∧ ¬ X.ds.length ≤ j) := ⟨decide_eq_false (by omega), decide_eq_false (by omega), decide_eq_false (by omega), by omega⟩
            have ML : Hid (m.data.length ≤ 1000) := sxm
            have b49 : Below w4x.heap.size w4x w4x.drew := (Below.refl _ _).drew
            have E0 := Lib.hid (fun (W : World) (hb : Below w4x.drew.heap.size w4x.drew W) => EL.out W ((T4.out.trans (b49.mono T4.out.size)).trans (hb.mono (T4.out.trans (b49.mono T4.out.size)).size)))
            have KXW := fun (W : World) (hb : Below w4x.drew.heap.size w4x.drew W) => KX.out.on (b49.trans (hb.mono b49.size))
            have XC := Lib.hid (fun (W : World) (hb : Below w4x.drew.heap.size w4x.drew W) => (show W.cell? ⟨by_, 1, none⟩ = some (.int .u64 m.val.a) ∧ W.cell? ⟨by_, 2, none⟩ = some (.int .u64 m.val.b) ∧ W.cell? ⟨by_, 3, none⟩ = some (.int .u64 m.val.c) ∧ W.cell? ⟨by_, 4, none⟩ = some (.int .u64 m.val.d) from (KXW W hb).cells.2))
            have XV := Lib.hid (fun (W : World) (hb : Below w4x.drew.heap.size w4x.drew W) => (show W.cell? ⟨by_, 8, none⟩ = some (.int .u64 m.val.a) ∧ W.cell? ⟨by_, 9, none⟩ = some (.int .u64 m.val.b) ∧ W.cell? ⟨by_, 10, none⟩ = some (.int .u64 m.val.c) ∧ W.cell? ⟨by_, 11, none⟩ = some (.int .u64 m.val.d) from (KXW W hb).val))
            have XM := Lib.hid (fun (W : World) (hb : Below w4x.drew.heap.size w4x.drew W) => (show rowOf W by_ 5 9 = mgRow m qm m.data.length km from (KXW W hb).rowm))
            have LR := Lib.hid (fun (W : World) (hb : Below w4x.drew.heap.size w4x.drew W) => (show rowOf W bd (od + j * 9) 9 = mgRow m qq m.data.length kk from by
              have hb' := b49.trans (hb.mono b49.size)
              rw [rowOf_agr (hb'.block bd (rowOf_lt (by decide) hr9 hrow9))]; exact hrow9))
            have LD' := Lib.hid (fun (W : World) (hb : Below w4x.drew.heap.size w4x.drew W) => hdd.rd.on (b49.trans (hb.mono b49.size)))
            have MD2 := Lib.hid (fun (W : World) (hb : Below w4x.drew.heap.size w4x.drew W) => (show Rd W (.slice qm m.data.length km) m.data from MD'.out W (b49.trans (hb.mono b49.size))))
            have TT := Lib.hid (T4.out.trans (b49.mono T4.out.size))
            have h9 := mgRow_len m qm m.data.length km
            have h9' := mgRow_len m qq m.data.length kk
            rw [mn1]
            have x0' : w4x.cell? ⟨by_, 0, none⟩ = some (.bool true) := x0
            have HJD := Lib.hid hjd
            have MN2 := Lib.hid mn2
            clear x0 hm mn1 mn2 sxm hr9 hrow9 hdd KXW S3' S4' KX MD' T4
            go_wp2_with fail
            have S0 : Below w4x.drew.heap.size w4x.drew w4x.drew := Below.refl _ _
            refine wp_region_held_drew (S := fun W => Below w4x.drew.heap.size w4x.drew W) (by kernel_rfl) (S0) (fun h0 => ?_)
            generalize w4x.drew = w5 at *
            refine wpAnyH_take (i := 0) (v := ?_) (by rw [List.getElem?_toArray]; rfl) (by kernel_rfl) (by kernel_rfl) (by kernel_rfl) (by exact fun _ _ _ h => h) (Or.inl ⟨by rfl, ?_⟩) h0 ?_
            rotate_left
            · intro W hW
              go_simp
              all_goals with_reducible rfl
            try simp only [Act.put, List.setIfInBounds_toArray, List.set_cons_zero, List.set_cons_succ]
            refine wpAnyH_take (i := 1) (v := ?_) (by rw [List.getElem?_toArray]; rfl) (by kernel_rfl) (by kernel_rfl) (by kernel_rfl) (by exact fun _ _ _ h => h) (Or.inl ⟨by rfl, ?_⟩) h0 ?_
            rotate_left
            · intro W hW
              go_simp
              all_goals with_reducible rfl
            try simp only [Act.put, List.setIfInBounds_toArray, List.set_cons_zero, List.set_cons_succ]
            refine wpAnyH_take (i := 2) (v := ?_) (by rw [List.getElem?_toArray]; rfl) (by kernel_rfl) (by kernel_rfl) (by kernel_rfl) (by exact fun _ _ _ h => h) (Or.inl ⟨by rfl, ?_⟩) h0 ?_
            rotate_left
            · intro W hW
              have jj := JJ.out
              go_simp
              all_goals with_reducible rfl
            try simp only [Act.put, List.setIfInBounds_toArray, List.set_cons_zero, List.set_cons_succ]
            refine wpAnyH_take (i := 3) (v := ?_) (by rw [List.getElem?_toArray]; rfl) (by kernel_rfl) (by kernel_rfl) (by kernel_rfl) (by exact fun _ _ _ h => h) (Or.inl ⟨by rfl, ?_⟩) h0 ?_
            rotate_left
            · intro W hW
              go_simp
              all_goals with_reducible rfl
            try simp only [Act.put, List.setIfInBounds_toArray, List.set_cons_zero, List.set_cons_succ]
            refine wpAnyH_take (i := 4) (v := ?_) (by rw [List.getElem?_toArray]; rfl) (by kernel_rfl) (by kernel_rfl) (by kernel_rfl) (by exact fun _ _ _ h => h) (Or.inl ⟨by rfl, ?_⟩) h0 ?_
            rotate_left
            · intro W hW
              go_simp
              all_goals with_reducible rfl
            try simp only [Act.put, List.setIfInBounds_toArray, List.set_cons_zero, List.set_cons_succ]
            refine wpAnyH_take (i := 5) (v := ?_) (by rw [List.getElem?_toArray]; rfl) (by kernel_rfl) (by kernel_rfl) (by kernel_rfl) (by exact fun _ _ _ h => h) (Or.inl ⟨by rfl, ?_⟩) h0 ?_
            rotate_left
            · intro W hW
              go_simp
              all_goals with_reducible rfl
            try simp only [Act.put, List.setIfInBounds_toArray, List.set_cons_zero, List.set_cons_succ]
            refine wpAnyH_take (i := 6) (v := ?_) (by rw [List.getElem?_toArray]; rfl) (by kernel_rfl) (by kernel_rfl) (by kernel_rfl) (by exact fun _ _ _ h => h) (Or.inl ⟨by rfl, ?_⟩) h0 ?_
            rotate_left
            · intro W hW
              go_simp
              all_goals with_reducible rfl
            try simp only [Act.put, List.setIfInBounds_toArray, List.set_cons_zero, List.set_cons_succ]
            refine wpAnyH_take (i := 7) (v := ?_) (by rw [List.getElem?_toArray]; rfl) (by kernel_rfl) (by kernel_rfl) (by kernel_rfl) (by exact fun _ _ _ h => h) (Or.inl ⟨by rfl, ?_⟩) h0 ?_
            rotate_left
            · intro W hW
              go_simp
              all_goals with_reducible rfl
            try simp only [Act.put, List.setIfInBounds_toArray, List.set_cons_zero, List.set_cons_succ]
            refine wpAnyH_take (i := 8) (v := ?_) (by rw [List.getElem?_toArray]; rfl) (by kernel_rfl) (by kernel_rfl) (by kernel_rfl) (by exact fun _ _ _ h => h) (Or.inl ⟨by rfl, ?_⟩) h0 ?_
            rotate_left
            · intro W hW
              go_simp
              all_goals with_reducible rfl
            try simp only [Act.put, List.setIfInBounds_toArray, List.set_cons_zero, List.set_cons_succ]
            refine wpAnyH_take (i := 9) (v := ?_) (by rw [List.getElem?_toArray]; rfl) (by kernel_rfl) (by kernel_rfl) (by kernel_rfl) (by exact fun _ _ _ h => h) (Or.inl ⟨by rfl, ?_⟩) h0 ?_
            rotate_left
            · intro W hW
              have e0 := E0.out W hW
              go_simp
              all_goals with_reducible rfl
            try simp only [Act.put, List.setIfInBounds_toArray, List.set_cons_zero, List.set_cons_succ]
            refine wpAnyH_take (i := 10) (v := ?_) (by rw [List.getElem?_toArray]; rfl) (by kernel_rfl) (by kernel_rfl) (by kernel_rfl) (by exact fun _ _ _ h => h) (Or.inl ⟨by rfl, ?_⟩) h0 ?_
            rotate_left
            · intro W hW
              go_simp
              all_goals with_reducible rfl
            try simp only [Act.put, List.setIfInBounds_toArray, List.set_cons_zero, List.set_cons_succ]
            refine wpAnyH_take (i := 11) (v := ?_) (by rw [List.getElem?_toArray]; rfl) (by kernel_rfl) (by kernel_rfl) (by kernel_rfl) (by exact fun _ _ _ h => h) (Or.inl ⟨by rfl, ?_⟩) h0 ?_
            rotate_left
            · intro W hW
              obtain ⟨jd1, jd2, jd3, jd4⟩ := JD.out
              go_simp
              all_goals with_reducible rfl
            try simp only [Act.put, List.setIfInBounds_toArray, List.set_cons_zero, List.set_cons_succ]
            refine wpAnyH_take (i := 12) (v := ?_) (by rw [List.getElem?_toArray]; rfl) (by kernel_rfl) (by kernel_rfl) (by kernel_rfl) (by exact fun _ _ _ h => h) (Or.inl ⟨by rfl, ?_⟩) h0 ?_
            rotate_left
            · intro W hW
              go_simp
              all_goals with_reducible rfl
            try simp only [Act.put, List.setIfInBounds_toArray, List.set_cons_zero, List.set_cons_succ]
            refine wpAnyH_take (i := 13) (v := ?_) (by rw [List.getElem?_toArray]; rfl) (by kernel_rfl) (by kernel_rfl) (by kernel_rfl) (by exact fun _ _ _ h => h) (Or.inl ⟨by rfl, ?_⟩) h0 ?_
            rotate_left
            · intro W hW
              go_simp
              all_goals with_reducible rfl
            try simp only [Act.put, List.setIfInBounds_toArray, List.set_cons_zero, List.set_cons_succ]
            refine wpAnyH_take (i := 14) (v := ?_) (by rw [List.getElem?_toArray]; rfl) (by kernel_rfl) (by kernel_rfl) (by kernel_rfl) (by exact fun _ _ _ h => h) (Or.inl ⟨by rfl, ?_⟩) h0 ?_
            rotate_left
            · intro W hW
              go_simp
              all_goals with_reducible rfl
            try simp only [Act.put, List.setIfInBounds_toArray, List.set_cons_zero, List.set_cons_succ]
            refine wpAnyH_take (i := 15) (v := ?_) (by rw [List.getElem?_toArray]; rfl) (by kernel_rfl) (by kernel_rfl) (by kernel_rfl) (by exact fun _ _ _ h => h) (Or.inl ⟨by rfl, ?_⟩) h0 ?_
            rotate_left
            · intro W hW
              obtain ⟨c1, c2, c3, c4⟩ := XC.out W hW
              go_simp
              all_goals with_reducible rfl
            try simp only [Act.put, List.setIfInBounds_toArray, List.set_cons_zero, List.set_cons_succ]
            refine wpAnyH_take (i := 16) (v := ?_) (by rw [List.getElem?_toArray]; rfl) (by kernel_rfl) (by kernel_rfl) (by kernel_rfl) (by exact fun _ _ _ h => h) (Or.inl ⟨by rfl, ?_⟩) h0 ?_
            rotate_left
            · intro W hW
              go_simp
              all_goals with_reducible rfl
            try simp only [Act.put, List.setIfInBounds_toArray, List.set_cons_zero, List.set_cons_succ]
            refine wpAnyH_take (i := 17) (v := ?_) (by rw [List.getElem?_toArray]; rfl) (by kernel_rfl) (by kernel_rfl) (by kernel_rfl) (by exact fun _ _ _ h => h) (Or.inl ⟨by rfl, ?_⟩) h0 ?_
            rotate_left
            · intro W hW
              go_simp
              all_goals with_reducible rfl
            try simp only [Act.put, List.setIfInBounds_toArray, List.set_cons_zero, List.set_cons_succ]
            refine wpAnyH_take (i := 18) (v := ?_) (by rw [List.getElem?_toArray]; rfl) (by kernel_rfl) (by kernel_rfl) (by kernel_rfl) (by exact fun _ _ _ h => h) (Or.inl ⟨by rfl, ?_⟩) h0 ?_
            rotate_left
            · intro W hW
              obtain ⟨c1, c2, c3, c4⟩ := XV.out W hW
              go_simp
              all_goals with_reducible rfl
            try simp only [Act.put, List.setIfInBounds_toArray, List.set_cons_zero, List.set_cons_succ]
            refine wpAnyH_take (i := 19) (v := ?_) (by rw [List.getElem?_toArray]; rfl) (by kernel_rfl) (by kernel_rfl) (by kernel_rfl) (by exact fun _ _ _ h => h) (Or.inl ⟨by rfl, ?_⟩) h0 ?_
            rotate_left
            · intro W hW
              go_simp
              all_goals with_reducible rfl
            try simp only [Act.put, List.setIfInBounds_toArray, List.set_cons_zero, List.set_cons_succ]
            refine wpAnyH_take (i := 20) (v := ?_) (by rw [List.getElem?_toArray]; rfl) (by kernel_rfl) (by kernel_rfl) (by kernel_rfl) (by exact fun _ _ _ h => h) (Or.inl ⟨by rfl, ?_⟩) h0 ?_
            rotate_left
            · intro W hW
              go_simp
              all_goals with_reducible rfl
            try simp only [Act.put, List.setIfInBounds_toArray, List.set_cons_zero, List.set_cons_succ]
            refine wpAnyH_take (i := 21) (v := ?_) (by rw [List.getElem?_toArray]; rfl) (by kernel_rfl) (by kernel_rfl) (by kernel_rfl) (by exact fun _ _ _ h => h) (Or.inl ⟨by rfl, ?_⟩) h0 ?_
            rotate_left
            · intro W hW
              go_simp
              all_goals with_reducible rfl
            try simp only [Act.put, List.setIfInBounds_toArray, List.set_cons_zero, List.set_cons_succ]
            refine wpAnyH_take (i := 22) (v := ?_) (by rw [List.getElem?_toArray]; rfl) (by kernel_rfl) (by kernel_rfl) (by kernel_rfl) (by exact fun _ _ _ h => h) (Or.inl ⟨by rfl, ?_⟩) h0 ?_
            rotate_left
            · intro W hW
              go_simp
              all_goals with_reducible rfl
            try simp only [Act.put, List.setIfInBounds_toArray, List.set_cons_zero, List.set_cons_succ]
            refine wpAnyH_take (i := 23) (v := ?_) (by rw [List.getElem?_toArray]; rfl) (by kernel_rfl) (by kernel_rfl) (by kernel_rfl) (by exact fun _ _ _ h => h) (Or.inl ⟨by rfl, ?_⟩) h0 ?_
            rotate_left
            · intro W hW
              have hrw := XM.out W hW
              go_simp
              all_goals with_reducible rfl
            try simp only [Act.put, List.setIfInBounds_toArray, List.set_cons_zero, List.set_cons_succ]
            refine wpAnyH_take (i := 25) (v := ?_) (by rw [List.getElem?_toArray]; rfl) (by kernel_rfl) (by kernel_rfl) (by kernel_rfl) (by exact fun _ _ _ h => h) (Or.inl ⟨by rfl, ?_⟩) h0 ?_
            rotate_left
            · intro W hW
              go_simp
              all_goals with_reducible rfl
            try simp only [Act.put, List.setIfInBounds_toArray, List.set_cons_zero, List.set_cons_succ]
            refine wpAnyH_take (i := 26) (v := ?_) (by rw [List.getElem?_toArray]; rfl) (by kernel_rfl) (by kernel_rfl) (by kernel_rfl) (by exact fun _ _ _ h => h) (Or.inl ⟨by rfl, ?_⟩) h0 ?_
            rotate_left
            · intro W hW
              go_simp
              all_goals with_reducible rfl
            try simp only [Act.put, List.setIfInBounds_toArray, List.set_cons_zero, List.set_cons_succ]
            refine wpAnyH_take (i := 27) (v := ?_) (by rw [List.getElem?_toArray]; rfl) (by kernel_rfl) (by kernel_rfl) (by kernel_rfl) (by exact fun _ _ _ h => h) (Or.inl ⟨by rfl, ?_⟩) h0 ?_
            rotate_left
            · intro W hW
              go_simp
              all_goals with_reducible rfl
            try simp only [Act.put, List.setIfInBounds_toArray, List.set_cons_zero, List.set_cons_succ]
            refine wpAnyH_take (i := 28) (v := ?_) (by rw [List.getElem?_toArray]; rfl) (by kernel_rfl) (by kernel_rfl) (by kernel_rfl) (by exact fun _ _ _ h => h) (Or.inl ⟨by rfl, ?_⟩) h0 ?_
            rotate_left
            · intro W hW
              go_simp
              all_goals with_reducible rfl
            try simp only [Act.put, List.setIfInBounds_toArray, List.set_cons_zero, List.set_cons_succ]
            refine wpAnyH_take (i := 29) (v := ?_) (by rw [List.getElem?_toArray]; rfl) (by kernel_rfl) (by kernel_rfl) (by kernel_rfl) (by exact fun _ _ _ h => h) (Or.inl ⟨by rfl, ?_⟩) h0 ?_
            rotate_left
            · intro W hW
              have e0 := E0.out W hW
              go_simp
              all_goals with_reducible rfl
            try simp only [Act.put, List.setIfInBounds_toArray, List.set_cons_zero, List.set_cons_succ]
            refine wpAnyH_take (i := 30) (v := ?_) (by rw [List.getElem?_toArray]; rfl) (by kernel_rfl) (by kernel_rfl) (by kernel_rfl) (by exact fun _ _ _ h => h) (Or.inl ⟨by rfl, ?_⟩) h0 ?_
            rotate_left
            · intro W hW
              go_simp
              all_goals with_reducible rfl
            try simp only [Act.put, List.setIfInBounds_toArray, List.set_cons_zero, List.set_cons_succ]
            refine wpAnyH_take (i := 31) (v := ?_) (by rw [List.getElem?_toArray]; rfl) (by kernel_rfl) (by kernel_rfl) (by kernel_rfl) (by exact fun _ _ _ h => h) (Or.inl ⟨by rfl, ?_⟩) h0 ?_
            rotate_left
            · intro W hW
              go_simp
              all_goals with_reducible rfl
            try simp only [Act.put, List.setIfInBounds_toArray, List.set_cons_zero, List.set_cons_succ]
            refine wpAnyH_take (i := 32) (v := ?_) (by rw [List.getElem?_toArray]; rfl) (by kernel_rfl) (by kernel_rfl) (by kernel_rfl) (by exact fun _ _ _ h => h) (Or.inl ⟨by rfl, ?_⟩) h0 ?_
            rotate_left
            · intro W hW
              have hrw := LR.out W hW
              go_simp
              all_goals with_reducible rfl
            try simp only [Act.put, List.setIfInBounds_toArray, List.set_cons_zero, List.set_cons_succ]
            refine wpAnyH_ready (rs := [24]) (by kernel_rfl) (by simp) ?_
            refine AllReadyH.cons (by rw [List.getElem?_toArray]; rfl) (fun K hK => ?_) AllReadyH.nil
            rw [if_pos (by rfl)]
            go_wp2_with fail
            refine (RefMessage_any (MD2.out _ h0) (by have := ML.out; omega)).mono ?_
            rintro e w6 ⟨q6, k6, rfl, hbu⟩
            have MR := Lib.hid hbu.rd
            have B6 : Below w5.heap.size w5 w6 := Below.trans h0 (hbu.below.mono (Below.size h0))
            clear hbu
            go_wp2_with fail
            refine hK.out _ _ (B6) (fun h1x => ?_)
            clear hK K
            try simp only [Act.put, List.setIfInBounds_toArray, List.set_cons_zero, List.set_cons_succ]
            clear B6
            refine wpAnyH_ready (rs := [33]) (by kernel_rfl) (by simp) ?_
            refine AllReadyH.cons (by rw [List.getElem?_toArray]; rfl) (fun K hK => ?_) AllReadyH.nil
            rw [if_pos (by rfl)]
            go_wp2_with fail
            refine (SameMessage_any MR.out (LD'.out _ h1x)).mono ?_
            rintro e w7 ⟨rfl, hb7⟩
            have B7 : Below w5.heap.size w5 w7 := Below.trans h1x (hb7.mono (Below.size h1x))
            clear hb7 MR
            go_wp2_with fail
            refine hK.out _ _ (B7) (fun h2x => ?_)
            clear hK K
            try simp only [Act.put, List.setIfInBounds_toArray, List.set_cons_zero, List.set_cons_succ]
            clear B7
            refine wpAnyH_take (i := 34) (v := ?_) (by rw [List.getElem?_toArray]; rfl) (by kernel_rfl) (by kernel_rfl) (by kernel_rfl) (by exact fun _ _ _ h => h) (Or.inl ⟨by rfl, ?_⟩) h2x ?_
            rotate_left
            · intro W hW
              go_simp
              all_goals with_reducible rfl
            try simp only [Act.put, List.setIfInBounds_toArray, List.set_cons_zero, List.set_cons_succ]
            refine wpAnyH_take (i := 35) (v := ?_) (by rw [List.getElem?_toArray]; rfl) (by kernel_rfl) (by kernel_rfl) (by kernel_rfl) (by exact fun _ _ _ h => h) (Or.inl ⟨by rfl, ?_⟩) h2x ?_
            rotate_left
            · intro W hW
              go_simp
              all_goals with_reducible rfl
            try simp only [Act.put, List.setIfInBounds_toArray, List.set_cons_zero, List.set_cons_succ]
            refine wpAnyH_done (by kernel_rfl) ?_ _
            have T9 := Lib.hid (TT.out.trans (Below.mono h2x TT.out.size))
            clear h0 h1x h2x TT E0 XC XV XM LR LD' MD2
            go_wp2_with fail
            go_roundw
            case rel =>
              refine ⟨j + 1, ?_, ?_, by have := HJT.out; omega, T9⟩
              · rw [MN2.out]; go_num
              · go_num
            case measure => have := HJT.out; simp [intOf]; omega
          · obtain ⟨mn1, mn2⟩ := min_out (Nat.not_lt.1 hjd)
            have hdep := S4'.out (Nat.not_lt.1 hjd)
            rw [hdep] at x0
            have HMN : Hid (min j X.ds.length = min (j + 1) X.ds.length) := mn1.trans mn2.symm
            clear hdep mn1 mn2 S3' S4' KX MD'
            go_wp2_with fail
            go_roundw
            case rel =>
              refine ⟨j + 1, ?_, ?_, by have := HJT.out; omega, T4⟩
              · rw [HMN.out]
              · go_num
            case measure => have := HJT.out; simp [intOf]; omega
        · have hmn : min j X.ds.length = X.ds.length := by have := S2.out; omega
          rw [hmn]
          have e0 := EL.out _ hT.out
          have JJ : ((X.ds.length : Int) != (X.ds.length : Int)) = false := by simp
          clear hmn
          go_wp2_with fail
          go_roundw
          case rel => exact ⟨i + 1, by go_num, by have := HLT.out; omega, hT⟩
          case measure => have := HLT.out; simp [intOf]; omega
    · go_wp2_with fail
      refine (KW.out _).mono ?_
      rintro e wz ⟨rfl, hb⟩
      have B10 := Lib.hid (B4.out.trans (hT.out.mono B4.out.size))
      have B11 := Lib.hid (B10.out.trans (hb.mono B10.out.size))
      clear hb
      go_wp2_with fail
      go_ret
      exact ⟨rfl, B11.out⟩
end Go.Proofs.Ytonjkhhihiigfaa
