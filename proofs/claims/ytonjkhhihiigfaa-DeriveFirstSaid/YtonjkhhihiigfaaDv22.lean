/-
  Batches that are none, or late, or of another number, change nothing.
-/
import Derived.Test.YtonjkhhihiigfaaDv20
import Derived.Test.YtonjkhhihiigfaaDv21
namespace Go.Proofs.Ytonjkhhihiigfaa
set_option maxRecDepth 100000
open Go.RowKit

theorem OwF.monoF {α : Type} {P : World → Fp → α → List Value → Prop} {d : α} {n : Nat} (k : FpOk P) {F G : Fp} {w W : World} {T : TypeId} {v : Value} {L : List α} {done : List Value} (h : OwF n d P F w W T v L done) (hG : ∀ g, F g → G g) : OwF n d P G w W T v L done :=
  ⟨h.own, fun i hi => by
    obtain ⟨r, h1, h2, h3⟩ := h.each i hi
    exact ⟨r, h1, h2, k.mono h3 (fun g hg => ⟨hG g hg.1, hg.2⟩)⟩, h.fresh, h.below⟩
theorem Try.infoRB : (Try.prog.info? 60).map (fun i => (i.zero, i.size, i.bytes)) = some (some (.agg #[.slice none 0 0, .slice none 0 0]), 2, 48) := by kernel_rfl
theorem Try.infoBsl : (Try.prog.info? 50).map (fun i => (i.zero, i.size, i.bytes)) = some (some (.slice none 0 0), 1, 24) := by kernel_rfl
@[go_sem ↓] theorem Try.slice_rbk (ps : Array (Nat × Value)) : Instr.buildSlice 22 1 ps = rowNew 22 ps := rfl
theorem Try.run_slice_rbk (w : World) (a b : Value) :
    (rowNew 22 #[(0, .agg #[a, b])]).run Try.prog w = .ok (.slice (some ⟨w.heap.size, 0, none⟩) 1 1) (w.alloc (.cells #[a, b] 60)) :=
  run_bs_one w Try.underlying22 (by kernel_rfl) (zs := [.slice none 0 0, .slice none 0 0]) (by kernel_rfl) (n := 2) (xs := [a, b]) (by decide) (by decide) rfl
theorem fo_is {o : Option (Nat × Nat)} {a b : Nat} : decide (o = some (a + 1, b)) = (o.isSome && ((foB o == (a : Int) + 1) && (foI o == (b : Int)))) := by
  rcases o with _ | ⟨x, y⟩
  · rfl
  · rw [Bool.eq_iff_iff]
    simp only [decide_eq_true_eq, Option.some.injEq, Prod.mk.injEq, Option.isSome_some, Bool.true_and, Bool.and_eq_true, beq_iff_eq, foB, foI]
    omega
set_option maxHeartbeats 16000000 in
theorem DeriveDropped_walk {w : World} {Ls : List Bk} {q : Option Addr} {c : Nat} {k : Int} (hr : RwF 2 bk0 PBk w (fun g => g < w.heap.size) q Ls) (ok : BksOk Ls) (hl : Ls.length ≤ 3000000000000) :
    Calls Try.prog 6 #[.slice q Ls.length c, .int .i64 k] w fun e w' => e = .returned (.bool true) ∧ Below w.heap.size w w' := by
  obtain ⟨i0, hi, hz0, hz1, hz2⟩ := info_parts Try.infoRB
  obtain ⟨i1, hi1, hz4, hz5, hz6⟩ := info_parts Try.infoBsl
  replace hi := Lib.hid hi
  replace hz0 := Lib.hid hz0
  replace hz1 := Lib.hid hz1
  replace hz2 := Lib.hid hz2
  replace hi1 := Lib.hid hi1
  replace hz4 := Lib.hid hz4
  replace hz5 := Lib.hid hz5
  replace hz6 := Lib.hid hz6
  have H0 := Lib.hid (fun (W : World) (hb : Below w.heap.size w W) => hr.on PBk_ok (by decide) hb)
  have OK := Lib.hid ok
  have KB0 := Lib.hid (fun (W : World) (hb : Below w.heap.size w W) => Big_any (c := c) (hr.on PBk_ok (by decide) hb) hl ok)
  have KW := Lib.hid (fun (W : World) => knows14_any W)
  clear hr ok hl
  go_enter Try.func6, Try.ntmps6
  go_wp2_with fail
  refine (KB0.out _ (Below.refl _ _)).mono ?_
  rintro e w1 ⟨v1, rfl, b1, hv1⟩
  have B1 := Lib.hid b1
  clear b1 KB0
  cases v1 with
  | true =>
    clear hv1
    go_wp2_with fail
    refine (KW.out _).mono ?_
    rintro e w9 ⟨rfl, hb⟩
    have B9 := Lib.hid (B1.out.trans (hb.mono B1.out.size))
    clear hb
    go_wp2_with fail
    go_ret
    exact ⟨rfl, B9.out⟩
  | false =>
  obtain ⟨hL, hS⟩ := hv1 rfl
  have SM := Lib.hid (BksSm.of OK.out hS)
  have HL := Lib.hid hL
  have O0 : Hid (OwF 2 bk0 PBk (fun _ => True) w w1 60 (.slice none ([] : List Bk).length 0) [] []) := OwF.start B1.out
  clear hS OK hv1
  go_wp2_with fail
  go_loopw [5, 6, 7, 8, 9, 10, 11, 12, 13] (fun ov iv bv jv xv ev nv pv kv wr => ∃ (q1 : Option Addr) (c1 : Nat) (C : List Bk) (done : List Value), iv = .int .i64 (C.length : Int) ∧ ov = .slice q1 C.length c1 ∧ C.length ≤ Ls.length ∧ Hid (C = clL Ls k C.length) ∧ Hid (OwF 2 bk0 PBk (fun _ => True) w wr 60 (.slice q1 C.length c1) C done)) (fun _ iv _ _ _ _ _ _ _ _ => Ls.length - (intOf iv).toNat)
  case atStart => exact ⟨none, 0, [], [], rfl, rfl, by simp, rfl, O0⟩
  case round =>
    clear O0
    obtain ⟨q1, c1, C, done, rfl, rfl, hil, hCe, hO⟩ := hrel
    obtain ⟨wo, rfl⟩ : ∃ x, x = wr := ⟨_, rfl⟩
    by_cases hlt : C.length < Ls.length
    · obtain ⟨bl, ol, r1, hql, _, hr3, hrow3, qd, kd, qb, kb, hre3, hds, hbs⟩ := (H0.out _ (Below.refl _ _)).get hlt
      subst hql hre3
      have c0w := row_cell hrow3 hr3 (j := 0) (v := .slice qd (Ls.getD C.length bk0).ds.length kd) rfl
      have c1w := row_cell hrow3 hr3 (j := 1) (v := .slice qb (Ls.getD C.length bk0).bs.length kb) rfl
      rw [Nat.add_zero] at c0w
      have E0 := Lib.hid (fun (W : World) (hb : Below w.heap.size w W) => (hb.cell (lt_of_cell c0w)).trans c0w)
      have E1 := Lib.hid (fun (W : World) (hb : Below w.heap.size w W) => (hb.cell (lt_of_cell c1w)).trans c1w)
      have HD := Lib.hid (fun (W : World) (hb : Below w.heap.size w W) => hds.on PMg_ok (by decide) hb)
      have HB := Lib.hid (fun (W : World) (hb : Below w.heap.size w W) => hbs.on PBs_ok (by decide) hb)
      have SX := Lib.hid (SM.out.get C.length)
      obtain ⟨X, hX⟩ : ∃ X, Ls.getD C.length bk0 = X := ⟨_, rfl⟩
      have HX := Lib.hid hX
      rw [hX] at E0 E1 HD HB SX
      have e0 := E0.out _ hO.out.below
      have xb := SX.out.bs
      have HLT := Lib.hid hlt
      clear hX c0w c1w hrow3 hr3 hds hbs
      go_upto_region 8 with fail
      clear e0
      have KB := Lib.hid (heap_alloc_new wo (.cells #[.slice qd X.ds.length kd, .slice none 0 0] 60))
      have B2 := Lib.hid ((Below.refl wo.heap.size wo).alloc (Nat.le_refl _) (.cells #[.slice qd X.ds.length kd, .slice none 0 0] 60))
      obtain ⟨by_, hbe⟩ : ∃ b, wo.heap.size = b := ⟨_, rfl⟩
      have HBY := Lib.hid hbe
      rw [hbe] at KB ⊢
      generalize wo.alloc (.cells #[.slice qd X.ds.length kd, .slice none 0 0] 60) = w2 at *
      clear hbe
      have P0 : Hid (OwF 1 [] PBs (fun g => g < w.heap.size) wo w2 50 (.slice none ([] : List (List Int)).length 0) [] []) := OwF.start B2.out
      go_wp2_with fail
      go_loopw [8, 9, 10, 11, 12, 13] (fun jv xv ev nv pv kv wr => ∃ (j : Nat) (qB : Option Addr) (cB : Nat) (CB : List (List Int)) (dn : List Value), jv = .int .i64 (j : Int) ∧ j ≤ X.bs.length ∧ Hid (CB = clB Ls k C.length j) ∧ Hid (OwF 1 [] PBs (fun g => g < w.heap.size) wo wr 50 (.slice qB CB.length cB) CB dn) ∧ Hid (wr.heap[by_]? = some (.cells #[.slice qd X.ds.length kd, .slice qB CB.length cB] 60 (0, 0)))) (fun jv _ _ _ _ _ _ => X.bs.length - (intOf jv).toNat)
      case atStart => exact ⟨0, none, 0, [], [], rfl, by omega, rfl, P0, KB⟩
      case round =>
        clear P0 KB B2
        obtain ⟨j, qB, cB, CB, dn, rfl, hjl, hCB, hP, hK⟩ := hrel
        have HT := Lib.hid (hO.out.below.trans (hP.out.below.mono hO.out.below.size))
        have CBL : Hid (CB.length ≤ 20) := by
          have h1 := clB_le Ls k C.length j
          rw [← hCB.out] at h1
          show _ ≤ _
          omega
        have e1 := E1.out _ HT.out
        by_cases hjt : j < X.bs.length
        · obtain ⟨b2, o2, r2, hq2, _, hr4, hrow4, qx, kx, hre4, hrx⟩ := (HB.out _ (Below.refl _ _)).get hjt
          subst hq2 hre4
          have g0w := row_cell hrow4 hr4 (j := 0) (v := .slice qx (X.bs.getD j []).length kx) rfl
          rw [Nat.add_zero, Nat.mul_one] at g0w
          have G0 := Lib.hid (fun (W : World) (hb : Below w.heap.size w W) => (hb.cell (lt_of_cell g0w)).trans g0w)
          have HRX := Lib.hid (fun (W : World) (hb : Below w.heap.size w W) => hrx.on hb)
          obtain ⟨bX, lX⟩ := SX.out.ok.bs _ (getD_mem (d := []) hjt)
          have KG := Lib.hid (refGetBatch_any (HRX.out _ HT.out).rd bX (by omega))
          unfold GbP at KG
          have HKP : Hid (kpB Ls k C.length j = ((bE (X.bs.getD j []) == 0) && (decide (1 ≤ bGe (X.bs.getD j [])) && (decide (bGe (X.bs.getD j []) ≤ (C.length : Int)) && decide (fFind Ls (bGe (X.bs.getD j [])) k = some (C.length + 1, j)))))) := by show _ = _; unfold kpB; rw [HX.out]
          have HYES : Hid (kpB Ls k C.length j = true → clB Ls k C.length (j + 1) = CB ++ [X.bs.getD j []]) := fun h => by rw [clB_yes h, ← hCB.out, HX.out]
          have HNO : Hid (kpB Ls k C.length j = false → clB Ls k C.length (j + 1) = CB) := fun h => by rw [clB_no h, ← hCB.out]
          obtain ⟨x, hx⟩ : ∃ x, X.bs.getD j [] = x := ⟨_, rfl⟩
          rw [hx] at G0 HRX KG HKP HYES
          obtain ⟨Y, hY⟩ : ∃ Y, bGl x = Y := ⟨_, rfl⟩
          obtain ⟨E, hE⟩ : ∃ E, bE x = E := ⟨_, rfl⟩
          obtain ⟨e0, he0⟩ : ∃ e0, bGe x = e0 := ⟨_, rfl⟩
          rw [hE, he0, hY] at KG
          rw [hE, he0] at HKP
          obtain ⟨o, ho⟩ : ∃ o, fFind Ls e0 k = o := ⟨_, rfl⟩
          have HFo := Lib.hid ho
          rw [ho, fo_is] at HKP
          have g0 := G0.out _ HT.out
          have HJT := Lib.hid hjt
          have c20 : C.length ≤ 20 := by have := HL.out; omega
          clear hx hY hE he0 ho bX lX g0w hrow4 hr4 hrx hCB
          go_wp2_with fail
          clear e1 g0
          refine KG.out.mono ?_
          rintro e w3 ⟨q3, c3, rfl, -, hb3⟩
          have ba : Below w3.heap.size w3 (w3.alloc (.cells #[.int .u64 e0, .slice q3 Y.length c3] 67)) := (Below.refl _ _).alloc (Nat.le_refl _) _
          have b3 := hb3.trans (ba.mono hb3.size)
          have P4 := Lib.hid (hP.out.on PBs_ok b3)
          have K4 : Hid ((w3.alloc (.cells #[.int .u64 e0, .slice q3 Y.length c3] 67)).heap[by_]? = some (.cells #[.slice qd X.ds.length kd, .slice qB CB.length cB] 60 (0, 0))) := by
            show _ = _
            rw [b3.block _ (Array.getElem?_eq_some_iff.1 hK.out).1]; exact hK.out
          have X4 := Lib.hid (heap_alloc_new w3 (.cells #[.int .u64 e0, .slice q3 Y.length c3] 67))
          clear hb3 ba b3 hP hK HT KG
          go_upto_region 12 with fail
          obtain ⟨bx, hbx⟩ : ∃ b, w3.heap.size = b := ⟨_, rfl⟩
          rw [hbx] at X4 ⊢
          generalize w3.alloc (.cells #[.int .u64 e0, .slice q3 Y.length c3] 67) = w4 at *
          clear hbx
          have T4 := Lib.hid (hO.out.below.trans (P4.out.below.mono hO.out.below.size))
          have um : IntKind.u64.wrap (C.length : Int) = (C.length : Int) := by rw [IntKind.wrap_u64]; omega
          cases hz : (E == 0) with
          | false =>
            go_wp2_with fail
            go_roundw
            case rel => exact ⟨j + 1, qB, cB, CB, dn, by go_num, by have := HJT.out; omega, (HNO.out (by rw [HKP.out, hz]; rfl)).symm, P4, K4⟩
            case measure => have := HJT.out; simp [intOf]; omega
          | true =>
            have c0 := (Joins.cell_of_block X4.out 0).trans (rfl : _ = some _)
            by_cases h1e : 1 ≤ e0
            · by_cases h2e : e0 ≤ (C.length : Int)
              · have d1 : decide (e0 ≥ 1) = true := decide_eq_true h1e
                have d1' : decide (1 ≤ e0) = true := decide_eq_true h1e
                have d2 : decide (e0 ≤ (C.length : Int)) = true := decide_eq_true h2e
                have b49 : Below w4.heap.size w4 w4.drew := (Below.refl _ _).drew
                have T4d := T4.out.trans (b49.mono T4.out.size)
                have H4 := Lib.hid (fun (W : World) (hb : Below w4.drew.heap.size w4.drew W) => H0.out W (T4d.trans (hb.mono T4d.size)))
                have XE := Lib.hid (fun (W : World) (hb : Below w4.drew.heap.size w4.drew W) => ((b49.trans (hb.mono b49.size)).cell (lt_of_cell c0)).trans c0)
                have WI : Hid (IntKind.i64.wrap e0 = e0) := IntWalk.i64_in _ (by omega)
                have P4d := Lib.hid (P4.out.on PBs_ok b49)
                have K4d : Hid (w4.drew.heap[by_]? = some (.cells #[.slice qd X.ds.length kd, .slice qB CB.length cB] 60 (0, 0))) := by
                  show _ = _
                  rw [b49.block _ (Array.getElem?_eq_some_iff.1 K4.out).1]; exact K4.out
                clear b49 T4d P4 K4 X4 T4
                go_wp2_with fail
                have S0 : Below w4.drew.heap.size w4.drew w4.drew := Below.refl _ _
                clear c0 d1 d1' d2 um
                refine wp_region_held_drew (S := fun W => Below w4.drew.heap.size w4.drew W) (by kernel_rfl) (S0) (fun h0 => ?_)
                generalize w4.drew = w4d at *
                refine wpAnyH_take (i := 0) (v := ?_) (by rw [List.getElem?_toArray]; rfl) (by kernel_rfl) (by kernel_rfl) (by kernel_rfl) (by exact fun _ _ _ h => h) (Or.inl ⟨by rfl, ?_⟩) h0 ?_
                rotate_left
                · intro W hW
                  go_simp
                  all_goals with_reducible rfl
                try simp only [Act.put, List.setIfInBounds_toArray, List.set_cons_zero, List.set_cons_succ]
                refine wpAnyH_take (i := 2) (v := ?_) (by rw [List.getElem?_toArray]; rfl) (by kernel_rfl) (by kernel_rfl) (by kernel_rfl) (by exact fun _ _ _ h => h) (Or.inl ⟨by rfl, ?_⟩) h0 ?_
                rotate_left
                · intro W hW
                  go_simp
                  all_goals with_reducible rfl
                try simp only [Act.put, List.setIfInBounds_toArray, List.set_cons_zero, List.set_cons_succ]
                refine wpAnyH_take (i := 3) (v := ?_) (by rw [List.getElem?_toArray]; rfl) (by kernel_rfl) (by kernel_rfl) (by kernel_rfl) (by exact fun _ _ _ h => h) (Or.inl ⟨by rfl, ?_⟩) h0 ?_
                rotate_left
                · intro W hW
                  have c0 := XE.out W hW
                  go_simp
                  all_goals with_reducible rfl
                try simp only [Act.put, List.setIfInBounds_toArray, List.set_cons_zero, List.set_cons_succ]
                refine wpAnyH_take (i := 4) (v := ?_) (by rw [List.getElem?_toArray]; rfl) (by kernel_rfl) (by kernel_rfl) (by kernel_rfl) (by exact fun _ _ _ h => h) (Or.inl ⟨by rfl, ?_⟩) h0 ?_
                rotate_left
                · intro W hW
                  have wi := WI.out
                  go_simp
                  all_goals with_reducible rfl
                try simp only [Act.put, List.setIfInBounds_toArray, List.set_cons_zero, List.set_cons_succ]
                refine wpAnyH_take (i := 5) (v := ?_) (by rw [List.getElem?_toArray]; rfl) (by kernel_rfl) (by kernel_rfl) (by kernel_rfl) (by exact fun _ _ _ h => h) (Or.inl ⟨by rfl, ?_⟩) h0 ?_
                rotate_left
                · intro W hW
                  go_simp
                  all_goals with_reducible rfl
                try simp only [Act.put, List.setIfInBounds_toArray, List.set_cons_zero, List.set_cons_succ]
                refine wpAnyH_ready (rs := [1]) (by kernel_rfl) (by simp) ?_
                refine AllReadyH.cons (by rw [List.getElem?_toArray]; rfl) (fun K hK => ?_) AllReadyH.nil
                rw [if_pos (by rfl)]
                go_wp2_with fail
                refine (Blocks_any (H4.out _ h0) SM.out (by have := HL.out; omega)).mono ?_
                rintro e w5 ⟨q5, c5, dn5, rfl, o5, -⟩
                have R5 := Lib.hid (o5.rd PBk_ok (fun g hg => hg))
                have B5 : Below w4d.heap.size w4d w5 := Below.trans h0 (o5.below.mono (Below.size h0))
                clear o5
                go_wp2_with fail
                refine hK.out _ _ (B5) (fun h1x => ?_)
                clear hK K
                try simp only [Act.put, List.setIfInBounds_toArray, List.set_cons_zero, List.set_cons_succ]
                clear B5
                refine wpAnyH_ready (rs := [6]) (by kernel_rfl) (by simp) ?_
                refine AllReadyH.cons (by rw [List.getElem?_toArray]; rfl) (fun K hK => ?_) AllReadyH.nil
                rw [if_pos (by rfl)]
                go_wp2_with fail
                refine (Find_any R5.out SM.out.ok (by have := HL.out; omega)).mono ?_
                rintro e w6 ⟨rfl, hb6⟩
                have B6 : Below w4d.heap.size w4d w6 := Below.trans h1x (hb6.mono (Below.size h1x))
                clear hb6 R5
                rw [HFo.out]
                go_wp2_with fail
                refine hK.out _ _ (B6) (fun h2x => ?_)
                clear hK K
                try simp only [Act.put, List.setIfInBounds_toArray, List.set_cons_zero, List.set_cons_succ]
                clear B6
                refine wpAnyH_take (i := 7) (v := ?_) (by rw [List.getElem?_toArray]; rfl) (by kernel_rfl) (by kernel_rfl) (by kernel_rfl) (by exact fun _ _ _ h => h) (Or.inl ⟨by rfl, ?_⟩) h2x ?_
                rotate_left
                · intro W hW
                  go_simp
                  all_goals with_reducible rfl
                try simp only [Act.put, List.setIfInBounds_toArray, List.set_cons_zero, List.set_cons_succ]
                refine wpAnyH_take (i := 8) (v := ?_) (by rw [List.getElem?_toArray]; rfl) (by kernel_rfl) (by kernel_rfl) (by kernel_rfl) (by exact fun _ _ _ h => h) (Or.inl ⟨by rfl, ?_⟩) h2x ?_
                rotate_left
                · intro W hW
                  go_simp
                  all_goals with_reducible rfl
                try simp only [Act.put, List.setIfInBounds_toArray, List.set_cons_zero, List.set_cons_succ]
                refine wpAnyH_take (i := 9) (v := ?_) (by rw [List.getElem?_toArray]; rfl) (by kernel_rfl) (by kernel_rfl) (by kernel_rfl) (by exact fun _ _ _ h => h) (Or.inl ⟨by rfl, ?_⟩) h2x ?_
                rotate_left
                · intro W hW
                  go_simp
                  all_goals with_reducible rfl
                try simp only [Act.put, List.setIfInBounds_toArray, List.set_cons_zero, List.set_cons_succ]
                refine wpAnyH_take (i := 10) (v := ?_) (by rw [List.getElem?_toArray]; rfl) (by kernel_rfl) (by kernel_rfl) (by kernel_rfl) (by exact fun _ _ _ h => h) (Or.inl ⟨by rfl, ?_⟩) h2x ?_
                rotate_left
                · intro W hW
                  go_simp
                  all_goals with_reducible rfl
                try simp only [Act.put, List.setIfInBounds_toArray, List.set_cons_zero, List.set_cons_succ]
                refine wpAnyH_take (i := 11) (v := ?_) (by rw [List.getElem?_toArray]; rfl) (by kernel_rfl) (by kernel_rfl) (by kernel_rfl) (by exact fun _ _ _ h => h) (Or.inl ⟨by rfl, ?_⟩) h2x ?_
                rotate_left
                · intro W hW
                  go_simp
                  all_goals with_reducible rfl
                try simp only [Act.put, List.setIfInBounds_toArray, List.set_cons_zero, List.set_cons_succ]
                refine wpAnyH_take (i := 12) (v := ?_) (by rw [List.getElem?_toArray]; rfl) (by kernel_rfl) (by kernel_rfl) (by kernel_rfl) (by exact fun _ _ _ h => h) (Or.inl ⟨by rfl, ?_⟩) h2x ?_
                rotate_left
                · intro W hW
                  go_simp
                  all_goals with_reducible rfl
                try simp only [Act.put, List.setIfInBounds_toArray, List.set_cons_zero, List.set_cons_succ]
                refine wpAnyH_take (i := 13) (v := ?_) (by rw [List.getElem?_toArray]; rfl) (by kernel_rfl) (by kernel_rfl) (by kernel_rfl) (by exact fun _ _ _ h => h) (Or.inl ⟨by rfl, ?_⟩) h2x ?_
                rotate_left
                · intro W hW
                  go_simp
                  all_goals with_reducible rfl
                try simp only [Act.put, List.setIfInBounds_toArray, List.set_cons_zero, List.set_cons_succ]
                refine wpAnyH_done (by kernel_rfl) ?_ _
                have P7 := Lib.hid (P4d.out.on PBs_ok h2x)
                have K7 : Hid (w6.heap[by_]? = some (.cells #[.slice qd X.ds.length kd, .slice qB CB.length cB] 60 (0, 0))) := by
                  show _ = _
                  rw [Below.block h2x _ (Array.getElem?_eq_some_iff.1 K4d.out).1]; exact K4d.out
                clear h0 h1x h2x P4d K4d H4 XE WI
                obtain ⟨w7, rfl⟩ : ∃ x, x = w6 := ⟨_, rfl⟩
                obtain ⟨ov, hov⟩ : ∃ v, o.isSome = v := ⟨_, rfl⟩
                obtain ⟨nn, hnn⟩ : ∃ v, foB o = v := ⟨_, rfl⟩
                obtain ⟨pp, hpp⟩ : ∃ v, foI o = v := ⟨_, rfl⟩
                rw [hov, hnn, hpp] at HKP
                rw [hov, hnn, hpp]
                clear hov hnn hpp
                have wi1 : IntKind.i64.wrap ((C.length : Int) + 1) = (C.length : Int) + 1 := IntWalk.i64_in _ (by omega)
                have HC : Hid ((decide (1 ≤ e0) && (decide (e0 ≤ (C.length : Int)))) = true) := by show _ = _; simp [h1e, h2e]
                cases ov with
                | false =>
                  go_wp2_with fail
                  go_roundw
                  case rel => exact ⟨j + 1, qB, cB, CB, dn, by go_num, by have := HJT.out; omega, (HNO.out (by rw [HKP.out]; simp)).symm, P7, K7⟩
                  case measure => have := HJT.out; simp [intOf]; omega
                | true =>
                  cases hz1 : (nn == (C.length : Int) + 1) with
                  | false =>
                    go_wp2_with fail
                    go_roundw
                    case rel => exact ⟨j + 1, qB, cB, CB, dn, by go_num, by have := HJT.out; omega, (HNO.out (by rw [HKP.out, hz1]; simp)).symm, P7, K7⟩
                    case measure => have := HJT.out; simp [intOf]; omega
                  | true =>
                    cases hz2 : (pp == (j : Int)) with
                    | false =>
                      go_wp2_with fail
                      go_roundw
                      case rel => exact ⟨j + 1, qB, cB, CB, dn, by go_num, by have := HJT.out; omega, (HNO.out (by rw [HKP.out, hz2]; simp)).symm, P7, K7⟩
                      case measure => have := HJT.out; simp [intOf]; omega
                    | true =>
                      have KEEP : Hid (clB Ls k C.length (j + 1) = CB ++ [x]) := HYES.out (by rw [HKP.out, hz, hz1, hz2]; simp [h1e, h2e])
                      clear HYES HNO HKP HC
                      go_wp2_with fail
                      clear hz hz1 hz2 wi1
                      have b79 : Below w7.heap.size w7 w7.drew := (Below.refl _ _).drew
                      have P8 := Lib.hid (P7.out.on PBs_ok b79)
                      have K8 : Hid (w7.drew.heap[by_]? = some (.cells #[.slice qd X.ds.length kd, .slice qB CB.length cB] 60 (0, 0))) := by
                        show _ = _
                        rw [b79.block _ (Array.getElem?_eq_some_iff.1 K7.out).1]; exact K7.out
                      have S8 : Below w.heap.size w w7.drew := hO.out.below.trans (P8.out.below.mono hO.out.below.size)
                      have PX8 := Lib.hid ((HRX.out _ S8).mono (G := fun g => g < w.heap.size ∧ (Value.slice qB CB.length cB).ownBlock ≠ some g) (fun g hg => ⟨hg, fun e => by have := P8.out.fresh g e; have := hO.out.below.size; omega⟩))
                      clear b79 P7 K7
                      refine wp_region_held_drew (S := fun W => Below w.heap.size w W) (by kernel_rfl) (S8) (fun h0 => ?_)
                      generalize w7.drew = w8 at *
                      refine wpAnyH_take (i := 0) (v := ?_) (by rw [List.getElem?_toArray]; rfl) (by kernel_rfl) (by kernel_rfl) (by kernel_rfl) (by exact fun _ _ _ h => h) (Or.inl ⟨by rfl, ?_⟩) h0 ?_
                      rotate_left
                      · intro W hW
                        go_simp
                        all_goals with_reducible rfl
                      try simp only [Act.put, List.setIfInBounds_toArray, List.set_cons_zero, List.set_cons_succ]
                      refine wpAnyH_take (i := 2) (v := ?_) (by rw [List.getElem?_toArray]; rfl) (by kernel_rfl) (by kernel_rfl) (by kernel_rfl) (by exact fun _ _ _ h => h) (Or.inl ⟨by rfl, ?_⟩) h0 ?_
                      rotate_left
                      · intro W hW
                        go_simp
                        all_goals with_reducible rfl
                      try simp only [Act.put, List.setIfInBounds_toArray, List.set_cons_zero, List.set_cons_succ]
                      refine wpAnyH_take (i := 3) (v := ?_) (by rw [List.getElem?_toArray]; rfl) (by kernel_rfl) (by kernel_rfl) (by kernel_rfl) (by exact fun _ _ _ h => h) (Or.inl ⟨by rfl, ?_⟩) h0 ?_
                      rotate_left
                      · intro W hW
                        go_simp
                        all_goals with_reducible rfl
                      try simp only [Act.put, List.setIfInBounds_toArray, List.set_cons_zero, List.set_cons_succ]
                      refine wpAnyH_take (i := 4) (v := ?_) (by rw [List.getElem?_toArray]; rfl) (by kernel_rfl) (by kernel_rfl) (by kernel_rfl) (by exact fun _ _ _ h => h) (Or.inl ⟨by rfl, ?_⟩) h0 ?_
                      rotate_left
                      · intro W hW
                        go_simp
                        all_goals with_reducible rfl
                      try simp only [Act.put, List.setIfInBounds_toArray, List.set_cons_zero, List.set_cons_succ]
                      refine wpAnyH_take (i := 5) (v := ?_) (by rw [List.getElem?_toArray]; rfl) (by kernel_rfl) (by kernel_rfl) (by kernel_rfl) (by exact fun _ _ _ h => h) (Or.inl ⟨by rfl, ?_⟩) h0 ?_
                      rotate_left
                      · intro W hW
                        go_simp
                        all_goals with_reducible rfl
                      try simp only [Act.put, List.setIfInBounds_toArray, List.set_cons_zero, List.set_cons_succ]
                      refine wpAnyH_take (i := 6) (v := ?_) (by rw [List.getElem?_toArray]; rfl) (by kernel_rfl) (by kernel_rfl) (by kernel_rfl) (by exact fun _ _ _ h => h) (Or.inl ⟨by rfl, ?_⟩) h0 ?_
                      rotate_left
                      · intro W hW
                        have e1 := E1.out W hW
                        go_simp
                        all_goals with_reducible rfl
                      try simp only [Act.put, List.setIfInBounds_toArray, List.set_cons_zero, List.set_cons_succ]
                      refine wpAnyH_take (i := 7) (v := ?_) (by rw [List.getElem?_toArray]; rfl) (by kernel_rfl) (by kernel_rfl) (by kernel_rfl) (by exact fun _ _ _ h => h) (Or.inl ⟨by rfl, ?_⟩) h0 ?_
                      rotate_left
                      · intro W hW
                        go_simp
                        all_goals with_reducible rfl
                      try simp only [Act.put, List.setIfInBounds_toArray, List.set_cons_zero, List.set_cons_succ]
                      refine wpAnyH_take (i := 8) (v := ?_) (by rw [List.getElem?_toArray]; rfl) (by kernel_rfl) (by kernel_rfl) (by kernel_rfl) (by exact fun _ _ _ h => h) (Or.inl ⟨by rfl, ?_⟩) h0 ?_
                      rotate_left
                      · intro W hW
                        go_simp
                        all_goals with_reducible rfl
                      try simp only [Act.put, List.setIfInBounds_toArray, List.set_cons_zero, List.set_cons_succ]
                      refine wpAnyH_take (i := 9) (v := ?_) (by rw [List.getElem?_toArray]; rfl) (by kernel_rfl) (by kernel_rfl) (by kernel_rfl) (by exact fun _ _ _ h => h) (Or.inl ⟨by rfl, ?_⟩) h0 ?_
                      rotate_left
                      · intro W hW
                        have g0 := G0.out W hW
                        go_simp
                        all_goals with_reducible rfl
                      try simp only [Act.put, List.setIfInBounds_toArray, List.set_cons_zero, List.set_cons_succ]
                      refine wpAnyH_ready (rs := [1, 10]) (by kernel_rfl) (by simp) ?_
                      refine AllReadyH.cons (by rw [List.getElem?_toArray]; rfl) (fun K hK => ?_) (AllReadyH.cons (by rw [List.getElem?_toArray]; rfl) (fun K hK => ?_) AllReadyH.nil)
                      · rw [if_pos (by rfl)]
                        have c1 := (Joins.cell_of_block K8.out 1).trans (rfl : _ = some _)
                        go_wp2_with fail
                        clear c1
                        refine hK.out _ _ h0 (fun _ => ?_)
                        clear hK K
                        try simp only [Act.put, List.setIfInBounds_toArray, List.set_cons_zero, List.set_cons_succ]
                        refine wpAnyH_ready (rs := [10]) (by kernel_rfl) (by simp) ?_
                        refine AllReadyH.cons (by rw [List.getElem?_toArray]; rfl) (fun K hK => ?_) AllReadyH.nil
                        rw [if_pos (by rfl)]
                        have ba : Below w8.heap.size w8 (w8.alloc (.cells #[.slice qx x.length kx] 50)) := (Below.refl _ _).alloc (Nat.le_refl _) _
                        have P9 := Lib.hid (P8.out.on PBs_ok ba)
                        have K9 : Hid ((w8.alloc (.cells #[.slice qx x.length kx] 50)).heap[by_]? = some (.cells #[.slice qd X.ds.length kd, .slice qB CB.length cB] 60 (0, 0))) := by
                          show _ = _
                          rw [ba.block _ (Array.getElem?_eq_some_iff.1 K8.out).1]; exact K8.out
                        have X9 : Hid (PBs (w8.alloc (.cells #[.slice qx x.length kx] 50)) (fun g => g < w.heap.size ∧ (Value.slice qB CB.length cB).ownBlock ≠ some g) x [.slice qx x.length kx]) := ⟨qx, kx, rfl, (PX8.out.on ba)⟩
                        have SR := Lib.hid (src_any (P := Try.prog) (T := 50) (n := 1) (w := w8) (R := [.slice qx x.length kx]) Try.underlying58 rfl (by simp [Value.oneCell']))
                        have S9 := Below.trans h0 (ba.mono (Below.size h0))
                        clear ba P8 PX8
                        go_wp2_with fail
                        generalize w8.alloc (.cells #[.slice qx x.length kx] 50) = w9 at *
                        have OW9 := Lib.hid P9.out.own
                        refine hK.out _ _ S9 (fun _ => ?_)
                        clear hK K
                        try simp only [Act.put, List.setIfInBounds_toArray, List.set_cons_zero, List.set_cons_succ]
                        refine wpAnyH_ready (rs := [11]) (by kernel_rfl) (by simp) ?_
                        refine AllReadyH.cons (by rw [List.getElem?_toArray]; rfl) (fun K hK => ?_) AllReadyH.nil
                        rw [if_pos (by rfl)]
                        refine wp_append_row _ _ rfl Try.underlying58 hi1.out hz4.out hz5.out hz6.out rfl OW9.out SR.out (by have := CBL.out; unfold maxLen; omega) (by have := CBL.out; omega) ?_
                        intro q8 k8 w10 own8 grow8 fr8
                        have P10 := Lib.hid (P9.out.grow PBs_ok (n := 1) rfl X9.out own8 grow8 fr8)
                        have NB : ∀ g, (Value.slice q8 (CB.length + 1) k8).ownBlock = some g → g ≠ by_ := fun g hg e => by
                          subst e
                          rcases fr8 with e | e
                          · rw [e] at hg
                            exact own_ne P9.out.own K9.out (by decide) hg
                          · rw [e] at hg
                            have h1 := (Array.getElem?_eq_some_iff.1 K9.out).1
                            have : w9.heap.size = g := Option.some.inj hg
                            omega
                        have NB := Lib.hid NB
                        have K10 : Hid (w10.heap[by_]? = some (.cells #[.slice qd X.ds.length kd, .slice qB CB.length cB] 60 (0, 0))) := by
                          show _ = _
                          rw [grow8.block by_ (Array.getElem?_eq_some_iff.1 K9.out).1 (fun e => own_ne P9.out.own K9.out (by decide) e.symm)]
                          exact K9.out
                        have S10 : Below w.heap.size w w10 := hO.out.below.trans (P10.out.below.mono hO.out.below.size)
                        clear own8 grow8 fr8 P9 X9 SR OW9 K9
                        refine hK.out _ _ S10 (fun hS10 => ?_)
                        clear hK K S10
                        try simp only [Act.put, List.setIfInBounds_toArray, List.set_cons_zero, List.set_cons_succ]
                        refine wpAnyH_take (i := 12) (v := ?_) (by rw [List.getElem?_toArray]; rfl) (by kernel_rfl) (by kernel_rfl) (by kernel_rfl) (by exact fun _ _ _ h => h) (Or.inl ⟨by rfl, ?_⟩) hS10 ?_
                        rotate_left
                        · intro W hW
                          go_simp
                          all_goals with_reducible rfl
                        try simp only [Act.put, List.setIfInBounds_toArray, List.set_cons_zero, List.set_cons_succ]
                        refine wpAnyH_ready (rs := [13]) (by kernel_rfl) (by simp) ?_
                        refine AllReadyH.cons (by rw [List.getElem?_toArray]; rfl) (fun K hK => ?_) AllReadyH.nil
                        rw [if_pos (by rfl)]
                        have c1 := (Joins.cell_of_block K10.out 1).trans (rfl : _ = some _)
                        have y1 := Joins.unfrozen_of_block K10.out 1
                        have cS : Chg w10 (w10.setCell ⟨by_, 1, none⟩ (.slice q8 (CB.length + 1) k8)) [by_] := (Chg.refl _ [by_]).setCell (p := ⟨by_, 1, none⟩) (.inl (by simp)) _
                        have K11 : Hid ((w10.setCell ⟨by_, 1, none⟩ (.slice q8 (CB.length + 1) k8)).heap[by_]? = some (.cells #[.slice qd X.ds.length kd, .slice q8 (CB.length + 1) k8] 60 (0, 0))) := Joins.block_setCell K10.out _
                        have P11 := Lib.hid (P10.out.chg PBs_ok cS (fun g hg hm => by
                          obtain rfl : g = by_ := by simpa using hm
                          have := hO.out.below.size
                          have := HBY.out
                          omega) (fun g hg hm => NB.out g hg (by simpa using hm)) (fun g hm => by
                          obtain rfl : g = by_ := by simpa using hm
                          exact Nat.le_of_eq HBY.out))
                        have S11 : Below w.heap.size w (w10.setCell ⟨by_, 1, none⟩ (.slice q8 (CB.length + 1) k8)) := hO.out.below.trans (P11.out.below.mono hO.out.below.size)
                        clear cS K10 P10
                        go_wp2_with fail
                        clear c1 y1
                        refine hK.out _ _ S11 (fun _ => ?_)
                        clear hK K S11
                        try simp only [Act.put, List.setIfInBounds_toArray, List.set_cons_zero, List.set_cons_succ]
                        refine wpAnyH_done (by kernel_rfl) ?_ _
                        clear h0 hS10
                        go_wp2_with fail
                        go_roundw
                        case rel =>
                          refine ⟨j + 1, q8, k8, CB ++ [x], dn ++ [.slice qx x.length kx], ?_, ?_, ?_, ?_, ?_⟩
                          · go_num
                          · have := HJT.out; omega
                          · exact KEEP.out.symm
                          · rw [List.length_append, List.length_singleton]; exact P11.out
                          · rw [List.length_append, List.length_singleton]; exact K11.out
                        case measure => have := HJT.out; simp [intOf]; omega
                      · rw [if_pos (by rfl)]
                        have ba : Below w8.heap.size w8 (w8.alloc (.cells #[.slice qx x.length kx] 50)) := (Below.refl _ _).alloc (Nat.le_refl _) _
                        have P9 := Lib.hid (P8.out.on PBs_ok ba)
                        have K9 : Hid ((w8.alloc (.cells #[.slice qx x.length kx] 50)).heap[by_]? = some (.cells #[.slice qd X.ds.length kd, .slice qB CB.length cB] 60 (0, 0))) := by
                          show _ = _
                          rw [ba.block _ (Array.getElem?_eq_some_iff.1 K8.out).1]; exact K8.out
                        have X9 : Hid (PBs (w8.alloc (.cells #[.slice qx x.length kx] 50)) (fun g => g < w.heap.size ∧ (Value.slice qB CB.length cB).ownBlock ≠ some g) x [.slice qx x.length kx]) := ⟨qx, kx, rfl, (PX8.out.on ba)⟩
                        have SR := Lib.hid (src_any (P := Try.prog) (T := 50) (n := 1) (w := w8) (R := [.slice qx x.length kx]) Try.underlying58 rfl (by simp [Value.oneCell']))
                        have S9 := Below.trans h0 (ba.mono (Below.size h0))
                        clear ba P8 PX8
                        go_wp2_with fail
                        generalize w8.alloc (.cells #[.slice qx x.length kx] 50) = w9 at *
                        have OW9 := Lib.hid P9.out.own
                        refine hK.out _ _ S9 (fun _ => ?_)
                        clear hK K
                        try simp only [Act.put, List.setIfInBounds_toArray, List.set_cons_zero, List.set_cons_succ]
                        refine wpAnyH_ready (rs := [1]) (by kernel_rfl) (by simp) ?_
                        refine AllReadyH.cons (by rw [List.getElem?_toArray]; rfl) (fun K hK => ?_) AllReadyH.nil
                        rw [if_pos (by rfl)]
                        have c1 := (Joins.cell_of_block K9.out 1).trans (rfl : _ = some _)
                        go_wp2_with fail
                        clear c1
                        refine hK.out _ _ S9 (fun _ => ?_)
                        clear hK K
                        try simp only [Act.put, List.setIfInBounds_toArray, List.set_cons_zero, List.set_cons_succ]
                        refine wpAnyH_ready (rs := [11]) (by kernel_rfl) (by simp) ?_
                        refine AllReadyH.cons (by rw [List.getElem?_toArray]; rfl) (fun K hK => ?_) AllReadyH.nil
                        rw [if_pos (by rfl)]
                        refine wp_append_row _ _ rfl Try.underlying58 hi1.out hz4.out hz5.out hz6.out rfl OW9.out SR.out (by have := CBL.out; unfold maxLen; omega) (by have := CBL.out; omega) ?_
                        intro q8 k8 w10 own8 grow8 fr8
                        have P10 := Lib.hid (P9.out.grow PBs_ok (n := 1) rfl X9.out own8 grow8 fr8)
                        have NB : ∀ g, (Value.slice q8 (CB.length + 1) k8).ownBlock = some g → g ≠ by_ := fun g hg e => by
                          subst e
                          rcases fr8 with e | e
                          · rw [e] at hg
                            exact own_ne P9.out.own K9.out (by decide) hg
                          · rw [e] at hg
                            have h1 := (Array.getElem?_eq_some_iff.1 K9.out).1
                            have : w9.heap.size = g := Option.some.inj hg
                            omega
                        have NB := Lib.hid NB
                        have K10 : Hid (w10.heap[by_]? = some (.cells #[.slice qd X.ds.length kd, .slice qB CB.length cB] 60 (0, 0))) := by
                          show _ = _
                          rw [grow8.block by_ (Array.getElem?_eq_some_iff.1 K9.out).1 (fun e => own_ne P9.out.own K9.out (by decide) e.symm)]
                          exact K9.out
                        have S10 : Below w.heap.size w w10 := hO.out.below.trans (P10.out.below.mono hO.out.below.size)
                        clear own8 grow8 fr8 P9 X9 SR OW9 K9
                        refine hK.out _ _ S10 (fun hS10 => ?_)
                        clear hK K S10
                        try simp only [Act.put, List.setIfInBounds_toArray, List.set_cons_zero, List.set_cons_succ]
                        refine wpAnyH_take (i := 12) (v := ?_) (by rw [List.getElem?_toArray]; rfl) (by kernel_rfl) (by kernel_rfl) (by kernel_rfl) (by exact fun _ _ _ h => h) (Or.inl ⟨by rfl, ?_⟩) hS10 ?_
                        rotate_left
                        · intro W hW
                          go_simp
                          all_goals with_reducible rfl
                        try simp only [Act.put, List.setIfInBounds_toArray, List.set_cons_zero, List.set_cons_succ]
                        refine wpAnyH_ready (rs := [13]) (by kernel_rfl) (by simp) ?_
                        refine AllReadyH.cons (by rw [List.getElem?_toArray]; rfl) (fun K hK => ?_) AllReadyH.nil
                        rw [if_pos (by rfl)]
                        have c1 := (Joins.cell_of_block K10.out 1).trans (rfl : _ = some _)
                        have y1 := Joins.unfrozen_of_block K10.out 1
                        have cS : Chg w10 (w10.setCell ⟨by_, 1, none⟩ (.slice q8 (CB.length + 1) k8)) [by_] := (Chg.refl _ [by_]).setCell (p := ⟨by_, 1, none⟩) (.inl (by simp)) _
                        have K11 : Hid ((w10.setCell ⟨by_, 1, none⟩ (.slice q8 (CB.length + 1) k8)).heap[by_]? = some (.cells #[.slice qd X.ds.length kd, .slice q8 (CB.length + 1) k8] 60 (0, 0))) := Joins.block_setCell K10.out _
                        have P11 := Lib.hid (P10.out.chg PBs_ok cS (fun g hg hm => by
                          obtain rfl : g = by_ := by simpa using hm
                          have := hO.out.below.size
                          have := HBY.out
                          omega) (fun g hg hm => NB.out g hg (by simpa using hm)) (fun g hm => by
                          obtain rfl : g = by_ := by simpa using hm
                          exact Nat.le_of_eq HBY.out))
                        have S11 : Below w.heap.size w (w10.setCell ⟨by_, 1, none⟩ (.slice q8 (CB.length + 1) k8)) := hO.out.below.trans (P11.out.below.mono hO.out.below.size)
                        clear cS K10 P10
                        go_wp2_with fail
                        clear c1 y1
                        refine hK.out _ _ S11 (fun _ => ?_)
                        clear hK K S11
                        try simp only [Act.put, List.setIfInBounds_toArray, List.set_cons_zero, List.set_cons_succ]
                        refine wpAnyH_done (by kernel_rfl) ?_ _
                        clear h0 hS10
                        go_wp2_with fail
                        go_roundw
                        case rel =>
                          refine ⟨j + 1, q8, k8, CB ++ [x], dn ++ [.slice qx x.length kx], ?_, ?_, ?_, ?_, ?_⟩
                          · go_num
                          · have := HJT.out; omega
                          · exact KEEP.out.symm
                          · rw [List.length_append, List.length_singleton]; exact P11.out
                          · rw [List.length_append, List.length_singleton]; exact K11.out
                        case measure => have := HJT.out; simp [intOf]; omega
              · have d1 : decide (e0 ≥ 1) = true := decide_eq_true h1e
                have d1' : decide (1 ≤ e0) = true := decide_eq_true h1e
                have d2 : decide (e0 ≤ (C.length : Int)) = false := decide_eq_false h2e
                go_wp2_with fail
                go_roundw
                case rel => exact ⟨j + 1, qB, cB, CB, dn, by go_num, by have := HJT.out; omega, (HNO.out (by rw [HKP.out]; simp [h2e])).symm, P4, K4⟩
                case measure => have := HJT.out; simp [intOf]; omega
            · have d1 : decide (e0 ≥ 1) = false := decide_eq_false h1e
              have d1' : decide (1 ≤ e0) = false := decide_eq_false h1e
              go_wp2_with fail
              go_roundw
              case rel => exact ⟨j + 1, qB, cB, CB, dn, by go_num, by have := HJT.out; omega, (HNO.out (by rw [HKP.out]; simp [h1e])).symm, P4, K4⟩
              case measure => have := HJT.out; simp [intOf]; omega
        · obtain rfl : j = X.bs.length := by omega
          have HKL : Hid ((⟨X.ds, CB⟩ : Bk) = clK Ls k C.length) := by
            show _ = _
            unfold clK
            rw [HX.out, ← hCB.out]
          have c20 : C.length ≤ 20 := by have := HL.out; omega
          have k0 := (Joins.cell_of_block hK.out 0).trans (rfl : _ = some _)
          have k1 := (Joins.cell_of_block hK.out 1).trans (rfl : _ = some _)
          have O4 := hO.out.on PBk_ok hP.out.below
          have b7 : Below wr.heap.size wr (wr.alloc (.cells #[.slice qd X.ds.length kd, .slice qB CB.length cB] 60)) := (Below.refl _ _).alloc (Nat.le_refl _) _
          have O7 := Lib.hid (O4.on PBk_ok b7)
          have RB1 : RwF 1 [] PBs wr (fun g => g < w.heap.size ∨ wo.heap.size ≤ g) qB CB := (hP.out.monoF PBs_ok (fun g hg => .inl hg)).rd2 PBs_ok (fun g hg => .inr (hP.out.fresh g hg))
          have P7 : Hid (PBk (wr.alloc (.cells #[.slice qd X.ds.length kd, .slice qB CB.length cB] 60)) (fun g => True ∧ (Value.slice q1 C.length c1).ownBlock ≠ some g) ⟨X.ds, CB⟩ [.slice qd X.ds.length kd, .slice qB CB.length cB]) :=
            ⟨qd, kd, qB, cB, rfl, ((HD.out _ HT.out).on PMg_ok (by decide) b7).mono PMg_ok (fun g hg => ⟨trivial, fun e => by have := hO.out.fresh g e; omega⟩), (RB1.on PBs_ok (by decide) b7).mono PBs_ok (fun g hg => ⟨trivial, fun e => by
              have h1 := hO.out.fresh g e
              have h2 := own_lt hO.out.own e
              omega⟩)⟩
          have R1 : ∀ u ∈ [Value.slice qd X.ds.length kd, .slice qB CB.length cB], u.oneCell' = true := by simp [Value.oneCell']
          have SR := Lib.hid (src_any (P := Try.prog) (T := 60) (n := 2) (w := wr) (R := [.slice qd X.ds.length kd, .slice qB CB.length cB]) Try.underlying22 rfl R1)
          have OWN := Lib.hid O7.out.own
          have hsl := Try.run_slice_rbk wr (.slice qd X.ds.length kd) (.slice qB CB.length cB)
          clear O4 b7 RB1 R1 hCB hP hK HT
          go_wp2_with (at_builtin; refine wpList_append_row rfl _ _ rfl Try.underlying22 hi.out hz0.out hz1.out hz2.out rfl OWN.out SR.out ?b1 ?b2 ?_)
          case b1 => unfold maxLen; omega
          case b2 => omega
          intro q8 k8 w8 own8 grow8 fr8
          have fr9 : (Value.slice q8 (C.length + 1) k8).ownBlock = (Value.slice q1 C.length c1).ownBlock ∨ (Value.slice q8 (C.length + 1) k8).ownBlock = some (wr.alloc (.cells #[.slice qd X.ds.length kd, .slice qB CB.length cB] 60)).heap.size := by rw [show (wr.alloc (.cells #[.slice qd X.ds.length kd, .slice qB CB.length cB] 60)).heap.size = wr.heap.size + 1 by simp]; exact fr8
          have O8 := Lib.hid (O7.out.grow PBk_ok (n := 2) rfl P7.out own8 grow8 fr9)
          clear own8 grow8 fr8 fr9 O7 P7 SR OWN hsl k0 k1
          go_wp2_with fail
          go_roundw
          case rel =>
            refine ⟨q8, k8, C ++ [⟨X.ds, CB⟩], done ++ [.slice qd X.ds.length kd, .slice qB CB.length cB], ?_, ?_, ?_, ?_, ?_⟩
            · rw [List.length_append, List.length_singleton]; go_num
            · rw [List.length_append, List.length_singleton]
            · have := HLT.out
              rw [List.length_append, List.length_singleton]
              omega
            · show _ = _
              rw [List.length_append, List.length_singleton, clL_snoc, ← hCe.out, HKL.out]
            · rw [List.length_append, List.length_singleton]
              exact O8.out
          case measure => have := HLT.out; simp [intOf]; omega
    · have hCL : C.length = Ls.length := by omega
      have HCe : Hid (C = clL Ls k Ls.length) := by show _ = _; rw [← hCL]; exact hCe.out
      have hAC : Hid (fAll C k = fAll Ls k) := by show _ = _; rw [HCe.out]; exact fAll_cl Ls k
      have SMC : Hid (BksSm C) := by show BksSm C; rw [HCe.out]; exact clL_sm SM.out k _
      have RC := Lib.hid (fun (W : World) (hb : Below wo.heap.size wo W) => (hO.out.rd PBk_ok (fun g _ => trivial)).on PBk_ok (by decide) hb)
      have BO := Lib.hid hO.out.below
      have c20 : C.length ≤ 20 := by have := HL.out; omega
      have HC20 := Lib.hid c20
      clear hCe hO HCe hCL c20
      go_wp2_with fail
      refine (Blocks_any (H0.out _ BO.out) SM.out (by have := HL.out; omega)).mono ?_
      rintro e w3 ⟨q3, c3, dn3, rfl, o3, -⟩
      have B3 := Lib.hid (BO.out.trans (o3.below.mono BO.out.size))
      have Y3 := Lib.hid o3.below
      have R3 := Lib.hid (o3.rd PBk_ok (fun g hg => hg))
      clear o3
      go_wp2_with fail
      refine (All_any R3.out SM.out (by have := HL.out; omega)).mono ?_
      rintro e w4 ⟨q4, c4, rfl, r4, b4⟩
      have B4 := Lib.hid (B3.out.trans (b4.mono B3.out.size))
      have Y4 := Lib.hid (Y3.out.trans (b4.mono Y3.out.size))
      have R4 := Lib.hid r4
      clear r4 b4 R3 B3 Y3
      go_wp2_with fail
      refine (Blocks_any (RC.out _ Y4.out) SMC.out (by have := HC20.out; omega)).mono ?_
      rintro e w5 ⟨q5, c5, dn5, rfl, o5, -⟩
      have B5 := Lib.hid (B4.out.trans (o5.below.mono B4.out.size))
      have Y5 : Hid (Below w4.heap.size w4 w5) := o5.below
      have R5 := Lib.hid (o5.rd PBk_ok (fun g hg => hg))
      clear o5 RC Y4 B4
      go_wp2_with fail
      refine (All_any R5.out SMC.out (by have := HC20.out; omega)).mono ?_
      rintro e w9 ⟨q9, c9, rfl, r9, b9⟩
      have B9 := Lib.hid (B5.out.trans (b9.mono B5.out.size))
      have R4' := Lib.hid (R4.out.on PIn_sl (by decide) (Y5.out.trans (b9.mono Y5.out.size)))
      rw [hAC.out] at r9 ⊢
      have R9' := Lib.hid r9
      have HI := Lib.hid (fun (i : Nat) (hi : i < (fAll Ls k).length) => (show InsOk ((fAll Ls k).getD i []) ∧ ((fAll Ls k).getD i []).length ≤ 28 from by rw [fAll_mem hi]; exact ⟨fInL_ok SM.out _ _, fInL_short SM.out _ _⟩))
      have hA20 : (fAll Ls k).length ≤ 20 := by
        rw [fAll_len]
        have := kN_le Ls.length k (by omega)
        have := HL.out
        omega
      clear r9 b9 R5 Y5 R4 B5 hAC
      obtain ⟨A, hA⟩ : ∃ A, fAll Ls k = A := ⟨_, rfl⟩
      rw [hA] at R4' R9' HI hA20 ⊢
      clear hA SM SMC
      have JJ : ((A.length : Int) != (A.length : Int)) = false := by simp
      have T1 : Hid (Below w9.heap.size w9 w9) := Below.refl _ _
      go_wp2_with fail
      clear JJ
      go_loopw [16] (fun iv wr => ∃ (i : Nat), iv = .int .i64 (i : Int) ∧ i ≤ A.length ∧ Hid (Below w9.heap.size w9 wr)) (fun iv _ => A.length - (intOf iv).toNat)
      case atStart => exact ⟨0, rfl, by omega, T1⟩
      case round =>
        clear T1
        obtain ⟨i, rfl, hil, hT⟩ := hrel
        by_cases hlt : i < A.length
        · obtain ⟨ba, oa, qa, ca, hqa, CA, RA⟩ := R4'.out.cellAt hlt
          obtain ⟨bb, ob, qb, cb, hqb, CB, RB⟩ := R9'.out.cellAt hlt
          subst hqa hqb
          obtain ⟨ok, sh⟩ := HI.out i hlt
          have KA := Lib.hid (fun (W : World) (hW : Below w9.heap.size w9 W) => alike_any (c := ca) (c' := cb) (RA W hW) (RB W hW) ok (by omega))
          obtain ⟨I, hI⟩ : ∃ I, A.getD i [] = I := ⟨_, rfl⟩
          rw [hI] at CA CB KA
          have CA := Lib.hid CA
          have CB := Lib.hid CB
          have HLT := Lib.hid hlt
          clear hI RA RB ok sh
          go_wp2_with fail
          have S0 : Below w9.heap.size w9 wr.drew := hT.out.drew
          clear hT
          refine wp_region_held_drew (S := fun W => Below w9.heap.size w9 W) (by kernel_rfl) (S0) (fun h0 => ?_)
          generalize wr.drew = w10 at *
          refine wpAnyH_take (i := 0) (v := ?_) (by rw [List.getElem?_toArray]; rfl) (by kernel_rfl) (by kernel_rfl) (by kernel_rfl) (by exact fun _ _ _ h => h) (Or.inl ⟨by rfl, ?_⟩) h0 ?_
          rotate_left
          · intro W hW
            go_simp
            all_goals with_reducible rfl
          try simp only [Act.put, List.setIfInBounds_toArray, List.set_cons_zero, List.set_cons_succ]
          refine wpAnyH_take (i := 1) (v := ?_) (by rw [List.getElem?_toArray]; rfl) (by kernel_rfl) (by kernel_rfl) (by kernel_rfl) (by exact fun _ _ _ h => h) (Or.inl ⟨by rfl, ?_⟩) h0 ?_
          rotate_left
          · intro W hW
            go_simp
            all_goals with_reducible rfl
          try simp only [Act.put, List.setIfInBounds_toArray, List.set_cons_zero, List.set_cons_succ]
          refine wpAnyH_take (i := 2) (v := ?_) (by rw [List.getElem?_toArray]; rfl) (by kernel_rfl) (by kernel_rfl) (by kernel_rfl) (by exact fun _ _ _ h => h) (Or.inl ⟨by rfl, ?_⟩) h0 ?_
          rotate_left
          · intro W hW
            go_simp
            all_goals with_reducible rfl
          try simp only [Act.put, List.setIfInBounds_toArray, List.set_cons_zero, List.set_cons_succ]
          refine wpAnyH_take (i := 3) (v := ?_) (by rw [List.getElem?_toArray]; rfl) (by kernel_rfl) (by kernel_rfl) (by kernel_rfl) (by exact fun _ _ _ h => h) (Or.inl ⟨by rfl, ?_⟩) h0 ?_
          rotate_left
          · intro W hW
            have hrow := CA.out W hW
            go_simp
            all_goals with_reducible rfl
          try simp only [Act.put, List.setIfInBounds_toArray, List.set_cons_zero, List.set_cons_succ]
          refine wpAnyH_take (i := 4) (v := ?_) (by rw [List.getElem?_toArray]; rfl) (by kernel_rfl) (by kernel_rfl) (by kernel_rfl) (by exact fun _ _ _ h => h) (Or.inl ⟨by rfl, ?_⟩) h0 ?_
          rotate_left
          · intro W hW
            go_simp
            all_goals with_reducible rfl
          try simp only [Act.put, List.setIfInBounds_toArray, List.set_cons_zero, List.set_cons_succ]
          refine wpAnyH_take (i := 5) (v := ?_) (by rw [List.getElem?_toArray]; rfl) (by kernel_rfl) (by kernel_rfl) (by kernel_rfl) (by exact fun _ _ _ h => h) (Or.inl ⟨by rfl, ?_⟩) h0 ?_
          rotate_left
          · intro W hW
            go_simp
            all_goals with_reducible rfl
          try simp only [Act.put, List.setIfInBounds_toArray, List.set_cons_zero, List.set_cons_succ]
          refine wpAnyH_take (i := 6) (v := ?_) (by rw [List.getElem?_toArray]; rfl) (by kernel_rfl) (by kernel_rfl) (by kernel_rfl) (by exact fun _ _ _ h => h) (Or.inl ⟨by rfl, ?_⟩) h0 ?_
          rotate_left
          · intro W hW
            go_simp
            all_goals with_reducible rfl
          try simp only [Act.put, List.setIfInBounds_toArray, List.set_cons_zero, List.set_cons_succ]
          refine wpAnyH_take (i := 7) (v := ?_) (by rw [List.getElem?_toArray]; rfl) (by kernel_rfl) (by kernel_rfl) (by kernel_rfl) (by exact fun _ _ _ h => h) (Or.inl ⟨by rfl, ?_⟩) h0 ?_
          rotate_left
          · intro W hW
            have hrow := CB.out W hW
            go_simp
            all_goals with_reducible rfl
          try simp only [Act.put, List.setIfInBounds_toArray, List.set_cons_zero, List.set_cons_succ]
          refine wpAnyH_ready (rs := [8]) (by kernel_rfl) (by simp) ?_
          refine AllReadyH.cons (by rw [List.getElem?_toArray]; rfl) (fun K hK => ?_) AllReadyH.nil
          rw [if_pos (by rfl)]
          go_wp2_with fail
          refine (KA.out _ h0).mono ?_
          rintro e w2 ⟨rfl, hb2⟩
          have B2 : Below w9.heap.size w9 w2 := Below.trans h0 (hb2.mono (Below.size h0))
          clear hb2
          go_wp2_with fail
          refine hK.out _ _ (B2) (fun h1x => ?_)
          clear hK K
          try simp only [Act.put, List.setIfInBounds_toArray, List.set_cons_zero, List.set_cons_succ]
          clear B2
          refine wpAnyH_take (i := 9) (v := ?_) (by rw [List.getElem?_toArray]; rfl) (by kernel_rfl) (by kernel_rfl) (by kernel_rfl) (by exact fun _ _ _ h => h) (Or.inl ⟨by rfl, ?_⟩) h1x ?_
          rotate_left
          · intro W hW
            go_simp
            all_goals with_reducible rfl
          try simp only [Act.put, List.setIfInBounds_toArray, List.set_cons_zero, List.set_cons_succ]
          refine wpAnyH_done (by kernel_rfl) ?_ _
          have T9 := Lib.hid h1x
          clear h0 h1x
          go_wp2_with fail
          go_roundw
          case rel => exact ⟨i + 1, by go_num, by have := HLT.out; omega, T9⟩
          case measure => have := HLT.out; simp [intOf]; omega
        · go_wp2_with fail
          refine (KW.out _).mono ?_
          rintro e wz ⟨rfl, hb⟩
          have B10 := Lib.hid (B9.out.trans (hT.out.mono B9.out.size))
          have B11 := Lib.hid (B10.out.trans (hb.mono B10.out.size))
          clear hb
          go_wp2_with fail
          go_ret
          exact ⟨rfl, B11.out⟩
end Go.Proofs.Ytonjkhhihiigfaa
