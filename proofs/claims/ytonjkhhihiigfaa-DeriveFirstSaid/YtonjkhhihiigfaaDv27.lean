/-
  Further batches change nothing.
-/
import Derived.Test.YtonjkhhihiigfaaDv22
import Derived.Test.YtonjkhhihiigfaaDv26
namespace Go.Proofs.Ytonjkhhihiigfaa
set_option maxRecDepth 100000
open Go.RowKit

theorem wrapmodF (n : Int) {d : Int} (h1 : 0 < d) (h2 : d ≤ 1000) : ∃ c, (wrap64 (n.tmod d + d)).tmod d = c ∧ 0 ≤ c ∧ c < d := by
  have a := Int.tmod_lt_of_pos n h1
  have b := Int.lt_tmod_of_pos n h1
  have e : wrap64 (n.tmod d + d) = n.tmod d + d := by unfold wrap64; omega
  rw [e]
  exact ⟨_, rfl, Int.tmod_nonneg d (by omega), Int.tmod_lt_of_pos _ h1⟩
theorem fInE_two {Ls : List Bk} {n k : Int} (hw : wOk k = true) : (fInE Ls n k = 0 ∧ 1 ≤ n ∧ n ≤ kN Ls.length k) ∨ fInE Ls n k = 3 := by
  unfold fInE
  rw [if_pos hw]
  by_cases h : 1 ≤ n ∧ n ≤ kN Ls.length k
  · rw [if_pos h]; exact .inl ⟨rfl, h⟩
  · rw [if_neg h]; exact .inr rfl
set_option maxHeartbeats 16000000 in
theorem DeriveFirst_walk {w : World} {Ls : List Bk} {q qv : Option Addr} {c cv : Nat} {k n : Int} {xs : List Int} (hr : RwF 2 bk0 PBk w (fun g => g < w.heap.size) q Ls) (ok : BksOk Ls) (hl : Ls.length ≤ 3000000000000) (hv : Rd w (.slice qv xs.length cv) xs) (bx : Bytes xs) :
    Calls Try.prog 7 #[.slice q Ls.length c, .int .i64 k, .int .i64 n, .slice qv xs.length cv] w fun e w' => e = .returned (.bool true) ∧ Below w.heap.size w w' := by
  have H0 := Lib.hid (fun (W : World) (hb : Below w.heap.size w W) => hr.on PBk_ok (by decide) hb)
  have HV := Lib.hid (fun (W : World) (hb : Below w.heap.size w W) => hv.on hb)
  have BX_ := Lib.hid bx
  have OK := Lib.hid ok
  have KB0 := Lib.hid (fun (W : World) (hb : Below w.heap.size w W) => Big_any (c := c) (hr.on PBk_ok (by decide) hb) hl ok)
  have KW := Lib.hid (fun (W : World) => knows14_any W)
  obtain ⟨xl, hxl⟩ : ∃ z, xs.length = z := ⟨_, rfl⟩
  have HXL := Lib.hid hxl
  rw [hxl] at HV ⊢
  clear hr hv bx ok hl hxl
  go_enter Try.func7, Try.ntmps7
  go_wp2_with fail
  refine (KB0.out _ (Below.refl _ _)).mono ?_
  rintro e w1 ⟨v1, rfl, b1, hv1⟩
  have B1 := Lib.hid b1
  clear b1 KB0
  cases v1 with
  | true =>
    clear hv1
    go_wp2_with fail
    refine (KW.out _).mono ?_
    rintro e w9 ⟨rfl, hb⟩
    have B9 := Lib.hid (B1.out.trans (hb.mono B1.out.size))
    clear hb
    go_wp2_with fail
    go_ret
    exact ⟨rfl, B9.out⟩
  | false =>
  obtain ⟨hL, hS⟩ := hv1 rfl
  have SM := Lib.hid (BksSm.of OK.out hS)
  clear hS OK hv1
  have HL := Lib.hid hL
  by_cases g1 : xl > 5000
  · have d1 : decide ((xl : Int) > 5000) = true := decide_eq_true (by omega)
    have d2 : decide (5000 < (xl : Int)) = true := d1
    have d3 : decide (5000 < xl) = true := decide_eq_true g1
    go_wp2_with fail
    refine (KW.out _).mono ?_
    rintro e w9 ⟨rfl, hb⟩
    have B9 := Lib.hid (B1.out.trans (hb.mono B1.out.size))
    clear hb
    go_wp2_with fail
    go_ret
    exact ⟨rfl, B9.out⟩
  have d1 : decide ((xl : Int) > 5000) = false := decide_eq_false (by omega)
  have d2 : decide (5000 < (xl : Int)) = false := d1
  have d3 : decide (5000 < xl) = false := decide_eq_false g1
  by_cases g2 : k < 1
  · have f1 : decide (k < 1) = true := decide_eq_true g2
    go_wp2_with fail
    refine (KW.out _).mono ?_
    rintro e w9 ⟨rfl, hb⟩
    have B9 := Lib.hid (B1.out.trans (hb.mono B1.out.size))
    clear hb
    go_wp2_with fail
    go_ret
    exact ⟨rfl, B9.out⟩
  have f1 : decide (k < 1) = false := decide_eq_false g2
  by_cases g3 : k > 64
  · have f2 : decide (k > 64) = true := decide_eq_true g3
    have f2' : decide (64 < k) = true := f2
    go_wp2_with fail
    refine (KW.out _).mono ?_
    rintro e w9 ⟨rfl, hb⟩
    have B9 := Lib.hid (B1.out.trans (hb.mono B1.out.size))
    clear hb
    go_wp2_with fail
    go_ret
    exact ⟨rfl, B9.out⟩
  have f2 : decide (k > 64) = false := decide_eq_false g3
  have f2' : decide (64 < k) = false := f2
  by_cases g4 : Ls.length = 0
  · have f3 : ((Ls.length : Int) == 0) = true := by simp [g4]
    have f3' : (Ls.length == 0) = true := by simp [g4]
    go_wp2_with fail
    refine (KW.out _).mono ?_
    rintro e w9 ⟨rfl, hb⟩
    have B9 := Lib.hid (B1.out.trans (hb.mono B1.out.size))
    clear hb
    go_wp2_with fail
    go_ret
    exact ⟨rfl, B9.out⟩
  have f3 : ((Ls.length : Int) == 0) = false := by simp; intro e; exact g4 (by simp [e])
  have hw : wOk k = true := by simp [wOk]; omega
  have HW := Lib.hid hw
  obtain ⟨z, hz, z0, z1⟩ := wrapmodF n (d := (Ls.length : Int)) (by omega) (by omega)
  have wz : IntKind.i64.wrap (1 + z) = 1 + z := IntWalk.i64_in _ (by omega)
  go_upto_region 4 with fail
  clear d1 d2 d3 f1 f2 f2' f3 wz hz
  have HL1 : Hid (Ls.length ≤ 1000) := Nat.le_trans hL (by decide)
  have HL3 : Hid (Ls.length ≤ 3000000000000) := Nat.le_trans hL (by decide)
  obtain ⟨N, hN⟩ : ∃ N, 1 + z = N := ⟨_, rfl⟩
  rw [hN]
  have n1 : 1 ≤ N := by omega
  have n2 : N ≤ (Ls.length : Int) := by omega
  clear hN z0 z1
  go_wp2_with fail
  refine (Blocks_any (H0.out _ B1.out) SM.out HL1.out).mono ?_
  rintro e w2 ⟨q3, c3, dn3, rfl, o3, -⟩
  have B2 := Lib.hid (B1.out.trans (o3.below.mono B1.out.size))
  have R2 := Lib.hid (o3.rd PBk_ok (fun g hg => hg))
  clear o3 B1
  go_wp2_with fail
  refine (Inputs_any (n := N) (k := k) R2.out SM.out HL1.out).mono ?_
  rintro e w3 ⟨q5, c5, rfl, r5, b5⟩
  have B3 := Lib.hid (B2.out.trans (b5.mono B2.out.size))
  have R5 := Lib.hid (fun (W : World) (hb : Below w3.heap.size w3 W) => r5.on PIn_ok (by decide) hb)
  clear b5 r5 R2 B2
  rcases fInE_two (Ls := Ls) (n := N) hw with ⟨h0, m1, m2⟩ | h0
  rotate_left
  · rw [h0]
    clear h0 R5
    go_wp2_with fail
    refine (num14_any 3 _).mono ?_
    rintro e wz ⟨rfl, hwz⟩
    obtain rfl := hwz.symm
    clear hwz
    go_wp2_with fail
    refine (num14_any 3 _).mono ?_
    rintro e wz ⟨rfl, hwz⟩
    obtain rfl := hwz.symm
    clear hwz
    go_wp2_with fail
    refine (KW.out _).mono ?_
    rintro e w9 ⟨rfl, hb⟩
    have B9 := Lib.hid (B3.out.trans (hb.mono B3.out.size))
    clear hb
    go_wp2_with fail
    go_ret
    exact ⟨rfl, B9.out⟩
  rw [h0]
  have KN := Lib.hid (kN_in m1 m2)
  have M2 := Lib.hid m2
  have fInE_z : fInE Ls N k = 0 := h0
  have B3_ := Lib.hid B3.out
  clear h0 m2
  go_wp2_with fail
  refine (num14_any 0 _).mono ?_
  rintro e wz ⟨rfl, hwz⟩
  obtain rfl := hwz.symm
  clear hwz
  go_wp2_with fail
  refine (Blocks_own (H0.out _ B3.out) SM.out HL1.out).mono ?_
  rintro e w4 ⟨q4, c4, B, dn, rfl, hB, apt, o4⟩
  have hBL : B.length = Ls.length := by rw [← hB, List.length_map]
  rw [hBL] at o4 ⊢
  have B4 := Lib.hid (B3.out.trans (o4.below.mono B3.out.size))
  have Y4 : Hid (Below w3.heap.size w3 w4) := o4.below
  have O4 := Lib.hid o4
  have HBx := Lib.hid hB
  have APT := Lib.hid apt
  have RX : RwF 2 bk0 PBk w4 (fun g => w3.heap.size ≤ g) q4 (B.map Bi.x) := (o4.rd PBi_ok (fun g hg => hg)).bks
  rw [hB] at RX
  have HBL := Lib.hid hBL
  have RX := Lib.hid RX
  clear o4 hB apt hBL B3
  go_wp2_with fail
  refine (Find_any (n := N) (k := k) RX.out SM.out.ok HL3.out).mono ?_
  rintro e w5 ⟨rfl, b5⟩
  have B5 := Lib.hid (B4.out.trans (b5.mono B4.out.size))
  have Y5 := Lib.hid (Y4.out.trans (b5.mono Y4.out.size))
  have O5 := Lib.hid (O4.out.on PBi_ok b5)
  have HAT : Hid (∀ b i, fFind Ls N k = some (b, i) → 1 ≤ b ∧ b - 1 < Ls.length) := fun b i h => by
    obtain ⟨x1, x2, _⟩ := fFind_at n1 M2.out h
    exact ⟨x1, x2⟩
  have HAF : Hid (atF Ls N k = match fFind Ls N k with | some (b, _) => b - 1 | none => (N + k).toNat) := rfl
  clear b5 RX O4 B4 Y4
  obtain ⟨o, ho⟩ : ∃ o, fFind Ls N k = o := ⟨_, rfl⟩
  rw [ho] at HAT HAF ⊢
  clear ho
  have knn : N + k ≤ (Ls.length : Int) := KN.out.2.2.2
  have wnk : IntKind.i64.wrap (N + k) = N + k := IntWalk.i64_in _ (by omega)
  have HXB : Hid (Ls.getD (atF Ls N k) bk0 = (B.getD (atF Ls N k) bi0).x) := by
    show _ = _
    rw [← HBx.out]
    by_cases h : atF (B.map Bi.x) N k < B.length
    · simp [List.getD, h]
    · simp [List.getD, Nat.not_lt.1 h, bi0]
  obtain ⟨af, haf⟩ : ∃ x, atF Ls N k = x := ⟨_, rfl⟩
  rw [haf] at HAF HXB
  have HAFe := Lib.hid haf
  clear haf
  cases o with
  | none =>
    obtain ⟨a, ha⟩ : ∃ a : Nat, N + k = (a : Int) := ⟨(N + k).toNat, by omega⟩
    have HA : Hid (af = a) := by
      show _ = _
      rw [HAF.out]
      show (N + k).toNat = a
      omega
    obtain rfl := HA.out
    clear HA HAF HAT
    replace wnk := wnk.trans ha
    rw [ha] at knn
    have ge1 : decide ((af : Int) ≥ 0) = true := decide_eq_true (by omega)
    have ge2 : decide (0 ≤ (af : Int)) = true := ge1
    have ge3 : (0 : Int) ≤ (af : Int) := by omega
    by_cases hal : af < Ls.length
    · have al1 : decide ((af : Int) < (Ls.length : Int)) = true := decide_eq_true (by omega)
      go_upto_region 13 with fail
      have hBl : af < B.length := by rw [HBL.out]; exact hal
      rcases O5.out.rows PBi_ok with h0 | ⟨b, off, rfl, hob, hx⟩
      · exact absurd hBl (by rw [h0]; simp)
      obtain ⟨r, hr2, hrow, hp⟩ := hx af hBl
      obtain ⟨X, hXe⟩ : ∃ X, B.getD af bi0 = X := ⟨_, rfl⟩
      rw [hXe] at hp HXB
      obtain ⟨X, lo, hi⟩ := X
      obtain ⟨⟨qd, kd, qb, kb, rfl, hds, hbs⟩, hiv⟩ := hp
      have hbl : b < w5.heap.size := own_lt O5.out.own hob
      have c1w := row_cell hrow hr2 (j := 1) (v := .slice qb X.bs.length kb) rfl
      have hg0 : ∀ g, (Value.slice qb X.bs.length kb).ownBlock = some g → lo ≤ g ∧ g < hi := hbs.on'
      have hnb : (Value.slice qb X.bs.length kb).ownBlock ≠ some b := fun e => (hiv b (hg0 b e).1 (hg0 b e).2).1.2 hob
      obtain ⟨vs, OB⟩ := hbs.owf (w3 := w3) (G := fun g => w3.heap.size ≤ g ∧ g ≠ b) Y5.out (fun g hg => ⟨(hiv g hg.1 hg.2).1.1, (hiv g hg.1 hg.2).1.1, fun e => (hiv g hg.1 hg.2).1.2 (by rw [e]; exact hob)⟩)
      have hXs := (SM.out.get af).bs
      have hXB' : Ls.getD af bk0 = X := HXB.out
      rw [hXB'] at hXs
      have hb5 : Below w5.heap.size w5 w5.drew := (Below.refl _ _).drew
      have O5 := Lib.hid (O5.out.on PBi_ok hb5)
      have OB := Lib.hid (OB.on PBs_ok hb5)
      have DS := Lib.hid (hds.on PMg_ok (by decide) hb5)
      have HROW : Hid (rowOf w5.drew b (off + af * 2) 2 = [.slice qd X.ds.length kd, .slice qb X.bs.length kb]) := hrow
      have B5 := Lib.hid (B5.out.trans (hb5.mono B5.out.size))
      have HBL5 : Hid (b < w5.drew.heap.size) := hbl
      have C1 : Hid (w5.drew.cell? ⟨b, off + af * 2 + 1, none⟩ = some (.slice qb X.bs.length kb)) := c1w
      have HG0 := Lib.hid hg0
      have HNB := Lib.hid hnb
      have HOB := Lib.hid hob
      have HIV := Lib.hid hiv
      have HXE := Lib.hid hXe
      have HBl := Lib.hid hBl
      have HXS := Lib.hid hXs
      clear hBl hx hrow hr2 hds hbs hbl c1w hg0 hnb hob hiv hXe hXs hXB' hb5 Y5
      obtain ⟨i0, hi0, hz0, hz1, hz2⟩ := info_parts Try.infoU8
      obtain ⟨i1, hi1, hz4, hz5, hz6⟩ := info_parts Try.infoBsl
      replace hi0 := Lib.hid hi0
      replace hz0 := Lib.hid hz0
      replace hz1 := Lib.hid hz1
      replace hz2 := Lib.hid hz2
      replace hi1 := Lib.hid hi1
      replace hz4 := Lib.hid hz4
      replace hz5 := Lib.hid hz5
      replace hz6 := Lib.hid hz6
      refine wp_region_held_drew (S := fun _ => True) (by kernel_rfl) (trivial) (fun h0 => ?_)
      generalize w5.drew = w5d at *
      refine wpAnyH_take (i := 0) (v := ?_) (by rw [List.getElem?_toArray]; rfl) (by kernel_rfl) (by kernel_rfl) (by kernel_rfl) (by exact fun _ _ _ h => h) (Or.inl ⟨by rfl, ?_⟩) trivial ?_
      rotate_left
      · intro W hW
        go_simp
        all_goals with_reducible rfl
      try simp only [Act.put, List.setIfInBounds_toArray, List.set_cons_zero, List.set_cons_succ]
      refine wpAnyH_take (i := 1) (v := ?_) (by rw [List.getElem?_toArray]; rfl) (by kernel_rfl) (by kernel_rfl) (by kernel_rfl) (by exact fun _ _ _ h => h) (Or.inl ⟨by rfl, ?_⟩) trivial ?_
      rotate_left
      · intro W hW
        go_simp
        all_goals with_reducible rfl
      try simp only [Act.put, List.setIfInBounds_toArray, List.set_cons_zero, List.set_cons_succ]
      refine wpAnyH_take (i := 2) (v := ?_) (by rw [List.getElem?_toArray]; rfl) (by kernel_rfl) (by kernel_rfl) (by kernel_rfl) (by exact fun _ _ _ h => h) (Or.inl ⟨by rfl, ?_⟩) trivial ?_
      rotate_left
      · intro W hW
        go_simp
        all_goals with_reducible rfl
      try simp only [Act.put, List.setIfInBounds_toArray, List.set_cons_zero, List.set_cons_succ]
      refine wpAnyH_take (i := 3) (v := ?_) (by rw [List.getElem?_toArray]; rfl) (by kernel_rfl) (by kernel_rfl) (by kernel_rfl) (by exact fun _ _ _ h => h) (Or.inl ⟨by rfl, ?_⟩) trivial ?_
      rotate_left
      · intro W hW
        go_simp
        all_goals with_reducible rfl
      try simp only [Act.put, List.setIfInBounds_toArray, List.set_cons_zero, List.set_cons_succ]
      refine wpAnyH_take (i := 4) (v := ?_) (by rw [List.getElem?_toArray]; rfl) (by kernel_rfl) (by kernel_rfl) (by kernel_rfl) (by exact fun _ _ _ h => h) (Or.inl ⟨by rfl, ?_⟩) trivial ?_
      rotate_left
      · intro W hW
        go_simp
        all_goals with_reducible rfl
      try simp only [Act.put, List.setIfInBounds_toArray, List.set_cons_zero, List.set_cons_succ]
      refine wpAnyH_take (i := 5) (v := ?_) (by rw [List.getElem?_toArray]; rfl) (by kernel_rfl) (by kernel_rfl) (by kernel_rfl) (by exact fun _ _ _ h => h) (Or.inl ⟨by rfl, ?_⟩) trivial ?_
      rotate_left
      · intro W hW
        go_simp
        all_goals with_reducible rfl
      try simp only [Act.put, List.setIfInBounds_toArray, List.set_cons_zero, List.set_cons_succ]
      refine wpAnyH_take (i := 8) (v := ?_) (by rw [List.getElem?_toArray]; rfl) (by kernel_rfl) (by kernel_rfl) (by kernel_rfl) (by exact fun _ _ _ h => h) (Or.inl ⟨by rfl, ?_⟩) trivial ?_
      rotate_left
      · intro W hW
        go_simp
        all_goals with_reducible rfl
      try simp only [Act.put, List.setIfInBounds_toArray, List.set_cons_zero, List.set_cons_succ]
      refine wpAnyH_ready (rs := [6, 7]) (by kernel_rfl) (by simp) ?_
      refine AllReadyH.cons (by rw [List.getElem?_toArray]; rfl) (fun K hK => ?_) (AllReadyH.cons (by rw [List.getElem?_toArray]; rfl) (fun K hK => ?_) AllReadyH.nil)
      · rw [if_pos (by rfl)]
        have c1 := C1.out
        go_wp2_with fail
        clear c1
        refine hK.out _ _ trivial (fun _ => ?_)
        clear hK K
        try simp only [Act.put, List.setIfInBounds_toArray, List.set_cons_zero, List.set_cons_succ]
        refine wpAnyH_ready (rs := [7]) (by kernel_rfl) (by simp) ?_
        refine AllReadyH.cons (by rw [List.getElem?_toArray]; rfl) (fun K hK => ?_) AllReadyH.nil
        rw [if_pos (by rfl)]
        have E7 := Lib.hid (own_empty w5d 5 1)
        have b7 : Below w5d.heap.size w5d (w5d.alloc (.cells #[] 5)) := (Below.refl _ _).alloc (Nat.le_refl _) _
        have Z7 : Hid ((w5d.alloc (.cells #[] 5)).heap.size = w5d.heap.size + 1) := by show _ = _; simp
        have B7 := Lib.hid b7
        have C7C1 : Hid ((w5d.alloc (.cells #[] 5)).cell? ⟨b, off + af * 2 + 1, none⟩ = some (.slice qb X.bs.length kb)) := (b7.cell HBL5.out).trans C1.out
        clear b7
        go_wp2_with fail
        obtain ⟨z7, hz7⟩ : ∃ z, w5d.heap.size = z := ⟨_, rfl⟩
        have HZ7 := Lib.hid hz7
        rw [hz7] at E7 ⊢
        generalize w5d.alloc (.cells #[] 5) = w7 at *
        clear hz7
        refine hK.out _ _ trivial (fun _ => ?_)
        clear hK K
        try simp only [Act.put, List.setIfInBounds_toArray, List.set_cons_zero, List.set_cons_succ]
        refine wpAnyH_ready (rs := [9]) (by kernel_rfl) (by simp) ?_
        refine AllReadyH.cons (by rw [List.getElem?_toArray]; rfl) (fun K hK => ?_) AllReadyH.nil
        rw [if_pos (by rfl)]
        refine wp_append_row _ _ rfl Try.underlying50 hi0.out hz0.out hz1.out hz2.out rfl E7.out (by have := (HV.out _ (B5.out.trans (B7.out.mono B5.out.size))).src (P := Try.prog) Try.underlying50; rw [HXL.out] at this; exact this) (by unfold maxLen; omega) (by omega) ?_
        intro q8 k8 w8 own8 grow8 fr8
        simp only [Nat.zero_add, List.nil_append] at own8 fr8 ⊢
        have b8 : Below w5d.heap.size w5d w8 := B7.out.grown grow8 B7.out.size (fun j hj => by
          have := HZ7.out
          have hj2 : (Value.slice (some ⟨z7, 0, none⟩) 0 0).ownBlock = some j := hj
          simp [Value.ownBlock] at hj2
          omega)
        have B8 := Lib.hid b8
        have R8 : Hid (RdF w8 (fun x => w5d.heap.size ≤ x) (.slice q8 xl k8) xs) := by
          refine ⟨rd_of_row own8, fun _ g hg => ?_⟩
          have h1 := HZ7.out
          have h2 := Z7.out
          rcases fr8 with e | e
          · have hj2 : (Value.slice (some ⟨z7, 0, none⟩) 0 0).ownBlock = some g := e.symm.trans hg
            simp [Value.ownBlock] at hj2
            omega
          · rw [e] at hg; simp at hg; omega
        have C8C1 : Hid (w8.cell? ⟨b, off + af * 2 + 1, none⟩ = some (.slice qb X.bs.length kb)) := (b8.cell HBL5.out).trans C1.out
        clear own8 grow8 fr8 b8 B7 E7 Z7
        refine hK.out _ _ trivial (fun _ => ?_)
        clear hK K
        try simp only [Act.put, List.setIfInBounds_toArray, List.set_cons_zero, List.set_cons_succ]
        refine wpAnyH_ready (rs := [10]) (by kernel_rfl) (by simp) ?_
        refine AllReadyH.cons (by rw [List.getElem?_toArray]; rfl) (fun K hK => ?_) AllReadyH.nil
        rw [if_pos (by rfl)]
        have ba : Below w8.heap.size w8 (w8.alloc (.cells #[.slice q8 xl k8] 50)) := (Below.refl _ _).alloc (Nat.le_refl _) _
        have b9 := B8.out.trans (ba.mono B8.out.size)
        have OB9 := Lib.hid (OB.out.on PBs_ok b9)
        have X9 : Hid (PBs (w8.alloc (.cells #[.slice q8 xl k8] 50)) (fun g => (w3.heap.size ≤ g ∧ g ≠ b) ∧ (Value.slice qb X.bs.length kb).ownBlock ≠ some g) xs [.slice q8 xl k8]) := by
          have h1 := R8.out.on ba
          refine ⟨q8, k8, by rw [HXL.out], ?_⟩
          rw [HXL.out]
          refine h1.mono (fun g hg => ⟨⟨?_, ?_⟩, fun e => ?_⟩)
          · have := O5.out.below.size; omega
          · have := HBL5.out; omega
          · have := own_lt OB.out.own e; omega
        have SR := Lib.hid (src_any (P := Try.prog) (T := 50) (n := 1) (w := w8) (R := [.slice q8 xl k8]) Try.underlying58 rfl (by simp [Value.oneCell']))
        have B9 := Lib.hid b9
        have C9C1 : Hid ((w8.alloc (.cells #[.slice q8 xl k8] 50)).cell? ⟨b, off + af * 2 + 1, none⟩ = some (.slice qb X.bs.length kb)) := (b9.cell HBL5.out).trans C1.out
        have O9 := Lib.hid (O5.out.on PBi_ok b9)
        have DS9 := Lib.hid (DS.out.on PMg_ok (by decide) b9)
        have HROW9 : Hid (rowOf (w8.alloc (.cells #[.slice q8 xl k8] 50)) b (off + af * 2) 2 = [.slice qd X.ds.length kd, .slice qb X.bs.length kb]) := (rowOf_agr (b9.block b HBL5.out)).trans HROW.out
        clear ba b9 R8 B8
        go_wp2_with fail
        generalize w8.alloc (.cells #[.slice q8 xl k8] 50) = w9 at *
        refine hK.out _ _ trivial (fun _ => ?_)
        clear hK K
        try simp only [Act.put, List.setIfInBounds_toArray, List.set_cons_zero, List.set_cons_succ]
        refine wpAnyH_ready (rs := [11]) (by kernel_rfl) (by simp) ?_
        refine AllReadyH.cons (by rw [List.getElem?_toArray]; rfl) (fun K hK => ?_) AllReadyH.nil
        rw [if_pos (by rfl)]
        have OW9 := Lib.hid OB9.out.own
        refine wp_append_row _ _ rfl Try.underlying58 hi1.out hz4.out hz5.out hz6.out rfl OW9.out SR.out (by have := HXS.out; unfold maxLen; omega) (by have := HXS.out; omega) ?_
        intro q10 k10 w10 own10 grow10 fr10
        have P10 := Lib.hid (OB9.out.grow PBs_ok (n := 1) rfl X9.out own10 grow10 fr10)
        obtain ⟨x1, x2⟩ := ad_cell O9.out rfl HOB.out (Nat.lt_of_le_of_lt (Nat.zero_le _) HBl.out) C9C1.out HNB.out grow10
        have X1 := Lib.hid x1
        have X2 := Lib.hid x2
        obtain ⟨RX, BX⟩ := ad_done O9.out APT.out HBl.out HXE.out rfl HOB.out HROW9.out DS9.out HG0.out grow10 P10.out
        have HAD : adB Ls af xs = (B.map Bi.x).set af ⟨X.ds, X.bs ++ [xs]⟩ := by
          have h1 : Ls.getD af bk0 = X := HXB.out
          unfold adB
          rw [h1, HBx.out]
        rw [← HAD] at RX
        have RX := Lib.hid RX
        have BX := Lib.hid BX
        clear HAD x1 x2 own10 grow10 fr10 OB9 X9 SR OW9 O9 DS9 HROW9 C9C1 B9 P10
        refine hK.out _ _ trivial (fun _ => ?_)
        clear hK K
        try simp only [Act.put, List.setIfInBounds_toArray, List.set_cons_zero, List.set_cons_succ]
        refine wpAnyH_take (i := 12) (v := ?_) (by rw [List.getElem?_toArray]; rfl) (by kernel_rfl) (by kernel_rfl) (by kernel_rfl) (by exact fun _ _ _ h => h) (Or.inl ⟨by rfl, ?_⟩) trivial ?_
        rotate_left
        · intro W hW
          go_simp
          all_goals with_reducible rfl
        try simp only [Act.put, List.setIfInBounds_toArray, List.set_cons_zero, List.set_cons_succ]
        refine wpAnyH_take (i := 13) (v := ?_) (by rw [List.getElem?_toArray]; rfl) (by kernel_rfl) (by kernel_rfl) (by kernel_rfl) (by exact fun _ _ _ h => h) (Or.inl ⟨by rfl, ?_⟩) trivial ?_
        rotate_left
        · intro W hW
          go_simp
          all_goals with_reducible rfl
        try simp only [Act.put, List.setIfInBounds_toArray, List.set_cons_zero, List.set_cons_succ]
        refine wpAnyH_ready (rs := [14]) (by kernel_rfl) (by simp) ?_
        refine AllReadyH.cons (by rw [List.getElem?_toArray]; rfl) (fun K hK => ?_) AllReadyH.nil
        rw [if_pos (by rfl)]
        have x1 := X1.out
        have x2 := X2.out
        go_wp2_with fail
        clear x1 x2 X1 X2
        generalize w10.setCell ⟨b, off + af * 2 + 1, none⟩ (.slice q10 (X.bs.length + 1) k10) = w11 at *
        refine hK.out _ _ trivial (fun _ => ?_)
        clear hK K
        try simp only [Act.put, List.setIfInBounds_toArray, List.set_cons_zero, List.set_cons_succ]
        refine wpAnyH_done (by kernel_rfl) ?_ _
        have KI := Inputs_w (c := c4) (n := N) (k := k) RX.out (adB_sw SM.out BX_.out (by have := HXL.out; omega)) (by rw [adB_len]; exact HL1.out)
        rw [adB_len, fInE_ad] at KI
        have e1 : fInL (adB Ls af xs) N k = fInL Ls N k := by rw [← HAFe.out]; exact fInL_ad n1 M2.out
        rw [e1] at KI
        have KI := Lib.hid KI
        clear e1 RX
        go_wp2_with fail
        refine KI.out.mono ?_
        rintro e w20 ⟨q20, c20, rfl, r20, b20⟩
        have bx := BX.out.trans (b20.mono BX.out.size)
        have R5' := Lib.hid (R5.out _ bx)
        have B20 := Lib.hid (B3_.out.trans (bx.mono B3_.out.size))
        have R20 := Lib.hid r20
        clear b20 r20 bx KI
        rw [fInE_z]
        have IOK := Lib.hid (fInL_ok SM.out N k)
        have ISH := Lib.hid (fInL_short SM.out N k)
        obtain ⟨I, hI⟩ : ∃ I, fInL Ls N k = I := ⟨_, rfl⟩
        rw [hI] at R5' R20 IOK ISH ⊢
        clear hI
        go_wp2_with fail
        refine (num14_any 0 _).mono ?_
        rintro e wz ⟨rfl, hwz⟩
        obtain rfl := hwz.symm
        clear hwz
        go_wp2_with fail
        refine (alike_any R5'.out R20.out IOK.out (Nat.le_trans ISH.out (by decide))).mono ?_
        rintro e w21 ⟨rfl, b21⟩
        have B21 := Lib.hid (B20.out.trans (b21.mono B20.out.size))
        clear b21
        go_wp2_with fail
        refine (KW.out _).mono ?_
        rintro e w22 ⟨rfl, b22⟩
        have B22 := Lib.hid (B21.out.trans (b22.mono B21.out.size))
        clear b22
        go_wp2_with fail
        go_ret
        exact ⟨rfl, B22.out⟩
      · rw [if_pos (by rfl)]
        have E7 := Lib.hid (own_empty w5d 5 1)
        have b7 : Below w5d.heap.size w5d (w5d.alloc (.cells #[] 5)) := (Below.refl _ _).alloc (Nat.le_refl _) _
        have Z7 : Hid ((w5d.alloc (.cells #[] 5)).heap.size = w5d.heap.size + 1) := by show _ = _; simp
        have B7 := Lib.hid b7
        have C7C1 : Hid ((w5d.alloc (.cells #[] 5)).cell? ⟨b, off + af * 2 + 1, none⟩ = some (.slice qb X.bs.length kb)) := (b7.cell HBL5.out).trans C1.out
        clear b7
        go_wp2_with fail
        obtain ⟨z7, hz7⟩ : ∃ z, w5d.heap.size = z := ⟨_, rfl⟩
        have HZ7 := Lib.hid hz7
        rw [hz7] at E7 ⊢
        generalize w5d.alloc (.cells #[] 5) = w7 at *
        clear hz7
        refine hK.out _ _ trivial (fun _ => ?_)
        clear hK K
        try simp only [Act.put, List.setIfInBounds_toArray, List.set_cons_zero, List.set_cons_succ]
        refine wpAnyH_ready (rs := [6, 9]) (by kernel_rfl) (by simp) ?_
        refine AllReadyH.cons (by rw [List.getElem?_toArray]; rfl) (fun K hK => ?_) (AllReadyH.cons (by rw [List.getElem?_toArray]; rfl) (fun K hK => ?_) AllReadyH.nil)
        · rw [if_pos (by rfl)]
          have c1 := C7C1.out
          go_wp2_with fail
          clear c1
          refine hK.out _ _ trivial (fun _ => ?_)
          clear hK K
          try simp only [Act.put, List.setIfInBounds_toArray, List.set_cons_zero, List.set_cons_succ]
          refine wpAnyH_ready (rs := [9]) (by kernel_rfl) (by simp) ?_
          refine AllReadyH.cons (by rw [List.getElem?_toArray]; rfl) (fun K hK => ?_) AllReadyH.nil
          rw [if_pos (by rfl)]
          refine wp_append_row _ _ rfl Try.underlying50 hi0.out hz0.out hz1.out hz2.out rfl E7.out (by have := (HV.out _ (B5.out.trans (B7.out.mono B5.out.size))).src (P := Try.prog) Try.underlying50; rw [HXL.out] at this; exact this) (by unfold maxLen; omega) (by omega) ?_
          intro q8 k8 w8 own8 grow8 fr8
          simp only [Nat.zero_add, List.nil_append] at own8 fr8 ⊢
          have b8 : Below w5d.heap.size w5d w8 := B7.out.grown grow8 B7.out.size (fun j hj => by
            have := HZ7.out
            have hj2 : (Value.slice (some ⟨z7, 0, none⟩) 0 0).ownBlock = some j := hj
            simp [Value.ownBlock] at hj2
            omega)
          have B8 := Lib.hid b8
          have R8 : Hid (RdF w8 (fun x => w5d.heap.size ≤ x) (.slice q8 xl k8) xs) := by
            refine ⟨rd_of_row own8, fun _ g hg => ?_⟩
            have h1 := HZ7.out
            have h2 := Z7.out
            rcases fr8 with e | e
            · have hj2 : (Value.slice (some ⟨z7, 0, none⟩) 0 0).ownBlock = some g := e.symm.trans hg
              simp [Value.ownBlock] at hj2
              omega
            · rw [e] at hg; simp at hg; omega
          have C8C1 : Hid (w8.cell? ⟨b, off + af * 2 + 1, none⟩ = some (.slice qb X.bs.length kb)) := (b8.cell HBL5.out).trans C1.out
          clear own8 grow8 fr8 b8 B7 E7 Z7
          refine hK.out _ _ trivial (fun _ => ?_)
          clear hK K
          try simp only [Act.put, List.setIfInBounds_toArray, List.set_cons_zero, List.set_cons_succ]
          refine wpAnyH_ready (rs := [10]) (by kernel_rfl) (by simp) ?_
          refine AllReadyH.cons (by rw [List.getElem?_toArray]; rfl) (fun K hK => ?_) AllReadyH.nil
          rw [if_pos (by rfl)]
          have ba : Below w8.heap.size w8 (w8.alloc (.cells #[.slice q8 xl k8] 50)) := (Below.refl _ _).alloc (Nat.le_refl _) _
          have b9 := B8.out.trans (ba.mono B8.out.size)
          have OB9 := Lib.hid (OB.out.on PBs_ok b9)
          have X9 : Hid (PBs (w8.alloc (.cells #[.slice q8 xl k8] 50)) (fun g => (w3.heap.size ≤ g ∧ g ≠ b) ∧ (Value.slice qb X.bs.length kb).ownBlock ≠ some g) xs [.slice q8 xl k8]) := by
            have h1 := R8.out.on ba
            refine ⟨q8, k8, by rw [HXL.out], ?_⟩
            rw [HXL.out]
            refine h1.mono (fun g hg => ⟨⟨?_, ?_⟩, fun e => ?_⟩)
            · have := O5.out.below.size; omega
            · have := HBL5.out; omega
            · have := own_lt OB.out.own e; omega
          have SR := Lib.hid (src_any (P := Try.prog) (T := 50) (n := 1) (w := w8) (R := [.slice q8 xl k8]) Try.underlying58 rfl (by simp [Value.oneCell']))
          have B9 := Lib.hid b9
          have C9C1 : Hid ((w8.alloc (.cells #[.slice q8 xl k8] 50)).cell? ⟨b, off + af * 2 + 1, none⟩ = some (.slice qb X.bs.length kb)) := (b9.cell HBL5.out).trans C1.out
          have O9 := Lib.hid (O5.out.on PBi_ok b9)
          have DS9 := Lib.hid (DS.out.on PMg_ok (by decide) b9)
          have HROW9 : Hid (rowOf (w8.alloc (.cells #[.slice q8 xl k8] 50)) b (off + af * 2) 2 = [.slice qd X.ds.length kd, .slice qb X.bs.length kb]) := (rowOf_agr (b9.block b HBL5.out)).trans HROW.out
          clear ba b9 R8 B8
          go_wp2_with fail
          generalize w8.alloc (.cells #[.slice q8 xl k8] 50) = w9 at *
          refine hK.out _ _ trivial (fun _ => ?_)
          clear hK K
          try simp only [Act.put, List.setIfInBounds_toArray, List.set_cons_zero, List.set_cons_succ]
          refine wpAnyH_ready (rs := [11]) (by kernel_rfl) (by simp) ?_
          refine AllReadyH.cons (by rw [List.getElem?_toArray]; rfl) (fun K hK => ?_) AllReadyH.nil
          rw [if_pos (by rfl)]
          have OW9 := Lib.hid OB9.out.own
          refine wp_append_row _ _ rfl Try.underlying58 hi1.out hz4.out hz5.out hz6.out rfl OW9.out SR.out (by have := HXS.out; unfold maxLen; omega) (by have := HXS.out; omega) ?_
          intro q10 k10 w10 own10 grow10 fr10
          have P10 := Lib.hid (OB9.out.grow PBs_ok (n := 1) rfl X9.out own10 grow10 fr10)
          obtain ⟨x1, x2⟩ := ad_cell O9.out rfl HOB.out (Nat.lt_of_le_of_lt (Nat.zero_le _) HBl.out) C9C1.out HNB.out grow10
          have X1 := Lib.hid x1
          have X2 := Lib.hid x2
          obtain ⟨RX, BX⟩ := ad_done O9.out APT.out HBl.out HXE.out rfl HOB.out HROW9.out DS9.out HG0.out grow10 P10.out
          have HAD : adB Ls af xs = (B.map Bi.x).set af ⟨X.ds, X.bs ++ [xs]⟩ := by
            have h1 : Ls.getD af bk0 = X := HXB.out
            unfold adB
            rw [h1, HBx.out]
          rw [← HAD] at RX
          have RX := Lib.hid RX
          have BX := Lib.hid BX
          clear HAD x1 x2 own10 grow10 fr10 OB9 X9 SR OW9 O9 DS9 HROW9 C9C1 B9 P10
          refine hK.out _ _ trivial (fun _ => ?_)
          clear hK K
          try simp only [Act.put, List.setIfInBounds_toArray, List.set_cons_zero, List.set_cons_succ]
          refine wpAnyH_take (i := 12) (v := ?_) (by rw [List.getElem?_toArray]; rfl) (by kernel_rfl) (by kernel_rfl) (by kernel_rfl) (by exact fun _ _ _ h => h) (Or.inl ⟨by rfl, ?_⟩) trivial ?_
          rotate_left
          · intro W hW
            go_simp
            all_goals with_reducible rfl
          try simp only [Act.put, List.setIfInBounds_toArray, List.set_cons_zero, List.set_cons_succ]
          refine wpAnyH_take (i := 13) (v := ?_) (by rw [List.getElem?_toArray]; rfl) (by kernel_rfl) (by kernel_rfl) (by kernel_rfl) (by exact fun _ _ _ h => h) (Or.inl ⟨by rfl, ?_⟩) trivial ?_
          rotate_left
          · intro W hW
            go_simp
            all_goals with_reducible rfl
          try simp only [Act.put, List.setIfInBounds_toArray, List.set_cons_zero, List.set_cons_succ]
          refine wpAnyH_ready (rs := [14]) (by kernel_rfl) (by simp) ?_
          refine AllReadyH.cons (by rw [List.getElem?_toArray]; rfl) (fun K hK => ?_) AllReadyH.nil
          rw [if_pos (by rfl)]
          have x1 := X1.out
          have x2 := X2.out
          go_wp2_with fail
          clear x1 x2 X1 X2
          generalize w10.setCell ⟨b, off + af * 2 + 1, none⟩ (.slice q10 (X.bs.length + 1) k10) = w11 at *
          refine hK.out _ _ trivial (fun _ => ?_)
          clear hK K
          try simp only [Act.put, List.setIfInBounds_toArray, List.set_cons_zero, List.set_cons_succ]
          refine wpAnyH_done (by kernel_rfl) ?_ _
          have KI := Inputs_w (c := c4) (n := N) (k := k) RX.out (adB_sw SM.out BX_.out (by have := HXL.out; omega)) (by rw [adB_len]; exact HL1.out)
          rw [adB_len, fInE_ad] at KI
          have e1 : fInL (adB Ls af xs) N k = fInL Ls N k := by rw [← HAFe.out]; exact fInL_ad n1 M2.out
          rw [e1] at KI
          have KI := Lib.hid KI
          clear e1 RX
          go_wp2_with fail
          refine KI.out.mono ?_
          rintro e w20 ⟨q20, c20, rfl, r20, b20⟩
          have bx := BX.out.trans (b20.mono BX.out.size)
          have R5' := Lib.hid (R5.out _ bx)
          have B20 := Lib.hid (B3_.out.trans (bx.mono B3_.out.size))
          have R20 := Lib.hid r20
          clear b20 r20 bx KI
          rw [fInE_z]
          have IOK := Lib.hid (fInL_ok SM.out N k)
          have ISH := Lib.hid (fInL_short SM.out N k)
          obtain ⟨I, hI⟩ : ∃ I, fInL Ls N k = I := ⟨_, rfl⟩
          rw [hI] at R5' R20 IOK ISH ⊢
          clear hI
          go_wp2_with fail
          refine (num14_any 0 _).mono ?_
          rintro e wz ⟨rfl, hwz⟩
          obtain rfl := hwz.symm
          clear hwz
          go_wp2_with fail
          refine (alike_any R5'.out R20.out IOK.out (Nat.le_trans ISH.out (by decide))).mono ?_
          rintro e w21 ⟨rfl, b21⟩
          have B21 := Lib.hid (B20.out.trans (b21.mono B20.out.size))
          clear b21
          go_wp2_with fail
          refine (KW.out _).mono ?_
          rintro e w22 ⟨rfl, b22⟩
          have B22 := Lib.hid (B21.out.trans (b22.mono B21.out.size))
          clear b22
          go_wp2_with fail
          go_ret
          exact ⟨rfl, B22.out⟩
        · rw [if_pos (by rfl)]
          refine wp_append_row _ _ rfl Try.underlying50 hi0.out hz0.out hz1.out hz2.out rfl E7.out (by have := (HV.out _ (B5.out.trans (B7.out.mono B5.out.size))).src (P := Try.prog) Try.underlying50; rw [HXL.out] at this; exact this) (by unfold maxLen; omega) (by omega) ?_
          intro q8 k8 w8 own8 grow8 fr8
          simp only [Nat.zero_add, List.nil_append] at own8 fr8 ⊢
          have b8 : Below w5d.heap.size w5d w8 := B7.out.grown grow8 B7.out.size (fun j hj => by
            have := HZ7.out
            have hj2 : (Value.slice (some ⟨z7, 0, none⟩) 0 0).ownBlock = some j := hj
            simp [Value.ownBlock] at hj2
            omega)
          have B8 := Lib.hid b8
          have R8 : Hid (RdF w8 (fun x => w5d.heap.size ≤ x) (.slice q8 xl k8) xs) := by
            refine ⟨rd_of_row own8, fun _ g hg => ?_⟩
            have h1 := HZ7.out
            have h2 := Z7.out
            rcases fr8 with e | e
            · have hj2 : (Value.slice (some ⟨z7, 0, none⟩) 0 0).ownBlock = some g := e.symm.trans hg
              simp [Value.ownBlock] at hj2
              omega
            · rw [e] at hg; simp at hg; omega
          have C8C1 : Hid (w8.cell? ⟨b, off + af * 2 + 1, none⟩ = some (.slice qb X.bs.length kb)) := (b8.cell HBL5.out).trans C1.out
          clear own8 grow8 fr8 b8 B7 E7 Z7
          refine hK.out _ _ trivial (fun _ => ?_)
          clear hK K
          try simp only [Act.put, List.setIfInBounds_toArray, List.set_cons_zero, List.set_cons_succ]
          refine wpAnyH_ready (rs := [6, 10]) (by kernel_rfl) (by simp) ?_
          refine AllReadyH.cons (by rw [List.getElem?_toArray]; rfl) (fun K hK => ?_) (AllReadyH.cons (by rw [List.getElem?_toArray]; rfl) (fun K hK => ?_) AllReadyH.nil)
          · rw [if_pos (by rfl)]
            have c1 := C8C1.out
            go_wp2_with fail
            clear c1
            refine hK.out _ _ trivial (fun _ => ?_)
            clear hK K
            try simp only [Act.put, List.setIfInBounds_toArray, List.set_cons_zero, List.set_cons_succ]
            refine wpAnyH_ready (rs := [10]) (by kernel_rfl) (by simp) ?_
            refine AllReadyH.cons (by rw [List.getElem?_toArray]; rfl) (fun K hK => ?_) AllReadyH.nil
            rw [if_pos (by rfl)]
            have ba : Below w8.heap.size w8 (w8.alloc (.cells #[.slice q8 xl k8] 50)) := (Below.refl _ _).alloc (Nat.le_refl _) _
            have b9 := B8.out.trans (ba.mono B8.out.size)
            have OB9 := Lib.hid (OB.out.on PBs_ok b9)
            have X9 : Hid (PBs (w8.alloc (.cells #[.slice q8 xl k8] 50)) (fun g => (w3.heap.size ≤ g ∧ g ≠ b) ∧ (Value.slice qb X.bs.length kb).ownBlock ≠ some g) xs [.slice q8 xl k8]) := by
              have h1 := R8.out.on ba
              refine ⟨q8, k8, by rw [HXL.out], ?_⟩
              rw [HXL.out]
              refine h1.mono (fun g hg => ⟨⟨?_, ?_⟩, fun e => ?_⟩)
              · have := O5.out.below.size; omega
              · have := HBL5.out; omega
              · have := own_lt OB.out.own e; omega
            have SR := Lib.hid (src_any (P := Try.prog) (T := 50) (n := 1) (w := w8) (R := [.slice q8 xl k8]) Try.underlying58 rfl (by simp [Value.oneCell']))
            have B9 := Lib.hid b9
            have C9C1 : Hid ((w8.alloc (.cells #[.slice q8 xl k8] 50)).cell? ⟨b, off + af * 2 + 1, none⟩ = some (.slice qb X.bs.length kb)) := (b9.cell HBL5.out).trans C1.out
            have O9 := Lib.hid (O5.out.on PBi_ok b9)
            have DS9 := Lib.hid (DS.out.on PMg_ok (by decide) b9)
            have HROW9 : Hid (rowOf (w8.alloc (.cells #[.slice q8 xl k8] 50)) b (off + af * 2) 2 = [.slice qd X.ds.length kd, .slice qb X.bs.length kb]) := (rowOf_agr (b9.block b HBL5.out)).trans HROW.out
            clear ba b9 R8 B8
            go_wp2_with fail
            generalize w8.alloc (.cells #[.slice q8 xl k8] 50) = w9 at *
            refine hK.out _ _ trivial (fun _ => ?_)
            clear hK K
            try simp only [Act.put, List.setIfInBounds_toArray, List.set_cons_zero, List.set_cons_succ]
            refine wpAnyH_ready (rs := [11]) (by kernel_rfl) (by simp) ?_
            refine AllReadyH.cons (by rw [List.getElem?_toArray]; rfl) (fun K hK => ?_) AllReadyH.nil
            rw [if_pos (by rfl)]
            have OW9 := Lib.hid OB9.out.own
            refine wp_append_row _ _ rfl Try.underlying58 hi1.out hz4.out hz5.out hz6.out rfl OW9.out SR.out (by have := HXS.out; unfold maxLen; omega) (by have := HXS.out; omega) ?_
            intro q10 k10 w10 own10 grow10 fr10
            have P10 := Lib.hid (OB9.out.grow PBs_ok (n := 1) rfl X9.out own10 grow10 fr10)
            obtain ⟨x1, x2⟩ := ad_cell O9.out rfl HOB.out (Nat.lt_of_le_of_lt (Nat.zero_le _) HBl.out) C9C1.out HNB.out grow10
            have X1 := Lib.hid x1
            have X2 := Lib.hid x2
            obtain ⟨RX, BX⟩ := ad_done O9.out APT.out HBl.out HXE.out rfl HOB.out HROW9.out DS9.out HG0.out grow10 P10.out
            have HAD : adB Ls af xs = (B.map Bi.x).set af ⟨X.ds, X.bs ++ [xs]⟩ := by
              have h1 : Ls.getD af bk0 = X := HXB.out
              unfold adB
              rw [h1, HBx.out]
            rw [← HAD] at RX
            have RX := Lib.hid RX
            have BX := Lib.hid BX
            clear HAD x1 x2 own10 grow10 fr10 OB9 X9 SR OW9 O9 DS9 HROW9 C9C1 B9 P10
            refine hK.out _ _ trivial (fun _ => ?_)
            clear hK K
            try simp only [Act.put, List.setIfInBounds_toArray, List.set_cons_zero, List.set_cons_succ]
            refine wpAnyH_take (i := 12) (v := ?_) (by rw [List.getElem?_toArray]; rfl) (by kernel_rfl) (by kernel_rfl) (by kernel_rfl) (by exact fun _ _ _ h => h) (Or.inl ⟨by rfl, ?_⟩) trivial ?_
            rotate_left
            · intro W hW
              go_simp
              all_goals with_reducible rfl
            try simp only [Act.put, List.setIfInBounds_toArray, List.set_cons_zero, List.set_cons_succ]
            refine wpAnyH_take (i := 13) (v := ?_) (by rw [List.getElem?_toArray]; rfl) (by kernel_rfl) (by kernel_rfl) (by kernel_rfl) (by exact fun _ _ _ h => h) (Or.inl ⟨by rfl, ?_⟩) trivial ?_
            rotate_left
            · intro W hW
              go_simp
              all_goals with_reducible rfl
            try simp only [Act.put, List.setIfInBounds_toArray, List.set_cons_zero, List.set_cons_succ]
            refine wpAnyH_ready (rs := [14]) (by kernel_rfl) (by simp) ?_
            refine AllReadyH.cons (by rw [List.getElem?_toArray]; rfl) (fun K hK => ?_) AllReadyH.nil
            rw [if_pos (by rfl)]
            have x1 := X1.out
            have x2 := X2.out
            go_wp2_with fail
            clear x1 x2 X1 X2
            generalize w10.setCell ⟨b, off + af * 2 + 1, none⟩ (.slice q10 (X.bs.length + 1) k10) = w11 at *
            refine hK.out _ _ trivial (fun _ => ?_)
            clear hK K
            try simp only [Act.put, List.setIfInBounds_toArray, List.set_cons_zero, List.set_cons_succ]
            refine wpAnyH_done (by kernel_rfl) ?_ _
            have KI := Inputs_w (c := c4) (n := N) (k := k) RX.out (adB_sw SM.out BX_.out (by have := HXL.out; omega)) (by rw [adB_len]; exact HL1.out)
            rw [adB_len, fInE_ad] at KI
            have e1 : fInL (adB Ls af xs) N k = fInL Ls N k := by rw [← HAFe.out]; exact fInL_ad n1 M2.out
            rw [e1] at KI
            have KI := Lib.hid KI
            clear e1 RX
            go_wp2_with fail
            refine KI.out.mono ?_
            rintro e w20 ⟨q20, c20, rfl, r20, b20⟩
            have bx := BX.out.trans (b20.mono BX.out.size)
            have R5' := Lib.hid (R5.out _ bx)
            have B20 := Lib.hid (B3_.out.trans (bx.mono B3_.out.size))
            have R20 := Lib.hid r20
            clear b20 r20 bx KI
            rw [fInE_z]
            have IOK := Lib.hid (fInL_ok SM.out N k)
            have ISH := Lib.hid (fInL_short SM.out N k)
            obtain ⟨I, hI⟩ : ∃ I, fInL Ls N k = I := ⟨_, rfl⟩
            rw [hI] at R5' R20 IOK ISH ⊢
            clear hI
            go_wp2_with fail
            refine (num14_any 0 _).mono ?_
            rintro e wz ⟨rfl, hwz⟩
            obtain rfl := hwz.symm
            clear hwz
            go_wp2_with fail
            refine (alike_any R5'.out R20.out IOK.out (Nat.le_trans ISH.out (by decide))).mono ?_
            rintro e w21 ⟨rfl, b21⟩
            have B21 := Lib.hid (B20.out.trans (b21.mono B20.out.size))
            clear b21
            go_wp2_with fail
            refine (KW.out _).mono ?_
            rintro e w22 ⟨rfl, b22⟩
            have B22 := Lib.hid (B21.out.trans (b22.mono B21.out.size))
            clear b22
            go_wp2_with fail
            go_ret
            exact ⟨rfl, B22.out⟩
          · rw [if_pos (by rfl)]
            have ba : Below w8.heap.size w8 (w8.alloc (.cells #[.slice q8 xl k8] 50)) := (Below.refl _ _).alloc (Nat.le_refl _) _
            have b9 := B8.out.trans (ba.mono B8.out.size)
            have OB9 := Lib.hid (OB.out.on PBs_ok b9)
            have X9 : Hid (PBs (w8.alloc (.cells #[.slice q8 xl k8] 50)) (fun g => (w3.heap.size ≤ g ∧ g ≠ b) ∧ (Value.slice qb X.bs.length kb).ownBlock ≠ some g) xs [.slice q8 xl k8]) := by
              have h1 := R8.out.on ba
              refine ⟨q8, k8, by rw [HXL.out], ?_⟩
              rw [HXL.out]
              refine h1.mono (fun g hg => ⟨⟨?_, ?_⟩, fun e => ?_⟩)
              · have := O5.out.below.size; omega
              · have := HBL5.out; omega
              · have := own_lt OB.out.own e; omega
            have SR := Lib.hid (src_any (P := Try.prog) (T := 50) (n := 1) (w := w8) (R := [.slice q8 xl k8]) Try.underlying58 rfl (by simp [Value.oneCell']))
            have B9 := Lib.hid b9
            have C9C1 : Hid ((w8.alloc (.cells #[.slice q8 xl k8] 50)).cell? ⟨b, off + af * 2 + 1, none⟩ = some (.slice qb X.bs.length kb)) := (b9.cell HBL5.out).trans C1.out
            have O9 := Lib.hid (O5.out.on PBi_ok b9)
            have DS9 := Lib.hid (DS.out.on PMg_ok (by decide) b9)
            have HROW9 : Hid (rowOf (w8.alloc (.cells #[.slice q8 xl k8] 50)) b (off + af * 2) 2 = [.slice qd X.ds.length kd, .slice qb X.bs.length kb]) := (rowOf_agr (b9.block b HBL5.out)).trans HROW.out
            clear ba b9 R8 B8
            go_wp2_with fail
            generalize w8.alloc (.cells #[.slice q8 xl k8] 50) = w9 at *
            refine hK.out _ _ trivial (fun _ => ?_)
            clear hK K
            try simp only [Act.put, List.setIfInBounds_toArray, List.set_cons_zero, List.set_cons_succ]
            refine wpAnyH_ready (rs := [6]) (by kernel_rfl) (by simp) ?_
            refine AllReadyH.cons (by rw [List.getElem?_toArray]; rfl) (fun K hK => ?_) AllReadyH.nil
            rw [if_pos (by rfl)]
            have c1 := C9C1.out
            go_wp2_with fail
            clear c1
            refine hK.out _ _ trivial (fun _ => ?_)
            clear hK K
            try simp only [Act.put, List.setIfInBounds_toArray, List.set_cons_zero, List.set_cons_succ]
            refine wpAnyH_ready (rs := [11]) (by kernel_rfl) (by simp) ?_
            refine AllReadyH.cons (by rw [List.getElem?_toArray]; rfl) (fun K hK => ?_) AllReadyH.nil
            rw [if_pos (by rfl)]
            have OW9 := Lib.hid OB9.out.own
            refine wp_append_row _ _ rfl Try.underlying58 hi1.out hz4.out hz5.out hz6.out rfl OW9.out SR.out (by have := HXS.out; unfold maxLen; omega) (by have := HXS.out; omega) ?_
            intro q10 k10 w10 own10 grow10 fr10
            have P10 := Lib.hid (OB9.out.grow PBs_ok (n := 1) rfl X9.out own10 grow10 fr10)
            obtain ⟨x1, x2⟩ := ad_cell O9.out rfl HOB.out (Nat.lt_of_le_of_lt (Nat.zero_le _) HBl.out) C9C1.out HNB.out grow10
            have X1 := Lib.hid x1
            have X2 := Lib.hid x2
            obtain ⟨RX, BX⟩ := ad_done O9.out APT.out HBl.out HXE.out rfl HOB.out HROW9.out DS9.out HG0.out grow10 P10.out
            have HAD : adB Ls af xs = (B.map Bi.x).set af ⟨X.ds, X.bs ++ [xs]⟩ := by
              have h1 : Ls.getD af bk0 = X := HXB.out
              unfold adB
              rw [h1, HBx.out]
            rw [← HAD] at RX
            have RX := Lib.hid RX
            have BX := Lib.hid BX
            clear HAD x1 x2 own10 grow10 fr10 OB9 X9 SR OW9 O9 DS9 HROW9 C9C1 B9 P10
            refine hK.out _ _ trivial (fun _ => ?_)
            clear hK K
            try simp only [Act.put, List.setIfInBounds_toArray, List.set_cons_zero, List.set_cons_succ]
            refine wpAnyH_take (i := 12) (v := ?_) (by rw [List.getElem?_toArray]; rfl) (by kernel_rfl) (by kernel_rfl) (by kernel_rfl) (by exact fun _ _ _ h => h) (Or.inl ⟨by rfl, ?_⟩) trivial ?_
            rotate_left
            · intro W hW
              go_simp
              all_goals with_reducible rfl
            try simp only [Act.put, List.setIfInBounds_toArray, List.set_cons_zero, List.set_cons_succ]
            refine wpAnyH_take (i := 13) (v := ?_) (by rw [List.getElem?_toArray]; rfl) (by kernel_rfl) (by kernel_rfl) (by kernel_rfl) (by exact fun _ _ _ h => h) (Or.inl ⟨by rfl, ?_⟩) trivial ?_
            rotate_left
            · intro W hW
              go_simp
              all_goals with_reducible rfl
            try simp only [Act.put, List.setIfInBounds_toArray, List.set_cons_zero, List.set_cons_succ]
            refine wpAnyH_ready (rs := [14]) (by kernel_rfl) (by simp) ?_
            refine AllReadyH.cons (by rw [List.getElem?_toArray]; rfl) (fun K hK => ?_) AllReadyH.nil
            rw [if_pos (by rfl)]
            have x1 := X1.out
            have x2 := X2.out
            go_wp2_with fail
            clear x1 x2 X1 X2
            generalize w10.setCell ⟨b, off + af * 2 + 1, none⟩ (.slice q10 (X.bs.length + 1) k10) = w11 at *
            refine hK.out _ _ trivial (fun _ => ?_)
            clear hK K
            try simp only [Act.put, List.setIfInBounds_toArray, List.set_cons_zero, List.set_cons_succ]
            refine wpAnyH_done (by kernel_rfl) ?_ _
            have KI := Inputs_w (c := c4) (n := N) (k := k) RX.out (adB_sw SM.out BX_.out (by have := HXL.out; omega)) (by rw [adB_len]; exact HL1.out)
            rw [adB_len, fInE_ad] at KI
            have e1 : fInL (adB Ls af xs) N k = fInL Ls N k := by rw [← HAFe.out]; exact fInL_ad n1 M2.out
            rw [e1] at KI
            have KI := Lib.hid KI
            clear e1 RX
            go_wp2_with fail
            refine KI.out.mono ?_
            rintro e w20 ⟨q20, c20, rfl, r20, b20⟩
            have bx := BX.out.trans (b20.mono BX.out.size)
            have R5' := Lib.hid (R5.out _ bx)
            have B20 := Lib.hid (B3_.out.trans (bx.mono B3_.out.size))
            have R20 := Lib.hid r20
            clear b20 r20 bx KI
            rw [fInE_z]
            have IOK := Lib.hid (fInL_ok SM.out N k)
            have ISH := Lib.hid (fInL_short SM.out N k)
            obtain ⟨I, hI⟩ : ∃ I, fInL Ls N k = I := ⟨_, rfl⟩
            rw [hI] at R5' R20 IOK ISH ⊢
            clear hI
            go_wp2_with fail
            refine (num14_any 0 _).mono ?_
            rintro e wz ⟨rfl, hwz⟩
            obtain rfl := hwz.symm
            clear hwz
            go_wp2_with fail
            refine (alike_any R5'.out R20.out IOK.out (Nat.le_trans ISH.out (by decide))).mono ?_
            rintro e w21 ⟨rfl, b21⟩
            have B21 := Lib.hid (B20.out.trans (b21.mono B20.out.size))
            clear b21
            go_wp2_with fail
            refine (KW.out _).mono ?_
            rintro e w22 ⟨rfl, b22⟩
            have B22 := Lib.hid (B21.out.trans (b22.mono B21.out.size))
            clear b22
            go_wp2_with fail
            go_ret
            exact ⟨rfl, B22.out⟩
    · have al1 : decide ((af : Int) < (Ls.length : Int)) = false := decide_eq_false (by omega)
      have RX5 := Lib.hid ((O5.out.rd PBi_ok (fun g hg => hg)).bks)
      rw [HBx.out] at RX5
      go_wp2_with fail
      refine (Inputs_any (n := N) (k := k) RX5.out SM.out HL1.out).mono ?_
      rintro e w20 ⟨q20, c20, rfl, r20, b20⟩
      have R5' := Lib.hid (R5.out _ (Y5.out.trans (b20.mono Y5.out.size)))
      have B20 := Lib.hid (B5.out.trans (b20.mono B5.out.size))
      have R20 := Lib.hid r20
      clear b20 r20
      rw [fInE_z]
      have IOK := Lib.hid (fInL_ok SM.out N k)
      have ISH := Lib.hid (fInL_short SM.out N k)
      obtain ⟨I, hI⟩ : ∃ I, fInL Ls N k = I := ⟨_, rfl⟩
      rw [hI] at R5' R20 IOK ISH ⊢
      clear hI
      go_wp2_with fail
      refine (num14_any 0 _).mono ?_
      rintro e wz ⟨rfl, hwz⟩
      obtain rfl := hwz.symm
      clear hwz
      go_wp2_with fail
      refine (alike_any R5'.out R20.out IOK.out (Nat.le_trans ISH.out (by decide))).mono ?_
      rintro e w21 ⟨rfl, b21⟩
      have B21 := Lib.hid (B20.out.trans (b21.mono B20.out.size))
      clear b21
      go_wp2_with fail
      refine (KW.out _).mono ?_
      rintro e w22 ⟨rfl, b22⟩
      have B22 := Lib.hid (B21.out.trans (b22.mono B21.out.size))
      clear b22
      go_wp2_with fail
      go_ret
      exact ⟨rfl, B22.out⟩
  | some p =>
    obtain ⟨b, i⟩ := p
    obtain ⟨x1, x2⟩ := HAT.out b i rfl
    obtain ⟨a, rfl⟩ : ∃ a, b = a + 1 := ⟨b - 1, by omega⟩
    have HA : Hid (af = a) := HAF.out
    obtain rfl := HA.out
    clear HA HAF HAT
    have hBe : foB (some (af + 1, i)) = (af : Int) + 1 := by simp [foB]
    have hIe : foI (some (af + 1, i)) = (i : Int) := rfl
    rw [hBe, hIe]
    clear hBe hIe
    have wa0 : IntKind.i64.wrap ((af : Int) + 1 - 1) = (af : Int) := by
      rw [show (af : Int) + 1 - 1 = (af : Int) by omega]; exact IntWalk.i64_in _ (by omega)
    have ge1 : decide ((af : Int) ≥ 0) = true := decide_eq_true (by omega)
    have ge2 : decide (0 ≤ (af : Int)) = true := ge1
    have ge3 : (0 : Int) ≤ (af : Int) := by omega
    have hal : af < Ls.length := by omega
    have al1 : decide ((af : Int) < (Ls.length : Int)) = true := decide_eq_true (by omega)
    go_upto_region 13 with fail
    have hBl : af < B.length := by rw [HBL.out]; exact hal
    rcases O5.out.rows PBi_ok with h0 | ⟨b, off, rfl, hob, hx⟩
    · exact absurd hBl (by rw [h0]; simp)
    obtain ⟨r, hr2, hrow, hp⟩ := hx af hBl
    obtain ⟨X, hXe⟩ : ∃ X, B.getD af bi0 = X := ⟨_, rfl⟩
    rw [hXe] at hp HXB
    obtain ⟨X, lo, hi⟩ := X
    obtain ⟨⟨qd, kd, qb, kb, rfl, hds, hbs⟩, hiv⟩ := hp
    have hbl : b < w5.heap.size := own_lt O5.out.own hob
    have c1w := row_cell hrow hr2 (j := 1) (v := .slice qb X.bs.length kb) rfl
    have hg0 : ∀ g, (Value.slice qb X.bs.length kb).ownBlock = some g → lo ≤ g ∧ g < hi := hbs.on'
    have hnb : (Value.slice qb X.bs.length kb).ownBlock ≠ some b := fun e => (hiv b (hg0 b e).1 (hg0 b e).2).1.2 hob
    obtain ⟨vs, OB⟩ := hbs.owf (w3 := w3) (G := fun g => w3.heap.size ≤ g ∧ g ≠ b) Y5.out (fun g hg => ⟨(hiv g hg.1 hg.2).1.1, (hiv g hg.1 hg.2).1.1, fun e => (hiv g hg.1 hg.2).1.2 (by rw [e]; exact hob)⟩)
    have hXs := (SM.out.get af).bs
    have hXB' : Ls.getD af bk0 = X := HXB.out
    rw [hXB'] at hXs
    have hb5 : Below w5.heap.size w5 w5.drew := (Below.refl _ _).drew
    have O5 := Lib.hid (O5.out.on PBi_ok hb5)
    have OB := Lib.hid (OB.on PBs_ok hb5)
    have DS := Lib.hid (hds.on PMg_ok (by decide) hb5)
    have HROW : Hid (rowOf w5.drew b (off + af * 2) 2 = [.slice qd X.ds.length kd, .slice qb X.bs.length kb]) := hrow
    have B5 := Lib.hid (B5.out.trans (hb5.mono B5.out.size))
    have HBL5 : Hid (b < w5.drew.heap.size) := hbl
    have C1 : Hid (w5.drew.cell? ⟨b, off + af * 2 + 1, none⟩ = some (.slice qb X.bs.length kb)) := c1w
    have HG0 := Lib.hid hg0
    have HNB := Lib.hid hnb
    have HOB := Lib.hid hob
    have HIV := Lib.hid hiv
    have HXE := Lib.hid hXe
    have HBl := Lib.hid hBl
    have HXS := Lib.hid hXs
    clear hBl hx hrow hr2 hds hbs hbl c1w hg0 hnb hob hiv hXe hXs hXB' hb5 Y5
    obtain ⟨i0, hi0, hz0, hz1, hz2⟩ := info_parts Try.infoU8
    obtain ⟨i1, hi1, hz4, hz5, hz6⟩ := info_parts Try.infoBsl
    replace hi0 := Lib.hid hi0
    replace hz0 := Lib.hid hz0
    replace hz1 := Lib.hid hz1
    replace hz2 := Lib.hid hz2
    replace hi1 := Lib.hid hi1
    replace hz4 := Lib.hid hz4
    replace hz5 := Lib.hid hz5
    replace hz6 := Lib.hid hz6
    refine wp_region_held_drew (S := fun _ => True) (by kernel_rfl) (trivial) (fun h0 => ?_)
    generalize w5.drew = w5d at *
    refine wpAnyH_take (i := 0) (v := ?_) (by rw [List.getElem?_toArray]; rfl) (by kernel_rfl) (by kernel_rfl) (by kernel_rfl) (by exact fun _ _ _ h => h) (Or.inl ⟨by rfl, ?_⟩) trivial ?_
    rotate_left
    · intro W hW
      go_simp
      all_goals with_reducible rfl
    try simp only [Act.put, List.setIfInBounds_toArray, List.set_cons_zero, List.set_cons_succ]
    refine wpAnyH_take (i := 1) (v := ?_) (by rw [List.getElem?_toArray]; rfl) (by kernel_rfl) (by kernel_rfl) (by kernel_rfl) (by exact fun _ _ _ h => h) (Or.inl ⟨by rfl, ?_⟩) trivial ?_
    rotate_left
    · intro W hW
      go_simp
      all_goals with_reducible rfl
    try simp only [Act.put, List.setIfInBounds_toArray, List.set_cons_zero, List.set_cons_succ]
    refine wpAnyH_take (i := 2) (v := ?_) (by rw [List.getElem?_toArray]; rfl) (by kernel_rfl) (by kernel_rfl) (by kernel_rfl) (by exact fun _ _ _ h => h) (Or.inl ⟨by rfl, ?_⟩) trivial ?_
    rotate_left
    · intro W hW
      go_simp
      all_goals with_reducible rfl
    try simp only [Act.put, List.setIfInBounds_toArray, List.set_cons_zero, List.set_cons_succ]
    refine wpAnyH_take (i := 3) (v := ?_) (by rw [List.getElem?_toArray]; rfl) (by kernel_rfl) (by kernel_rfl) (by kernel_rfl) (by exact fun _ _ _ h => h) (Or.inl ⟨by rfl, ?_⟩) trivial ?_
    rotate_left
    · intro W hW
      go_simp
      all_goals with_reducible rfl
    try simp only [Act.put, List.setIfInBounds_toArray, List.set_cons_zero, List.set_cons_succ]
    refine wpAnyH_take (i := 4) (v := ?_) (by rw [List.getElem?_toArray]; rfl) (by kernel_rfl) (by kernel_rfl) (by kernel_rfl) (by exact fun _ _ _ h => h) (Or.inl ⟨by rfl, ?_⟩) trivial ?_
    rotate_left
    · intro W hW
      go_simp
      all_goals with_reducible rfl
    try simp only [Act.put, List.setIfInBounds_toArray, List.set_cons_zero, List.set_cons_succ]
    refine wpAnyH_take (i := 5) (v := ?_) (by rw [List.getElem?_toArray]; rfl) (by kernel_rfl) (by kernel_rfl) (by kernel_rfl) (by exact fun _ _ _ h => h) (Or.inl ⟨by rfl, ?_⟩) trivial ?_
    rotate_left
    · intro W hW
      go_simp
      all_goals with_reducible rfl
    try simp only [Act.put, List.setIfInBounds_toArray, List.set_cons_zero, List.set_cons_succ]
    refine wpAnyH_take (i := 8) (v := ?_) (by rw [List.getElem?_toArray]; rfl) (by kernel_rfl) (by kernel_rfl) (by kernel_rfl) (by exact fun _ _ _ h => h) (Or.inl ⟨by rfl, ?_⟩) trivial ?_
    rotate_left
    · intro W hW
      go_simp
      all_goals with_reducible rfl
    try simp only [Act.put, List.setIfInBounds_toArray, List.set_cons_zero, List.set_cons_succ]
    refine wpAnyH_ready (rs := [6, 7]) (by kernel_rfl) (by simp) ?_
    refine AllReadyH.cons (by rw [List.getElem?_toArray]; rfl) (fun K hK => ?_) (AllReadyH.cons (by rw [List.getElem?_toArray]; rfl) (fun K hK => ?_) AllReadyH.nil)
    · rw [if_pos (by rfl)]
      have c1 := C1.out
      go_wp2_with fail
      clear c1
      refine hK.out _ _ trivial (fun _ => ?_)
      clear hK K
      try simp only [Act.put, List.setIfInBounds_toArray, List.set_cons_zero, List.set_cons_succ]
      refine wpAnyH_ready (rs := [7]) (by kernel_rfl) (by simp) ?_
      refine AllReadyH.cons (by rw [List.getElem?_toArray]; rfl) (fun K hK => ?_) AllReadyH.nil
      rw [if_pos (by rfl)]
      have E7 := Lib.hid (own_empty w5d 5 1)
      have b7 : Below w5d.heap.size w5d (w5d.alloc (.cells #[] 5)) := (Below.refl _ _).alloc (Nat.le_refl _) _
      have Z7 : Hid ((w5d.alloc (.cells #[] 5)).heap.size = w5d.heap.size + 1) := by show _ = _; simp
      have B7 := Lib.hid b7
      have C7C1 : Hid ((w5d.alloc (.cells #[] 5)).cell? ⟨b, off + af * 2 + 1, none⟩ = some (.slice qb X.bs.length kb)) := (b7.cell HBL5.out).trans C1.out
      clear b7
      go_wp2_with fail
      obtain ⟨z7, hz7⟩ : ∃ z, w5d.heap.size = z := ⟨_, rfl⟩
      have HZ7 := Lib.hid hz7
      rw [hz7] at E7 ⊢
      generalize w5d.alloc (.cells #[] 5) = w7 at *
      clear hz7
      refine hK.out _ _ trivial (fun _ => ?_)
      clear hK K
      try simp only [Act.put, List.setIfInBounds_toArray, List.set_cons_zero, List.set_cons_succ]
      refine wpAnyH_ready (rs := [9]) (by kernel_rfl) (by simp) ?_
      refine AllReadyH.cons (by rw [List.getElem?_toArray]; rfl) (fun K hK => ?_) AllReadyH.nil
      rw [if_pos (by rfl)]
      refine wp_append_row _ _ rfl Try.underlying50 hi0.out hz0.out hz1.out hz2.out rfl E7.out (by have := (HV.out _ (B5.out.trans (B7.out.mono B5.out.size))).src (P := Try.prog) Try.underlying50; rw [HXL.out] at this; exact this) (by unfold maxLen; omega) (by omega) ?_
      intro q8 k8 w8 own8 grow8 fr8
      simp only [Nat.zero_add, List.nil_append] at own8 fr8 ⊢
      have b8 : Below w5d.heap.size w5d w8 := B7.out.grown grow8 B7.out.size (fun j hj => by
        have := HZ7.out
        have hj2 : (Value.slice (some ⟨z7, 0, none⟩) 0 0).ownBlock = some j := hj
        simp [Value.ownBlock] at hj2
        omega)
      have B8 := Lib.hid b8
      have R8 : Hid (RdF w8 (fun x => w5d.heap.size ≤ x) (.slice q8 xl k8) xs) := by
        refine ⟨rd_of_row own8, fun _ g hg => ?_⟩
        have h1 := HZ7.out
        have h2 := Z7.out
        rcases fr8 with e | e
        · have hj2 : (Value.slice (some ⟨z7, 0, none⟩) 0 0).ownBlock = some g := e.symm.trans hg
          simp [Value.ownBlock] at hj2
          omega
        · rw [e] at hg; simp at hg; omega
      have C8C1 : Hid (w8.cell? ⟨b, off + af * 2 + 1, none⟩ = some (.slice qb X.bs.length kb)) := (b8.cell HBL5.out).trans C1.out
      clear own8 grow8 fr8 b8 B7 E7 Z7
      refine hK.out _ _ trivial (fun _ => ?_)
      clear hK K
      try simp only [Act.put, List.setIfInBounds_toArray, List.set_cons_zero, List.set_cons_succ]
      refine wpAnyH_ready (rs := [10]) (by kernel_rfl) (by simp) ?_
      refine AllReadyH.cons (by rw [List.getElem?_toArray]; rfl) (fun K hK => ?_) AllReadyH.nil
      rw [if_pos (by rfl)]
      have ba : Below w8.heap.size w8 (w8.alloc (.cells #[.slice q8 xl k8] 50)) := (Below.refl _ _).alloc (Nat.le_refl _) _
      have b9 := B8.out.trans (ba.mono B8.out.size)
      have OB9 := Lib.hid (OB.out.on PBs_ok b9)
      have X9 : Hid (PBs (w8.alloc (.cells #[.slice q8 xl k8] 50)) (fun g => (w3.heap.size ≤ g ∧ g ≠ b) ∧ (Value.slice qb X.bs.length kb).ownBlock ≠ some g) xs [.slice q8 xl k8]) := by
        have h1 := R8.out.on ba
        refine ⟨q8, k8, by rw [HXL.out], ?_⟩
        rw [HXL.out]
        refine h1.mono (fun g hg => ⟨⟨?_, ?_⟩, fun e => ?_⟩)
        · have := O5.out.below.size; omega
        · have := HBL5.out; omega
        · have := own_lt OB.out.own e; omega
      have SR := Lib.hid (src_any (P := Try.prog) (T := 50) (n := 1) (w := w8) (R := [.slice q8 xl k8]) Try.underlying58 rfl (by simp [Value.oneCell']))
      have B9 := Lib.hid b9
      have C9C1 : Hid ((w8.alloc (.cells #[.slice q8 xl k8] 50)).cell? ⟨b, off + af * 2 + 1, none⟩ = some (.slice qb X.bs.length kb)) := (b9.cell HBL5.out).trans C1.out
      have O9 := Lib.hid (O5.out.on PBi_ok b9)
      have DS9 := Lib.hid (DS.out.on PMg_ok (by decide) b9)
      have HROW9 : Hid (rowOf (w8.alloc (.cells #[.slice q8 xl k8] 50)) b (off + af * 2) 2 = [.slice qd X.ds.length kd, .slice qb X.bs.length kb]) := (rowOf_agr (b9.block b HBL5.out)).trans HROW.out
      clear ba b9 R8 B8
      go_wp2_with fail
      generalize w8.alloc (.cells #[.slice q8 xl k8] 50) = w9 at *
      refine hK.out _ _ trivial (fun _ => ?_)
      clear hK K
      try simp only [Act.put, List.setIfInBounds_toArray, List.set_cons_zero, List.set_cons_succ]
      refine wpAnyH_ready (rs := [11]) (by kernel_rfl) (by simp) ?_
      refine AllReadyH.cons (by rw [List.getElem?_toArray]; rfl) (fun K hK => ?_) AllReadyH.nil
      rw [if_pos (by rfl)]
      have OW9 := Lib.hid OB9.out.own
      refine wp_append_row _ _ rfl Try.underlying58 hi1.out hz4.out hz5.out hz6.out rfl OW9.out SR.out (by have := HXS.out; unfold maxLen; omega) (by have := HXS.out; omega) ?_
      intro q10 k10 w10 own10 grow10 fr10
      have P10 := Lib.hid (OB9.out.grow PBs_ok (n := 1) rfl X9.out own10 grow10 fr10)
      obtain ⟨x1, x2⟩ := ad_cell O9.out rfl HOB.out (Nat.lt_of_le_of_lt (Nat.zero_le _) HBl.out) C9C1.out HNB.out grow10
      have X1 := Lib.hid x1
      have X2 := Lib.hid x2
      obtain ⟨RX, BX⟩ := ad_done O9.out APT.out HBl.out HXE.out rfl HOB.out HROW9.out DS9.out HG0.out grow10 P10.out
      have HAD : adB Ls af xs = (B.map Bi.x).set af ⟨X.ds, X.bs ++ [xs]⟩ := by
        have h1 : Ls.getD af bk0 = X := HXB.out
        unfold adB
        rw [h1, HBx.out]
      rw [← HAD] at RX
      have RX := Lib.hid RX
      have BX := Lib.hid BX
      clear HAD x1 x2 own10 grow10 fr10 OB9 X9 SR OW9 O9 DS9 HROW9 C9C1 B9 P10
      refine hK.out _ _ trivial (fun _ => ?_)
      clear hK K
      try simp only [Act.put, List.setIfInBounds_toArray, List.set_cons_zero, List.set_cons_succ]
      refine wpAnyH_take (i := 12) (v := ?_) (by rw [List.getElem?_toArray]; rfl) (by kernel_rfl) (by kernel_rfl) (by kernel_rfl) (by exact fun _ _ _ h => h) (Or.inl ⟨by rfl, ?_⟩) trivial ?_
      rotate_left
      · intro W hW
        go_simp
        all_goals with_reducible rfl
      try simp only [Act.put, List.setIfInBounds_toArray, List.set_cons_zero, List.set_cons_succ]
      refine wpAnyH_take (i := 13) (v := ?_) (by rw [List.getElem?_toArray]; rfl) (by kernel_rfl) (by kernel_rfl) (by kernel_rfl) (by exact fun _ _ _ h => h) (Or.inl ⟨by rfl, ?_⟩) trivial ?_
      rotate_left
      · intro W hW
        go_simp
        all_goals with_reducible rfl
      try simp only [Act.put, List.setIfInBounds_toArray, List.set_cons_zero, List.set_cons_succ]
      refine wpAnyH_ready (rs := [14]) (by kernel_rfl) (by simp) ?_
      refine AllReadyH.cons (by rw [List.getElem?_toArray]; rfl) (fun K hK => ?_) AllReadyH.nil
      rw [if_pos (by rfl)]
      have x1 := X1.out
      have x2 := X2.out
      go_wp2_with fail
      clear x1 x2 X1 X2
      generalize w10.setCell ⟨b, off + af * 2 + 1, none⟩ (.slice q10 (X.bs.length + 1) k10) = w11 at *
      refine hK.out _ _ trivial (fun _ => ?_)
      clear hK K
      try simp only [Act.put, List.setIfInBounds_toArray, List.set_cons_zero, List.set_cons_succ]
      refine wpAnyH_done (by kernel_rfl) ?_ _
      have KI := Inputs_w (c := c4) (n := N) (k := k) RX.out (adB_sw SM.out BX_.out (by have := HXL.out; omega)) (by rw [adB_len]; exact HL1.out)
      rw [adB_len, fInE_ad] at KI
      have e1 : fInL (adB Ls af xs) N k = fInL Ls N k := by rw [← HAFe.out]; exact fInL_ad n1 M2.out
      rw [e1] at KI
      have KI := Lib.hid KI
      clear e1 RX
      go_wp2_with fail
      refine KI.out.mono ?_
      rintro e w20 ⟨q20, c20, rfl, r20, b20⟩
      have bx := BX.out.trans (b20.mono BX.out.size)
      have R5' := Lib.hid (R5.out _ bx)
      have B20 := Lib.hid (B3_.out.trans (bx.mono B3_.out.size))
      have R20 := Lib.hid r20
      clear b20 r20 bx KI
      rw [fInE_z]
      have IOK := Lib.hid (fInL_ok SM.out N k)
      have ISH := Lib.hid (fInL_short SM.out N k)
      obtain ⟨I, hI⟩ : ∃ I, fInL Ls N k = I := ⟨_, rfl⟩
      rw [hI] at R5' R20 IOK ISH ⊢
      clear hI
      go_wp2_with fail
      refine (num14_any 0 _).mono ?_
      rintro e wz ⟨rfl, hwz⟩
      obtain rfl := hwz.symm
      clear hwz
      go_wp2_with fail
      refine (alike_any R5'.out R20.out IOK.out (Nat.le_trans ISH.out (by decide))).mono ?_
      rintro e w21 ⟨rfl, b21⟩
      have B21 := Lib.hid (B20.out.trans (b21.mono B20.out.size))
      clear b21
      go_wp2_with fail
      refine (KW.out _).mono ?_
      rintro e w22 ⟨rfl, b22⟩
      have B22 := Lib.hid (B21.out.trans (b22.mono B21.out.size))
      clear b22
      go_wp2_with fail
      go_ret
      exact ⟨rfl, B22.out⟩
    · rw [if_pos (by rfl)]
      have E7 := Lib.hid (own_empty w5d 5 1)
      have b7 : Below w5d.heap.size w5d (w5d.alloc (.cells #[] 5)) := (Below.refl _ _).alloc (Nat.le_refl _) _
      have Z7 : Hid ((w5d.alloc (.cells #[] 5)).heap.size = w5d.heap.size + 1) := by show _ = _; simp
      have B7 := Lib.hid b7
      have C7C1 : Hid ((w5d.alloc (.cells #[] 5)).cell? ⟨b, off + af * 2 + 1, none⟩ = some (.slice qb X.bs.length kb)) := (b7.cell HBL5.out).trans C1.out
      clear b7
      go_wp2_with fail
      obtain ⟨z7, hz7⟩ : ∃ z, w5d.heap.size = z := ⟨_, rfl⟩
      have HZ7 := Lib.hid hz7
      rw [hz7] at E7 ⊢
      generalize w5d.alloc (.cells #[] 5) = w7 at *
      clear hz7
      refine hK.out _ _ trivial (fun _ => ?_)
      clear hK K
      try simp only [Act.put, List.setIfInBounds_toArray, List.set_cons_zero, List.set_cons_succ]
      refine wpAnyH_ready (rs := [6, 9]) (by kernel_rfl) (by simp) ?_
      refine AllReadyH.cons (by rw [List.getElem?_toArray]; rfl) (fun K hK => ?_) (AllReadyH.cons (by rw [List.getElem?_toArray]; rfl) (fun K hK => ?_) AllReadyH.nil)
      · rw [if_pos (by rfl)]
        have c1 := C7C1.out
        go_wp2_with fail
        clear c1
        refine hK.out _ _ trivial (fun _ => ?_)
        clear hK K
        try simp only [Act.put, List.setIfInBounds_toArray, List.set_cons_zero, List.set_cons_succ]
        refine wpAnyH_ready (rs := [9]) (by kernel_rfl) (by simp) ?_
        refine AllReadyH.cons (by rw [List.getElem?_toArray]; rfl) (fun K hK => ?_) AllReadyH.nil
        rw [if_pos (by rfl)]
        refine wp_append_row _ _ rfl Try.underlying50 hi0.out hz0.out hz1.out hz2.out rfl E7.out (by have := (HV.out _ (B5.out.trans (B7.out.mono B5.out.size))).src (P := Try.prog) Try.underlying50; rw [HXL.out] at this; exact this) (by unfold maxLen; omega) (by omega) ?_
        intro q8 k8 w8 own8 grow8 fr8
        simp only [Nat.zero_add, List.nil_append] at own8 fr8 ⊢
        have b8 : Below w5d.heap.size w5d w8 := B7.out.grown grow8 B7.out.size (fun j hj => by
          have := HZ7.out
          have hj2 : (Value.slice (some ⟨z7, 0, none⟩) 0 0).ownBlock = some j := hj
          simp [Value.ownBlock] at hj2
          omega)
        have B8 := Lib.hid b8
        have R8 : Hid (RdF w8 (fun x => w5d.heap.size ≤ x) (.slice q8 xl k8) xs) := by
          refine ⟨rd_of_row own8, fun _ g hg => ?_⟩
          have h1 := HZ7.out
          have h2 := Z7.out
          rcases fr8 with e | e
          · have hj2 : (Value.slice (some ⟨z7, 0, none⟩) 0 0).ownBlock = some g := e.symm.trans hg
            simp [Value.ownBlock] at hj2
            omega
          · rw [e] at hg; simp at hg; omega
        have C8C1 : Hid (w8.cell? ⟨b, off + af * 2 + 1, none⟩ = some (.slice qb X.bs.length kb)) := (b8.cell HBL5.out).trans C1.out
        clear own8 grow8 fr8 b8 B7 E7 Z7
        refine hK.out _ _ trivial (fun _ => ?_)
        clear hK K
        try simp only [Act.put, List.setIfInBounds_toArray, List.set_cons_zero, List.set_cons_succ]
        refine wpAnyH_ready (rs := [10]) (by kernel_rfl) (by simp) ?_
        refine AllReadyH.cons (by rw [List.getElem?_toArray]; rfl) (fun K hK => ?_) AllReadyH.nil
        rw [if_pos (by rfl)]
        have ba : Below w8.heap.size w8 (w8.alloc (.cells #[.slice q8 xl k8] 50)) := (Below.refl _ _).alloc (Nat.le_refl _) _
        have b9 := B8.out.trans (ba.mono B8.out.size)
        have OB9 := Lib.hid (OB.out.on PBs_ok b9)
        have X9 : Hid (PBs (w8.alloc (.cells #[.slice q8 xl k8] 50)) (fun g => (w3.heap.size ≤ g ∧ g ≠ b) ∧ (Value.slice qb X.bs.length kb).ownBlock ≠ some g) xs [.slice q8 xl k8]) := by
          have h1 := R8.out.on ba
          refine ⟨q8, k8, by rw [HXL.out], ?_⟩
          rw [HXL.out]
          refine h1.mono (fun g hg => ⟨⟨?_, ?_⟩, fun e => ?_⟩)
          · have := O5.out.below.size; omega
          · have := HBL5.out; omega
          · have := own_lt OB.out.own e; omega
        have SR := Lib.hid (src_any (P := Try.prog) (T := 50) (n := 1) (w := w8) (R := [.slice q8 xl k8]) Try.underlying58 rfl (by simp [Value.oneCell']))
        have B9 := Lib.hid b9
        have C9C1 : Hid ((w8.alloc (.cells #[.slice q8 xl k8] 50)).cell? ⟨b, off + af * 2 + 1, none⟩ = some (.slice qb X.bs.length kb)) := (b9.cell HBL5.out).trans C1.out
        have O9 := Lib.hid (O5.out.on PBi_ok b9)
        have DS9 := Lib.hid (DS.out.on PMg_ok (by decide) b9)
        have HROW9 : Hid (rowOf (w8.alloc (.cells #[.slice q8 xl k8] 50)) b (off + af * 2) 2 = [.slice qd X.ds.length kd, .slice qb X.bs.length kb]) := (rowOf_agr (b9.block b HBL5.out)).trans HROW.out
        clear ba b9 R8 B8
        go_wp2_with fail
        generalize w8.alloc (.cells #[.slice q8 xl k8] 50) = w9 at *
        refine hK.out _ _ trivial (fun _ => ?_)
        clear hK K
        try simp only [Act.put, List.setIfInBounds_toArray, List.set_cons_zero, List.set_cons_succ]
        refine wpAnyH_ready (rs := [11]) (by kernel_rfl) (by simp) ?_
        refine AllReadyH.cons (by rw [List.getElem?_toArray]; rfl) (fun K hK => ?_) AllReadyH.nil
        rw [if_pos (by rfl)]
        have OW9 := Lib.hid OB9.out.own
        refine wp_append_row _ _ rfl Try.underlying58 hi1.out hz4.out hz5.out hz6.out rfl OW9.out SR.out (by have := HXS.out; unfold maxLen; omega) (by have := HXS.out; omega) ?_
        intro q10 k10 w10 own10 grow10 fr10
        have P10 := Lib.hid (OB9.out.grow PBs_ok (n := 1) rfl X9.out own10 grow10 fr10)
        obtain ⟨x1, x2⟩ := ad_cell O9.out rfl HOB.out (Nat.lt_of_le_of_lt (Nat.zero_le _) HBl.out) C9C1.out HNB.out grow10
        have X1 := Lib.hid x1
        have X2 := Lib.hid x2
        obtain ⟨RX, BX⟩ := ad_done O9.out APT.out HBl.out HXE.out rfl HOB.out HROW9.out DS9.out HG0.out grow10 P10.out
        have HAD : adB Ls af xs = (B.map Bi.x).set af ⟨X.ds, X.bs ++ [xs]⟩ := by
          have h1 : Ls.getD af bk0 = X := HXB.out
          unfold adB
          rw [h1, HBx.out]
        rw [← HAD] at RX
        have RX := Lib.hid RX
        have BX := Lib.hid BX
        clear HAD x1 x2 own10 grow10 fr10 OB9 X9 SR OW9 O9 DS9 HROW9 C9C1 B9 P10
        refine hK.out _ _ trivial (fun _ => ?_)
        clear hK K
        try simp only [Act.put, List.setIfInBounds_toArray, List.set_cons_zero, List.set_cons_succ]
        refine wpAnyH_take (i := 12) (v := ?_) (by rw [List.getElem?_toArray]; rfl) (by kernel_rfl) (by kernel_rfl) (by kernel_rfl) (by exact fun _ _ _ h => h) (Or.inl ⟨by rfl, ?_⟩) trivial ?_
        rotate_left
        · intro W hW
          go_simp
          all_goals with_reducible rfl
        try simp only [Act.put, List.setIfInBounds_toArray, List.set_cons_zero, List.set_cons_succ]
        refine wpAnyH_take (i := 13) (v := ?_) (by rw [List.getElem?_toArray]; rfl) (by kernel_rfl) (by kernel_rfl) (by kernel_rfl) (by exact fun _ _ _ h => h) (Or.inl ⟨by rfl, ?_⟩) trivial ?_
        rotate_left
        · intro W hW
          go_simp
          all_goals with_reducible rfl
        try simp only [Act.put, List.setIfInBounds_toArray, List.set_cons_zero, List.set_cons_succ]
        refine wpAnyH_ready (rs := [14]) (by kernel_rfl) (by simp) ?_
        refine AllReadyH.cons (by rw [List.getElem?_toArray]; rfl) (fun K hK => ?_) AllReadyH.nil
        rw [if_pos (by rfl)]
        have x1 := X1.out
        have x2 := X2.out
        go_wp2_with fail
        clear x1 x2 X1 X2
        generalize w10.setCell ⟨b, off + af * 2 + 1, none⟩ (.slice q10 (X.bs.length + 1) k10) = w11 at *
        refine hK.out _ _ trivial (fun _ => ?_)
        clear hK K
        try simp only [Act.put, List.setIfInBounds_toArray, List.set_cons_zero, List.set_cons_succ]
        refine wpAnyH_done (by kernel_rfl) ?_ _
        have KI := Inputs_w (c := c4) (n := N) (k := k) RX.out (adB_sw SM.out BX_.out (by have := HXL.out; omega)) (by rw [adB_len]; exact HL1.out)
        rw [adB_len, fInE_ad] at KI
        have e1 : fInL (adB Ls af xs) N k = fInL Ls N k := by rw [← HAFe.out]; exact fInL_ad n1 M2.out
        rw [e1] at KI
        have KI := Lib.hid KI
        clear e1 RX
        go_wp2_with fail
        refine KI.out.mono ?_
        rintro e w20 ⟨q20, c20, rfl, r20, b20⟩
        have bx := BX.out.trans (b20.mono BX.out.size)
        have R5' := Lib.hid (R5.out _ bx)
        have B20 := Lib.hid (B3_.out.trans (bx.mono B3_.out.size))
        have R20 := Lib.hid r20
        clear b20 r20 bx KI
        rw [fInE_z]
        have IOK := Lib.hid (fInL_ok SM.out N k)
        have ISH := Lib.hid (fInL_short SM.out N k)
        obtain ⟨I, hI⟩ : ∃ I, fInL Ls N k = I := ⟨_, rfl⟩
        rw [hI] at R5' R20 IOK ISH ⊢
        clear hI
        go_wp2_with fail
        refine (num14_any 0 _).mono ?_
        rintro e wz ⟨rfl, hwz⟩
        obtain rfl := hwz.symm
        clear hwz
        go_wp2_with fail
        refine (alike_any R5'.out R20.out IOK.out (Nat.le_trans ISH.out (by decide))).mono ?_
        rintro e w21 ⟨rfl, b21⟩
        have B21 := Lib.hid (B20.out.trans (b21.mono B20.out.size))
        clear b21
        go_wp2_with fail
        refine (KW.out _).mono ?_
        rintro e w22 ⟨rfl, b22⟩
        have B22 := Lib.hid (B21.out.trans (b22.mono B21.out.size))
        clear b22
        go_wp2_with fail
        go_ret
        exact ⟨rfl, B22.out⟩
      · rw [if_pos (by rfl)]
        refine wp_append_row _ _ rfl Try.underlying50 hi0.out hz0.out hz1.out hz2.out rfl E7.out (by have := (HV.out _ (B5.out.trans (B7.out.mono B5.out.size))).src (P := Try.prog) Try.underlying50; rw [HXL.out] at this; exact this) (by unfold maxLen; omega) (by omega) ?_
        intro q8 k8 w8 own8 grow8 fr8
        simp only [Nat.zero_add, List.nil_append] at own8 fr8 ⊢
        have b8 : Below w5d.heap.size w5d w8 := B7.out.grown grow8 B7.out.size (fun j hj => by
          have := HZ7.out
          have hj2 : (Value.slice (some ⟨z7, 0, none⟩) 0 0).ownBlock = some j := hj
          simp [Value.ownBlock] at hj2
          omega)
        have B8 := Lib.hid b8
        have R8 : Hid (RdF w8 (fun x => w5d.heap.size ≤ x) (.slice q8 xl k8) xs) := by
          refine ⟨rd_of_row own8, fun _ g hg => ?_⟩
          have h1 := HZ7.out
          have h2 := Z7.out
          rcases fr8 with e | e
          · have hj2 : (Value.slice (some ⟨z7, 0, none⟩) 0 0).ownBlock = some g := e.symm.trans hg
            simp [Value.ownBlock] at hj2
            omega
          · rw [e] at hg; simp at hg; omega
        have C8C1 : Hid (w8.cell? ⟨b, off + af * 2 + 1, none⟩ = some (.slice qb X.bs.length kb)) := (b8.cell HBL5.out).trans C1.out
        clear own8 grow8 fr8 b8 B7 E7 Z7
        refine hK.out _ _ trivial (fun _ => ?_)
        clear hK K
        try simp only [Act.put, List.setIfInBounds_toArray, List.set_cons_zero, List.set_cons_succ]
        refine wpAnyH_ready (rs := [6, 10]) (by kernel_rfl) (by simp) ?_
        refine AllReadyH.cons (by rw [List.getElem?_toArray]; rfl) (fun K hK => ?_) (AllReadyH.cons (by rw [List.getElem?_toArray]; rfl) (fun K hK => ?_) AllReadyH.nil)
        · rw [if_pos (by rfl)]
          have c1 := C8C1.out
          go_wp2_with fail
          clear c1
          refine hK.out _ _ trivial (fun _ => ?_)
          clear hK K
          try simp only [Act.put, List.setIfInBounds_toArray, List.set_cons_zero, List.set_cons_succ]
          refine wpAnyH_ready (rs := [10]) (by kernel_rfl) (by simp) ?_
          refine AllReadyH.cons (by rw [List.getElem?_toArray]; rfl) (fun K hK => ?_) AllReadyH.nil
          rw [if_pos (by rfl)]
          have ba : Below w8.heap.size w8 (w8.alloc (.cells #[.slice q8 xl k8] 50)) := (Below.refl _ _).alloc (Nat.le_refl _) _
          have b9 := B8.out.trans (ba.mono B8.out.size)
          have OB9 := Lib.hid (OB.out.on PBs_ok b9)
          have X9 : Hid (PBs (w8.alloc (.cells #[.slice q8 xl k8] 50)) (fun g => (w3.heap.size ≤ g ∧ g ≠ b) ∧ (Value.slice qb X.bs.length kb).ownBlock ≠ some g) xs [.slice q8 xl k8]) := by
            have h1 := R8.out.on ba
            refine ⟨q8, k8, by rw [HXL.out], ?_⟩
            rw [HXL.out]
            refine h1.mono (fun g hg => ⟨⟨?_, ?_⟩, fun e => ?_⟩)
            · have := O5.out.below.size; omega
            · have := HBL5.out; omega
            · have := own_lt OB.out.own e; omega
          have SR := Lib.hid (src_any (P := Try.prog) (T := 50) (n := 1) (w := w8) (R := [.slice q8 xl k8]) Try.underlying58 rfl (by simp [Value.oneCell']))
          have B9 := Lib.hid b9
          have C9C1 : Hid ((w8.alloc (.cells #[.slice q8 xl k8] 50)).cell? ⟨b, off + af * 2 + 1, none⟩ = some (.slice qb X.bs.length kb)) := (b9.cell HBL5.out).trans C1.out
          have O9 := Lib.hid (O5.out.on PBi_ok b9)
          have DS9 := Lib.hid (DS.out.on PMg_ok (by decide) b9)
          have HROW9 : Hid (rowOf (w8.alloc (.cells #[.slice q8 xl k8] 50)) b (off + af * 2) 2 = [.slice qd X.ds.length kd, .slice qb X.bs.length kb]) := (rowOf_agr (b9.block b HBL5.out)).trans HROW.out
          clear ba b9 R8 B8
          go_wp2_with fail
          generalize w8.alloc (.cells #[.slice q8 xl k8] 50) = w9 at *
          refine hK.out _ _ trivial (fun _ => ?_)
          clear hK K
          try simp only [Act.put, List.setIfInBounds_toArray, List.set_cons_zero, List.set_cons_succ]
          refine wpAnyH_ready (rs := [11]) (by kernel_rfl) (by simp) ?_
          refine AllReadyH.cons (by rw [List.getElem?_toArray]; rfl) (fun K hK => ?_) AllReadyH.nil
          rw [if_pos (by rfl)]
          have OW9 := Lib.hid OB9.out.own
          refine wp_append_row _ _ rfl Try.underlying58 hi1.out hz4.out hz5.out hz6.out rfl OW9.out SR.out (by have := HXS.out; unfold maxLen; omega) (by have := HXS.out; omega) ?_
          intro q10 k10 w10 own10 grow10 fr10
          have P10 := Lib.hid (OB9.out.grow PBs_ok (n := 1) rfl X9.out own10 grow10 fr10)
          obtain ⟨x1, x2⟩ := ad_cell O9.out rfl HOB.out (Nat.lt_of_le_of_lt (Nat.zero_le _) HBl.out) C9C1.out HNB.out grow10
          have X1 := Lib.hid x1
          have X2 := Lib.hid x2
          obtain ⟨RX, BX⟩ := ad_done O9.out APT.out HBl.out HXE.out rfl HOB.out HROW9.out DS9.out HG0.out grow10 P10.out
          have HAD : adB Ls af xs = (B.map Bi.x).set af ⟨X.ds, X.bs ++ [xs]⟩ := by
            have h1 : Ls.getD af bk0 = X := HXB.out
            unfold adB
            rw [h1, HBx.out]
          rw [← HAD] at RX
          have RX := Lib.hid RX
          have BX := Lib.hid BX
          clear HAD x1 x2 own10 grow10 fr10 OB9 X9 SR OW9 O9 DS9 HROW9 C9C1 B9 P10
          refine hK.out _ _ trivial (fun _ => ?_)
          clear hK K
          try simp only [Act.put, List.setIfInBounds_toArray, List.set_cons_zero, List.set_cons_succ]
          refine wpAnyH_take (i := 12) (v := ?_) (by rw [List.getElem?_toArray]; rfl) (by kernel_rfl) (by kernel_rfl) (by kernel_rfl) (by exact fun _ _ _ h => h) (Or.inl ⟨by rfl, ?_⟩) trivial ?_
          rotate_left
          · intro W hW
            go_simp
            all_goals with_reducible rfl
          try simp only [Act.put, List.setIfInBounds_toArray, List.set_cons_zero, List.set_cons_succ]
          refine wpAnyH_take (i := 13) (v := ?_) (by rw [List.getElem?_toArray]; rfl) (by kernel_rfl) (by kernel_rfl) (by kernel_rfl) (by exact fun _ _ _ h => h) (Or.inl ⟨by rfl, ?_⟩) trivial ?_
          rotate_left
          · intro W hW
            go_simp
            all_goals with_reducible rfl
          try simp only [Act.put, List.setIfInBounds_toArray, List.set_cons_zero, List.set_cons_succ]
          refine wpAnyH_ready (rs := [14]) (by kernel_rfl) (by simp) ?_
          refine AllReadyH.cons (by rw [List.getElem?_toArray]; rfl) (fun K hK => ?_) AllReadyH.nil
          rw [if_pos (by rfl)]
          have x1 := X1.out
          have x2 := X2.out
          go_wp2_with fail
          clear x1 x2 X1 X2
          generalize w10.setCell ⟨b, off + af * 2 + 1, none⟩ (.slice q10 (X.bs.length + 1) k10) = w11 at *
          refine hK.out _ _ trivial (fun _ => ?_)
          clear hK K
          try simp only [Act.put, List.setIfInBounds_toArray, List.set_cons_zero, List.set_cons_succ]
          refine wpAnyH_done (by kernel_rfl) ?_ _
          have KI := Inputs_w (c := c4) (n := N) (k := k) RX.out (adB_sw SM.out BX_.out (by have := HXL.out; omega)) (by rw [adB_len]; exact HL1.out)
          rw [adB_len, fInE_ad] at KI
          have e1 : fInL (adB Ls af xs) N k = fInL Ls N k := by rw [← HAFe.out]; exact fInL_ad n1 M2.out
          rw [e1] at KI
          have KI := Lib.hid KI
          clear e1 RX
          go_wp2_with fail
          refine KI.out.mono ?_
          rintro e w20 ⟨q20, c20, rfl, r20, b20⟩
          have bx := BX.out.trans (b20.mono BX.out.size)
          have R5' := Lib.hid (R5.out _ bx)
          have B20 := Lib.hid (B3_.out.trans (bx.mono B3_.out.size))
          have R20 := Lib.hid r20
          clear b20 r20 bx KI
          rw [fInE_z]
          have IOK := Lib.hid (fInL_ok SM.out N k)
          have ISH := Lib.hid (fInL_short SM.out N k)
          obtain ⟨I, hI⟩ : ∃ I, fInL Ls N k = I := ⟨_, rfl⟩
          rw [hI] at R5' R20 IOK ISH ⊢
          clear hI
          go_wp2_with fail
          refine (num14_any 0 _).mono ?_
          rintro e wz ⟨rfl, hwz⟩
          obtain rfl := hwz.symm
          clear hwz
          go_wp2_with fail
          refine (alike_any R5'.out R20.out IOK.out (Nat.le_trans ISH.out (by decide))).mono ?_
          rintro e w21 ⟨rfl, b21⟩
          have B21 := Lib.hid (B20.out.trans (b21.mono B20.out.size))
          clear b21
          go_wp2_with fail
          refine (KW.out _).mono ?_
          rintro e w22 ⟨rfl, b22⟩
          have B22 := Lib.hid (B21.out.trans (b22.mono B21.out.size))
          clear b22
          go_wp2_with fail
          go_ret
          exact ⟨rfl, B22.out⟩
        · rw [if_pos (by rfl)]
          have ba : Below w8.heap.size w8 (w8.alloc (.cells #[.slice q8 xl k8] 50)) := (Below.refl _ _).alloc (Nat.le_refl _) _
          have b9 := B8.out.trans (ba.mono B8.out.size)
          have OB9 := Lib.hid (OB.out.on PBs_ok b9)
          have X9 : Hid (PBs (w8.alloc (.cells #[.slice q8 xl k8] 50)) (fun g => (w3.heap.size ≤ g ∧ g ≠ b) ∧ (Value.slice qb X.bs.length kb).ownBlock ≠ some g) xs [.slice q8 xl k8]) := by
            have h1 := R8.out.on ba
            refine ⟨q8, k8, by rw [HXL.out], ?_⟩
            rw [HXL.out]
            refine h1.mono (fun g hg => ⟨⟨?_, ?_⟩, fun e => ?_⟩)
            · have := O5.out.below.size; omega
            · have := HBL5.out; omega
            · have := own_lt OB.out.own e; omega
          have SR := Lib.hid (src_any (P := Try.prog) (T := 50) (n := 1) (w := w8) (R := [.slice q8 xl k8]) Try.underlying58 rfl (by simp [Value.oneCell']))
          have B9 := Lib.hid b9
          have C9C1 : Hid ((w8.alloc (.cells #[.slice q8 xl k8] 50)).cell? ⟨b, off + af * 2 + 1, none⟩ = some (.slice qb X.bs.length kb)) := (b9.cell HBL5.out).trans C1.out
          have O9 := Lib.hid (O5.out.on PBi_ok b9)
          have DS9 := Lib.hid (DS.out.on PMg_ok (by decide) b9)
          have HROW9 : Hid (rowOf (w8.alloc (.cells #[.slice q8 xl k8] 50)) b (off + af * 2) 2 = [.slice qd X.ds.length kd, .slice qb X.bs.length kb]) := (rowOf_agr (b9.block b HBL5.out)).trans HROW.out
          clear ba b9 R8 B8
          go_wp2_with fail
          generalize w8.alloc (.cells #[.slice q8 xl k8] 50) = w9 at *
          refine hK.out _ _ trivial (fun _ => ?_)
          clear hK K
          try simp only [Act.put, List.setIfInBounds_toArray, List.set_cons_zero, List.set_cons_succ]
          refine wpAnyH_ready (rs := [6]) (by kernel_rfl) (by simp) ?_
          refine AllReadyH.cons (by rw [List.getElem?_toArray]; rfl) (fun K hK => ?_) AllReadyH.nil
          rw [if_pos (by rfl)]
          have c1 := C9C1.out
          go_wp2_with fail
          clear c1
          refine hK.out _ _ trivial (fun _ => ?_)
          clear hK K
          try simp only [Act.put, List.setIfInBounds_toArray, List.set_cons_zero, List.set_cons_succ]
          refine wpAnyH_ready (rs := [11]) (by kernel_rfl) (by simp) ?_
          refine AllReadyH.cons (by rw [List.getElem?_toArray]; rfl) (fun K hK => ?_) AllReadyH.nil
          rw [if_pos (by rfl)]
          have OW9 := Lib.hid OB9.out.own
          refine wp_append_row _ _ rfl Try.underlying58 hi1.out hz4.out hz5.out hz6.out rfl OW9.out SR.out (by have := HXS.out; unfold maxLen; omega) (by have := HXS.out; omega) ?_
          intro q10 k10 w10 own10 grow10 fr10
          have P10 := Lib.hid (OB9.out.grow PBs_ok (n := 1) rfl X9.out own10 grow10 fr10)
          obtain ⟨x1, x2⟩ := ad_cell O9.out rfl HOB.out (Nat.lt_of_le_of_lt (Nat.zero_le _) HBl.out) C9C1.out HNB.out grow10
          have X1 := Lib.hid x1
          have X2 := Lib.hid x2
          obtain ⟨RX, BX⟩ := ad_done O9.out APT.out HBl.out HXE.out rfl HOB.out HROW9.out DS9.out HG0.out grow10 P10.out
          have HAD : adB Ls af xs = (B.map Bi.x).set af ⟨X.ds, X.bs ++ [xs]⟩ := by
            have h1 : Ls.getD af bk0 = X := HXB.out
            unfold adB
            rw [h1, HBx.out]
          rw [← HAD] at RX
          have RX := Lib.hid RX
          have BX := Lib.hid BX
          clear HAD x1 x2 own10 grow10 fr10 OB9 X9 SR OW9 O9 DS9 HROW9 C9C1 B9 P10
          refine hK.out _ _ trivial (fun _ => ?_)
          clear hK K
          try simp only [Act.put, List.setIfInBounds_toArray, List.set_cons_zero, List.set_cons_succ]
          refine wpAnyH_take (i := 12) (v := ?_) (by rw [List.getElem?_toArray]; rfl) (by kernel_rfl) (by kernel_rfl) (by kernel_rfl) (by exact fun _ _ _ h => h) (Or.inl ⟨by rfl, ?_⟩) trivial ?_
          rotate_left
          · intro W hW
            go_simp
            all_goals with_reducible rfl
          try simp only [Act.put, List.setIfInBounds_toArray, List.set_cons_zero, List.set_cons_succ]
          refine wpAnyH_take (i := 13) (v := ?_) (by rw [List.getElem?_toArray]; rfl) (by kernel_rfl) (by kernel_rfl) (by kernel_rfl) (by exact fun _ _ _ h => h) (Or.inl ⟨by rfl, ?_⟩) trivial ?_
          rotate_left
          · intro W hW
            go_simp
            all_goals with_reducible rfl
          try simp only [Act.put, List.setIfInBounds_toArray, List.set_cons_zero, List.set_cons_succ]
          refine wpAnyH_ready (rs := [14]) (by kernel_rfl) (by simp) ?_
          refine AllReadyH.cons (by rw [List.getElem?_toArray]; rfl) (fun K hK => ?_) AllReadyH.nil
          rw [if_pos (by rfl)]
          have x1 := X1.out
          have x2 := X2.out
          go_wp2_with fail
          clear x1 x2 X1 X2
          generalize w10.setCell ⟨b, off + af * 2 + 1, none⟩ (.slice q10 (X.bs.length + 1) k10) = w11 at *
          refine hK.out _ _ trivial (fun _ => ?_)
          clear hK K
          try simp only [Act.put, List.setIfInBounds_toArray, List.set_cons_zero, List.set_cons_succ]
          refine wpAnyH_done (by kernel_rfl) ?_ _
          have KI := Inputs_w (c := c4) (n := N) (k := k) RX.out (adB_sw SM.out BX_.out (by have := HXL.out; omega)) (by rw [adB_len]; exact HL1.out)
          rw [adB_len, fInE_ad] at KI
          have e1 : fInL (adB Ls af xs) N k = fInL Ls N k := by rw [← HAFe.out]; exact fInL_ad n1 M2.out
          rw [e1] at KI
          have KI := Lib.hid KI
          clear e1 RX
          go_wp2_with fail
          refine KI.out.mono ?_
          rintro e w20 ⟨q20, c20, rfl, r20, b20⟩
          have bx := BX.out.trans (b20.mono BX.out.size)
          have R5' := Lib.hid (R5.out _ bx)
          have B20 := Lib.hid (B3_.out.trans (bx.mono B3_.out.size))
          have R20 := Lib.hid r20
          clear b20 r20 bx KI
          rw [fInE_z]
          have IOK := Lib.hid (fInL_ok SM.out N k)
          have ISH := Lib.hid (fInL_short SM.out N k)
          obtain ⟨I, hI⟩ : ∃ I, fInL Ls N k = I := ⟨_, rfl⟩
          rw [hI] at R5' R20 IOK ISH ⊢
          clear hI
          go_wp2_with fail
          refine (num14_any 0 _).mono ?_
          rintro e wz ⟨rfl, hwz⟩
          obtain rfl := hwz.symm
          clear hwz
          go_wp2_with fail
          refine (alike_any R5'.out R20.out IOK.out (Nat.le_trans ISH.out (by decide))).mono ?_
          rintro e w21 ⟨rfl, b21⟩
          have B21 := Lib.hid (B20.out.trans (b21.mono B20.out.size))
          clear b21
          go_wp2_with fail
          refine (KW.out _).mono ?_
          rintro e w22 ⟨rfl, b22⟩
          have B22 := Lib.hid (B21.out.trans (b22.mono B21.out.size))
          clear b22
          go_wp2_with fail
          go_ret
          exact ⟨rfl, B22.out⟩
end Go.Proofs.Ytonjkhhihiigfaa
