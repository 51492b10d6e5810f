/-
  A run with more gas.
-/
import Derived.Test.YtamkmeigcmpkjaaMcEn
import Derived.Deep.CutRange
namespace Go.Proofs.Ytamkmeigcmpkjaa
set_option maxRecDepth 100000
open Go.RowKit

@[go_sem] theorem Try.eq_ws (w : World) (F G : List Int) (hF : F.length = 16) (hG : G.length = 16) : (Op.equalIn 10000 29 (.agg (wcs F).toArray) (.agg (wcs G).toArray)).run Try.prog w = .ok (F == G) w :=
  run_equalIn_ints (P := Try.prog) w 9998 Try.underlying29 Try.underlying23 (by kernel_rfl) F G hF hG
theorem wordsAt {w : World} {b : Nat} {s : Ms} {q : Option Addr} {c : Nat} {T : TypeId} {fr : Nat × Nat} (h : w.heap[b]? = some (.cells (stRow s q c).toArray T fr)) (hs : s.wds.length = 16) : rowOf w b 5 16 = wcs s.wds := by
  rw [rowOf_block h]
  have e : (wcs s.wds).length = 16 := by rw [wcs_len, hs]
  simp [stRow, List.take_of_length_le (Nat.le_of_eq e)]
set_option maxHeartbeats 16000000 in
theorem MachineGas_walk {w : World} {L : List Ins} {q : Option Addr} {cl : Nat} (hr : RwF 2 ins0 PIs w (fun g => g < w.heap.size) q L) (lu : ∀ i ∈ L, i.ok) (hl : L.length ≤ 9000000000000) {c : Cx} {qi : Option Addr} {ki : Nat} (hc : c.ok) (hi : RdU w (.slice qi c.inp.length ki) c.inp) {gas more : Int} (hg : 0 ≤ gas ∧ gas < 18446744073709551616) (hm : 0 ≤ more ∧ more < 18446744073709551616) :
    Calls Try.prog 4 #[.slice q L.length cl, .agg #[.int .u64 c.who, .int .u64 c.val, .slice qi c.inp.length ki], .int .u64 gas, .int .u64 more] w fun e w' => e = .returned (.bool true) ∧ Below w.heap.size w w' := by
  have b1 : Below w.heap.size w (w.alloc (.cells #[.int .u64 c.who, .int .u64 c.val, .slice qi c.inp.length ki] 26)) := (Below.refl _ _).alloc (Nat.le_refl _) _
  have BX := Lib.hid b1
  have KX := Lib.hid (heap_alloc_new w (.cells #[.int .u64 c.who, .int .u64 c.val, .slice qi c.inp.length ki] 26))
  have HR := Lib.hid (fun (W : World) (hb : Below w.heap.size w W) => hr.on PIs_ok (by decide) hb)
  have HI := Lib.hid (fun (W : World) (hb : Below w.heap.size w W) => hi.on hb)
  have HC := Lib.hid hc
  have LU := Lib.hid lu
  clear hr hi hc lu b1
  go_enter Try.func4, Try.ntmps4
  go_upto_region 1 with fail
  generalize w.alloc (.cells #[.int .u64 c.who, .int .u64 c.val, .slice qi c.inp.length ki] 26) = w2 at *
  have c2 := (Joins.cell_of_block KX.out 2).trans (rfl : _ = some _)
  by_cases g1 : L.length > 200
  · have d1 : decide ((L.length : Int) > 200) = true := decide_eq_true (by omega)
    have d2 : decide (200 < L.length) = true := decide_eq_true g1
    go_wp2_with fail
    refine (knows8_any _).mono ?_
    rintro e w9 ⟨rfl, hb⟩
    have B9 := Lib.hid (BX.out.trans (hb.mono BX.out.size))
    clear hb
    go_wp2_with fail
    go_ret
    exact ⟨rfl, B9.out⟩
  have d1 : decide ((L.length : Int) > 200) = false := decide_eq_false (by omega)
  have d2 : decide (200 < L.length) = false := decide_eq_false g1
  by_cases g2 : c.inp.length > 200
  · have d3 : decide ((c.inp.length : Int) > 200) = true := decide_eq_true (by omega)
    have d4 : decide (200 < c.inp.length) = true := decide_eq_true g2
    go_wp2_with fail
    refine (knows8_any _).mono ?_
    rintro e w9 ⟨rfl, hb⟩
    have B9 := Lib.hid (BX.out.trans (hb.mono BX.out.size))
    clear hb
    go_wp2_with fail
    go_ret
    exact ⟨rfl, B9.out⟩
  have d3 : decide ((c.inp.length : Int) > 200) = false := decide_eq_false (by omega)
  have d4 : decide (200 < c.inp.length) = false := decide_eq_false g2
  have HL : Hid (L.length ≤ 1000) := by show _ ≤ _; omega
  have HIL : Hid (c.inp.length ≤ 1000) := by show _ ≤ _; omega
  obtain ⟨g, hgg, g0, g200⟩ : ∃ g, gas.tmod 200 = g ∧ 0 ≤ g ∧ g < 200 := by
    refine ⟨gas.tmod 200, rfl, ?_, ?_⟩
    · rw [Int.tmod_eq_emod_of_nonneg hg.1]; omega
    · rw [Int.tmod_eq_emod_of_nonneg hg.1]; omega
  obtain ⟨m, hmm, m0, m200⟩ : ∃ g, more.tmod 200 = g ∧ 0 ≤ g ∧ g < 200 := by
    refine ⟨more.tmod 200, rfl, ?_, ?_⟩
    · rw [Int.tmod_eq_emod_of_nonneg hm.1]; omega
    · rw [Int.tmod_eq_emod_of_nonneg hm.1]; omega
  have SOK := Lib.hid (start_ok (g := g) ⟨g0, by omega⟩ ws0_len ws0_u)
  have SOK2 := Lib.hid (start_ok (g := g + m) ⟨by omega, by omega⟩ ws0_len ws0_u)
  have UO := runM_ok (M := 500) HC.out LU.out SOK.out
  have UO2 := runM_ok (M := 500) HC.out LU.out SOK2.out
  have AL := runM_more (L := L) (c := c) (gas := g) (m := m) (W := ws0) m0
  obtain ⟨R, hR⟩ : ∃ R, runM L c (startM g ws0) 500 = R := ⟨_, rfl⟩
  have HRN := Lib.hid hR
  rw [hR] at UO AL
  obtain ⟨u, n⟩ := R
  obtain ⟨R2, hR2⟩ : ∃ R, runM L c (startM (g + m) ws0) 500 = R := ⟨_, rfl⟩
  have HRN2 := Lib.hid hR2
  rw [hR2] at UO2 AL
  obtain ⟨u2, n2⟩ := R2
  have UW := Lib.hid UO.w16
  have UW2 := Lib.hid UO2.w16
  have UG2 := Lib.hid UO2.gas
  have AL : Hid ((u.e = 35 ∧ u.st = 2) ∨ (u2, n2) = (u.more m, n)) := AL
  have WGM : Hid (IntKind.u64.wrap (g + m) = g + m) := by show _ = _; rw [IntKind.wrap_u64]; omega
  have hS0 : w2.drew.heap[w.heap.size]? = some (.cells #[.int .u64 c.who, .int .u64 c.val, .slice qi c.inp.length ki] 26 (0, 0)) := KX.out
  have BB := Lib.hid (BX.out.drew)
  clear hR hR2 UO UO2 g0 g200 m0 m200 hl hg hm
  go_upto_region 5 with fail
  clear d1 d2 d3 d4 c2 hgg hmm g1 g2
  go_cut [9, 10] from 27 to 37 (fun s9 s10 wx => ∃ (va : Nat) (qa : Option Addr) (ka : Nat), s9 = .pointer (some ⟨va, 0, none⟩) ∧ s10 = .int .i64 (n : Int) ∧ Hid (wx.heap[va]? = some (.cells (stRow u qa ka).toArray 31 (0, 0))) ∧ Hid (wx.heap[w.heap.size]? = some (.cells #[.int .u64 c.who, .int .u64 c.val, .slice qi c.inp.length ki] 26 (0, 0))) ∧ Hid (Below w.heap.size w wx) ∧ Hid (w.heap.size < va))
  case first =>
    as_aux_lemma =>
      refine wp_region_held_drew (S := fun W => W.heap[w.heap.size]? = some (.cells #[.int .u64 c.who, .int .u64 c.val, .slice qi c.inp.length ki] 26 (0, 0))) (by kernel_rfl) (hS0) (fun h0 => ?_)
      generalize w2.drew = w3 at *
      refine wpAnyH_take (i := 0) (v := ?_) (by rw [List.getElem?_toArray]; rfl) (by kernel_rfl) (by kernel_rfl) (by kernel_rfl) (by exact fun _ _ _ h => h) (Or.inl ⟨by rfl, ?_⟩) h0 ?_
      rotate_left
      · intro W hW
        go_simp
        all_goals with_reducible rfl
      try simp only [Act.put, List.setIfInBounds_toArray, List.set_cons_zero, List.set_cons_succ]
      refine wpAnyH_take (i := 2) (v := ?_) (by rw [List.getElem?_toArray]; rfl) (by kernel_rfl) (by kernel_rfl) (by kernel_rfl) (by exact fun _ _ _ h => h) (Or.inl ⟨by rfl, ?_⟩) h0 ?_
      rotate_left
      · intro W hW
        have c0 := (Joins.cell_of_block hW 0).trans (rfl : _ = some _)
        have c1 := (Joins.cell_of_block hW 1).trans (rfl : _ = some _)
        have c2 := (Joins.cell_of_block hW 2).trans (rfl : _ = some _)
        go_simp
        all_goals with_reducible rfl
      try simp only [Act.put, List.setIfInBounds_toArray, List.set_cons_zero, List.set_cons_succ]
      refine wpAnyH_take (i := 4) (v := ?_) (by rw [List.getElem?_toArray]; rfl) (by kernel_rfl) (by kernel_rfl) (by kernel_rfl) (by exact fun _ _ _ h => h) (Or.inl ⟨by rfl, ?_⟩) h0 ?_
      rotate_left
      · intro W hW
        go_simp
        all_goals with_reducible rfl
      try simp only [Act.put, List.setIfInBounds_toArray, List.set_cons_zero, List.set_cons_succ]
      refine wpAnyH_take (i := 5) (v := ?_) (by rw [List.getElem?_toArray]; rfl) (by kernel_rfl) (by kernel_rfl) (by kernel_rfl) (by exact fun _ _ _ h => h) (Or.inl ⟨by rfl, ?_⟩) h0 ?_
      rotate_left
      · intro W hW
        go_simp
        all_goals with_reducible rfl
      try simp only [Act.put, List.setIfInBounds_toArray, List.set_cons_zero, List.set_cons_succ]
      refine wpAnyH_ready (rs := [1, 11]) (by kernel_rfl) (by simp) ?_
      refine AllReadyH.cons (by rw [List.getElem?_toArray]; rfl) (fun K hK => ?_) (AllReadyH.cons (by rw [List.getElem?_toArray]; rfl) (fun K hK => ?_) (AllReadyH.nil))
      · rw [if_pos (by rfl)]
        go_wp2_with fail
        refine (Own8_any (HR.out _ BB.out) HL.out).mono ?_
        rintro e w5 ⟨qo, co, rfl, ro, bo⟩
        have RL := Lib.hid ro
        have hS := And.intro trivial (((bo).block _ (Array.getElem?_eq_some_iff.1 h0).1).trans h0)
        replace hS := hS.2
        have BB := Lib.hid (BB.out.trans ((bo).mono BB.out.size))
        clear ro bo
        go_wp2_with fail
        refine hK.out _ _ hS (fun h0 => ?_)
        clear hK K hS
        try simp only [Act.put, List.setIfInBounds_toArray, List.set_cons_zero, List.set_cons_succ]
        refine wpAnyH_ready (rs := [3, 11]) (by kernel_rfl) (by simp) ?_
        refine AllReadyH.cons (by rw [List.getElem?_toArray]; rfl) (fun K hK => ?_) (AllReadyH.cons (by rw [List.getElem?_toArray]; rfl) (fun K hK => ?_) (AllReadyH.nil))
        · rw [if_pos (by rfl)]
          go_wp2_with fail
          refine (Context8_any (HI.out _ BB.out) HIL.out).mono ?_
          rintro e w6 ⟨qc, kc, rfl, rc, bo⟩
          have RC := Lib.hid rc
          have RL := Lib.hid (RL.out.on PIs_ok (by decide) bo)
          have hS := And.intro trivial (((bo).block _ (Array.getElem?_eq_some_iff.1 h0).1).trans h0)
          replace hS := hS.2
          have BB := Lib.hid (BB.out.trans ((bo).mono BB.out.size))
          clear rc bo
          go_wp2_with fail
          refine hK.out _ _ hS (fun h0 => ?_)
          clear hK K hS
          try simp only [Act.put, List.setIfInBounds_toArray, List.set_cons_zero, List.set_cons_succ]
          refine wpAnyH_ready (rs := [6, 11]) (by kernel_rfl) (by simp) ?_
          refine AllReadyH.cons (by rw [List.getElem?_toArray]; rfl) (fun K hK => ?_) (AllReadyH.cons (by rw [List.getElem?_toArray]; rfl) (fun K hK => ?_) (AllReadyH.nil))
          · rw [if_pos (by rfl)]
            go_wp2_with fail
            refine (Start_any _ g ws0_len).mono ?_
            rintro e w7 ⟨rfl, bo⟩
            have RC := Lib.hid (RC.out.on bo)
            have RL := Lib.hid (RL.out.on PIs_ok (by decide) bo)
            have hS := And.intro trivial (((bo).block _ (Array.getElem?_eq_some_iff.1 h0).1).trans h0)
            replace hS := hS.2
            have BB := Lib.hid (BB.out.trans ((bo).mono BB.out.size))
            clear bo
            go_wp2_with fail
            refine hK.out _ _ hS (fun h0 => ?_)
            clear hK K hS
            try simp only [Act.put, List.setIfInBounds_toArray, List.set_cons_zero, List.set_cons_succ]
            refine wpAnyH_ready (rs := [7, 11]) (by kernel_rfl) (by simp) ?_
            refine AllReadyH.cons (by rw [List.getElem?_toArray]; rfl) (fun K hK => ?_) (AllReadyH.cons (by rw [List.getElem?_toArray]; rfl) (fun K hK => ?_) (AllReadyH.nil))
            · rw [if_pos (by rfl)]
              have KR := Lib.hid (Run_any (cL := co) RL.out HL.out LU.out HC.out RC.out (s := startM g ws0) (qs := none) (ks := 0) SOK.out ⟨none, 0, rfl, .inl rfl⟩ (M := 500) (by decide))
              rw [HRN.out] at KR
              unfold RunP at KR
              go_wp2_with fail
              refine KR.out.mono ?_
              rintro e w8 ⟨qr, kr, rfl, -, bo⟩
              have hS := And.intro trivial (((bo).block _ (Array.getElem?_eq_some_iff.1 h0).1).trans h0)
              replace hS := hS.2
              have BB := Lib.hid (BB.out.trans ((bo).mono BB.out.size))
              clear bo KR
              go_wp2_with fail
              refine hK.out _ _ hS (fun h0 => ?_)
              clear hK K hS
              try simp only [Act.put, List.setIfInBounds_toArray, List.set_cons_zero, List.set_cons_succ]
              refine wpAnyH_take (i := 8) (v := ?_) (by rw [List.getElem?_toArray]; rfl) (by kernel_rfl) (by kernel_rfl) (by kernel_rfl) (by exact fun _ _ _ h => h) (Or.inl ⟨by rfl, ?_⟩) h0 ?_
              rotate_left
              · intro W hW
                go_simp
                all_goals with_reducible rfl
              try simp only [Act.put, List.setIfInBounds_toArray, List.set_cons_zero, List.set_cons_succ]
              refine wpAnyH_take (i := 9) (v := ?_) (by rw [List.getElem?_toArray]; rfl) (by kernel_rfl) (by kernel_rfl) (by kernel_rfl) (by exact fun _ _ _ h => h) (Or.inl ⟨by rfl, ?_⟩) h0 ?_
              rotate_left
              · intro W hW
                go_simp
                all_goals with_reducible rfl
              try simp only [Act.put, List.setIfInBounds_toArray, List.set_cons_zero, List.set_cons_succ]
              refine wpAnyH_take (i := 10) (v := ?_) (by rw [List.getElem?_toArray]; rfl) (by kernel_rfl) (by kernel_rfl) (by kernel_rfl) (by exact fun _ _ _ h => h) (Or.inl ⟨by rfl, ?_⟩) h0 ?_
              rotate_left
              · intro W hW
                go_simp
                all_goals with_reducible rfl
              try simp only [Act.put, List.setIfInBounds_toArray, List.set_cons_zero, List.set_cons_succ]
              refine wpAnyH_ready (rs := [11]) (by kernel_rfl) (by simp) ?_
              refine AllReadyH.cons (by rw [List.getElem?_toArray]; rfl) (fun K hK => ?_) AllReadyH.nil
              rw [if_pos (by rfl)]
              have ba : Below w8.heap.size w8 (w8.alloc (.cells (stRow ms0 none 0).toArray 31)) := (Below.refl _ _).alloc (Nat.le_refl _) _
              have hS := And.intro trivial (((ba).block _ (Array.getElem?_eq_some_iff.1 h0).1).trans h0)
              replace hS := hS.2
              have BB := Lib.hid (BB.out.trans ((ba).mono BB.out.size))
              have VB := Lib.hid (heap_alloc_new w8 (.cells (stRow ms0 none 0).toArray 31))
              have VL : Hid (w.heap.size < w8.heap.size) := (Array.getElem?_eq_some_iff.1 h0).1
              clear ba
              go_wp2_with fail
              obtain ⟨vb, hvb⟩ : ∃ z, w8.heap.size = z := ⟨_, rfl⟩
              rw [hvb] at VB VL ⊢
              generalize w8.alloc (.cells (stRow ms0 none 0).toArray 31) = w9 at *
              clear hvb
              refine hK.out _ _ hS (fun h0 => ?_)
              clear hK K hS
              try simp only [Act.put, List.setIfInBounds_toArray, List.set_cons_zero, List.set_cons_succ]
              refine wpAnyH_ready (rs := [12]) (by kernel_rfl) (by simp) ?_
              refine AllReadyH.cons (by rw [List.getElem?_toArray]; rfl) (fun K hK => ?_) AllReadyH.nil
              rw [if_pos (by rfl)]
              have VBs : StAt w9 vb ms0 none 0 := VB.out
              have ct := VBs.there ws0_len
              have K9 := Lib.hid (VBs.put (s' := u) (q' := qr) (c' := kr) ws0_len UW.out)
              have VG := VL.out
              have hS : (w9.setCells vb 0 (stRow u qr kr)).heap[w.heap.size]? = some (.cells #[.int .u64 c.who, .int .u64 c.val, .slice qi c.inp.length ki] 26 (0, 0)) := (setCells_other (by omega) _ _ _).trans h0
              have BB := Lib.hid (below_setCells' vb (Nat.le_of_lt VG) (stRow u qr kr) 0 BB.out)
              have uw := UW.out
              clear VBs VB
              go_wp2_with fail
              clear ct uw
              generalize w9.setCells vb 0 (stRow u qr kr) = w10 at *
              refine hK.out _ _ hS (fun h0 => ?_)
              clear hK K hS
              try simp only [Act.put, List.setIfInBounds_toArray, List.set_cons_zero, List.set_cons_succ]
              refine wpAnyH_take (i := 13) (v := ?_) (by rw [List.getElem?_toArray]; rfl) (by kernel_rfl) (by kernel_rfl) (by kernel_rfl) (by exact fun _ _ _ h => h) (Or.inl ⟨by rfl, ?_⟩) h0 ?_
              rotate_left
              · intro W hW
                go_simp
                all_goals with_reducible rfl
              try simp only [Act.put, List.setIfInBounds_toArray, List.set_cons_zero, List.set_cons_succ]
              refine wpAnyH_done (by kernel_rfl) ?_ _
              have hb := Lib.hid h0
              go_wp2_with fail
              go_meet
              exact ⟨vb, qr, kr, rfl, rfl, K9, hb, BB, VL⟩
            · rw [if_pos (by rfl)]
              have ba : Below w7.heap.size w7 (w7.alloc (.cells (stRow ms0 none 0).toArray 31)) := (Below.refl _ _).alloc (Nat.le_refl _) _
              have hS := And.intro trivial (((ba).block _ (Array.getElem?_eq_some_iff.1 h0).1).trans h0)
              replace hS := hS.2
              have BB := Lib.hid (BB.out.trans ((ba).mono BB.out.size))
              have VB := Lib.hid (heap_alloc_new w7 (.cells (stRow ms0 none 0).toArray 31))
              have VL : Hid (w.heap.size < w7.heap.size) := (Array.getElem?_eq_some_iff.1 h0).1
              have RL := Lib.hid (RL.out.on PIs_ok (by decide) ba)
              have RC := Lib.hid (RC.out.on ba)
              clear ba
              go_wp2_with fail
              obtain ⟨vb, hvb⟩ : ∃ z, w7.heap.size = z := ⟨_, rfl⟩
              rw [hvb] at VB VL ⊢
              generalize w7.alloc (.cells (stRow ms0 none 0).toArray 31) = w9 at *
              clear hvb
              refine hK.out _ _ hS (fun h0 => ?_)
              clear hK K hS
              try simp only [Act.put, List.setIfInBounds_toArray, List.set_cons_zero, List.set_cons_succ]
              refine wpAnyH_ready (rs := [7]) (by kernel_rfl) (by simp) ?_
              refine AllReadyH.cons (by rw [List.getElem?_toArray]; rfl) (fun K hK => ?_) AllReadyH.nil
              rw [if_pos (by rfl)]
              have KR := Lib.hid (Run_any (cL := co) RL.out HL.out LU.out HC.out RC.out (s := startM g ws0) (qs := none) (ks := 0) SOK.out ⟨none, 0, rfl, .inl rfl⟩ (M := 500) (by decide))
              rw [HRN.out] at KR
              unfold RunP at KR
              go_wp2_with fail
              refine KR.out.mono ?_
              rintro e w8 ⟨qr, kr, rfl, -, bo⟩
              have hS := And.intro trivial (((bo).block _ (Array.getElem?_eq_some_iff.1 h0).1).trans h0)
              replace hS := hS.2
              have VB := Lib.hid (((bo).block _ (Array.getElem?_eq_some_iff.1 VB.out).1).trans VB.out)
              have BB := Lib.hid (BB.out.trans ((bo).mono BB.out.size))
              clear bo KR
              go_wp2_with fail
              refine hK.out _ _ hS (fun h0 => ?_)
              clear hK K hS
              try simp only [Act.put, List.setIfInBounds_toArray, List.set_cons_zero, List.set_cons_succ]
              refine wpAnyH_take (i := 8) (v := ?_) (by rw [List.getElem?_toArray]; rfl) (by kernel_rfl) (by kernel_rfl) (by kernel_rfl) (by exact fun _ _ _ h => h) (Or.inl ⟨by rfl, ?_⟩) h0 ?_
              rotate_left
              · intro W hW
                go_simp
                all_goals with_reducible rfl
              try simp only [Act.put, List.setIfInBounds_toArray, List.set_cons_zero, List.set_cons_succ]
              refine wpAnyH_take (i := 9) (v := ?_) (by rw [List.getElem?_toArray]; rfl) (by kernel_rfl) (by kernel_rfl) (by kernel_rfl) (by exact fun _ _ _ h => h) (Or.inl ⟨by rfl, ?_⟩) h0 ?_
              rotate_left
              · intro W hW
                go_simp
                all_goals with_reducible rfl
              try simp only [Act.put, List.setIfInBounds_toArray, List.set_cons_zero, List.set_cons_succ]
              refine wpAnyH_take (i := 10) (v := ?_) (by rw [List.getElem?_toArray]; rfl) (by kernel_rfl) (by kernel_rfl) (by kernel_rfl) (by exact fun _ _ _ h => h) (Or.inl ⟨by rfl, ?_⟩) h0 ?_
              rotate_left
              · intro W hW
                go_simp
                all_goals with_reducible rfl
              try simp only [Act.put, List.setIfInBounds_toArray, List.set_cons_zero, List.set_cons_succ]
              refine wpAnyH_ready (rs := [12]) (by kernel_rfl) (by simp) ?_
              refine AllReadyH.cons (by rw [List.getElem?_toArray]; rfl) (fun K hK => ?_) AllReadyH.nil
              rw [if_pos (by rfl)]
              have VBs : StAt w8 vb ms0 none 0 := VB.out
              have ct := VBs.there ws0_len
              have K9 := Lib.hid (VBs.put (s' := u) (q' := qr) (c' := kr) ws0_len UW.out)
              have VG := VL.out
              have hS : (w8.setCells vb 0 (stRow u qr kr)).heap[w.heap.size]? = some (.cells #[.int .u64 c.who, .int .u64 c.val, .slice qi c.inp.length ki] 26 (0, 0)) := (setCells_other (by omega) _ _ _).trans h0
              have BB := Lib.hid (below_setCells' vb (Nat.le_of_lt VG) (stRow u qr kr) 0 BB.out)
              have uw := UW.out
              clear VBs VB
              go_wp2_with fail
              clear ct uw
              generalize w8.setCells vb 0 (stRow u qr kr) = w10 at *
              refine hK.out _ _ hS (fun h0 => ?_)
              clear hK K hS
              try simp only [Act.put, List.setIfInBounds_toArray, List.set_cons_zero, List.set_cons_succ]
              refine wpAnyH_take (i := 13) (v := ?_) (by rw [List.getElem?_toArray]; rfl) (by kernel_rfl) (by kernel_rfl) (by kernel_rfl) (by exact fun _ _ _ h => h) (Or.inl ⟨by rfl, ?_⟩) h0 ?_
              rotate_left
              · intro W hW
                go_simp
                all_goals with_reducible rfl
              try simp only [Act.put, List.setIfInBounds_toArray, List.set_cons_zero, List.set_cons_succ]
              refine wpAnyH_done (by kernel_rfl) ?_ _
              have hb := Lib.hid h0
              go_wp2_with fail
              go_meet
              exact ⟨vb, qr, kr, rfl, rfl, K9, hb, BB, VL⟩
          · rw [if_pos (by rfl)]
            have ba : Below w6.heap.size w6 (w6.alloc (.cells (stRow ms0 none 0).toArray 31)) := (Below.refl _ _).alloc (Nat.le_refl _) _
            have hS := And.intro trivial (((ba).block _ (Array.getElem?_eq_some_iff.1 h0).1).trans h0)
            replace hS := hS.2
            have BB := Lib.hid (BB.out.trans ((ba).mono BB.out.size))
            have VB := Lib.hid (heap_alloc_new w6 (.cells (stRow ms0 none 0).toArray 31))
            have VL : Hid (w.heap.size < w6.heap.size) := (Array.getElem?_eq_some_iff.1 h0).1
            have RL := Lib.hid (RL.out.on PIs_ok (by decide) ba)
            have RC := Lib.hid (RC.out.on ba)
            clear ba
            go_wp2_with fail
            obtain ⟨vb, hvb⟩ : ∃ z, w6.heap.size = z := ⟨_, rfl⟩
            rw [hvb] at VB VL ⊢
            generalize w6.alloc (.cells (stRow ms0 none 0).toArray 31) = w9 at *
            clear hvb
            refine hK.out _ _ hS (fun h0 => ?_)
            clear hK K hS
            try simp only [Act.put, List.setIfInBounds_toArray, List.set_cons_zero, List.set_cons_succ]
            refine wpAnyH_ready (rs := [6]) (by kernel_rfl) (by simp) ?_
            refine AllReadyH.cons (by rw [List.getElem?_toArray]; rfl) (fun K hK => ?_) AllReadyH.nil
            rw [if_pos (by rfl)]
            go_wp2_with fail
            refine (Start_any _ g ws0_len).mono ?_
            rintro e w7 ⟨rfl, bo⟩
            have RC := Lib.hid (RC.out.on bo)
            have RL := Lib.hid (RL.out.on PIs_ok (by decide) bo)
            have hS := And.intro trivial (((bo).block _ (Array.getElem?_eq_some_iff.1 h0).1).trans h0)
            replace hS := hS.2
            have VB := Lib.hid (((bo).block _ (Array.getElem?_eq_some_iff.1 VB.out).1).trans VB.out)
            have BB := Lib.hid (BB.out.trans ((bo).mono BB.out.size))
            clear bo
            go_wp2_with fail
            refine hK.out _ _ hS (fun h0 => ?_)
            clear hK K hS
            try simp only [Act.put, List.setIfInBounds_toArray, List.set_cons_zero, List.set_cons_succ]
            refine wpAnyH_ready (rs := [7]) (by kernel_rfl) (by simp) ?_
            refine AllReadyH.cons (by rw [List.getElem?_toArray]; rfl) (fun K hK => ?_) AllReadyH.nil
            rw [if_pos (by rfl)]
            have KR := Lib.hid (Run_any (cL := co) RL.out HL.out LU.out HC.out RC.out (s := startM g ws0) (qs := none) (ks := 0) SOK.out ⟨none, 0, rfl, .inl rfl⟩ (M := 500) (by decide))
            rw [HRN.out] at KR
            unfold RunP at KR
            go_wp2_with fail
            refine KR.out.mono ?_
            rintro e w8 ⟨qr, kr, rfl, -, bo⟩
            have hS := And.intro trivial (((bo).block _ (Array.getElem?_eq_some_iff.1 h0).1).trans h0)
            replace hS := hS.2
            have VB := Lib.hid (((bo).block _ (Array.getElem?_eq_some_iff.1 VB.out).1).trans VB.out)
            have BB := Lib.hid (BB.out.trans ((bo).mono BB.out.size))
            clear bo KR
            go_wp2_with fail
            refine hK.out _ _ hS (fun h0 => ?_)
            clear hK K hS
            try simp only [Act.put, List.setIfInBounds_toArray, List.set_cons_zero, List.set_cons_succ]
            refine wpAnyH_take (i := 8) (v := ?_) (by rw [List.getElem?_toArray]; rfl) (by kernel_rfl) (by kernel_rfl) (by kernel_rfl) (by exact fun _ _ _ h => h) (Or.inl ⟨by rfl, ?_⟩) h0 ?_
            rotate_left
            · intro W hW
              go_simp
              all_goals with_reducible rfl
            try simp only [Act.put, List.setIfInBounds_toArray, List.set_cons_zero, List.set_cons_succ]
            refine wpAnyH_take (i := 9) (v := ?_) (by rw [List.getElem?_toArray]; rfl) (by kernel_rfl) (by kernel_rfl) (by kernel_rfl) (by exact fun _ _ _ h => h) (Or.inl ⟨by rfl, ?_⟩) h0 ?_
            rotate_left
            · intro W hW
              go_simp
              all_goals with_reducible rfl
            try simp only [Act.put, List.setIfInBounds_toArray, List.set_cons_zero, List.set_cons_succ]
            refine wpAnyH_take (i := 10) (v := ?_) (by rw [List.getElem?_toArray]; rfl) (by kernel_rfl) (by kernel_rfl) (by kernel_rfl) (by exact fun _ _ _ h => h) (Or.inl ⟨by rfl, ?_⟩) h0 ?_
            rotate_left
            · intro W hW
              go_simp
              all_goals with_reducible rfl
            try simp only [Act.put, List.setIfInBounds_toArray, List.set_cons_zero, List.set_cons_succ]
            refine wpAnyH_ready (rs := [12]) (by kernel_rfl) (by simp) ?_
            refine AllReadyH.cons (by rw [List.getElem?_toArray]; rfl) (fun K hK => ?_) AllReadyH.nil
            rw [if_pos (by rfl)]
            have VBs : StAt w8 vb ms0 none 0 := VB.out
            have ct := VBs.there ws0_len
            have K9 := Lib.hid (VBs.put (s' := u) (q' := qr) (c' := kr) ws0_len UW.out)
            have VG := VL.out
            have hS : (w8.setCells vb 0 (stRow u qr kr)).heap[w.heap.size]? = some (.cells #[.int .u64 c.who, .int .u64 c.val, .slice qi c.inp.length ki] 26 (0, 0)) := (setCells_other (by omega) _ _ _).trans h0
            have BB := Lib.hid (below_setCells' vb (Nat.le_of_lt VG) (stRow u qr kr) 0 BB.out)
            have uw := UW.out
            clear VBs VB
            go_wp2_with fail
            clear ct uw
            generalize w8.setCells vb 0 (stRow u qr kr) = w10 at *
            refine hK.out _ _ hS (fun h0 => ?_)
            clear hK K hS
            try simp only [Act.put, List.setIfInBounds_toArray, List.set_cons_zero, List.set_cons_succ]
            refine wpAnyH_take (i := 13) (v := ?_) (by rw [List.getElem?_toArray]; rfl) (by kernel_rfl) (by kernel_rfl) (by kernel_rfl) (by exact fun _ _ _ h => h) (Or.inl ⟨by rfl, ?_⟩) h0 ?_
            rotate_left
            · intro W hW
              go_simp
              all_goals with_reducible rfl
            try simp only [Act.put, List.setIfInBounds_toArray, List.set_cons_zero, List.set_cons_succ]
            refine wpAnyH_done (by kernel_rfl) ?_ _
            have hb := Lib.hid h0
            go_wp2_with fail
            go_meet
            exact ⟨vb, qr, kr, rfl, rfl, K9, hb, BB, VL⟩
        · rw [if_pos (by rfl)]
          have ba : Below w5.heap.size w5 (w5.alloc (.cells (stRow ms0 none 0).toArray 31)) := (Below.refl _ _).alloc (Nat.le_refl _) _
          have hS := And.intro trivial (((ba).block _ (Array.getElem?_eq_some_iff.1 h0).1).trans h0)
          replace hS := hS.2
          have BB := Lib.hid (BB.out.trans ((ba).mono BB.out.size))
          have VB := Lib.hid (heap_alloc_new w5 (.cells (stRow ms0 none 0).toArray 31))
          have VL : Hid (w.heap.size < w5.heap.size) := (Array.getElem?_eq_some_iff.1 h0).1
          have RL := Lib.hid (RL.out.on PIs_ok (by decide) ba)
          clear ba
          go_wp2_with fail
          obtain ⟨vb, hvb⟩ : ∃ z, w5.heap.size = z := ⟨_, rfl⟩
          rw [hvb] at VB VL ⊢
          generalize w5.alloc (.cells (stRow ms0 none 0).toArray 31) = w9 at *
          clear hvb
          refine hK.out _ _ hS (fun h0 => ?_)
          clear hK K hS
          try simp only [Act.put, List.setIfInBounds_toArray, List.set_cons_zero, List.set_cons_succ]
          refine wpAnyH_ready (rs := [3]) (by kernel_rfl) (by simp) ?_
          refine AllReadyH.cons (by rw [List.getElem?_toArray]; rfl) (fun K hK => ?_) AllReadyH.nil
          rw [if_pos (by rfl)]
          go_wp2_with fail
          refine (Context8_any (HI.out _ BB.out) HIL.out).mono ?_
          rintro e w6 ⟨qc, kc, rfl, rc, bo⟩
          have RC := Lib.hid rc
          have RL := Lib.hid (RL.out.on PIs_ok (by decide) bo)
          have hS := And.intro trivial (((bo).block _ (Array.getElem?_eq_some_iff.1 h0).1).trans h0)
          replace hS := hS.2
          have VB := Lib.hid (((bo).block _ (Array.getElem?_eq_some_iff.1 VB.out).1).trans VB.out)
          have BB := Lib.hid (BB.out.trans ((bo).mono BB.out.size))
          clear rc bo
          go_wp2_with fail
          refine hK.out _ _ hS (fun h0 => ?_)
          clear hK K hS
          try simp only [Act.put, List.setIfInBounds_toArray, List.set_cons_zero, List.set_cons_succ]
          refine wpAnyH_ready (rs := [6]) (by kernel_rfl) (by simp) ?_
          refine AllReadyH.cons (by rw [List.getElem?_toArray]; rfl) (fun K hK => ?_) AllReadyH.nil
          rw [if_pos (by rfl)]
          go_wp2_with fail
          refine (Start_any _ g ws0_len).mono ?_
          rintro e w7 ⟨rfl, bo⟩
          have RC := Lib.hid (RC.out.on bo)
          have RL := Lib.hid (RL.out.on PIs_ok (by decide) bo)
          have hS := And.intro trivial (((bo).block _ (Array.getElem?_eq_some_iff.1 h0).1).trans h0)
          replace hS := hS.2
          have VB := Lib.hid (((bo).block _ (Array.getElem?_eq_some_iff.1 VB.out).1).trans VB.out)
          have BB := Lib.hid (BB.out.trans ((bo).mono BB.out.size))
          clear bo
          go_wp2_with fail
          refine hK.out _ _ hS (fun h0 => ?_)
          clear hK K hS
          try simp only [Act.put, List.setIfInBounds_toArray, List.set_cons_zero, List.set_cons_succ]
          refine wpAnyH_ready (rs := [7]) (by kernel_rfl) (by simp) ?_
          refine AllReadyH.cons (by rw [List.getElem?_toArray]; rfl) (fun K hK => ?_) AllReadyH.nil
          rw [if_pos (by rfl)]
          have KR := Lib.hid (Run_any (cL := co) RL.out HL.out LU.out HC.out RC.out (s := startM g ws0) (qs := none) (ks := 0) SOK.out ⟨none, 0, rfl, .inl rfl⟩ (M := 500) (by decide))
          rw [HRN.out] at KR
          unfold RunP at KR
          go_wp2_with fail
          refine KR.out.mono ?_
          rintro e w8 ⟨qr, kr, rfl, -, bo⟩
          have hS := And.intro trivial (((bo).block _ (Array.getElem?_eq_some_iff.1 h0).1).trans h0)
          replace hS := hS.2
          have VB := Lib.hid (((bo).block _ (Array.getElem?_eq_some_iff.1 VB.out).1).trans VB.out)
          have BB := Lib.hid (BB.out.trans ((bo).mono BB.out.size))
          clear bo KR
          go_wp2_with fail
          refine hK.out _ _ hS (fun h0 => ?_)
          clear hK K hS
          try simp only [Act.put, List.setIfInBounds_toArray, List.set_cons_zero, List.set_cons_succ]
          refine wpAnyH_take (i := 8) (v := ?_) (by rw [List.getElem?_toArray]; rfl) (by kernel_rfl) (by kernel_rfl) (by kernel_rfl) (by exact fun _ _ _ h => h) (Or.inl ⟨by rfl, ?_⟩) h0 ?_
          rotate_left
          · intro W hW
            go_simp
            all_goals with_reducible rfl
          try simp only [Act.put, List.setIfInBounds_toArray, List.set_cons_zero, List.set_cons_succ]
          refine wpAnyH_take (i := 9) (v := ?_) (by rw [List.getElem?_toArray]; rfl) (by kernel_rfl) (by kernel_rfl) (by kernel_rfl) (by exact fun _ _ _ h => h) (Or.inl ⟨by rfl, ?_⟩) h0 ?_
          rotate_left
          · intro W hW
            go_simp
            all_goals with_reducible rfl
          try simp only [Act.put, List.setIfInBounds_toArray, List.set_cons_zero, List.set_cons_succ]
          refine wpAnyH_take (i := 10) (v := ?_) (by rw [List.getElem?_toArray]; rfl) (by kernel_rfl) (by kernel_rfl) (by kernel_rfl) (by exact fun _ _ _ h => h) (Or.inl ⟨by rfl, ?_⟩) h0 ?_
          rotate_left
          · intro W hW
            go_simp
            all_goals with_reducible rfl
          try simp only [Act.put, List.setIfInBounds_toArray, List.set_cons_zero, List.set_cons_succ]
          refine wpAnyH_ready (rs := [12]) (by kernel_rfl) (by simp) ?_
          refine AllReadyH.cons (by rw [List.getElem?_toArray]; rfl) (fun K hK => ?_) AllReadyH.nil
          rw [if_pos (by rfl)]
          have VBs : StAt w8 vb ms0 none 0 := VB.out
          have ct := VBs.there ws0_len
          have K9 := Lib.hid (VBs.put (s' := u) (q' := qr) (c' := kr) ws0_len UW.out)
          have VG := VL.out
          have hS : (w8.setCells vb 0 (stRow u qr kr)).heap[w.heap.size]? = some (.cells #[.int .u64 c.who, .int .u64 c.val, .slice qi c.inp.length ki] 26 (0, 0)) := (setCells_other (by omega) _ _ _).trans h0
          have BB := Lib.hid (below_setCells' vb (Nat.le_of_lt VG) (stRow u qr kr) 0 BB.out)
          have uw := UW.out
          clear VBs VB
          go_wp2_with fail
          clear ct uw
          generalize w8.setCells vb 0 (stRow u qr kr) = w10 at *
          refine hK.out _ _ hS (fun h0 => ?_)
          clear hK K hS
          try simp only [Act.put, List.setIfInBounds_toArray, List.set_cons_zero, List.set_cons_succ]
          refine wpAnyH_take (i := 13) (v := ?_) (by rw [List.getElem?_toArray]; rfl) (by kernel_rfl) (by kernel_rfl) (by kernel_rfl) (by exact fun _ _ _ h => h) (Or.inl ⟨by rfl, ?_⟩) h0 ?_
          rotate_left
          · intro W hW
            go_simp
            all_goals with_reducible rfl
          try simp only [Act.put, List.setIfInBounds_toArray, List.set_cons_zero, List.set_cons_succ]
          refine wpAnyH_done (by kernel_rfl) ?_ _
          have hb := Lib.hid h0
          go_wp2_with fail
          go_meet
          exact ⟨vb, qr, kr, rfl, rfl, K9, hb, BB, VL⟩
      · rw [if_pos (by rfl)]
        have ba : Below w3.heap.size w3 (w3.alloc (.cells (stRow ms0 none 0).toArray 31)) := (Below.refl _ _).alloc (Nat.le_refl _) _
        have hS := And.intro trivial (((ba).block _ (Array.getElem?_eq_some_iff.1 h0).1).trans h0)
        replace hS := hS.2
        have BB := Lib.hid (BB.out.trans ((ba).mono BB.out.size))
        have VB := Lib.hid (heap_alloc_new w3 (.cells (stRow ms0 none 0).toArray 31))
        have VL : Hid (w.heap.size < w3.heap.size) := (Array.getElem?_eq_some_iff.1 h0).1
        clear ba
        go_wp2_with fail
        obtain ⟨vb, hvb⟩ : ∃ z, w3.heap.size = z := ⟨_, rfl⟩
        rw [hvb] at VB VL ⊢
        generalize w3.alloc (.cells (stRow ms0 none 0).toArray 31) = w9 at *
        clear hvb
        refine hK.out _ _ hS (fun h0 => ?_)
        clear hK K hS
        try simp only [Act.put, List.setIfInBounds_toArray, List.set_cons_zero, List.set_cons_succ]
        refine wpAnyH_ready (rs := [1]) (by kernel_rfl) (by simp) ?_
        refine AllReadyH.cons (by rw [List.getElem?_toArray]; rfl) (fun K hK => ?_) AllReadyH.nil
        rw [if_pos (by rfl)]
        go_wp2_with fail
        refine (Own8_any (HR.out _ BB.out) HL.out).mono ?_
        rintro e w5 ⟨qo, co, rfl, ro, bo⟩
        have RL := Lib.hid ro
        have hS := And.intro trivial (((bo).block _ (Array.getElem?_eq_some_iff.1 h0).1).trans h0)
        replace hS := hS.2
        have VB := Lib.hid (((bo).block _ (Array.getElem?_eq_some_iff.1 VB.out).1).trans VB.out)
        have BB := Lib.hid (BB.out.trans ((bo).mono BB.out.size))
        clear ro bo
        go_wp2_with fail
        refine hK.out _ _ hS (fun h0 => ?_)
        clear hK K hS
        try simp only [Act.put, List.setIfInBounds_toArray, List.set_cons_zero, List.set_cons_succ]
        refine wpAnyH_ready (rs := [3]) (by kernel_rfl) (by simp) ?_
        refine AllReadyH.cons (by rw [List.getElem?_toArray]; rfl) (fun K hK => ?_) AllReadyH.nil
        rw [if_pos (by rfl)]
        go_wp2_with fail
        refine (Context8_any (HI.out _ BB.out) HIL.out).mono ?_
        rintro e w6 ⟨qc, kc, rfl, rc, bo⟩
        have RC := Lib.hid rc
        have RL := Lib.hid (RL.out.on PIs_ok (by decide) bo)
        have hS := And.intro trivial (((bo).block _ (Array.getElem?_eq_some_iff.1 h0).1).trans h0)
        replace hS := hS.2
        have VB := Lib.hid (((bo).block _ (Array.getElem?_eq_some_iff.1 VB.out).1).trans VB.out)
        have BB := Lib.hid (BB.out.trans ((bo).mono BB.out.size))
        clear rc bo
        go_wp2_with fail
        refine hK.out _ _ hS (fun h0 => ?_)
        clear hK K hS
        try simp only [Act.put, List.setIfInBounds_toArray, List.set_cons_zero, List.set_cons_succ]
        refine wpAnyH_ready (rs := [6]) (by kernel_rfl) (by simp) ?_
        refine AllReadyH.cons (by rw [List.getElem?_toArray]; rfl) (fun K hK => ?_) AllReadyH.nil
        rw [if_pos (by rfl)]
        go_wp2_with fail
        refine (Start_any _ g ws0_len).mono ?_
        rintro e w7 ⟨rfl, bo⟩
        have RC := Lib.hid (RC.out.on bo)
        have RL := Lib.hid (RL.out.on PIs_ok (by decide) bo)
        have hS := And.intro trivial (((bo).block _ (Array.getElem?_eq_some_iff.1 h0).1).trans h0)
        replace hS := hS.2
        have VB := Lib.hid (((bo).block _ (Array.getElem?_eq_some_iff.1 VB.out).1).trans VB.out)
        have BB := Lib.hid (BB.out.trans ((bo).mono BB.out.size))
        clear bo
        go_wp2_with fail
        refine hK.out _ _ hS (fun h0 => ?_)
        clear hK K hS
        try simp only [Act.put, List.setIfInBounds_toArray, List.set_cons_zero, List.set_cons_succ]
        refine wpAnyH_ready (rs := [7]) (by kernel_rfl) (by simp) ?_
        refine AllReadyH.cons (by rw [List.getElem?_toArray]; rfl) (fun K hK => ?_) AllReadyH.nil
        rw [if_pos (by rfl)]
        have KR := Lib.hid (Run_any (cL := co) RL.out HL.out LU.out HC.out RC.out (s := startM g ws0) (qs := none) (ks := 0) SOK.out ⟨none, 0, rfl, .inl rfl⟩ (M := 500) (by decide))
        rw [HRN.out] at KR
        unfold RunP at KR
        go_wp2_with fail
        refine KR.out.mono ?_
        rintro e w8 ⟨qr, kr, rfl, -, bo⟩
        have hS := And.intro trivial (((bo).block _ (Array.getElem?_eq_some_iff.1 h0).1).trans h0)
        replace hS := hS.2
        have VB := Lib.hid (((bo).block _ (Array.getElem?_eq_some_iff.1 VB.out).1).trans VB.out)
        have BB := Lib.hid (BB.out.trans ((bo).mono BB.out.size))
        clear bo KR
        go_wp2_with fail
        refine hK.out _ _ hS (fun h0 => ?_)
        clear hK K hS
        try simp only [Act.put, List.setIfInBounds_toArray, List.set_cons_zero, List.set_cons_succ]
        refine wpAnyH_take (i := 8) (v := ?_) (by rw [List.getElem?_toArray]; rfl) (by kernel_rfl) (by kernel_rfl) (by kernel_rfl) (by exact fun _ _ _ h => h) (Or.inl ⟨by rfl, ?_⟩) h0 ?_
        rotate_left
        · intro W hW
          go_simp
          all_goals with_reducible rfl
        try simp only [Act.put, List.setIfInBounds_toArray, List.set_cons_zero, List.set_cons_succ]
        refine wpAnyH_take (i := 9) (v := ?_) (by rw [List.getElem?_toArray]; rfl) (by kernel_rfl) (by kernel_rfl) (by kernel_rfl) (by exact fun _ _ _ h => h) (Or.inl ⟨by rfl, ?_⟩) h0 ?_
        rotate_left
        · intro W hW
          go_simp
          all_goals with_reducible rfl
        try simp only [Act.put, List.setIfInBounds_toArray, List.set_cons_zero, List.set_cons_succ]
        refine wpAnyH_take (i := 10) (v := ?_) (by rw [List.getElem?_toArray]; rfl) (by kernel_rfl) (by kernel_rfl) (by kernel_rfl) (by exact fun _ _ _ h => h) (Or.inl ⟨by rfl, ?_⟩) h0 ?_
        rotate_left
        · intro W hW
          go_simp
          all_goals with_reducible rfl
        try simp only [Act.put, List.setIfInBounds_toArray, List.set_cons_zero, List.set_cons_succ]
        refine wpAnyH_ready (rs := [12]) (by kernel_rfl) (by simp) ?_
        refine AllReadyH.cons (by rw [List.getElem?_toArray]; rfl) (fun K hK => ?_) AllReadyH.nil
        rw [if_pos (by rfl)]
        have VBs : StAt w8 vb ms0 none 0 := VB.out
        have ct := VBs.there ws0_len
        have K9 := Lib.hid (VBs.put (s' := u) (q' := qr) (c' := kr) ws0_len UW.out)
        have VG := VL.out
        have hS : (w8.setCells vb 0 (stRow u qr kr)).heap[w.heap.size]? = some (.cells #[.int .u64 c.who, .int .u64 c.val, .slice qi c.inp.length ki] 26 (0, 0)) := (setCells_other (by omega) _ _ _).trans h0
        have BB := Lib.hid (below_setCells' vb (Nat.le_of_lt VG) (stRow u qr kr) 0 BB.out)
        have uw := UW.out
        clear VBs VB
        go_wp2_with fail
        clear ct uw
        generalize w8.setCells vb 0 (stRow u qr kr) = w10 at *
        refine hK.out _ _ hS (fun h0 => ?_)
        clear hK K hS
        try simp only [Act.put, List.setIfInBounds_toArray, List.set_cons_zero, List.set_cons_succ]
        refine wpAnyH_take (i := 13) (v := ?_) (by rw [List.getElem?_toArray]; rfl) (by kernel_rfl) (by kernel_rfl) (by kernel_rfl) (by exact fun _ _ _ h => h) (Or.inl ⟨by rfl, ?_⟩) h0 ?_
        rotate_left
        · intro W hW
          go_simp
          all_goals with_reducible rfl
        try simp only [Act.put, List.setIfInBounds_toArray, List.set_cons_zero, List.set_cons_succ]
        refine wpAnyH_done (by kernel_rfl) ?_ _
        have hb := Lib.hid h0
        go_wp2_with fail
        go_meet
        exact ⟨vb, qr, kr, rfl, rfl, K9, hb, BB, VL⟩
  case rest =>
    obtain ⟨va, qa, ka, rfl, rfl, KA, KB, BC, VAL⟩ := hcut
    clear BB BX KX hS0
    have hS0 : wc.drew.heap[w.heap.size]? = some (.cells #[.int .u64 c.who, .int .u64 c.val, .slice qi c.inp.length ki] 26 (0, 0)) ∧ wc.drew.heap[va]? = some (.cells (stRow u qa ka).toArray 31 (0, 0)) := ⟨KB.out, KA.out⟩
    have BB := Lib.hid BC.out.drew
    clear KA KB BC
    have wgm := WGM.out
    go_upto_region 6 with fail
    go_cut [11, 12] from 38 to 50 (fun s11 s12 wx => ∃ (vb : Nat) (qb : Option Addr) (kb : Nat), s11 = .pointer (some ⟨vb, 0, none⟩) ∧ s12 = .int .i64 (n2 : Int) ∧ Hid (wx.heap[vb]? = some (.cells (stRow u2 qb kb).toArray 31 (0, 0))) ∧ Hid (wx.heap[va]? = some (.cells (stRow u qa ka).toArray 31 (0, 0))) ∧ Hid (Below w.heap.size w wx))
    case first =>
      as_aux_lemma =>
        refine wp_region_held_drew (S := fun W => W.heap[w.heap.size]? = some (.cells #[.int .u64 c.who, .int .u64 c.val, .slice qi c.inp.length ki] 26 (0, 0)) ∧ W.heap[va]? = some (.cells (stRow u qa ka).toArray 31 (0, 0))) (by kernel_rfl) (hS0) (fun h0 => ?_)
        generalize wc.drew = w3 at *
        refine wpAnyH_take (i := 0) (v := ?_) (by rw [List.getElem?_toArray]; rfl) (by kernel_rfl) (by kernel_rfl) (by kernel_rfl) (by exact fun _ _ _ h => h) (Or.inl ⟨by rfl, ?_⟩) h0 ?_
        rotate_left
        · intro W hW
          go_simp
          all_goals with_reducible rfl
        try simp only [Act.put, List.setIfInBounds_toArray, List.set_cons_zero, List.set_cons_succ]
        refine wpAnyH_take (i := 2) (v := ?_) (by rw [List.getElem?_toArray]; rfl) (by kernel_rfl) (by kernel_rfl) (by kernel_rfl) (by exact fun _ _ _ h => h) (Or.inl ⟨by rfl, ?_⟩) h0 ?_
        rotate_left
        · intro W hW
          have c0 := (Joins.cell_of_block hW.1 0).trans (rfl : _ = some _)
          have c1 := (Joins.cell_of_block hW.1 1).trans (rfl : _ = some _)
          have c2 := (Joins.cell_of_block hW.1 2).trans (rfl : _ = some _)
          go_simp
          all_goals with_reducible rfl
        try simp only [Act.put, List.setIfInBounds_toArray, List.set_cons_zero, List.set_cons_succ]
        refine wpAnyH_take (i := 4) (v := ?_) (by rw [List.getElem?_toArray]; rfl) (by kernel_rfl) (by kernel_rfl) (by kernel_rfl) (by exact fun _ _ _ h => h) (Or.inl ⟨by rfl, ?_⟩) h0 ?_
        rotate_left
        · intro W hW
          go_simp
          all_goals with_reducible rfl
        try simp only [Act.put, List.setIfInBounds_toArray, List.set_cons_zero, List.set_cons_succ]
        refine wpAnyH_take (i := 5) (v := ?_) (by rw [List.getElem?_toArray]; rfl) (by kernel_rfl) (by kernel_rfl) (by kernel_rfl) (by exact fun _ _ _ h => h) (Or.inl ⟨by rfl, ?_⟩) h0 ?_
        rotate_left
        · intro W hW
          go_simp
          all_goals with_reducible rfl
        try simp only [Act.put, List.setIfInBounds_toArray, List.set_cons_zero, List.set_cons_succ]
        refine wpAnyH_take (i := 6) (v := ?_) (by rw [List.getElem?_toArray]; rfl) (by kernel_rfl) (by kernel_rfl) (by kernel_rfl) (by exact fun _ _ _ h => h) (Or.inl ⟨by rfl, ?_⟩) h0 ?_
        rotate_left
        · intro W hW
          go_simp
          all_goals with_reducible rfl
        try simp only [Act.put, List.setIfInBounds_toArray, List.set_cons_zero, List.set_cons_succ]
        refine wpAnyH_take (i := 7) (v := ?_) (by rw [List.getElem?_toArray]; rfl) (by kernel_rfl) (by kernel_rfl) (by kernel_rfl) (by exact fun _ _ _ h => h) (Or.inl ⟨by rfl, ?_⟩) h0 ?_
        rotate_left
        · intro W hW
          go_simp
          all_goals with_reducible rfl
        try simp only [Act.put, List.setIfInBounds_toArray, List.set_cons_zero, List.set_cons_succ]
        refine wpAnyH_ready (rs := [1, 13]) (by kernel_rfl) (by simp) ?_
        refine AllReadyH.cons (by rw [List.getElem?_toArray]; rfl) (fun K hK => ?_) (AllReadyH.cons (by rw [List.getElem?_toArray]; rfl) (fun K hK => ?_) (AllReadyH.nil))
        · rw [if_pos (by rfl)]
          go_wp2_with fail
          refine (Own8_any (HR.out _ BB.out) HL.out).mono ?_
          rintro e w5 ⟨qo, co, rfl, ro, bo⟩
          have RL := Lib.hid ro
          have hS : _ ∧ _ := ⟨((bo).block _ (Array.getElem?_eq_some_iff.1 h0.1).1).trans h0.1, ((bo).block _ (Array.getElem?_eq_some_iff.1 h0.2).1).trans h0.2⟩
          have BB := Lib.hid (BB.out.trans ((bo).mono BB.out.size))
          clear ro bo
          go_wp2_with fail
          refine hK.out _ _ hS (fun h0 => ?_)
          clear hK K hS
          try simp only [Act.put, List.setIfInBounds_toArray, List.set_cons_zero, List.set_cons_succ]
          refine wpAnyH_ready (rs := [3, 13]) (by kernel_rfl) (by simp) ?_
          refine AllReadyH.cons (by rw [List.getElem?_toArray]; rfl) (fun K hK => ?_) (AllReadyH.cons (by rw [List.getElem?_toArray]; rfl) (fun K hK => ?_) (AllReadyH.nil))
          · rw [if_pos (by rfl)]
            go_wp2_with fail
            refine (Context8_any (HI.out _ BB.out) HIL.out).mono ?_
            rintro e w6 ⟨qc, kc, rfl, rc, bo⟩
            have RC := Lib.hid rc
            have RL := Lib.hid (RL.out.on PIs_ok (by decide) bo)
            have hS : _ ∧ _ := ⟨((bo).block _ (Array.getElem?_eq_some_iff.1 h0.1).1).trans h0.1, ((bo).block _ (Array.getElem?_eq_some_iff.1 h0.2).1).trans h0.2⟩
            have BB := Lib.hid (BB.out.trans ((bo).mono BB.out.size))
            clear rc bo
            go_wp2_with fail
            refine hK.out _ _ hS (fun h0 => ?_)
            clear hK K hS
            try simp only [Act.put, List.setIfInBounds_toArray, List.set_cons_zero, List.set_cons_succ]
            refine wpAnyH_ready (rs := [8, 13]) (by kernel_rfl) (by simp) ?_
            refine AllReadyH.cons (by rw [List.getElem?_toArray]; rfl) (fun K hK => ?_) (AllReadyH.cons (by rw [List.getElem?_toArray]; rfl) (fun K hK => ?_) (AllReadyH.nil))
            · rw [if_pos (by rfl)]
              go_wp2_with fail
              refine (Start_any _ (g + m) ws0_len).mono ?_
              rintro e w7 ⟨rfl, bo⟩
              have RC := Lib.hid (RC.out.on bo)
              have RL := Lib.hid (RL.out.on PIs_ok (by decide) bo)
              have hS : _ ∧ _ := ⟨((bo).block _ (Array.getElem?_eq_some_iff.1 h0.1).1).trans h0.1, ((bo).block _ (Array.getElem?_eq_some_iff.1 h0.2).1).trans h0.2⟩
              have BB := Lib.hid (BB.out.trans ((bo).mono BB.out.size))
              clear bo
              go_wp2_with fail
              refine hK.out _ _ hS (fun h0 => ?_)
              clear hK K hS
              try simp only [Act.put, List.setIfInBounds_toArray, List.set_cons_zero, List.set_cons_succ]
              refine wpAnyH_ready (rs := [9, 13]) (by kernel_rfl) (by simp) ?_
              refine AllReadyH.cons (by rw [List.getElem?_toArray]; rfl) (fun K hK => ?_) (AllReadyH.cons (by rw [List.getElem?_toArray]; rfl) (fun K hK => ?_) (AllReadyH.nil))
              · rw [if_pos (by rfl)]
                have KR := Lib.hid (Run_any (cL := co) RL.out HL.out LU.out HC.out RC.out (s := startM (g + m) ws0) (qs := none) (ks := 0) SOK2.out ⟨none, 0, rfl, .inl rfl⟩ (M := 500) (by decide))
                rw [HRN2.out] at KR
                unfold RunP at KR
                go_wp2_with fail
                refine KR.out.mono ?_
                rintro e w8 ⟨qr, kr, rfl, -, bo⟩
                have hS : _ ∧ _ := ⟨((bo).block _ (Array.getElem?_eq_some_iff.1 h0.1).1).trans h0.1, ((bo).block _ (Array.getElem?_eq_some_iff.1 h0.2).1).trans h0.2⟩
                have BB := Lib.hid (BB.out.trans ((bo).mono BB.out.size))
                clear bo KR
                go_wp2_with fail
                refine hK.out _ _ hS (fun h0 => ?_)
                clear hK K hS
                try simp only [Act.put, List.setIfInBounds_toArray, List.set_cons_zero, List.set_cons_succ]
                refine wpAnyH_take (i := 10) (v := ?_) (by rw [List.getElem?_toArray]; rfl) (by kernel_rfl) (by kernel_rfl) (by kernel_rfl) (by exact fun _ _ _ h => h) (Or.inl ⟨by rfl, ?_⟩) h0 ?_
                rotate_left
                · intro W hW
                  go_simp
                  all_goals with_reducible rfl
                try simp only [Act.put, List.setIfInBounds_toArray, List.set_cons_zero, List.set_cons_succ]
                refine wpAnyH_take (i := 11) (v := ?_) (by rw [List.getElem?_toArray]; rfl) (by kernel_rfl) (by kernel_rfl) (by kernel_rfl) (by exact fun _ _ _ h => h) (Or.inl ⟨by rfl, ?_⟩) h0 ?_
                rotate_left
                · intro W hW
                  go_simp
                  all_goals with_reducible rfl
                try simp only [Act.put, List.setIfInBounds_toArray, List.set_cons_zero, List.set_cons_succ]
                refine wpAnyH_take (i := 12) (v := ?_) (by rw [List.getElem?_toArray]; rfl) (by kernel_rfl) (by kernel_rfl) (by kernel_rfl) (by exact fun _ _ _ h => h) (Or.inl ⟨by rfl, ?_⟩) h0 ?_
                rotate_left
                · intro W hW
                  go_simp
                  all_goals with_reducible rfl
                try simp only [Act.put, List.setIfInBounds_toArray, List.set_cons_zero, List.set_cons_succ]
                refine wpAnyH_ready (rs := [13]) (by kernel_rfl) (by simp) ?_
                refine AllReadyH.cons (by rw [List.getElem?_toArray]; rfl) (fun K hK => ?_) AllReadyH.nil
                rw [if_pos (by rfl)]
                have ba : Below w8.heap.size w8 (w8.alloc (.cells (stRow ms0 none 0).toArray 31)) := (Below.refl _ _).alloc (Nat.le_refl _) _
                have hS : _ ∧ _ := ⟨((ba).block _ (Array.getElem?_eq_some_iff.1 h0.1).1).trans h0.1, ((ba).block _ (Array.getElem?_eq_some_iff.1 h0.2).1).trans h0.2⟩
                have BB := Lib.hid (BB.out.trans ((ba).mono BB.out.size))
                have VB := Lib.hid (heap_alloc_new w8 (.cells (stRow ms0 none 0).toArray 31))
                have VL : Hid (w.heap.size < w8.heap.size) := (Array.getElem?_eq_some_iff.1 h0.1).1
                have VA : Hid (va < w8.heap.size) := (Array.getElem?_eq_some_iff.1 h0.2).1
                clear ba
                go_wp2_with fail
                obtain ⟨vb, hvb⟩ : ∃ z, w8.heap.size = z := ⟨_, rfl⟩
                rw [hvb] at VB VL VA ⊢
                generalize w8.alloc (.cells (stRow ms0 none 0).toArray 31) = w9 at *
                clear hvb
                refine hK.out _ _ hS (fun h0 => ?_)
                clear hK K hS
                try simp only [Act.put, List.setIfInBounds_toArray, List.set_cons_zero, List.set_cons_succ]
                refine wpAnyH_ready (rs := [14]) (by kernel_rfl) (by simp) ?_
                refine AllReadyH.cons (by rw [List.getElem?_toArray]; rfl) (fun K hK => ?_) AllReadyH.nil
                rw [if_pos (by rfl)]
                have VBs : StAt w9 vb ms0 none 0 := VB.out
                have ct := VBs.there ws0_len
                have K9 := Lib.hid (VBs.put (s' := u2) (q' := qr) (c' := kr) ws0_len UW2.out)
                have VG := VL.out
                have VG2 := VA.out
                have hS : (w9.setCells vb 0 (stRow u2 qr kr)).heap[w.heap.size]? = some (.cells #[.int .u64 c.who, .int .u64 c.val, .slice qi c.inp.length ki] 26 (0, 0)) ∧ (w9.setCells vb 0 (stRow u2 qr kr)).heap[va]? = some (.cells (stRow u qa ka).toArray 31 (0, 0)) := ⟨(setCells_other (by omega) _ _ _).trans h0.1, (setCells_other (by omega) _ _ _).trans h0.2⟩
                have BB := Lib.hid (below_setCells' vb (Nat.le_of_lt VG) (stRow u2 qr kr) 0 BB.out)
                have uw := UW2.out
                clear VBs VB
                go_wp2_with fail
                clear ct uw
                generalize w9.setCells vb 0 (stRow u2 qr kr) = w10 at *
                refine hK.out _ _ hS (fun h0 => ?_)
                clear hK K hS
                try simp only [Act.put, List.setIfInBounds_toArray, List.set_cons_zero, List.set_cons_succ]
                refine wpAnyH_take (i := 15) (v := ?_) (by rw [List.getElem?_toArray]; rfl) (by kernel_rfl) (by kernel_rfl) (by kernel_rfl) (by exact fun _ _ _ h => h) (Or.inl ⟨by rfl, ?_⟩) h0 ?_
                rotate_left
                · intro W hW
                  go_simp
                  all_goals with_reducible rfl
                try simp only [Act.put, List.setIfInBounds_toArray, List.set_cons_zero, List.set_cons_succ]
                refine wpAnyH_done (by kernel_rfl) ?_ _
                have hb := Lib.hid h0.2
                go_wp2_with fail
                go_meet
                exact ⟨vb, qr, kr, rfl, rfl, K9, hb, BB⟩
              · rw [if_pos (by rfl)]
                have ba : Below w7.heap.size w7 (w7.alloc (.cells (stRow ms0 none 0).toArray 31)) := (Below.refl _ _).alloc (Nat.le_refl _) _
                have hS : _ ∧ _ := ⟨((ba).block _ (Array.getElem?_eq_some_iff.1 h0.1).1).trans h0.1, ((ba).block _ (Array.getElem?_eq_some_iff.1 h0.2).1).trans h0.2⟩
                have BB := Lib.hid (BB.out.trans ((ba).mono BB.out.size))
                have VB := Lib.hid (heap_alloc_new w7 (.cells (stRow ms0 none 0).toArray 31))
                have VL : Hid (w.heap.size < w7.heap.size) := (Array.getElem?_eq_some_iff.1 h0.1).1
                have VA : Hid (va < w7.heap.size) := (Array.getElem?_eq_some_iff.1 h0.2).1
                have RL := Lib.hid (RL.out.on PIs_ok (by decide) ba)
                have RC := Lib.hid (RC.out.on ba)
                clear ba
                go_wp2_with fail
                obtain ⟨vb, hvb⟩ : ∃ z, w7.heap.size = z := ⟨_, rfl⟩
                rw [hvb] at VB VL VA ⊢
                generalize w7.alloc (.cells (stRow ms0 none 0).toArray 31) = w9 at *
                clear hvb
                refine hK.out _ _ hS (fun h0 => ?_)
                clear hK K hS
                try simp only [Act.put, List.setIfInBounds_toArray, List.set_cons_zero, List.set_cons_succ]
                refine wpAnyH_ready (rs := [9]) (by kernel_rfl) (by simp) ?_
                refine AllReadyH.cons (by rw [List.getElem?_toArray]; rfl) (fun K hK => ?_) AllReadyH.nil
                rw [if_pos (by rfl)]
                have KR := Lib.hid (Run_any (cL := co) RL.out HL.out LU.out HC.out RC.out (s := startM (g + m) ws0) (qs := none) (ks := 0) SOK2.out ⟨none, 0, rfl, .inl rfl⟩ (M := 500) (by decide))
                rw [HRN2.out] at KR
                unfold RunP at KR
                go_wp2_with fail
                refine KR.out.mono ?_
                rintro e w8 ⟨qr, kr, rfl, -, bo⟩
                have hS : _ ∧ _ := ⟨((bo).block _ (Array.getElem?_eq_some_iff.1 h0.1).1).trans h0.1, ((bo).block _ (Array.getElem?_eq_some_iff.1 h0.2).1).trans h0.2⟩
                have VB := Lib.hid (((bo).block _ (Array.getElem?_eq_some_iff.1 VB.out).1).trans VB.out)
                have BB := Lib.hid (BB.out.trans ((bo).mono BB.out.size))
                clear bo KR
                go_wp2_with fail
                refine hK.out _ _ hS (fun h0 => ?_)
                clear hK K hS
                try simp only [Act.put, List.setIfInBounds_toArray, List.set_cons_zero, List.set_cons_succ]
                refine wpAnyH_take (i := 10) (v := ?_) (by rw [List.getElem?_toArray]; rfl) (by kernel_rfl) (by kernel_rfl) (by kernel_rfl) (by exact fun _ _ _ h => h) (Or.inl ⟨by rfl, ?_⟩) h0 ?_
                rotate_left
                · intro W hW
                  go_simp
                  all_goals with_reducible rfl
                try simp only [Act.put, List.setIfInBounds_toArray, List.set_cons_zero, List.set_cons_succ]
                refine wpAnyH_take (i := 11) (v := ?_) (by rw [List.getElem?_toArray]; rfl) (by kernel_rfl) (by kernel_rfl) (by kernel_rfl) (by exact fun _ _ _ h => h) (Or.inl ⟨by rfl, ?_⟩) h0 ?_
                rotate_left
                · intro W hW
                  go_simp
                  all_goals with_reducible rfl
                try simp only [Act.put, List.setIfInBounds_toArray, List.set_cons_zero, List.set_cons_succ]
                refine wpAnyH_take (i := 12) (v := ?_) (by rw [List.getElem?_toArray]; rfl) (by kernel_rfl) (by kernel_rfl) (by kernel_rfl) (by exact fun _ _ _ h => h) (Or.inl ⟨by rfl, ?_⟩) h0 ?_
                rotate_left
                · intro W hW
                  go_simp
                  all_goals with_reducible rfl
                try simp only [Act.put, List.setIfInBounds_toArray, List.set_cons_zero, List.set_cons_succ]
                refine wpAnyH_ready (rs := [14]) (by kernel_rfl) (by simp) ?_
                refine AllReadyH.cons (by rw [List.getElem?_toArray]; rfl) (fun K hK => ?_) AllReadyH.nil
                rw [if_pos (by rfl)]
                have VBs : StAt w8 vb ms0 none 0 := VB.out
                have ct := VBs.there ws0_len
                have K9 := Lib.hid (VBs.put (s' := u2) (q' := qr) (c' := kr) ws0_len UW2.out)
                have VG := VL.out
                have VG2 := VA.out
                have hS : (w8.setCells vb 0 (stRow u2 qr kr)).heap[w.heap.size]? = some (.cells #[.int .u64 c.who, .int .u64 c.val, .slice qi c.inp.length ki] 26 (0, 0)) ∧ (w8.setCells vb 0 (stRow u2 qr kr)).heap[va]? = some (.cells (stRow u qa ka).toArray 31 (0, 0)) := ⟨(setCells_other (by omega) _ _ _).trans h0.1, (setCells_other (by omega) _ _ _).trans h0.2⟩
                have BB := Lib.hid (below_setCells' vb (Nat.le_of_lt VG) (stRow u2 qr kr) 0 BB.out)
                have uw := UW2.out
                clear VBs VB
                go_wp2_with fail
                clear ct uw
                generalize w8.setCells vb 0 (stRow u2 qr kr) = w10 at *
                refine hK.out _ _ hS (fun h0 => ?_)
                clear hK K hS
                try simp only [Act.put, List.setIfInBounds_toArray, List.set_cons_zero, List.set_cons_succ]
                refine wpAnyH_take (i := 15) (v := ?_) (by rw [List.getElem?_toArray]; rfl) (by kernel_rfl) (by kernel_rfl) (by kernel_rfl) (by exact fun _ _ _ h => h) (Or.inl ⟨by rfl, ?_⟩) h0 ?_
                rotate_left
                · intro W hW
                  go_simp
                  all_goals with_reducible rfl
                try simp only [Act.put, List.setIfInBounds_toArray, List.set_cons_zero, List.set_cons_succ]
                refine wpAnyH_done (by kernel_rfl) ?_ _
                have hb := Lib.hid h0.2
                go_wp2_with fail
                go_meet
                exact ⟨vb, qr, kr, rfl, rfl, K9, hb, BB⟩
            · rw [if_pos (by rfl)]
              have ba : Below w6.heap.size w6 (w6.alloc (.cells (stRow ms0 none 0).toArray 31)) := (Below.refl _ _).alloc (Nat.le_refl _) _
              have hS : _ ∧ _ := ⟨((ba).block _ (Array.getElem?_eq_some_iff.1 h0.1).1).trans h0.1, ((ba).block _ (Array.getElem?_eq_some_iff.1 h0.2).1).trans h0.2⟩
              have BB := Lib.hid (BB.out.trans ((ba).mono BB.out.size))
              have VB := Lib.hid (heap_alloc_new w6 (.cells (stRow ms0 none 0).toArray 31))
              have VL : Hid (w.heap.size < w6.heap.size) := (Array.getElem?_eq_some_iff.1 h0.1).1
              have VA : Hid (va < w6.heap.size) := (Array.getElem?_eq_some_iff.1 h0.2).1
              have RL := Lib.hid (RL.out.on PIs_ok (by decide) ba)
              have RC := Lib.hid (RC.out.on ba)
              clear ba
              go_wp2_with fail
              obtain ⟨vb, hvb⟩ : ∃ z, w6.heap.size = z := ⟨_, rfl⟩
              rw [hvb] at VB VL VA ⊢
              generalize w6.alloc (.cells (stRow ms0 none 0).toArray 31) = w9 at *
              clear hvb
              refine hK.out _ _ hS (fun h0 => ?_)
              clear hK K hS
              try simp only [Act.put, List.setIfInBounds_toArray, List.set_cons_zero, List.set_cons_succ]
              refine wpAnyH_ready (rs := [8]) (by kernel_rfl) (by simp) ?_
              refine AllReadyH.cons (by rw [List.getElem?_toArray]; rfl) (fun K hK => ?_) AllReadyH.nil
              rw [if_pos (by rfl)]
              go_wp2_with fail
              refine (Start_any _ (g + m) ws0_len).mono ?_
              rintro e w7 ⟨rfl, bo⟩
              have RC := Lib.hid (RC.out.on bo)
              have RL := Lib.hid (RL.out.on PIs_ok (by decide) bo)
              have hS : _ ∧ _ := ⟨((bo).block _ (Array.getElem?_eq_some_iff.1 h0.1).1).trans h0.1, ((bo).block _ (Array.getElem?_eq_some_iff.1 h0.2).1).trans h0.2⟩
              have VB := Lib.hid (((bo).block _ (Array.getElem?_eq_some_iff.1 VB.out).1).trans VB.out)
              have BB := Lib.hid (BB.out.trans ((bo).mono BB.out.size))
              clear bo
              go_wp2_with fail
              refine hK.out _ _ hS (fun h0 => ?_)
              clear hK K hS
              try simp only [Act.put, List.setIfInBounds_toArray, List.set_cons_zero, List.set_cons_succ]
              refine wpAnyH_ready (rs := [9]) (by kernel_rfl) (by simp) ?_
              refine AllReadyH.cons (by rw [List.getElem?_toArray]; rfl) (fun K hK => ?_) AllReadyH.nil
              rw [if_pos (by rfl)]
              have KR := Lib.hid (Run_any (cL := co) RL.out HL.out LU.out HC.out RC.out (s := startM (g + m) ws0) (qs := none) (ks := 0) SOK2.out ⟨none, 0, rfl, .inl rfl⟩ (M := 500) (by decide))
              rw [HRN2.out] at KR
              unfold RunP at KR
              go_wp2_with fail
              refine KR.out.mono ?_
              rintro e w8 ⟨qr, kr, rfl, -, bo⟩
              have hS : _ ∧ _ := ⟨((bo).block _ (Array.getElem?_eq_some_iff.1 h0.1).1).trans h0.1, ((bo).block _ (Array.getElem?_eq_some_iff.1 h0.2).1).trans h0.2⟩
              have VB := Lib.hid (((bo).block _ (Array.getElem?_eq_some_iff.1 VB.out).1).trans VB.out)
              have BB := Lib.hid (BB.out.trans ((bo).mono BB.out.size))
              clear bo KR
              go_wp2_with fail
              refine hK.out _ _ hS (fun h0 => ?_)
              clear hK K hS
              try simp only [Act.put, List.setIfInBounds_toArray, List.set_cons_zero, List.set_cons_succ]
              refine wpAnyH_take (i := 10) (v := ?_) (by rw [List.getElem?_toArray]; rfl) (by kernel_rfl) (by kernel_rfl) (by kernel_rfl) (by exact fun _ _ _ h => h) (Or.inl ⟨by rfl, ?_⟩) h0 ?_
              rotate_left
              · intro W hW
                go_simp
                all_goals with_reducible rfl
              try simp only [Act.put, List.setIfInBounds_toArray, List.set_cons_zero, List.set_cons_succ]
              refine wpAnyH_take (i := 11) (v := ?_) (by rw [List.getElem?_toArray]; rfl) (by kernel_rfl) (by kernel_rfl) (by kernel_rfl) (by exact fun _ _ _ h => h) (Or.inl ⟨by rfl, ?_⟩) h0 ?_
              rotate_left
              · intro W hW
                go_simp
                all_goals with_reducible rfl
              try simp only [Act.put, List.setIfInBounds_toArray, List.set_cons_zero, List.set_cons_succ]
              refine wpAnyH_take (i := 12) (v := ?_) (by rw [List.getElem?_toArray]; rfl) (by kernel_rfl) (by kernel_rfl) (by kernel_rfl) (by exact fun _ _ _ h => h) (Or.inl ⟨by rfl, ?_⟩) h0 ?_
              rotate_left
              · intro W hW
                go_simp
                all_goals with_reducible rfl
              try simp only [Act.put, List.setIfInBounds_toArray, List.set_cons_zero, List.set_cons_succ]
              refine wpAnyH_ready (rs := [14]) (by kernel_rfl) (by simp) ?_
              refine AllReadyH.cons (by rw [List.getElem?_toArray]; rfl) (fun K hK => ?_) AllReadyH.nil
              rw [if_pos (by rfl)]
              have VBs : StAt w8 vb ms0 none 0 := VB.out
              have ct := VBs.there ws0_len
              have K9 := Lib.hid (VBs.put (s' := u2) (q' := qr) (c' := kr) ws0_len UW2.out)
              have VG := VL.out
              have VG2 := VA.out
              have hS : (w8.setCells vb 0 (stRow u2 qr kr)).heap[w.heap.size]? = some (.cells #[.int .u64 c.who, .int .u64 c.val, .slice qi c.inp.length ki] 26 (0, 0)) ∧ (w8.setCells vb 0 (stRow u2 qr kr)).heap[va]? = some (.cells (stRow u qa ka).toArray 31 (0, 0)) := ⟨(setCells_other (by omega) _ _ _).trans h0.1, (setCells_other (by omega) _ _ _).trans h0.2⟩
              have BB := Lib.hid (below_setCells' vb (Nat.le_of_lt VG) (stRow u2 qr kr) 0 BB.out)
              have uw := UW2.out
              clear VBs VB
              go_wp2_with fail
              clear ct uw
              generalize w8.setCells vb 0 (stRow u2 qr kr) = w10 at *
              refine hK.out _ _ hS (fun h0 => ?_)
              clear hK K hS
              try simp only [Act.put, List.setIfInBounds_toArray, List.set_cons_zero, List.set_cons_succ]
              refine wpAnyH_take (i := 15) (v := ?_) (by rw [List.getElem?_toArray]; rfl) (by kernel_rfl) (by kernel_rfl) (by kernel_rfl) (by exact fun _ _ _ h => h) (Or.inl ⟨by rfl, ?_⟩) h0 ?_
              rotate_left
              · intro W hW
                go_simp
                all_goals with_reducible rfl
              try simp only [Act.put, List.setIfInBounds_toArray, List.set_cons_zero, List.set_cons_succ]
              refine wpAnyH_done (by kernel_rfl) ?_ _
              have hb := Lib.hid h0.2
              go_wp2_with fail
              go_meet
              exact ⟨vb, qr, kr, rfl, rfl, K9, hb, BB⟩
          · rw [if_pos (by rfl)]
            have ba : Below w5.heap.size w5 (w5.alloc (.cells (stRow ms0 none 0).toArray 31)) := (Below.refl _ _).alloc (Nat.le_refl _) _
            have hS : _ ∧ _ := ⟨((ba).block _ (Array.getElem?_eq_some_iff.1 h0.1).1).trans h0.1, ((ba).block _ (Array.getElem?_eq_some_iff.1 h0.2).1).trans h0.2⟩
            have BB := Lib.hid (BB.out.trans ((ba).mono BB.out.size))
            have VB := Lib.hid (heap_alloc_new w5 (.cells (stRow ms0 none 0).toArray 31))
            have VL : Hid (w.heap.size < w5.heap.size) := (Array.getElem?_eq_some_iff.1 h0.1).1
            have VA : Hid (va < w5.heap.size) := (Array.getElem?_eq_some_iff.1 h0.2).1
            have RL := Lib.hid (RL.out.on PIs_ok (by decide) ba)
            clear ba
            go_wp2_with fail
            obtain ⟨vb, hvb⟩ : ∃ z, w5.heap.size = z := ⟨_, rfl⟩
            rw [hvb] at VB VL VA ⊢
            generalize w5.alloc (.cells (stRow ms0 none 0).toArray 31) = w9 at *
            clear hvb
            refine hK.out _ _ hS (fun h0 => ?_)
            clear hK K hS
            try simp only [Act.put, List.setIfInBounds_toArray, List.set_cons_zero, List.set_cons_succ]
            refine wpAnyH_ready (rs := [3]) (by kernel_rfl) (by simp) ?_
            refine AllReadyH.cons (by rw [List.getElem?_toArray]; rfl) (fun K hK => ?_) AllReadyH.nil
            rw [if_pos (by rfl)]
            go_wp2_with fail
            refine (Context8_any (HI.out _ BB.out) HIL.out).mono ?_
            rintro e w6 ⟨qc, kc, rfl, rc, bo⟩
            have RC := Lib.hid rc
            have RL := Lib.hid (RL.out.on PIs_ok (by decide) bo)
            have hS : _ ∧ _ := ⟨((bo).block _ (Array.getElem?_eq_some_iff.1 h0.1).1).trans h0.1, ((bo).block _ (Array.getElem?_eq_some_iff.1 h0.2).1).trans h0.2⟩
            have VB := Lib.hid (((bo).block _ (Array.getElem?_eq_some_iff.1 VB.out).1).trans VB.out)
            have BB := Lib.hid (BB.out.trans ((bo).mono BB.out.size))
            clear rc bo
            go_wp2_with fail
            refine hK.out _ _ hS (fun h0 => ?_)
            clear hK K hS
            try simp only [Act.put, List.setIfInBounds_toArray, List.set_cons_zero, List.set_cons_succ]
            refine wpAnyH_ready (rs := [8]) (by kernel_rfl) (by simp) ?_
            refine AllReadyH.cons (by rw [List.getElem?_toArray]; rfl) (fun K hK => ?_) AllReadyH.nil
            rw [if_pos (by rfl)]
            go_wp2_with fail
            refine (Start_any _ (g + m) ws0_len).mono ?_
            rintro e w7 ⟨rfl, bo⟩
            have RC := Lib.hid (RC.out.on bo)
            have RL := Lib.hid (RL.out.on PIs_ok (by decide) bo)
            have hS : _ ∧ _ := ⟨((bo).block _ (Array.getElem?_eq_some_iff.1 h0.1).1).trans h0.1, ((bo).block _ (Array.getElem?_eq_some_iff.1 h0.2).1).trans h0.2⟩
            have VB := Lib.hid (((bo).block _ (Array.getElem?_eq_some_iff.1 VB.out).1).trans VB.out)
            have BB := Lib.hid (BB.out.trans ((bo).mono BB.out.size))
            clear bo
            go_wp2_with fail
            refine hK.out _ _ hS (fun h0 => ?_)
            clear hK K hS
            try simp only [Act.put, List.setIfInBounds_toArray, List.set_cons_zero, List.set_cons_succ]
            refine wpAnyH_ready (rs := [9]) (by kernel_rfl) (by simp) ?_
            refine AllReadyH.cons (by rw [List.getElem?_toArray]; rfl) (fun K hK => ?_) AllReadyH.nil
            rw [if_pos (by rfl)]
            have KR := Lib.hid (Run_any (cL := co) RL.out HL.out LU.out HC.out RC.out (s := startM (g + m) ws0) (qs := none) (ks := 0) SOK2.out ⟨none, 0, rfl, .inl rfl⟩ (M := 500) (by decide))
            rw [HRN2.out] at KR
            unfold RunP at KR
            go_wp2_with fail
            refine KR.out.mono ?_
            rintro e w8 ⟨qr, kr, rfl, -, bo⟩
            have hS : _ ∧ _ := ⟨((bo).block _ (Array.getElem?_eq_some_iff.1 h0.1).1).trans h0.1, ((bo).block _ (Array.getElem?_eq_some_iff.1 h0.2).1).trans h0.2⟩
            have VB := Lib.hid (((bo).block _ (Array.getElem?_eq_some_iff.1 VB.out).1).trans VB.out)
            have BB := Lib.hid (BB.out.trans ((bo).mono BB.out.size))
            clear bo KR
            go_wp2_with fail
            refine hK.out _ _ hS (fun h0 => ?_)
            clear hK K hS
            try simp only [Act.put, List.setIfInBounds_toArray, List.set_cons_zero, List.set_cons_succ]
            refine wpAnyH_take (i := 10) (v := ?_) (by rw [List.getElem?_toArray]; rfl) (by kernel_rfl) (by kernel_rfl) (by kernel_rfl) (by exact fun _ _ _ h => h) (Or.inl ⟨by rfl, ?_⟩) h0 ?_
            rotate_left
            · intro W hW
              go_simp
              all_goals with_reducible rfl
            try simp only [Act.put, List.setIfInBounds_toArray, List.set_cons_zero, List.set_cons_succ]
            refine wpAnyH_take (i := 11) (v := ?_) (by rw [List.getElem?_toArray]; rfl) (by kernel_rfl) (by kernel_rfl) (by kernel_rfl) (by exact fun _ _ _ h => h) (Or.inl ⟨by rfl, ?_⟩) h0 ?_
            rotate_left
            · intro W hW
              go_simp
              all_goals with_reducible rfl
            try simp only [Act.put, List.setIfInBounds_toArray, List.set_cons_zero, List.set_cons_succ]
            refine wpAnyH_take (i := 12) (v := ?_) (by rw [List.getElem?_toArray]; rfl) (by kernel_rfl) (by kernel_rfl) (by kernel_rfl) (by exact fun _ _ _ h => h) (Or.inl ⟨by rfl, ?_⟩) h0 ?_
            rotate_left
            · intro W hW
              go_simp
              all_goals with_reducible rfl
            try simp only [Act.put, List.setIfInBounds_toArray, List.set_cons_zero, List.set_cons_succ]
            refine wpAnyH_ready (rs := [14]) (by kernel_rfl) (by simp) ?_
            refine AllReadyH.cons (by rw [List.getElem?_toArray]; rfl) (fun K hK => ?_) AllReadyH.nil
            rw [if_pos (by rfl)]
            have VBs : StAt w8 vb ms0 none 0 := VB.out
            have ct := VBs.there ws0_len
            have K9 := Lib.hid (VBs.put (s' := u2) (q' := qr) (c' := kr) ws0_len UW2.out)
            have VG := VL.out
            have VG2 := VA.out
            have hS : (w8.setCells vb 0 (stRow u2 qr kr)).heap[w.heap.size]? = some (.cells #[.int .u64 c.who, .int .u64 c.val, .slice qi c.inp.length ki] 26 (0, 0)) ∧ (w8.setCells vb 0 (stRow u2 qr kr)).heap[va]? = some (.cells (stRow u qa ka).toArray 31 (0, 0)) := ⟨(setCells_other (by omega) _ _ _).trans h0.1, (setCells_other (by omega) _ _ _).trans h0.2⟩
            have BB := Lib.hid (below_setCells' vb (Nat.le_of_lt VG) (stRow u2 qr kr) 0 BB.out)
            have uw := UW2.out
            clear VBs VB
            go_wp2_with fail
            clear ct uw
            generalize w8.setCells vb 0 (stRow u2 qr kr) = w10 at *
            refine hK.out _ _ hS (fun h0 => ?_)
            clear hK K hS
            try simp only [Act.put, List.setIfInBounds_toArray, List.set_cons_zero, List.set_cons_succ]
            refine wpAnyH_take (i := 15) (v := ?_) (by rw [List.getElem?_toArray]; rfl) (by kernel_rfl) (by kernel_rfl) (by kernel_rfl) (by exact fun _ _ _ h => h) (Or.inl ⟨by rfl, ?_⟩) h0 ?_
            rotate_left
            · intro W hW
              go_simp
              all_goals with_reducible rfl
            try simp only [Act.put, List.setIfInBounds_toArray, List.set_cons_zero, List.set_cons_succ]
            refine wpAnyH_done (by kernel_rfl) ?_ _
            have hb := Lib.hid h0.2
            go_wp2_with fail
            go_meet
            exact ⟨vb, qr, kr, rfl, rfl, K9, hb, BB⟩
        · rw [if_pos (by rfl)]
          have ba : Below w3.heap.size w3 (w3.alloc (.cells (stRow ms0 none 0).toArray 31)) := (Below.refl _ _).alloc (Nat.le_refl _) _
          have hS : _ ∧ _ := ⟨((ba).block _ (Array.getElem?_eq_some_iff.1 h0.1).1).trans h0.1, ((ba).block _ (Array.getElem?_eq_some_iff.1 h0.2).1).trans h0.2⟩
          have BB := Lib.hid (BB.out.trans ((ba).mono BB.out.size))
          have VB := Lib.hid (heap_alloc_new w3 (.cells (stRow ms0 none 0).toArray 31))
          have VL : Hid (w.heap.size < w3.heap.size) := (Array.getElem?_eq_some_iff.1 h0.1).1
          have VA : Hid (va < w3.heap.size) := (Array.getElem?_eq_some_iff.1 h0.2).1
          clear ba
          go_wp2_with fail
          obtain ⟨vb, hvb⟩ : ∃ z, w3.heap.size = z := ⟨_, rfl⟩
          rw [hvb] at VB VL VA ⊢
          generalize w3.alloc (.cells (stRow ms0 none 0).toArray 31) = w9 at *
          clear hvb
          refine hK.out _ _ hS (fun h0 => ?_)
          clear hK K hS
          try simp only [Act.put, List.setIfInBounds_toArray, List.set_cons_zero, List.set_cons_succ]
          refine wpAnyH_ready (rs := [1]) (by kernel_rfl) (by simp) ?_
          refine AllReadyH.cons (by rw [List.getElem?_toArray]; rfl) (fun K hK => ?_) AllReadyH.nil
          rw [if_pos (by rfl)]
          go_wp2_with fail
          refine (Own8_any (HR.out _ BB.out) HL.out).mono ?_
          rintro e w5 ⟨qo, co, rfl, ro, bo⟩
          have RL := Lib.hid ro
          have hS : _ ∧ _ := ⟨((bo).block _ (Array.getElem?_eq_some_iff.1 h0.1).1).trans h0.1, ((bo).block _ (Array.getElem?_eq_some_iff.1 h0.2).1).trans h0.2⟩
          have VB := Lib.hid (((bo).block _ (Array.getElem?_eq_some_iff.1 VB.out).1).trans VB.out)
          have BB := Lib.hid (BB.out.trans ((bo).mono BB.out.size))
          clear ro bo
          go_wp2_with fail
          refine hK.out _ _ hS (fun h0 => ?_)
          clear hK K hS
          try simp only [Act.put, List.setIfInBounds_toArray, List.set_cons_zero, List.set_cons_succ]
          refine wpAnyH_ready (rs := [3]) (by kernel_rfl) (by simp) ?_
          refine AllReadyH.cons (by rw [List.getElem?_toArray]; rfl) (fun K hK => ?_) AllReadyH.nil
          rw [if_pos (by rfl)]
          go_wp2_with fail
          refine (Context8_any (HI.out _ BB.out) HIL.out).mono ?_
          rintro e w6 ⟨qc, kc, rfl, rc, bo⟩
          have RC := Lib.hid rc
          have RL := Lib.hid (RL.out.on PIs_ok (by decide) bo)
          have hS : _ ∧ _ := ⟨((bo).block _ (Array.getElem?_eq_some_iff.1 h0.1).1).trans h0.1, ((bo).block _ (Array.getElem?_eq_some_iff.1 h0.2).1).trans h0.2⟩
          have VB := Lib.hid (((bo).block _ (Array.getElem?_eq_some_iff.1 VB.out).1).trans VB.out)
          have BB := Lib.hid (BB.out.trans ((bo).mono BB.out.size))
          clear rc bo
          go_wp2_with fail
          refine hK.out _ _ hS (fun h0 => ?_)
          clear hK K hS
          try simp only [Act.put, List.setIfInBounds_toArray, List.set_cons_zero, List.set_cons_succ]
          refine wpAnyH_ready (rs := [8]) (by kernel_rfl) (by simp) ?_
          refine AllReadyH.cons (by rw [List.getElem?_toArray]; rfl) (fun K hK => ?_) AllReadyH.nil
          rw [if_pos (by rfl)]
          go_wp2_with fail
          refine (Start_any _ (g + m) ws0_len).mono ?_
          rintro e w7 ⟨rfl, bo⟩
          have RC := Lib.hid (RC.out.on bo)
          have RL := Lib.hid (RL.out.on PIs_ok (by decide) bo)
          have hS : _ ∧ _ := ⟨((bo).block _ (Array.getElem?_eq_some_iff.1 h0.1).1).trans h0.1, ((bo).block _ (Array.getElem?_eq_some_iff.1 h0.2).1).trans h0.2⟩
          have VB := Lib.hid (((bo).block _ (Array.getElem?_eq_some_iff.1 VB.out).1).trans VB.out)
          have BB := Lib.hid (BB.out.trans ((bo).mono BB.out.size))
          clear bo
          go_wp2_with fail
          refine hK.out _ _ hS (fun h0 => ?_)
          clear hK K hS
          try simp only [Act.put, List.setIfInBounds_toArray, List.set_cons_zero, List.set_cons_succ]
          refine wpAnyH_ready (rs := [9]) (by kernel_rfl) (by simp) ?_
          refine AllReadyH.cons (by rw [List.getElem?_toArray]; rfl) (fun K hK => ?_) AllReadyH.nil
          rw [if_pos (by rfl)]
          have KR := Lib.hid (Run_any (cL := co) RL.out HL.out LU.out HC.out RC.out (s := startM (g + m) ws0) (qs := none) (ks := 0) SOK2.out ⟨none, 0, rfl, .inl rfl⟩ (M := 500) (by decide))
          rw [HRN2.out] at KR
          unfold RunP at KR
          go_wp2_with fail
          refine KR.out.mono ?_
          rintro e w8 ⟨qr, kr, rfl, -, bo⟩
          have hS : _ ∧ _ := ⟨((bo).block _ (Array.getElem?_eq_some_iff.1 h0.1).1).trans h0.1, ((bo).block _ (Array.getElem?_eq_some_iff.1 h0.2).1).trans h0.2⟩
          have VB := Lib.hid (((bo).block _ (Array.getElem?_eq_some_iff.1 VB.out).1).trans VB.out)
          have BB := Lib.hid (BB.out.trans ((bo).mono BB.out.size))
          clear bo KR
          go_wp2_with fail
          refine hK.out _ _ hS (fun h0 => ?_)
          clear hK K hS
          try simp only [Act.put, List.setIfInBounds_toArray, List.set_cons_zero, List.set_cons_succ]
          refine wpAnyH_take (i := 10) (v := ?_) (by rw [List.getElem?_toArray]; rfl) (by kernel_rfl) (by kernel_rfl) (by kernel_rfl) (by exact fun _ _ _ h => h) (Or.inl ⟨by rfl, ?_⟩) h0 ?_
          rotate_left
          · intro W hW
            go_simp
            all_goals with_reducible rfl
          try simp only [Act.put, List.setIfInBounds_toArray, List.set_cons_zero, List.set_cons_succ]
          refine wpAnyH_take (i := 11) (v := ?_) (by rw [List.getElem?_toArray]; rfl) (by kernel_rfl) (by kernel_rfl) (by kernel_rfl) (by exact fun _ _ _ h => h) (Or.inl ⟨by rfl, ?_⟩) h0 ?_
          rotate_left
          · intro W hW
            go_simp
            all_goals with_reducible rfl
          try simp only [Act.put, List.setIfInBounds_toArray, List.set_cons_zero, List.set_cons_succ]
          refine wpAnyH_take (i := 12) (v := ?_) (by rw [List.getElem?_toArray]; rfl) (by kernel_rfl) (by kernel_rfl) (by kernel_rfl) (by exact fun _ _ _ h => h) (Or.inl ⟨by rfl, ?_⟩) h0 ?_
          rotate_left
          · intro W hW
            go_simp
            all_goals with_reducible rfl
          try simp only [Act.put, List.setIfInBounds_toArray, List.set_cons_zero, List.set_cons_succ]
          refine wpAnyH_ready (rs := [14]) (by kernel_rfl) (by simp) ?_
          refine AllReadyH.cons (by rw [List.getElem?_toArray]; rfl) (fun K hK => ?_) AllReadyH.nil
          rw [if_pos (by rfl)]
          have VBs : StAt w8 vb ms0 none 0 := VB.out
          have ct := VBs.there ws0_len
          have K9 := Lib.hid (VBs.put (s' := u2) (q' := qr) (c' := kr) ws0_len UW2.out)
          have VG := VL.out
          have VG2 := VA.out
          have hS : (w8.setCells vb 0 (stRow u2 qr kr)).heap[w.heap.size]? = some (.cells #[.int .u64 c.who, .int .u64 c.val, .slice qi c.inp.length ki] 26 (0, 0)) ∧ (w8.setCells vb 0 (stRow u2 qr kr)).heap[va]? = some (.cells (stRow u qa ka).toArray 31 (0, 0)) := ⟨(setCells_other (by omega) _ _ _).trans h0.1, (setCells_other (by omega) _ _ _).trans h0.2⟩
          have BB := Lib.hid (below_setCells' vb (Nat.le_of_lt VG) (stRow u2 qr kr) 0 BB.out)
          have uw := UW2.out
          clear VBs VB
          go_wp2_with fail
          clear ct uw
          generalize w8.setCells vb 0 (stRow u2 qr kr) = w10 at *
          refine hK.out _ _ hS (fun h0 => ?_)
          clear hK K hS
          try simp only [Act.put, List.setIfInBounds_toArray, List.set_cons_zero, List.set_cons_succ]
          refine wpAnyH_take (i := 15) (v := ?_) (by rw [List.getElem?_toArray]; rfl) (by kernel_rfl) (by kernel_rfl) (by kernel_rfl) (by exact fun _ _ _ h => h) (Or.inl ⟨by rfl, ?_⟩) h0 ?_
          rotate_left
          · intro W hW
            go_simp
            all_goals with_reducible rfl
          try simp only [Act.put, List.setIfInBounds_toArray, List.set_cons_zero, List.set_cons_succ]
          refine wpAnyH_done (by kernel_rfl) ?_ _
          have hb := Lib.hid h0.2
          go_wp2_with fail
          go_meet
          exact ⟨vb, qr, kr, rfl, rfl, K9, hb, BB⟩
    case rest =>
      obtain ⟨vb, qb, kb, rfl, rfl, KB, KA, BC⟩ := hcut
      clear BB hS0 HR HI HC LU HL HIL HRN HRN2 SOK SOK2 wgm WGM
      have uw := UW.out
      rcases AL.out with ⟨ue, us⟩ | AE
      · as_aux_lemma =>
          have va0 : wc.cell? ⟨va, 0, none⟩ = some (.int .i64 u.pc) := (Joins.cell_of_block KA.out 0).trans rfl
          have va1 : wc.cell? ⟨va, 1, none⟩ = some (.int .u64 u.gas) := (Joins.cell_of_block KA.out 1).trans rfl
          have va2 : wc.cell? ⟨va, 2, none⟩ = some (.int .i64 u.st) := (Joins.cell_of_block KA.out 2).trans rfl
          have va3 : wc.cell? ⟨va, 3, none⟩ = some (.int .i64 u.e) := (Joins.cell_of_block KA.out 3).trans rfl
          have va4 : wc.cell? ⟨va, 4, none⟩ = some (.slice qa u.stk.length ka) := (Joins.cell_of_block KA.out 4).trans rfl
          have va5 : rowOf wc va 5 16 = wcs u.wds := by
            have h := wordsAt KA.out uw
            exact h
          rw [us] at va2
          rw [ue] at va3
          clear us ue
          go_wp2_with fail
          refine (num8_any _ _).mono ?_
          rintro e wz ⟨rfl, hwz⟩
          obtain rfl := hwz.symm
          clear hwz
          go_wp2_with fail
          refine (knows8_any _).mono ?_
          rintro e w9 ⟨rfl, hb⟩
          have B9 := Lib.hid (BC.out.trans (hb.mono BC.out.size))
          clear hb
          go_wp2_with fail
          go_ret
          exact ⟨rfl, B9.out⟩
      · simp only [Prod.mk.injEq] at AE
        obtain ⟨rfl, rfl⟩ := AE
        have va0 : wc.cell? ⟨va, 0, none⟩ = some (.int .i64 u.pc) := (Joins.cell_of_block KA.out 0).trans rfl
        have va1 : wc.cell? ⟨va, 1, none⟩ = some (.int .u64 u.gas) := (Joins.cell_of_block KA.out 1).trans rfl
        have va2 : wc.cell? ⟨va, 2, none⟩ = some (.int .i64 u.st) := (Joins.cell_of_block KA.out 2).trans rfl
        have va3 : wc.cell? ⟨va, 3, none⟩ = some (.int .i64 u.e) := (Joins.cell_of_block KA.out 3).trans rfl
        have va4 : wc.cell? ⟨va, 4, none⟩ = some (.slice qa u.stk.length ka) := (Joins.cell_of_block KA.out 4).trans rfl
        have va5 : rowOf wc va 5 16 = wcs u.wds := by
          have h := wordsAt KA.out uw
          exact h
        have vb0 : wc.cell? ⟨vb, 0, none⟩ = some (.int .i64 u.pc) := (Joins.cell_of_block KB.out 0).trans rfl
        have vb1 : wc.cell? ⟨vb, 1, none⟩ = some (.int .u64 (u.gas + m)) := (Joins.cell_of_block KB.out 1).trans rfl
        have vb2 : wc.cell? ⟨vb, 2, none⟩ = some (.int .i64 u.st) := (Joins.cell_of_block KB.out 2).trans rfl
        have vb3 : wc.cell? ⟨vb, 3, none⟩ = some (.int .i64 u.e) := (Joins.cell_of_block KB.out 3).trans rfl
        have vb4 : wc.cell? ⟨vb, 4, none⟩ = some (.slice qb u.stk.length kb) := (Joins.cell_of_block KB.out 4).trans rfl
        have vb5 : rowOf wc vb 5 16 = wcs u.wds := by
          have h := wordsAt KB.out UW2.out
          exact h
        by_cases us : u.st = 1
        · as_aux_lemma =>
            rw [us] at va2 vb2
            have ug : IntKind.u64.wrap (u.gas + m) = u.gas + m := by
              have h := UG2.out
              have h1 : 0 ≤ u.gas + m := h.1
              have h2 : u.gas + m < 18446744073709551616 := h.2
              rw [IntKind.wrap_u64]; omega
            clear us
            go_wp2_with fail
            refine (knows8_any _).mono ?_
            rintro e w9 ⟨rfl, hb⟩
            have B9 := Lib.hid (BC.out.trans (hb.mono BC.out.size))
            clear hb
            go_wp2_with fail
            go_ret
            exact ⟨rfl, B9.out⟩
        · have s1 : (u.st != 1) = true := by simp [us]
          by_cases ue : u.e = 35
          · as_aux_lemma =>
              rw [ue] at va3 vb3
              clear us ue
              go_wp2_with fail
              refine (num8_any _ _).mono ?_
              rintro e wz ⟨rfl, hwz⟩
              obtain rfl := hwz.symm
              clear hwz
              go_wp2_with fail
              refine (knows8_any _).mono ?_
              rintro e w9 ⟨rfl, hb⟩
              have B9 := Lib.hid (BC.out.trans (hb.mono BC.out.size))
              clear hb
              go_wp2_with fail
              go_ret
              exact ⟨rfl, B9.out⟩
          · as_aux_lemma =>
              have e1 : (u.e == 35) = false := by simp [ue]
              clear us ue
              go_wp2_with fail
              refine (num8_any _ _).mono ?_
              rintro e wz ⟨rfl, hwz⟩
              obtain rfl := hwz.symm
              clear hwz
              go_wp2_with fail
              refine (knows8_any _).mono ?_
              rintro e w9 ⟨rfl, hb⟩
              have B9 := Lib.hid (BC.out.trans (hb.mono BC.out.size))
              clear hb
              go_wp2_with fail
              go_ret
              exact ⟨rfl, B9.out⟩
end Go.Proofs.Ytamkmeigcmpkjaa
