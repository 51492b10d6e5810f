/-
  The walk of basculelaw08.MachineSplits.
-/
import Derived.Test.YtnllcmcahfkmaaaDoorMp14
namespace Go.Proofs.YtnllcmcahfkmaaaDoor
set_option maxRecDepth 100000
open Go.RowKit

theorem wrapmod8 (n : Int) {d : Int} (h1 : 0 < d) (h2 : d ≤ 1000) : ∃ c, (wrap64 (n.tmod d + d)).tmod d = c ∧ 0 ≤ c ∧ c < d := by
  have a := Int.tmod_lt_of_pos n h1
  have b := Int.lt_tmod_of_pos n h1
  have e : wrap64 (n.tmod d + d) = n.tmod d + d := by unfold wrap64; omega
  rw [e]
  exact ⟨_, rfl, Int.tmod_nonneg d (by omega), Int.tmod_lt_of_pos _ h1⟩
theorem goM_cnt {L : List Ins} {c : Cx} : ∀ (k : Nat) {s : Ms}, (goM L c k s).2 ≤ k
  | 0, s => Nat.le_refl _
  | k + 1, s => by
    unfold goM
    split
    · have := goM_cnt (L := L) (c := c) k (s := stepM L c s)
      show (goM L c k (stepM L c s)).2 + 1 ≤ _
      omega
    · exact Nat.zero_le _
theorem runM_cnt {L : List Ins} {c : Cx} {s : Ms} {M : Int} (h : M ≤ 200) : (runM L c s M).2 ≤ 201 := by
  unfold runM
  split
  · exact Nat.zero_le _
  · split
    · have := goM_cnt (L := L) (c := c) M.toNat (s := s)
      omega
    · show 1 ≤ 201
      decide
theorem lgB_no {L : List Ins} {c : Cx} {s : Ms} (h : lgB L c s = false) : L.length ≤ 200 ∧ c.inp.length ≤ 200 ∧ s.stk.length ≤ 100 := by
  unfold lgB at h
  simp only [Bool.or_eq_false_iff, decide_eq_false_iff_not] at h
  omega
set_option maxHeartbeats 32000000 in
theorem MachineSplits_walk {w : World} {L : List Ins} {q : Option Addr} {cl : Nat} (hr : RwF 2 ins0 PIs w (fun g => g < w.heap.size) q L) (lu : ∀ i ∈ L, i.ok) {c : Cx} {qi : Option Addr} {ki : Nat} (hcx : c.ok) (hi : RdU w (.slice qi c.inp.length ki) c.inp)
    {s : Ms} {qs : Option Addr} {cs : Nat} (sg : 0 ≤ s.gas ∧ s.gas < 18446744073709551616) (su : U64s s.stk) (sw : U64s s.wds) (s16 : s.wds.length = 16) (hsk : RdU w (.slice qs s.stk.length cs) s.stk) (hT : Tbl w) {a b : Int} :
    Calls Tryd.prog 3 #[.slice q L.length cl, .agg #[.int .u64 c.who, .int .u64 c.val, .slice qi c.inp.length ki], .agg (stRow s qs cs).toArray, .int .i64 a, .int .i64 b] w fun e w' => e = .returned (.bool true) ∧ Below w.heap.size w w' := by
  have b1 : Below w.heap.size w (w.alloc (.cells #[.int .u64 c.who, .int .u64 c.val, .slice qi c.inp.length ki] 26)) := (Below.refl _ _).alloc (Nat.le_refl _) _
  have b2 : Below w.heap.size w ((w.alloc (.cells #[.int .u64 c.who, .int .u64 c.val, .slice qi c.inp.length ki] 26)).alloc (.cells (stRow s qs cs).toArray 29)) := b1.alloc b1.size _
  have hz : (w.alloc (.cells #[.int .u64 c.who, .int .u64 c.val, .slice qi c.inp.length ki] 26)).heap.size = w.heap.size + 1 := by simp
  have K1 : Hid (((w.alloc (.cells #[.int .u64 c.who, .int .u64 c.val, .slice qi c.inp.length ki] 26)).alloc (.cells (stRow s qs cs).toArray 29)).heap[w.heap.size]? = some (.cells #[.int .u64 c.who, .int .u64 c.val, .slice qi c.inp.length ki] 26 (0, 0))) := by
    show _ = _
    rw [Below.heap_alloc _ _ _ (by rw [hz]; omega)]
    exact heap_alloc_new w _
  have K2 : Hid (((w.alloc (.cells #[.int .u64 c.who, .int .u64 c.val, .slice qi c.inp.length ki] 26)).alloc (.cells (stRow s qs cs).toArray 29)).heap[w.heap.size + 1]? = some (.cells (stRow s qs cs).toArray 29 (0, 0))) := by
    have := heap_alloc_new (w.alloc (.cells #[.int .u64 c.who, .int .u64 c.val, .slice qi c.inp.length ki] 26)) (.cells (stRow s qs cs).toArray 29)
    rw [hz] at this
    exact this
  have BX := Lib.hid b2
  have HR := Lib.hid (fun (W : World) (hb : Below w.heap.size w W) => hr.on PIs_ok (by decide) hb)
  have HI := Lib.hid (fun (W : World) (hb : Below w.heap.size w W) => hi.on hb)
  have HSK := Lib.hid (fun (W : World) (hb : Below w.heap.size w W) => hsk.on hb)
  have HC := Lib.hid hcx
  have LU := Lib.hid lu
  have SGU := Lib.hid (And.intro sg (And.intro su sw))
  have HT := Lib.hid hT
  have W16 := Lib.hid s16
  clear hr hi hcx lu b1 b2 hz sg su sw s16 hsk hT
  go_enter Tryd.func3, Tryd.ntmps3
  go_upto_region 1 with fail
  generalize (w.alloc (.cells #[.int .u64 c.who, .int .u64 c.val, .slice qi c.inp.length ki] 26)).alloc (.cells (stRow s qs cs).toArray 29) = w2 at *
  have c0 := (Joins.cell_of_block K1.out 0).trans (rfl : _ = some (Value.int .u64 c.who))
  have c1 := (Joins.cell_of_block K1.out 1).trans (rfl : _ = some (Value.int .u64 c.val))
  have c2 := (Joins.cell_of_block K1.out 2).trans (rfl : _ = some (Value.slice qi c.inp.length ki))
  have c3 := st_row K2.out W16.out
  have w16 := W16.out
  go_wp2_with fail
  refine long8_any.mono ?_
  rintro e wl ⟨rfl, hbl⟩
  have BL := Lib.hid (BX.out.trans (hbl.mono BX.out.size))
  have KX : Hid (wl.heap[w.heap.size]? = some (.cells #[.int .u64 c.who, .int .u64 c.val, .slice qi c.inp.length ki] 26 (0, 0))) := ((hbl).block _ (Array.getElem?_eq_some_iff.1 K1.out).1).trans K1.out
  have KS : Hid (wl.heap[w.heap.size + 1]? = some (.cells (stRow s qs cs).toArray 29 (0, 0))) := ((hbl).block _ (Array.getElem?_eq_some_iff.1 K2.out).1).trans K2.out
  clear c0 c1 c2 c3 hbl K1 K2 BX w16
  cases hlg : lgB L c s with
  | true =>
    go_wp2_with fail
    refine (knows8_any _).mono ?_
    rintro e w9 ⟨rfl, hb⟩
    have B9 := Lib.hid (BL.out.trans (hb.mono BL.out.size))
    clear hb
    go_wp2_with fail
    go_ret
    exact ⟨rfl, B9.out⟩
  | false =>
    obtain ⟨l1, l2, l3⟩ := lgB_no hlg
    clear hlg
    have SOK : Hid s.ok := by show s.ok; exact ⟨SGU.out.1, SGU.out.2.1, SGU.out.2.2, W16.out, by omega⟩
    clear SGU
    have HL : Hid (L.length ≤ 1000) := by show _ ≤ _; omega
    have HIL : Hid (c.inp.length ≤ 1000) := by show _ ≤ _; omega
    have HSL : Hid (s.stk.length ≤ 1000) := by show _ ≤ _; omega
    obtain ⟨A, hA, A0, A1⟩ : ∃ A, a.tmod 100 % 100 = A ∧ 0 ≤ A ∧ A < 100 := ⟨_, rfl, by omega, by omega⟩
    have hA2 : (a.tmod 100 + 100) % 100 = A := by omega
    obtain ⟨B, hB, B0, B1⟩ : ∃ A, b.tmod 100 % 100 = A ∧ 0 ≤ A ∧ A < 100 := ⟨_, rfl, by omega, by omega⟩
    have hB2 : (b.tmod 100 + 100) % 100 = B := by omega
    have ta := Int.tmod_lt_of_pos a (show (0 : Int) < 100 by decide)
    have ta2 := Int.lt_tmod_of_pos a (show (0 : Int) < 100 by decide)
    have tb := Int.tmod_lt_of_pos b (show (0 : Int) < 100 by decide)
    have tb2 := Int.lt_tmod_of_pos b (show (0 : Int) < 100 by decide)
    have HAB := Lib.hid (show 0 ≤ A ∧ A < 100 ∧ 0 ≤ B ∧ B < 100 from ⟨A0, A1, B0, B1⟩)
    have WAB : Hid (IntKind.i64.wrap (A + B) = A + B) := by show _ = _; exact IntWalk.i64_in _ (by omega)
    have SP := runM_split L c s A0 B0
    have XOK0 := runM_okR (M := A) HC.out LU.out SOK.out
    have YOK0 := runM_okR (M := B) HC.out LU.out XOK0
    have XS := runM_stk (L := L) (c := c) (s := s) (M := A) A0 (by omega)
    have YS := runM_stk (L := L) (c := c) (s := (runM L c s A).1) (M := B) B0 (by omega)
    have NC := runM_cnt (L := L) (c := c) (s := s) (M := A) (by omega)
    have MC := runM_cnt (L := L) (c := c) (s := (runM L c s A).1) (M := B) (by omega)
    obtain ⟨R1, hR1⟩ : ∃ R, runM L c s A = R := ⟨_, rfl⟩
    rw [hR1] at SP XOK0 YOK0 XS YS NC MC
    have HR1 := Lib.hid hR1
    obtain ⟨x, n⟩ := R1
    simp only at SP XOK0 YOK0 XS YS NC MC
    obtain ⟨R2, hR2⟩ : ∃ R, runM L c x B = R := ⟨_, rfl⟩
    rw [hR2] at SP YOK0 YS MC
    have HR2 := Lib.hid hR2
    obtain ⟨y, m⟩ := R2
    simp only at SP YOK0 YS MC
    obtain ⟨R3, hR3⟩ : ∃ R, runM L c s (A + B) = R := ⟨_, rfl⟩
    rw [hR3] at SP
    have HR3 := Lib.hid hR3
    obtain ⟨z, k⟩ := R3
    simp only at SP
    obtain ⟨SP1, SP2⟩ := SP
    obtain rfl := SP1
    have XOK := Lib.hid XOK0
    have XW := Lib.hid XOK0.w16
    have YW := Lib.hid YOK0.w16
    have YU := Lib.hid YOK0.wds
    have YL : Hid (y.stk.length ≤ 1000) := by show _ ≤ _; omega
    have HNK : Hid (((n : Int) + (m : Int) == (k : Int)) = true) := by show _ = true; simp; omega
    have NB := Lib.hid (show n ≤ 201 ∧ m ≤ 201 from ⟨NC, MC⟩)
    have BW := Lib.hid BL.out.drew
    clear l1 l2 l3 A0 A1 B0 B1 XOK0 YOK0 XS YS NC MC hR1 hR2 hR3 SP2
    go_upto_region 5 with fail
    try simp only [hA2, hB2]
    try simp only [hA, hB]
    clear hA hB hA2 hB2 ta ta2 tb tb2
    have KX : Hid (wl.drew.heap[w.heap.size]? = some (.cells #[.int .u64 c.who, .int .u64 c.val, .slice qi c.inp.length ki] 26 (0, 0))) := KX.out
    have KS : Hid (wl.drew.heap[w.heap.size + 1]? = some (.cells (stRow s qs cs).toArray 29 (0, 0))) := KS.out
    go_cut [11, 12] from 30 to 40 (fun s11 s12 wx => ∃ (va : Nat) (qa : Option Addr) (ka : Nat), s11 = .pointer (some ⟨va, 0, none⟩) ∧ s12 = .int .i64 (n : Int) ∧ Hid (wx.heap[va]? = some (.cells (stRow x qa ka).toArray 34 (0, 0))) ∧ Hid (wx.ownsRow 0 23 1 (.slice qa x.stk.length ka) x.stk.length (wcs x.stk)) ∧ Hid (Below w.heap.size w wx) ∧ Hid (wx.heap[w.heap.size]? = some (.cells #[.int .u64 c.who, .int .u64 c.val, .slice qi c.inp.length ki] 26 (0, 0))) ∧ Hid (wx.heap[w.heap.size + 1]? = some (.cells (stRow s qs cs).toArray 29 (0, 0))))
    case first =>
      as_aux_lemma =>
      refine wp_region_held_drew (S := fun W => Below wl.drew.heap.size wl.drew W) (by kernel_rfl) (Below.refl _ _) (fun h0 => ?_)
      generalize wl.drew = w3 at *
      refine wpAnyH_take (i := 0) (v := ?_) (by rw [List.getElem?_toArray]; rfl) (by kernel_rfl) (by kernel_rfl) (by kernel_rfl) (by exact fun _ _ _ h => h) (Or.inl ⟨by rfl, ?_⟩) h0 ?_
      rotate_left
      · intro W hW
        go_simp
        all_goals with_reducible rfl
      try simp only [Act.put, List.setIfInBounds_toArray, List.set_cons_zero, List.set_cons_succ]
      refine wpAnyH_take (i := 2) (v := ?_) (by rw [List.getElem?_toArray]; rfl) (by kernel_rfl) (by kernel_rfl) (by kernel_rfl) (by exact fun _ _ _ h => h) (Or.inl ⟨by rfl, ?_⟩) h0 ?_
      rotate_left
      · intro W hW
        have kx := ((hW).block _ (Array.getElem?_eq_some_iff.1 KX.out).1).trans KX.out
        have c0 := (Joins.cell_of_block kx 0).trans (rfl : _ = some _)
        have c1 := (Joins.cell_of_block kx 1).trans (rfl : _ = some _)
        have c2 := (Joins.cell_of_block kx 2).trans (rfl : _ = some _)
        go_simp
        all_goals with_reducible rfl
      try simp only [Act.put, List.setIfInBounds_toArray, List.set_cons_zero, List.set_cons_succ]
      refine wpAnyH_take (i := 4) (v := ?_) (by rw [List.getElem?_toArray]; rfl) (by kernel_rfl) (by kernel_rfl) (by kernel_rfl) (by exact fun _ _ _ h => h) (Or.inl ⟨by rfl, ?_⟩) h0 ?_
      rotate_left
      · intro W hW
        have kx := ((hW).block _ (Array.getElem?_eq_some_iff.1 KS.out).1).trans KS.out
        have cc := st_row kx W16.out
        have w16 := W16.out
        go_simp
        all_goals with_reducible rfl
      try simp only [Act.put, List.setIfInBounds_toArray, List.set_cons_zero, List.set_cons_succ]
      refine wpAnyH_take (i := 6) (v := ?_) (by rw [List.getElem?_toArray]; rfl) (by kernel_rfl) (by kernel_rfl) (by kernel_rfl) (by exact fun _ _ _ h => h) (Or.inl ⟨by rfl, ?_⟩) h0 ?_
      rotate_left
      · intro W hW
        go_simp
        all_goals with_reducible rfl
      try simp only [Act.put, List.setIfInBounds_toArray, List.set_cons_zero, List.set_cons_succ]
      refine wpAnyH_ready (rs := [1, 11]) (by kernel_rfl) (by simp) ?_
      refine AllReadyH.cons (by rw [List.getElem?_toArray]; rfl) (fun K hK => ?_) (AllReadyH.cons (by rw [List.getElem?_toArray]; rfl) (fun K hK => ?_) (AllReadyH.nil))
      · rw [if_pos (by rfl)]
        go_wp2_with fail
        refine (Own8_any (HR.out _ (BW.out.trans (h0.mono BW.out.size))) HL.out).mono ?_
        rintro e w5 ⟨qo, co, rfl, ro, bo⟩
        have RL := Lib.hid ro
        have hS : Below w3.heap.size w3 _ := h0.trans ((bo).mono h0.size)
        clear ro bo
        go_wp2_with fail
        refine hK.out _ _ hS (fun h0 => ?_)
        clear hK K hS
        try simp only [Act.put, List.setIfInBounds_toArray, List.set_cons_zero, List.set_cons_succ]
        refine wpAnyH_ready (rs := [3, 11]) (by kernel_rfl) (by simp) ?_
        refine AllReadyH.cons (by rw [List.getElem?_toArray]; rfl) (fun K hK => ?_) (AllReadyH.cons (by rw [List.getElem?_toArray]; rfl) (fun K hK => ?_) (AllReadyH.nil))
        · rw [if_pos (by rfl)]
          go_wp2_with fail
          refine (Context8_any (HI.out _ (BW.out.trans (h0.mono BW.out.size))) HIL.out).mono ?_
          rintro e w6 ⟨qc, kc, rfl, rc, bo⟩
          have RC := Lib.hid rc
          have RL := Lib.hid (RL.out.on PIs_ok (by decide) bo)
          have hS : Below w3.heap.size w3 _ := h0.trans ((bo).mono h0.size)
          clear rc bo
          go_wp2_with fail
          refine hK.out _ _ hS (fun h0 => ?_)
          clear hK K hS
          try simp only [Act.put, List.setIfInBounds_toArray, List.set_cons_zero, List.set_cons_succ]
          refine wpAnyH_ready (rs := [5, 11]) (by kernel_rfl) (by simp) ?_
          refine AllReadyH.cons (by rw [List.getElem?_toArray]; rfl) (fun K hK => ?_) (AllReadyH.cons (by rw [List.getElem?_toArray]; rfl) (fun K hK => ?_) (AllReadyH.nil))
          · rw [if_pos (by rfl)]
            go_wp2_with fail
            refine (State8_any (HSK.out _ (BW.out.trans (h0.mono BW.out.size))) HSL.out W16.out).mono ?_
            rintro e w7 ⟨qz, kz, rfl, ⟨rz, -, -⟩, bo⟩
            have RC := Lib.hid (RC.out.on bo)
            have RL := Lib.hid (RL.out.on PIs_ok (by decide) bo)
            have RZ := Lib.hid rz
            have hS : Below w3.heap.size w3 _ := h0.trans ((bo).mono h0.size)
            clear rz bo
            go_wp2_with fail
            refine hK.out _ _ hS (fun h0 => ?_)
            clear hK K hS
            try simp only [Act.put, List.setIfInBounds_toArray, List.set_cons_zero, List.set_cons_succ]
            refine wpAnyH_ready (rs := [7, 11]) (by kernel_rfl) (by simp) ?_
            refine AllReadyH.cons (by rw [List.getElem?_toArray]; rfl) (fun K hK => ?_) (AllReadyH.cons (by rw [List.getElem?_toArray]; rfl) (fun K hK => ?_) (AllReadyH.nil))
            · rw [if_pos (by rfl)]
              have KR := Lib.hid (Run_any (cL := co) RL.out HL.out LU.out HC.out RC.out (s := s) (qs := qz) (ks := kz) SOK.out RZ.out (M := A) (by have := HAB.out; omega))
              rw [HR1.out] at KR
              unfold RunP at KR
              go_wp2_with fail
              refine KR.out.mono ?_
              rintro e w8 ⟨qr, kr, rfl, rr, bo⟩
              have RR := Lib.hid rr
              have hS : Below w3.heap.size w3 _ := h0.trans ((bo).mono h0.size)
              clear bo KR rr
              go_wp2_with fail
              refine hK.out _ _ hS (fun h0 => ?_)
              clear hK K hS
              try simp only [Act.put, List.setIfInBounds_toArray, List.set_cons_zero, List.set_cons_succ]
              refine wpAnyH_take (i := 8) (v := ?_) (by rw [List.getElem?_toArray]; rfl) (by kernel_rfl) (by kernel_rfl) (by kernel_rfl) (by exact fun _ _ _ h => h) (Or.inl ⟨by rfl, ?_⟩) h0 ?_
              rotate_left
              · intro W hW
                go_simp
                all_goals with_reducible rfl
              try simp only [Act.put, List.setIfInBounds_toArray, List.set_cons_zero, List.set_cons_succ]
              refine wpAnyH_take (i := 9) (v := ?_) (by rw [List.getElem?_toArray]; rfl) (by kernel_rfl) (by kernel_rfl) (by kernel_rfl) (by exact fun _ _ _ h => h) (Or.inl ⟨by rfl, ?_⟩) h0 ?_
              rotate_left
              · intro W hW
                go_simp
                all_goals with_reducible rfl
              try simp only [Act.put, List.setIfInBounds_toArray, List.set_cons_zero, List.set_cons_succ]
              refine wpAnyH_take (i := 10) (v := ?_) (by rw [List.getElem?_toArray]; rfl) (by kernel_rfl) (by kernel_rfl) (by kernel_rfl) (by exact fun _ _ _ h => h) (Or.inl ⟨by rfl, ?_⟩) h0 ?_
              rotate_left
              · intro W hW
                go_simp
                all_goals with_reducible rfl
              try simp only [Act.put, List.setIfInBounds_toArray, List.set_cons_zero, List.set_cons_succ]
              refine wpAnyH_ready (rs := [11]) (by kernel_rfl) (by simp) ?_
              refine AllReadyH.cons (by rw [List.getElem?_toArray]; rfl) (fun K hK => ?_) AllReadyH.nil
              rw [if_pos (by rfl)]
              have ba : Below w8.heap.size w8 (w8.alloc (.cells (stRow ms0 none 0).toArray 34)) := (Below.refl _ _).alloc (Nat.le_refl _) _
              have hS : Below w3.heap.size w3 (w8.alloc (.cells (stRow ms0 none 0).toArray 34)) := h0.trans (ba.mono h0.size)
              have VB := Lib.hid (heap_alloc_new w8 (.cells (stRow ms0 none 0).toArray 34))
              have RR := Lib.hid (own_on RR.out ba)
              clear ba
              go_wp2_with fail
              obtain ⟨vb, hvb, VL⟩ : ∃ z, w8.heap.size = z ∧ Hid (w3.heap.size ≤ z) := ⟨_, rfl, h0.size⟩
              rw [hvb] at VB ⊢
              generalize w8.alloc (.cells (stRow ms0 none 0).toArray 34) = w9 at *
              clear hvb
              refine hK.out _ _ hS (fun h0 => ?_)
              clear hK K hS
              try simp only [Act.put, List.setIfInBounds_toArray, List.set_cons_zero, List.set_cons_succ]
              refine wpAnyH_ready (rs := [12]) (by kernel_rfl) (by simp) ?_
              refine AllReadyH.cons (by rw [List.getElem?_toArray]; rfl) (fun K hK => ?_) AllReadyH.nil
              rw [if_pos (by rfl)]
              have VBs : StAt w9 vb ms0 none 0 := VB.out
              have ct := VBs.there ws0_len
              have K9 := Lib.hid (VBs.put (s' := x) (q' := qr) (c' := kr) ws0_len XW.out)
              have VG := VL.out
              have hS := below_setCells' (B := w3.heap.size) vb VG (stRow x qr kr) 0 h0
              have R9 : Hid ((w9.setCells vb 0 (stRow x qr kr)).ownsRow 0 23 1 (.slice qr x.stk.length kr) x.stk.length (wcs x.stk)) := own_keep RR.out (fun g hg => setCells_other (fun e => own_ne RR.out VBs (by decide) (by rw [← e]; exact hg)) _ _ _)
              have uw := XW.out
              clear VBs VB
              go_wp2_with fail
              clear ct uw
              generalize w9.setCells vb 0 (stRow x qr kr) = w10 at *
              refine hK.out _ _ hS (fun h0 => ?_)
              clear hK K hS
              try simp only [Act.put, List.setIfInBounds_toArray, List.set_cons_zero, List.set_cons_succ]
              refine wpAnyH_take (i := 13) (v := ?_) (by rw [List.getElem?_toArray]; rfl) (by kernel_rfl) (by kernel_rfl) (by kernel_rfl) (by exact fun _ _ _ h => h) (Or.inl ⟨by rfl, ?_⟩) h0 ?_
              rotate_left
              · intro W hW
                go_simp
                all_goals with_reducible rfl
              try simp only [Act.put, List.setIfInBounds_toArray, List.set_cons_zero, List.set_cons_succ]
              refine wpAnyH_done (by kernel_rfl) ?_ _
              have hb := Lib.hid (BW.out.trans (h0.mono BW.out.size))
              have kx := Lib.hid (((h0).block _ (Array.getElem?_eq_some_iff.1 KX.out).1).trans KX.out)
              have ks := Lib.hid (((h0).block _ (Array.getElem?_eq_some_iff.1 KS.out).1).trans KS.out)
              go_wp2_with fail
              go_meet
              exact ⟨vb, qr, kr, rfl, rfl, K9, R9, hb, kx, ks⟩
            · rw [if_pos (by rfl)]
              have ba : Below w7.heap.size w7 (w7.alloc (.cells (stRow ms0 none 0).toArray 34)) := (Below.refl _ _).alloc (Nat.le_refl _) _
              have hS : Below w3.heap.size w3 (w7.alloc (.cells (stRow ms0 none 0).toArray 34)) := h0.trans (ba.mono h0.size)
              have VB := Lib.hid (heap_alloc_new w7 (.cells (stRow ms0 none 0).toArray 34))
              have RL := Lib.hid (RL.out.on PIs_ok (by decide) ba)
              have RC := Lib.hid (RC.out.on ba)
              have RZ := Lib.hid (RZ.out.on ba)
              clear ba
              go_wp2_with fail
              obtain ⟨vb, hvb, VL⟩ : ∃ z, w7.heap.size = z ∧ Hid (w3.heap.size ≤ z) := ⟨_, rfl, h0.size⟩
              rw [hvb] at VB ⊢
              generalize w7.alloc (.cells (stRow ms0 none 0).toArray 34) = w9 at *
              clear hvb
              refine hK.out _ _ hS (fun h0 => ?_)
              clear hK K hS
              try simp only [Act.put, List.setIfInBounds_toArray, List.set_cons_zero, List.set_cons_succ]
              refine wpAnyH_ready (rs := [7]) (by kernel_rfl) (by simp) ?_
              refine AllReadyH.cons (by rw [List.getElem?_toArray]; rfl) (fun K hK => ?_) AllReadyH.nil
              rw [if_pos (by rfl)]
              have KR := Lib.hid (Run_any (cL := co) RL.out HL.out LU.out HC.out RC.out (s := s) (qs := qz) (ks := kz) SOK.out RZ.out (M := A) (by have := HAB.out; omega))
              rw [HR1.out] at KR
              unfold RunP at KR
              go_wp2_with fail
              refine KR.out.mono ?_
              rintro e w8 ⟨qr, kr, rfl, rr, bo⟩
              have RR := Lib.hid rr
              have hS : Below w3.heap.size w3 _ := h0.trans ((bo).mono h0.size)
              have VB := Lib.hid (((bo).block _ (Array.getElem?_eq_some_iff.1 VB.out).1).trans VB.out)
              clear bo KR rr
              go_wp2_with fail
              refine hK.out _ _ hS (fun h0 => ?_)
              clear hK K hS
              try simp only [Act.put, List.setIfInBounds_toArray, List.set_cons_zero, List.set_cons_succ]
              refine wpAnyH_take (i := 8) (v := ?_) (by rw [List.getElem?_toArray]; rfl) (by kernel_rfl) (by kernel_rfl) (by kernel_rfl) (by exact fun _ _ _ h => h) (Or.inl ⟨by rfl, ?_⟩) h0 ?_
              rotate_left
              · intro W hW
                go_simp
                all_goals with_reducible rfl
              try simp only [Act.put, List.setIfInBounds_toArray, List.set_cons_zero, List.set_cons_succ]
              refine wpAnyH_take (i := 9) (v := ?_) (by rw [List.getElem?_toArray]; rfl) (by kernel_rfl) (by kernel_rfl) (by kernel_rfl) (by exact fun _ _ _ h => h) (Or.inl ⟨by rfl, ?_⟩) h0 ?_
              rotate_left
              · intro W hW
                go_simp
                all_goals with_reducible rfl
              try simp only [Act.put, List.setIfInBounds_toArray, List.set_cons_zero, List.set_cons_succ]
              refine wpAnyH_take (i := 10) (v := ?_) (by rw [List.getElem?_toArray]; rfl) (by kernel_rfl) (by kernel_rfl) (by kernel_rfl) (by exact fun _ _ _ h => h) (Or.inl ⟨by rfl, ?_⟩) h0 ?_
              rotate_left
              · intro W hW
                go_simp
                all_goals with_reducible rfl
              try simp only [Act.put, List.setIfInBounds_toArray, List.set_cons_zero, List.set_cons_succ]
              refine wpAnyH_ready (rs := [12]) (by kernel_rfl) (by simp) ?_
              refine AllReadyH.cons (by rw [List.getElem?_toArray]; rfl) (fun K hK => ?_) AllReadyH.nil
              rw [if_pos (by rfl)]
              have VBs : StAt w8 vb ms0 none 0 := VB.out
              have ct := VBs.there ws0_len
              have K9 := Lib.hid (VBs.put (s' := x) (q' := qr) (c' := kr) ws0_len XW.out)
              have VG := VL.out
              have hS := below_setCells' (B := w3.heap.size) vb VG (stRow x qr kr) 0 h0
              have R9 : Hid ((w8.setCells vb 0 (stRow x qr kr)).ownsRow 0 23 1 (.slice qr x.stk.length kr) x.stk.length (wcs x.stk)) := own_keep RR.out (fun g hg => setCells_other (fun e => own_ne RR.out VBs (by decide) (by rw [← e]; exact hg)) _ _ _)
              have uw := XW.out
              clear VBs VB
              go_wp2_with fail
              clear ct uw
              generalize w8.setCells vb 0 (stRow x qr kr) = w10 at *
              refine hK.out _ _ hS (fun h0 => ?_)
              clear hK K hS
              try simp only [Act.put, List.setIfInBounds_toArray, List.set_cons_zero, List.set_cons_succ]
              refine wpAnyH_take (i := 13) (v := ?_) (by rw [List.getElem?_toArray]; rfl) (by kernel_rfl) (by kernel_rfl) (by kernel_rfl) (by exact fun _ _ _ h => h) (Or.inl ⟨by rfl, ?_⟩) h0 ?_
              rotate_left
              · intro W hW
                go_simp
                all_goals with_reducible rfl
              try simp only [Act.put, List.setIfInBounds_toArray, List.set_cons_zero, List.set_cons_succ]
              refine wpAnyH_done (by kernel_rfl) ?_ _
              have hb := Lib.hid (BW.out.trans (h0.mono BW.out.size))
              have kx := Lib.hid (((h0).block _ (Array.getElem?_eq_some_iff.1 KX.out).1).trans KX.out)
              have ks := Lib.hid (((h0).block _ (Array.getElem?_eq_some_iff.1 KS.out).1).trans KS.out)
              go_wp2_with fail
              go_meet
              exact ⟨vb, qr, kr, rfl, rfl, K9, R9, hb, kx, ks⟩
          · rw [if_pos (by rfl)]
            have ba : Below w6.heap.size w6 (w6.alloc (.cells (stRow ms0 none 0).toArray 34)) := (Below.refl _ _).alloc (Nat.le_refl _) _
            have hS : Below w3.heap.size w3 (w6.alloc (.cells (stRow ms0 none 0).toArray 34)) := h0.trans (ba.mono h0.size)
            have VB := Lib.hid (heap_alloc_new w6 (.cells (stRow ms0 none 0).toArray 34))
            have RL := Lib.hid (RL.out.on PIs_ok (by decide) ba)
            have RC := Lib.hid (RC.out.on ba)
            clear ba
            go_wp2_with fail
            obtain ⟨vb, hvb, VL⟩ : ∃ z, w6.heap.size = z ∧ Hid (w3.heap.size ≤ z) := ⟨_, rfl, h0.size⟩
            rw [hvb] at VB ⊢
            generalize w6.alloc (.cells (stRow ms0 none 0).toArray 34) = w9 at *
            clear hvb
            refine hK.out _ _ hS (fun h0 => ?_)
            clear hK K hS
            try simp only [Act.put, List.setIfInBounds_toArray, List.set_cons_zero, List.set_cons_succ]
            refine wpAnyH_ready (rs := [5]) (by kernel_rfl) (by simp) ?_
            refine AllReadyH.cons (by rw [List.getElem?_toArray]; rfl) (fun K hK => ?_) AllReadyH.nil
            rw [if_pos (by rfl)]
            go_wp2_with fail
            refine (State8_any (HSK.out _ (BW.out.trans (h0.mono BW.out.size))) HSL.out W16.out).mono ?_
            rintro e w7 ⟨qz, kz, rfl, ⟨rz, -, -⟩, bo⟩
            have RC := Lib.hid (RC.out.on bo)
            have RL := Lib.hid (RL.out.on PIs_ok (by decide) bo)
            have RZ := Lib.hid rz
            have hS : Below w3.heap.size w3 _ := h0.trans ((bo).mono h0.size)
            have VB := Lib.hid (((bo).block _ (Array.getElem?_eq_some_iff.1 VB.out).1).trans VB.out)
            clear rz bo
            go_wp2_with fail
            refine hK.out _ _ hS (fun h0 => ?_)
            clear hK K hS
            try simp only [Act.put, List.setIfInBounds_toArray, List.set_cons_zero, List.set_cons_succ]
            refine wpAnyH_ready (rs := [7]) (by kernel_rfl) (by simp) ?_
            refine AllReadyH.cons (by rw [List.getElem?_toArray]; rfl) (fun K hK => ?_) AllReadyH.nil
            rw [if_pos (by rfl)]
            have KR := Lib.hid (Run_any (cL := co) RL.out HL.out LU.out HC.out RC.out (s := s) (qs := qz) (ks := kz) SOK.out RZ.out (M := A) (by have := HAB.out; omega))
            rw [HR1.out] at KR
            unfold RunP at KR
            go_wp2_with fail
            refine KR.out.mono ?_
            rintro e w8 ⟨qr, kr, rfl, rr, bo⟩
            have RR := Lib.hid rr
            have hS : Below w3.heap.size w3 _ := h0.trans ((bo).mono h0.size)
            have VB := Lib.hid (((bo).block _ (Array.getElem?_eq_some_iff.1 VB.out).1).trans VB.out)
            clear bo KR rr
            go_wp2_with fail
            refine hK.out _ _ hS (fun h0 => ?_)
            clear hK K hS
            try simp only [Act.put, List.setIfInBounds_toArray, List.set_cons_zero, List.set_cons_succ]
            refine wpAnyH_take (i := 8) (v := ?_) (by rw [List.getElem?_toArray]; rfl) (by kernel_rfl) (by kernel_rfl) (by kernel_rfl) (by exact fun _ _ _ h => h) (Or.inl ⟨by rfl, ?_⟩) h0 ?_
            rotate_left
            · intro W hW
              go_simp
              all_goals with_reducible rfl
            try simp only [Act.put, List.setIfInBounds_toArray, List.set_cons_zero, List.set_cons_succ]
            refine wpAnyH_take (i := 9) (v := ?_) (by rw [List.getElem?_toArray]; rfl) (by kernel_rfl) (by kernel_rfl) (by kernel_rfl) (by exact fun _ _ _ h => h) (Or.inl ⟨by rfl, ?_⟩) h0 ?_
            rotate_left
            · intro W hW
              go_simp
              all_goals with_reducible rfl
            try simp only [Act.put, List.setIfInBounds_toArray, List.set_cons_zero, List.set_cons_succ]
            refine wpAnyH_take (i := 10) (v := ?_) (by rw [List.getElem?_toArray]; rfl) (by kernel_rfl) (by kernel_rfl) (by kernel_rfl) (by exact fun _ _ _ h => h) (Or.inl ⟨by rfl, ?_⟩) h0 ?_
            rotate_left
            · intro W hW
              go_simp
              all_goals with_reducible rfl
            try simp only [Act.put, List.setIfInBounds_toArray, List.set_cons_zero, List.set_cons_succ]
            refine wpAnyH_ready (rs := [12]) (by kernel_rfl) (by simp) ?_
            refine AllReadyH.cons (by rw [List.getElem?_toArray]; rfl) (fun K hK => ?_) AllReadyH.nil
            rw [if_pos (by rfl)]
            have VBs : StAt w8 vb ms0 none 0 := VB.out
            have ct := VBs.there ws0_len
            have K9 := Lib.hid (VBs.put (s' := x) (q' := qr) (c' := kr) ws0_len XW.out)
            have VG := VL.out
            have hS := below_setCells' (B := w3.heap.size) vb VG (stRow x qr kr) 0 h0
            have R9 : Hid ((w8.setCells vb 0 (stRow x qr kr)).ownsRow 0 23 1 (.slice qr x.stk.length kr) x.stk.length (wcs x.stk)) := own_keep RR.out (fun g hg => setCells_other (fun e => own_ne RR.out VBs (by decide) (by rw [← e]; exact hg)) _ _ _)
            have uw := XW.out
            clear VBs VB
            go_wp2_with fail
            clear ct uw
            generalize w8.setCells vb 0 (stRow x qr kr) = w10 at *
            refine hK.out _ _ hS (fun h0 => ?_)
            clear hK K hS
            try simp only [Act.put, List.setIfInBounds_toArray, List.set_cons_zero, List.set_cons_succ]
            refine wpAnyH_take (i := 13) (v := ?_) (by rw [List.getElem?_toArray]; rfl) (by kernel_rfl) (by kernel_rfl) (by kernel_rfl) (by exact fun _ _ _ h => h) (Or.inl ⟨by rfl, ?_⟩) h0 ?_
            rotate_left
            · intro W hW
              go_simp
              all_goals with_reducible rfl
            try simp only [Act.put, List.setIfInBounds_toArray, List.set_cons_zero, List.set_cons_succ]
            refine wpAnyH_done (by kernel_rfl) ?_ _
            have hb := Lib.hid (BW.out.trans (h0.mono BW.out.size))
            have kx := Lib.hid (((h0).block _ (Array.getElem?_eq_some_iff.1 KX.out).1).trans KX.out)
            have ks := Lib.hid (((h0).block _ (Array.getElem?_eq_some_iff.1 KS.out).1).trans KS.out)
            go_wp2_with fail
            go_meet
            exact ⟨vb, qr, kr, rfl, rfl, K9, R9, hb, kx, ks⟩
        · rw [if_pos (by rfl)]
          have ba : Below w5.heap.size w5 (w5.alloc (.cells (stRow ms0 none 0).toArray 34)) := (Below.refl _ _).alloc (Nat.le_refl _) _
          have hS : Below w3.heap.size w3 (w5.alloc (.cells (stRow ms0 none 0).toArray 34)) := h0.trans (ba.mono h0.size)
          have VB := Lib.hid (heap_alloc_new w5 (.cells (stRow ms0 none 0).toArray 34))
          have RL := Lib.hid (RL.out.on PIs_ok (by decide) ba)
          clear ba
          go_wp2_with fail
          obtain ⟨vb, hvb, VL⟩ : ∃ z, w5.heap.size = z ∧ Hid (w3.heap.size ≤ z) := ⟨_, rfl, h0.size⟩
          rw [hvb] at VB ⊢
          generalize w5.alloc (.cells (stRow ms0 none 0).toArray 34) = w9 at *
          clear hvb
          refine hK.out _ _ hS (fun h0 => ?_)
          clear hK K hS
          try simp only [Act.put, List.setIfInBounds_toArray, List.set_cons_zero, List.set_cons_succ]
          refine wpAnyH_ready (rs := [3]) (by kernel_rfl) (by simp) ?_
          refine AllReadyH.cons (by rw [List.getElem?_toArray]; rfl) (fun K hK => ?_) AllReadyH.nil
          rw [if_pos (by rfl)]
          go_wp2_with fail
          refine (Context8_any (HI.out _ (BW.out.trans (h0.mono BW.out.size))) HIL.out).mono ?_
          rintro e w6 ⟨qc, kc, rfl, rc, bo⟩
          have RC := Lib.hid rc
          have RL := Lib.hid (RL.out.on PIs_ok (by decide) bo)
          have hS : Below w3.heap.size w3 _ := h0.trans ((bo).mono h0.size)
          have VB := Lib.hid (((bo).block _ (Array.getElem?_eq_some_iff.1 VB.out).1).trans VB.out)
          clear rc bo
          go_wp2_with fail
          refine hK.out _ _ hS (fun h0 => ?_)
          clear hK K hS
          try simp only [Act.put, List.setIfInBounds_toArray, List.set_cons_zero, List.set_cons_succ]
          refine wpAnyH_ready (rs := [5]) (by kernel_rfl) (by simp) ?_
          refine AllReadyH.cons (by rw [List.getElem?_toArray]; rfl) (fun K hK => ?_) AllReadyH.nil
          rw [if_pos (by rfl)]
          go_wp2_with fail
          refine (State8_any (HSK.out _ (BW.out.trans (h0.mono BW.out.size))) HSL.out W16.out).mono ?_
          rintro e w7 ⟨qz, kz, rfl, ⟨rz, -, -⟩, bo⟩
          have RC := Lib.hid (RC.out.on bo)
          have RL := Lib.hid (RL.out.on PIs_ok (by decide) bo)
          have RZ := Lib.hid rz
          have hS : Below w3.heap.size w3 _ := h0.trans ((bo).mono h0.size)
          have VB := Lib.hid (((bo).block _ (Array.getElem?_eq_some_iff.1 VB.out).1).trans VB.out)
          clear rz bo
          go_wp2_with fail
          refine hK.out _ _ hS (fun h0 => ?_)
          clear hK K hS
          try simp only [Act.put, List.setIfInBounds_toArray, List.set_cons_zero, List.set_cons_succ]
          refine wpAnyH_ready (rs := [7]) (by kernel_rfl) (by simp) ?_
          refine AllReadyH.cons (by rw [List.getElem?_toArray]; rfl) (fun K hK => ?_) AllReadyH.nil
          rw [if_pos (by rfl)]
          have KR := Lib.hid (Run_any (cL := co) RL.out HL.out LU.out HC.out RC.out (s := s) (qs := qz) (ks := kz) SOK.out RZ.out (M := A) (by have := HAB.out; omega))
          rw [HR1.out] at KR
          unfold RunP at KR
          go_wp2_with fail
          refine KR.out.mono ?_
          rintro e w8 ⟨qr, kr, rfl, rr, bo⟩
          have RR := Lib.hid rr
          have hS : Below w3.heap.size w3 _ := h0.trans ((bo).mono h0.size)
          have VB := Lib.hid (((bo).block _ (Array.getElem?_eq_some_iff.1 VB.out).1).trans VB.out)
          clear bo KR rr
          go_wp2_with fail
          refine hK.out _ _ hS (fun h0 => ?_)
          clear hK K hS
          try simp only [Act.put, List.setIfInBounds_toArray, List.set_cons_zero, List.set_cons_succ]
          refine wpAnyH_take (i := 8) (v := ?_) (by rw [List.getElem?_toArray]; rfl) (by kernel_rfl) (by kernel_rfl) (by kernel_rfl) (by exact fun _ _ _ h => h) (Or.inl ⟨by rfl, ?_⟩) h0 ?_
          rotate_left
          · intro W hW
            go_simp
            all_goals with_reducible rfl
          try simp only [Act.put, List.setIfInBounds_toArray, List.set_cons_zero, List.set_cons_succ]
          refine wpAnyH_take (i := 9) (v := ?_) (by rw [List.getElem?_toArray]; rfl) (by kernel_rfl) (by kernel_rfl) (by kernel_rfl) (by exact fun _ _ _ h => h) (Or.inl ⟨by rfl, ?_⟩) h0 ?_
          rotate_left
          · intro W hW
            go_simp
            all_goals with_reducible rfl
          try simp only [Act.put, List.setIfInBounds_toArray, List.set_cons_zero, List.set_cons_succ]
          refine wpAnyH_take (i := 10) (v := ?_) (by rw [List.getElem?_toArray]; rfl) (by kernel_rfl) (by kernel_rfl) (by kernel_rfl) (by exact fun _ _ _ h => h) (Or.inl ⟨by rfl, ?_⟩) h0 ?_
          rotate_left
          · intro W hW
            go_simp
            all_goals with_reducible rfl
          try simp only [Act.put, List.setIfInBounds_toArray, List.set_cons_zero, List.set_cons_succ]
          refine wpAnyH_ready (rs := [12]) (by kernel_rfl) (by simp) ?_
          refine AllReadyH.cons (by rw [List.getElem?_toArray]; rfl) (fun K hK => ?_) AllReadyH.nil
          rw [if_pos (by rfl)]
          have VBs : StAt w8 vb ms0 none 0 := VB.out
          have ct := VBs.there ws0_len
          have K9 := Lib.hid (VBs.put (s' := x) (q' := qr) (c' := kr) ws0_len XW.out)
          have VG := VL.out
          have hS := below_setCells' (B := w3.heap.size) vb VG (stRow x qr kr) 0 h0
          have R9 : Hid ((w8.setCells vb 0 (stRow x qr kr)).ownsRow 0 23 1 (.slice qr x.stk.length kr) x.stk.length (wcs x.stk)) := own_keep RR.out (fun g hg => setCells_other (fun e => own_ne RR.out VBs (by decide) (by rw [← e]; exact hg)) _ _ _)
          have uw := XW.out
          clear VBs VB
          go_wp2_with fail
          clear ct uw
          generalize w8.setCells vb 0 (stRow x qr kr) = w10 at *
          refine hK.out _ _ hS (fun h0 => ?_)
          clear hK K hS
          try simp only [Act.put, List.setIfInBounds_toArray, List.set_cons_zero, List.set_cons_succ]
          refine wpAnyH_take (i := 13) (v := ?_) (by rw [List.getElem?_toArray]; rfl) (by kernel_rfl) (by kernel_rfl) (by kernel_rfl) (by exact fun _ _ _ h => h) (Or.inl ⟨by rfl, ?_⟩) h0 ?_
          rotate_left
          · intro W hW
            go_simp
            all_goals with_reducible rfl
          try simp only [Act.put, List.setIfInBounds_toArray, List.set_cons_zero, List.set_cons_succ]
          refine wpAnyH_done (by kernel_rfl) ?_ _
          have hb := Lib.hid (BW.out.trans (h0.mono BW.out.size))
          have kx := Lib.hid (((h0).block _ (Array.getElem?_eq_some_iff.1 KX.out).1).trans KX.out)
          have ks := Lib.hid (((h0).block _ (Array.getElem?_eq_some_iff.1 KS.out).1).trans KS.out)
          go_wp2_with fail
          go_meet
          exact ⟨vb, qr, kr, rfl, rfl, K9, R9, hb, kx, ks⟩
      · rw [if_pos (by rfl)]
        have ba : Below w3.heap.size w3 (w3.alloc (.cells (stRow ms0 none 0).toArray 34)) := (Below.refl _ _).alloc (Nat.le_refl _) _
        have hS : Below w3.heap.size w3 (w3.alloc (.cells (stRow ms0 none 0).toArray 34)) := h0.trans (ba.mono h0.size)
        have VB := Lib.hid (heap_alloc_new w3 (.cells (stRow ms0 none 0).toArray 34))
        clear ba
        go_wp2_with fail
        obtain ⟨vb, hvb, VL⟩ : ∃ z, w3.heap.size = z ∧ Hid (w3.heap.size ≤ z) := ⟨_, rfl, h0.size⟩
        rw [hvb] at VB ⊢
        generalize w3.alloc (.cells (stRow ms0 none 0).toArray 34) = w9 at *
        clear hvb
        refine hK.out _ _ hS (fun h0 => ?_)
        clear hK K hS
        try simp only [Act.put, List.setIfInBounds_toArray, List.set_cons_zero, List.set_cons_succ]
        refine wpAnyH_ready (rs := [1]) (by kernel_rfl) (by simp) ?_
        refine AllReadyH.cons (by rw [List.getElem?_toArray]; rfl) (fun K hK => ?_) AllReadyH.nil
        rw [if_pos (by rfl)]
        go_wp2_with fail
        refine (Own8_any (HR.out _ (BW.out.trans (h0.mono BW.out.size))) HL.out).mono ?_
        rintro e w5 ⟨qo, co, rfl, ro, bo⟩
        have RL := Lib.hid ro
        have hS : Below w3.heap.size w3 _ := h0.trans ((bo).mono h0.size)
        have VB := Lib.hid (((bo).block _ (Array.getElem?_eq_some_iff.1 VB.out).1).trans VB.out)
        clear ro bo
        go_wp2_with fail
        refine hK.out _ _ hS (fun h0 => ?_)
        clear hK K hS
        try simp only [Act.put, List.setIfInBounds_toArray, List.set_cons_zero, List.set_cons_succ]
        refine wpAnyH_ready (rs := [3]) (by kernel_rfl) (by simp) ?_
        refine AllReadyH.cons (by rw [List.getElem?_toArray]; rfl) (fun K hK => ?_) AllReadyH.nil
        rw [if_pos (by rfl)]
        go_wp2_with fail
        refine (Context8_any (HI.out _ (BW.out.trans (h0.mono BW.out.size))) HIL.out).mono ?_
        rintro e w6 ⟨qc, kc, rfl, rc, bo⟩
        have RC := Lib.hid rc
        have RL := Lib.hid (RL.out.on PIs_ok (by decide) bo)
        have hS : Below w3.heap.size w3 _ := h0.trans ((bo).mono h0.size)
        have VB := Lib.hid (((bo).block _ (Array.getElem?_eq_some_iff.1 VB.out).1).trans VB.out)
        clear rc bo
        go_wp2_with fail
        refine hK.out _ _ hS (fun h0 => ?_)
        clear hK K hS
        try simp only [Act.put, List.setIfInBounds_toArray, List.set_cons_zero, List.set_cons_succ]
        refine wpAnyH_ready (rs := [5]) (by kernel_rfl) (by simp) ?_
        refine AllReadyH.cons (by rw [List.getElem?_toArray]; rfl) (fun K hK => ?_) AllReadyH.nil
        rw [if_pos (by rfl)]
        go_wp2_with fail
        refine (State8_any (HSK.out _ (BW.out.trans (h0.mono BW.out.size))) HSL.out W16.out).mono ?_
        rintro e w7 ⟨qz, kz, rfl, ⟨rz, -, -⟩, bo⟩
        have RC := Lib.hid (RC.out.on bo)
        have RL := Lib.hid (RL.out.on PIs_ok (by decide) bo)
        have RZ := Lib.hid rz
        have hS : Below w3.heap.size w3 _ := h0.trans ((bo).mono h0.size)
        have VB := Lib.hid (((bo).block _ (Array.getElem?_eq_some_iff.1 VB.out).1).trans VB.out)
        clear rz bo
        go_wp2_with fail
        refine hK.out _ _ hS (fun h0 => ?_)
        clear hK K hS
        try simp only [Act.put, List.setIfInBounds_toArray, List.set_cons_zero, List.set_cons_succ]
        refine wpAnyH_ready (rs := [7]) (by kernel_rfl) (by simp) ?_
        refine AllReadyH.cons (by rw [List.getElem?_toArray]; rfl) (fun K hK => ?_) AllReadyH.nil
        rw [if_pos (by rfl)]
        have KR := Lib.hid (Run_any (cL := co) RL.out HL.out LU.out HC.out RC.out (s := s) (qs := qz) (ks := kz) SOK.out RZ.out (M := A) (by have := HAB.out; omega))
        rw [HR1.out] at KR
        unfold RunP at KR
        go_wp2_with fail
        refine KR.out.mono ?_
        rintro e w8 ⟨qr, kr, rfl, rr, bo⟩
        have RR := Lib.hid rr
        have hS : Below w3.heap.size w3 _ := h0.trans ((bo).mono h0.size)
        have VB := Lib.hid (((bo).block _ (Array.getElem?_eq_some_iff.1 VB.out).1).trans VB.out)
        clear bo KR rr
        go_wp2_with fail
        refine hK.out _ _ hS (fun h0 => ?_)
        clear hK K hS
        try simp only [Act.put, List.setIfInBounds_toArray, List.set_cons_zero, List.set_cons_succ]
        refine wpAnyH_take (i := 8) (v := ?_) (by rw [List.getElem?_toArray]; rfl) (by kernel_rfl) (by kernel_rfl) (by kernel_rfl) (by exact fun _ _ _ h => h) (Or.inl ⟨by rfl, ?_⟩) h0 ?_
        rotate_left
        · intro W hW
          go_simp
          all_goals with_reducible rfl
        try simp only [Act.put, List.setIfInBounds_toArray, List.set_cons_zero, List.set_cons_succ]
        refine wpAnyH_take (i := 9) (v := ?_) (by rw [List.getElem?_toArray]; rfl) (by kernel_rfl) (by kernel_rfl) (by kernel_rfl) (by exact fun _ _ _ h => h) (Or.inl ⟨by rfl, ?_⟩) h0 ?_
        rotate_left
        · intro W hW
          go_simp
          all_goals with_reducible rfl
        try simp only [Act.put, List.setIfInBounds_toArray, List.set_cons_zero, List.set_cons_succ]
        refine wpAnyH_take (i := 10) (v := ?_) (by rw [List.getElem?_toArray]; rfl) (by kernel_rfl) (by kernel_rfl) (by kernel_rfl) (by exact fun _ _ _ h => h) (Or.inl ⟨by rfl, ?_⟩) h0 ?_
        rotate_left
        · intro W hW
          go_simp
          all_goals with_reducible rfl
        try simp only [Act.put, List.setIfInBounds_toArray, List.set_cons_zero, List.set_cons_succ]
        refine wpAnyH_ready (rs := [12]) (by kernel_rfl) (by simp) ?_
        refine AllReadyH.cons (by rw [List.getElem?_toArray]; rfl) (fun K hK => ?_) AllReadyH.nil
        rw [if_pos (by rfl)]
        have VBs : StAt w8 vb ms0 none 0 := VB.out
        have ct := VBs.there ws0_len
        have K9 := Lib.hid (VBs.put (s' := x) (q' := qr) (c' := kr) ws0_len XW.out)
        have VG := VL.out
        have hS := below_setCells' (B := w3.heap.size) vb VG (stRow x qr kr) 0 h0
        have R9 : Hid ((w8.setCells vb 0 (stRow x qr kr)).ownsRow 0 23 1 (.slice qr x.stk.length kr) x.stk.length (wcs x.stk)) := own_keep RR.out (fun g hg => setCells_other (fun e => own_ne RR.out VBs (by decide) (by rw [← e]; exact hg)) _ _ _)
        have uw := XW.out
        clear VBs VB
        go_wp2_with fail
        clear ct uw
        generalize w8.setCells vb 0 (stRow x qr kr) = w10 at *
        refine hK.out _ _ hS (fun h0 => ?_)
        clear hK K hS
        try simp only [Act.put, List.setIfInBounds_toArray, List.set_cons_zero, List.set_cons_succ]
        refine wpAnyH_take (i := 13) (v := ?_) (by rw [List.getElem?_toArray]; rfl) (by kernel_rfl) (by kernel_rfl) (by kernel_rfl) (by exact fun _ _ _ h => h) (Or.inl ⟨by rfl, ?_⟩) h0 ?_
        rotate_left
        · intro W hW
          go_simp
          all_goals with_reducible rfl
        try simp only [Act.put, List.setIfInBounds_toArray, List.set_cons_zero, List.set_cons_succ]
        refine wpAnyH_done (by kernel_rfl) ?_ _
        have hb := Lib.hid (BW.out.trans (h0.mono BW.out.size))
        have kx := Lib.hid (((h0).block _ (Array.getElem?_eq_some_iff.1 KX.out).1).trans KX.out)
        have ks := Lib.hid (((h0).block _ (Array.getElem?_eq_some_iff.1 KS.out).1).trans KS.out)
        go_wp2_with fail
        go_meet
        exact ⟨vb, qr, kr, rfl, rfl, K9, R9, hb, kx, ks⟩
    case rest =>
      obtain ⟨va, qa, ka, rfl, rfl, KA, RXK, BC, KX, KS⟩ := hcut
      clear BL
      have BW := Lib.hid BC.out.drew
      have KX : Hid (wc.drew.heap[w.heap.size]? = some (.cells #[.int .u64 c.who, .int .u64 c.val, .slice qi c.inp.length ki] 26 (0, 0))) := KX.out
      have KS : Hid (wc.drew.heap[w.heap.size + 1]? = some (.cells (stRow s qs cs).toArray 29 (0, 0))) := KS.out
      have KA : Hid (wc.drew.heap[va]? = some (.cells (stRow x qa ka).toArray 34 (0, 0))) := KA.out
      have RXK : Hid (wc.drew.ownsRow 0 23 1 (.slice qa x.stk.length ka) x.stk.length (wcs x.stk)) := RXK.out
      clear BC
      go_upto_region 6 with fail
      go_cut [13, 14] from 41 to 50 (fun s13 s14 wx => ∃ (vb : Nat) (qb : Option Addr) (kb : Nat), s13 = .pointer (some ⟨vb, 0, none⟩) ∧ s14 = .int .i64 (m : Int) ∧ Hid (wx.heap[vb]? = some (.cells (stRow y qb kb).toArray 34 (0, 0))) ∧ Hid (wx.ownsRow 0 23 1 (.slice qb y.stk.length kb) y.stk.length (wcs y.stk)) ∧ Hid (Below w.heap.size w wx) ∧ Hid (wx.heap[w.heap.size]? = some (.cells #[.int .u64 c.who, .int .u64 c.val, .slice qi c.inp.length ki] 26 (0, 0))) ∧ Hid (wx.heap[w.heap.size + 1]? = some (.cells (stRow s qs cs).toArray 29 (0, 0))))
      case first =>
        as_aux_lemma =>
        refine wp_region_held_drew (S := fun W => Below wc.drew.heap.size wc.drew W) (by kernel_rfl) (Below.refl _ _) (fun h0 => ?_)
        generalize wc.drew = w3 at *
        refine wpAnyH_take (i := 0) (v := ?_) (by rw [List.getElem?_toArray]; rfl) (by kernel_rfl) (by kernel_rfl) (by kernel_rfl) (by exact fun _ _ _ h => h) (Or.inl ⟨by rfl, ?_⟩) h0 ?_
        rotate_left
        · intro W hW
          go_simp
          all_goals with_reducible rfl
        try simp only [Act.put, List.setIfInBounds_toArray, List.set_cons_zero, List.set_cons_succ]
        refine wpAnyH_take (i := 2) (v := ?_) (by rw [List.getElem?_toArray]; rfl) (by kernel_rfl) (by kernel_rfl) (by kernel_rfl) (by exact fun _ _ _ h => h) (Or.inl ⟨by rfl, ?_⟩) h0 ?_
        rotate_left
        · intro W hW
          have kx := ((hW).block _ (Array.getElem?_eq_some_iff.1 KX.out).1).trans KX.out
          have c0 := (Joins.cell_of_block kx 0).trans (rfl : _ = some _)
          have c1 := (Joins.cell_of_block kx 1).trans (rfl : _ = some _)
          have c2 := (Joins.cell_of_block kx 2).trans (rfl : _ = some _)
          go_simp
          all_goals with_reducible rfl
        try simp only [Act.put, List.setIfInBounds_toArray, List.set_cons_zero, List.set_cons_succ]
        refine wpAnyH_take (i := 4) (v := ?_) (by rw [List.getElem?_toArray]; rfl) (by kernel_rfl) (by kernel_rfl) (by kernel_rfl) (by exact fun _ _ _ h => h) (Or.inl ⟨by rfl, ?_⟩) h0 ?_
        rotate_left
        · intro W hW
          have kx := ((hW).block _ (Array.getElem?_eq_some_iff.1 KA.out).1).trans KA.out
          have cc := st_row kx XW.out
          have w16 := XW.out
          go_simp
          all_goals with_reducible rfl
        try simp only [Act.put, List.setIfInBounds_toArray, List.set_cons_zero, List.set_cons_succ]
        refine wpAnyH_take (i := 5) (v := ?_) (by rw [List.getElem?_toArray]; rfl) (by kernel_rfl) (by kernel_rfl) (by kernel_rfl) (by exact fun _ _ _ h => h) (Or.inl ⟨by rfl, ?_⟩) h0 ?_
        rotate_left
        · intro W hW
          go_simp
          all_goals with_reducible rfl
        try simp only [Act.put, List.setIfInBounds_toArray, List.set_cons_zero, List.set_cons_succ]
        refine wpAnyH_ready (rs := [1, 10]) (by kernel_rfl) (by simp) ?_
        refine AllReadyH.cons (by rw [List.getElem?_toArray]; rfl) (fun K hK => ?_) (AllReadyH.cons (by rw [List.getElem?_toArray]; rfl) (fun K hK => ?_) (AllReadyH.nil))
        · rw [if_pos (by rfl)]
          go_wp2_with fail
          refine (Own8_any (HR.out _ (BW.out.trans (h0.mono BW.out.size))) HL.out).mono ?_
          rintro e w5 ⟨qo, co, rfl, ro, bo⟩
          have RL := Lib.hid ro
          have hS : Below w3.heap.size w3 _ := h0.trans ((bo).mono h0.size)
          clear ro bo
          go_wp2_with fail
          refine hK.out _ _ hS (fun h0 => ?_)
          clear hK K hS
          try simp only [Act.put, List.setIfInBounds_toArray, List.set_cons_zero, List.set_cons_succ]
          refine wpAnyH_ready (rs := [3, 10]) (by kernel_rfl) (by simp) ?_
          refine AllReadyH.cons (by rw [List.getElem?_toArray]; rfl) (fun K hK => ?_) (AllReadyH.cons (by rw [List.getElem?_toArray]; rfl) (fun K hK => ?_) (AllReadyH.nil))
          · rw [if_pos (by rfl)]
            go_wp2_with fail
            refine (Context8_any (HI.out _ (BW.out.trans (h0.mono BW.out.size))) HIL.out).mono ?_
            rintro e w6 ⟨qc, kc, rfl, rc, bo⟩
            have RC := Lib.hid rc
            have RL := Lib.hid (RL.out.on PIs_ok (by decide) bo)
            have hS : Below w3.heap.size w3 _ := h0.trans ((bo).mono h0.size)
            clear rc bo
            go_wp2_with fail
            refine hK.out _ _ hS (fun h0 => ?_)
            clear hK K hS
            try simp only [Act.put, List.setIfInBounds_toArray, List.set_cons_zero, List.set_cons_succ]
            refine wpAnyH_ready (rs := [6, 10]) (by kernel_rfl) (by simp) ?_
            refine AllReadyH.cons (by rw [List.getElem?_toArray]; rfl) (fun K hK => ?_) (AllReadyH.cons (by rw [List.getElem?_toArray]; rfl) (fun K hK => ?_) (AllReadyH.nil))
            · rw [if_pos (by rfl)]
              have KR := Lib.hid (Run_any (cL := co) RL.out HL.out LU.out HC.out RC.out (s := x) (qs := qa) (ks := ka) XOK.out ((rdU_of_own RXK.out).on h0) (M := B) (by have := HAB.out; omega))
              rw [HR2.out] at KR
              unfold RunP at KR
              go_wp2_with fail
              refine KR.out.mono ?_
              rintro e w8 ⟨qr, kr, rfl, rr, bo⟩
              have RR := Lib.hid rr
              have hS : Below w3.heap.size w3 _ := h0.trans ((bo).mono h0.size)
              clear bo KR rr
              go_wp2_with fail
              refine hK.out _ _ hS (fun h0 => ?_)
              clear hK K hS
              try simp only [Act.put, List.setIfInBounds_toArray, List.set_cons_zero, List.set_cons_succ]
              refine wpAnyH_take (i := 7) (v := ?_) (by rw [List.getElem?_toArray]; rfl) (by kernel_rfl) (by kernel_rfl) (by kernel_rfl) (by exact fun _ _ _ h => h) (Or.inl ⟨by rfl, ?_⟩) h0 ?_
              rotate_left
              · intro W hW
                go_simp
                all_goals with_reducible rfl
              try simp only [Act.put, List.setIfInBounds_toArray, List.set_cons_zero, List.set_cons_succ]
              refine wpAnyH_take (i := 8) (v := ?_) (by rw [List.getElem?_toArray]; rfl) (by kernel_rfl) (by kernel_rfl) (by kernel_rfl) (by exact fun _ _ _ h => h) (Or.inl ⟨by rfl, ?_⟩) h0 ?_
              rotate_left
              · intro W hW
                go_simp
                all_goals with_reducible rfl
              try simp only [Act.put, List.setIfInBounds_toArray, List.set_cons_zero, List.set_cons_succ]
              refine wpAnyH_take (i := 9) (v := ?_) (by rw [List.getElem?_toArray]; rfl) (by kernel_rfl) (by kernel_rfl) (by kernel_rfl) (by exact fun _ _ _ h => h) (Or.inl ⟨by rfl, ?_⟩) h0 ?_
              rotate_left
              · intro W hW
                go_simp
                all_goals with_reducible rfl
              try simp only [Act.put, List.setIfInBounds_toArray, List.set_cons_zero, List.set_cons_succ]
              refine wpAnyH_ready (rs := [10]) (by kernel_rfl) (by simp) ?_
              refine AllReadyH.cons (by rw [List.getElem?_toArray]; rfl) (fun K hK => ?_) AllReadyH.nil
              rw [if_pos (by rfl)]
              have ba : Below w8.heap.size w8 (w8.alloc (.cells (stRow ms0 none 0).toArray 34)) := (Below.refl _ _).alloc (Nat.le_refl _) _
              have hS : Below w3.heap.size w3 (w8.alloc (.cells (stRow ms0 none 0).toArray 34)) := h0.trans (ba.mono h0.size)
              have VB := Lib.hid (heap_alloc_new w8 (.cells (stRow ms0 none 0).toArray 34))
              have RR := Lib.hid (own_on RR.out ba)
              clear ba
              go_wp2_with fail
              obtain ⟨vb, hvb, VL⟩ : ∃ z, w8.heap.size = z ∧ Hid (w3.heap.size ≤ z) := ⟨_, rfl, h0.size⟩
              rw [hvb] at VB ⊢
              generalize w8.alloc (.cells (stRow ms0 none 0).toArray 34) = w9 at *
              clear hvb
              refine hK.out _ _ hS (fun h0 => ?_)
              clear hK K hS
              try simp only [Act.put, List.setIfInBounds_toArray, List.set_cons_zero, List.set_cons_succ]
              refine wpAnyH_ready (rs := [11]) (by kernel_rfl) (by simp) ?_
              refine AllReadyH.cons (by rw [List.getElem?_toArray]; rfl) (fun K hK => ?_) AllReadyH.nil
              rw [if_pos (by rfl)]
              have VBs : StAt w9 vb ms0 none 0 := VB.out
              have ct := VBs.there ws0_len
              have K9 := Lib.hid (VBs.put (s' := y) (q' := qr) (c' := kr) ws0_len YW.out)
              have VG := VL.out
              have hS := below_setCells' (B := w3.heap.size) vb VG (stRow y qr kr) 0 h0
              have R9 : Hid ((w9.setCells vb 0 (stRow y qr kr)).ownsRow 0 23 1 (.slice qr y.stk.length kr) y.stk.length (wcs y.stk)) := own_keep RR.out (fun g hg => setCells_other (fun e => own_ne RR.out VBs (by decide) (by rw [← e]; exact hg)) _ _ _)
              have uw := YW.out
              clear VBs VB
              go_wp2_with fail
              clear ct uw
              generalize w9.setCells vb 0 (stRow y qr kr) = w10 at *
              refine hK.out _ _ hS (fun h0 => ?_)
              clear hK K hS
              try simp only [Act.put, List.setIfInBounds_toArray, List.set_cons_zero, List.set_cons_succ]
              refine wpAnyH_take (i := 12) (v := ?_) (by rw [List.getElem?_toArray]; rfl) (by kernel_rfl) (by kernel_rfl) (by kernel_rfl) (by exact fun _ _ _ h => h) (Or.inl ⟨by rfl, ?_⟩) h0 ?_
              rotate_left
              · intro W hW
                go_simp
                all_goals with_reducible rfl
              try simp only [Act.put, List.setIfInBounds_toArray, List.set_cons_zero, List.set_cons_succ]
              refine wpAnyH_done (by kernel_rfl) ?_ _
              have hb := Lib.hid (BW.out.trans (h0.mono BW.out.size))
              have kx := Lib.hid (((h0).block _ (Array.getElem?_eq_some_iff.1 KX.out).1).trans KX.out)
              have ks := Lib.hid (((h0).block _ (Array.getElem?_eq_some_iff.1 KS.out).1).trans KS.out)
              go_wp2_with fail
              go_meet
              exact ⟨vb, qr, kr, rfl, rfl, K9, R9, hb, kx, ks⟩
            · rw [if_pos (by rfl)]
              have ba : Below w6.heap.size w6 (w6.alloc (.cells (stRow ms0 none 0).toArray 34)) := (Below.refl _ _).alloc (Nat.le_refl _) _
              have hS : Below w3.heap.size w3 (w6.alloc (.cells (stRow ms0 none 0).toArray 34)) := h0.trans (ba.mono h0.size)
              have VB := Lib.hid (heap_alloc_new w6 (.cells (stRow ms0 none 0).toArray 34))
              have RL := Lib.hid (RL.out.on PIs_ok (by decide) ba)
              have RC := Lib.hid (RC.out.on ba)
              clear ba
              go_wp2_with fail
              obtain ⟨vb, hvb, VL⟩ : ∃ z, w6.heap.size = z ∧ Hid (w3.heap.size ≤ z) := ⟨_, rfl, h0.size⟩
              rw [hvb] at VB ⊢
              generalize w6.alloc (.cells (stRow ms0 none 0).toArray 34) = w9 at *
              clear hvb
              refine hK.out _ _ hS (fun h0 => ?_)
              clear hK K hS
              try simp only [Act.put, List.setIfInBounds_toArray, List.set_cons_zero, List.set_cons_succ]
              refine wpAnyH_ready (rs := [6]) (by kernel_rfl) (by simp) ?_
              refine AllReadyH.cons (by rw [List.getElem?_toArray]; rfl) (fun K hK => ?_) AllReadyH.nil
              rw [if_pos (by rfl)]
              have KR := Lib.hid (Run_any (cL := co) RL.out HL.out LU.out HC.out RC.out (s := x) (qs := qa) (ks := ka) XOK.out ((rdU_of_own RXK.out).on h0) (M := B) (by have := HAB.out; omega))
              rw [HR2.out] at KR
              unfold RunP at KR
              go_wp2_with fail
              refine KR.out.mono ?_
              rintro e w8 ⟨qr, kr, rfl, rr, bo⟩
              have RR := Lib.hid rr
              have hS : Below w3.heap.size w3 _ := h0.trans ((bo).mono h0.size)
              have VB := Lib.hid (((bo).block _ (Array.getElem?_eq_some_iff.1 VB.out).1).trans VB.out)
              clear bo KR rr
              go_wp2_with fail
              refine hK.out _ _ hS (fun h0 => ?_)
              clear hK K hS
              try simp only [Act.put, List.setIfInBounds_toArray, List.set_cons_zero, List.set_cons_succ]
              refine wpAnyH_take (i := 7) (v := ?_) (by rw [List.getElem?_toArray]; rfl) (by kernel_rfl) (by kernel_rfl) (by kernel_rfl) (by exact fun _ _ _ h => h) (Or.inl ⟨by rfl, ?_⟩) h0 ?_
              rotate_left
              · intro W hW
                go_simp
                all_goals with_reducible rfl
              try simp only [Act.put, List.setIfInBounds_toArray, List.set_cons_zero, List.set_cons_succ]
              refine wpAnyH_take (i := 8) (v := ?_) (by rw [List.getElem?_toArray]; rfl) (by kernel_rfl) (by kernel_rfl) (by kernel_rfl) (by exact fun _ _ _ h => h) (Or.inl ⟨by rfl, ?_⟩) h0 ?_
              rotate_left
              · intro W hW
                go_simp
                all_goals with_reducible rfl
              try simp only [Act.put, List.setIfInBounds_toArray, List.set_cons_zero, List.set_cons_succ]
              refine wpAnyH_take (i := 9) (v := ?_) (by rw [List.getElem?_toArray]; rfl) (by kernel_rfl) (by kernel_rfl) (by kernel_rfl) (by exact fun _ _ _ h => h) (Or.inl ⟨by rfl, ?_⟩) h0 ?_
              rotate_left
              · intro W hW
                go_simp
                all_goals with_reducible rfl
              try simp only [Act.put, List.setIfInBounds_toArray, List.set_cons_zero, List.set_cons_succ]
              refine wpAnyH_ready (rs := [11]) (by kernel_rfl) (by simp) ?_
              refine AllReadyH.cons (by rw [List.getElem?_toArray]; rfl) (fun K hK => ?_) AllReadyH.nil
              rw [if_pos (by rfl)]
              have VBs : StAt w8 vb ms0 none 0 := VB.out
              have ct := VBs.there ws0_len
              have K9 := Lib.hid (VBs.put (s' := y) (q' := qr) (c' := kr) ws0_len YW.out)
              have VG := VL.out
              have hS := below_setCells' (B := w3.heap.size) vb VG (stRow y qr kr) 0 h0
              have R9 : Hid ((w8.setCells vb 0 (stRow y qr kr)).ownsRow 0 23 1 (.slice qr y.stk.length kr) y.stk.length (wcs y.stk)) := own_keep RR.out (fun g hg => setCells_other (fun e => own_ne RR.out VBs (by decide) (by rw [← e]; exact hg)) _ _ _)
              have uw := YW.out
              clear VBs VB
              go_wp2_with fail
              clear ct uw
              generalize w8.setCells vb 0 (stRow y qr kr) = w10 at *
              refine hK.out _ _ hS (fun h0 => ?_)
              clear hK K hS
              try simp only [Act.put, List.setIfInBounds_toArray, List.set_cons_zero, List.set_cons_succ]
              refine wpAnyH_take (i := 12) (v := ?_) (by rw [List.getElem?_toArray]; rfl) (by kernel_rfl) (by kernel_rfl) (by kernel_rfl) (by exact fun _ _ _ h => h) (Or.inl ⟨by rfl, ?_⟩) h0 ?_
              rotate_left
              · intro W hW
                go_simp
                all_goals with_reducible rfl
              try simp only [Act.put, List.setIfInBounds_toArray, List.set_cons_zero, List.set_cons_succ]
              refine wpAnyH_done (by kernel_rfl) ?_ _
              have hb := Lib.hid (BW.out.trans (h0.mono BW.out.size))
              have kx := Lib.hid (((h0).block _ (Array.getElem?_eq_some_iff.1 KX.out).1).trans KX.out)
              have ks := Lib.hid (((h0).block _ (Array.getElem?_eq_some_iff.1 KS.out).1).trans KS.out)
              go_wp2_with fail
              go_meet
              exact ⟨vb, qr, kr, rfl, rfl, K9, R9, hb, kx, ks⟩
          · rw [if_pos (by rfl)]
            have ba : Below w5.heap.size w5 (w5.alloc (.cells (stRow ms0 none 0).toArray 34)) := (Below.refl _ _).alloc (Nat.le_refl _) _
            have hS : Below w3.heap.size w3 (w5.alloc (.cells (stRow ms0 none 0).toArray 34)) := h0.trans (ba.mono h0.size)
            have VB := Lib.hid (heap_alloc_new w5 (.cells (stRow ms0 none 0).toArray 34))
            have RL := Lib.hid (RL.out.on PIs_ok (by decide) ba)
            clear ba
            go_wp2_with fail
            obtain ⟨vb, hvb, VL⟩ : ∃ z, w5.heap.size = z ∧ Hid (w3.heap.size ≤ z) := ⟨_, rfl, h0.size⟩
            rw [hvb] at VB ⊢
            generalize w5.alloc (.cells (stRow ms0 none 0).toArray 34) = w9 at *
            clear hvb
            refine hK.out _ _ hS (fun h0 => ?_)
            clear hK K hS
            try simp only [Act.put, List.setIfInBounds_toArray, List.set_cons_zero, List.set_cons_succ]
            refine wpAnyH_ready (rs := [3]) (by kernel_rfl) (by simp) ?_
            refine AllReadyH.cons (by rw [List.getElem?_toArray]; rfl) (fun K hK => ?_) AllReadyH.nil
            rw [if_pos (by rfl)]
            go_wp2_with fail
            refine (Context8_any (HI.out _ (BW.out.trans (h0.mono BW.out.size))) HIL.out).mono ?_
            rintro e w6 ⟨qc, kc, rfl, rc, bo⟩
            have RC := Lib.hid rc
            have RL := Lib.hid (RL.out.on PIs_ok (by decide) bo)
            have hS : Below w3.heap.size w3 _ := h0.trans ((bo).mono h0.size)
            have VB := Lib.hid (((bo).block _ (Array.getElem?_eq_some_iff.1 VB.out).1).trans VB.out)
            clear rc bo
            go_wp2_with fail
            refine hK.out _ _ hS (fun h0 => ?_)
            clear hK K hS
            try simp only [Act.put, List.setIfInBounds_toArray, List.set_cons_zero, List.set_cons_succ]
            refine wpAnyH_ready (rs := [6]) (by kernel_rfl) (by simp) ?_
            refine AllReadyH.cons (by rw [List.getElem?_toArray]; rfl) (fun K hK => ?_) AllReadyH.nil
            rw [if_pos (by rfl)]
            have KR := Lib.hid (Run_any (cL := co) RL.out HL.out LU.out HC.out RC.out (s := x) (qs := qa) (ks := ka) XOK.out ((rdU_of_own RXK.out).on h0) (M := B) (by have := HAB.out; omega))
            rw [HR2.out] at KR
            unfold RunP at KR
            go_wp2_with fail
            refine KR.out.mono ?_
            rintro e w8 ⟨qr, kr, rfl, rr, bo⟩
            have RR := Lib.hid rr
            have hS : Below w3.heap.size w3 _ := h0.trans ((bo).mono h0.size)
            have VB := Lib.hid (((bo).block _ (Array.getElem?_eq_some_iff.1 VB.out).1).trans VB.out)
            clear bo KR rr
            go_wp2_with fail
            refine hK.out _ _ hS (fun h0 => ?_)
            clear hK K hS
            try simp only [Act.put, List.setIfInBounds_toArray, List.set_cons_zero, List.set_cons_succ]
            refine wpAnyH_take (i := 7) (v := ?_) (by rw [List.getElem?_toArray]; rfl) (by kernel_rfl) (by kernel_rfl) (by kernel_rfl) (by exact fun _ _ _ h => h) (Or.inl ⟨by rfl, ?_⟩) h0 ?_
            rotate_left
            · intro W hW
              go_simp
              all_goals with_reducible rfl
            try simp only [Act.put, List.setIfInBounds_toArray, List.set_cons_zero, List.set_cons_succ]
            refine wpAnyH_take (i := 8) (v := ?_) (by rw [List.getElem?_toArray]; rfl) (by kernel_rfl) (by kernel_rfl) (by kernel_rfl) (by exact fun _ _ _ h => h) (Or.inl ⟨by rfl, ?_⟩) h0 ?_
            rotate_left
            · intro W hW
              go_simp
              all_goals with_reducible rfl
            try simp only [Act.put, List.setIfInBounds_toArray, List.set_cons_zero, List.set_cons_succ]
            refine wpAnyH_take (i := 9) (v := ?_) (by rw [List.getElem?_toArray]; rfl) (by kernel_rfl) (by kernel_rfl) (by kernel_rfl) (by exact fun _ _ _ h => h) (Or.inl ⟨by rfl, ?_⟩) h0 ?_
            rotate_left
            · intro W hW
              go_simp
              all_goals with_reducible rfl
            try simp only [Act.put, List.setIfInBounds_toArray, List.set_cons_zero, List.set_cons_succ]
            refine wpAnyH_ready (rs := [11]) (by kernel_rfl) (by simp) ?_
            refine AllReadyH.cons (by rw [List.getElem?_toArray]; rfl) (fun K hK => ?_) AllReadyH.nil
            rw [if_pos (by rfl)]
            have VBs : StAt w8 vb ms0 none 0 := VB.out
            have ct := VBs.there ws0_len
            have K9 := Lib.hid (VBs.put (s' := y) (q' := qr) (c' := kr) ws0_len YW.out)
            have VG := VL.out
            have hS := below_setCells' (B := w3.heap.size) vb VG (stRow y qr kr) 0 h0
            have R9 : Hid ((w8.setCells vb 0 (stRow y qr kr)).ownsRow 0 23 1 (.slice qr y.stk.length kr) y.stk.length (wcs y.stk)) := own_keep RR.out (fun g hg => setCells_other (fun e => own_ne RR.out VBs (by decide) (by rw [← e]; exact hg)) _ _ _)
            have uw := YW.out
            clear VBs VB
            go_wp2_with fail
            clear ct uw
            generalize w8.setCells vb 0 (stRow y qr kr) = w10 at *
            refine hK.out _ _ hS (fun h0 => ?_)
            clear hK K hS
            try simp only [Act.put, List.setIfInBounds_toArray, List.set_cons_zero, List.set_cons_succ]
            refine wpAnyH_take (i := 12) (v := ?_) (by rw [List.getElem?_toArray]; rfl) (by kernel_rfl) (by kernel_rfl) (by kernel_rfl) (by exact fun _ _ _ h => h) (Or.inl ⟨by rfl, ?_⟩) h0 ?_
            rotate_left
            · intro W hW
              go_simp
              all_goals with_reducible rfl
            try simp only [Act.put, List.setIfInBounds_toArray, List.set_cons_zero, List.set_cons_succ]
            refine wpAnyH_done (by kernel_rfl) ?_ _
            have hb := Lib.hid (BW.out.trans (h0.mono BW.out.size))
            have kx := Lib.hid (((h0).block _ (Array.getElem?_eq_some_iff.1 KX.out).1).trans KX.out)
            have ks := Lib.hid (((h0).block _ (Array.getElem?_eq_some_iff.1 KS.out).1).trans KS.out)
            go_wp2_with fail
            go_meet
            exact ⟨vb, qr, kr, rfl, rfl, K9, R9, hb, kx, ks⟩
        · rw [if_pos (by rfl)]
          have ba : Below w3.heap.size w3 (w3.alloc (.cells (stRow ms0 none 0).toArray 34)) := (Below.refl _ _).alloc (Nat.le_refl _) _
          have hS : Below w3.heap.size w3 (w3.alloc (.cells (stRow ms0 none 0).toArray 34)) := h0.trans (ba.mono h0.size)
          have VB := Lib.hid (heap_alloc_new w3 (.cells (stRow ms0 none 0).toArray 34))
          clear ba
          go_wp2_with fail
          obtain ⟨vb, hvb, VL⟩ : ∃ z, w3.heap.size = z ∧ Hid (w3.heap.size ≤ z) := ⟨_, rfl, h0.size⟩
          rw [hvb] at VB ⊢
          generalize w3.alloc (.cells (stRow ms0 none 0).toArray 34) = w9 at *
          clear hvb
          refine hK.out _ _ hS (fun h0 => ?_)
          clear hK K hS
          try simp only [Act.put, List.setIfInBounds_toArray, List.set_cons_zero, List.set_cons_succ]
          refine wpAnyH_ready (rs := [1]) (by kernel_rfl) (by simp) ?_
          refine AllReadyH.cons (by rw [List.getElem?_toArray]; rfl) (fun K hK => ?_) AllReadyH.nil
          rw [if_pos (by rfl)]
          go_wp2_with fail
          refine (Own8_any (HR.out _ (BW.out.trans (h0.mono BW.out.size))) HL.out).mono ?_
          rintro e w5 ⟨qo, co, rfl, ro, bo⟩
          have RL := Lib.hid ro
          have hS : Below w3.heap.size w3 _ := h0.trans ((bo).mono h0.size)
          have VB := Lib.hid (((bo).block _ (Array.getElem?_eq_some_iff.1 VB.out).1).trans VB.out)
          clear ro bo
          go_wp2_with fail
          refine hK.out _ _ hS (fun h0 => ?_)
          clear hK K hS
          try simp only [Act.put, List.setIfInBounds_toArray, List.set_cons_zero, List.set_cons_succ]
          refine wpAnyH_ready (rs := [3]) (by kernel_rfl) (by simp) ?_
          refine AllReadyH.cons (by rw [List.getElem?_toArray]; rfl) (fun K hK => ?_) AllReadyH.nil
          rw [if_pos (by rfl)]
          go_wp2_with fail
          refine (Context8_any (HI.out _ (BW.out.trans (h0.mono BW.out.size))) HIL.out).mono ?_
          rintro e w6 ⟨qc, kc, rfl, rc, bo⟩
          have RC := Lib.hid rc
          have RL := Lib.hid (RL.out.on PIs_ok (by decide) bo)
          have hS : Below w3.heap.size w3 _ := h0.trans ((bo).mono h0.size)
          have VB := Lib.hid (((bo).block _ (Array.getElem?_eq_some_iff.1 VB.out).1).trans VB.out)
          clear rc bo
          go_wp2_with fail
          refine hK.out _ _ hS (fun h0 => ?_)
          clear hK K hS
          try simp only [Act.put, List.setIfInBounds_toArray, List.set_cons_zero, List.set_cons_succ]
          refine wpAnyH_ready (rs := [6]) (by kernel_rfl) (by simp) ?_
          refine AllReadyH.cons (by rw [List.getElem?_toArray]; rfl) (fun K hK => ?_) AllReadyH.nil
          rw [if_pos (by rfl)]
          have KR := Lib.hid (Run_any (cL := co) RL.out HL.out LU.out HC.out RC.out (s := x) (qs := qa) (ks := ka) XOK.out ((rdU_of_own RXK.out).on h0) (M := B) (by have := HAB.out; omega))
          rw [HR2.out] at KR
          unfold RunP at KR
          go_wp2_with fail
          refine KR.out.mono ?_
          rintro e w8 ⟨qr, kr, rfl, rr, bo⟩
          have RR := Lib.hid rr
          have hS : Below w3.heap.size w3 _ := h0.trans ((bo).mono h0.size)
          have VB := Lib.hid (((bo).block _ (Array.getElem?_eq_some_iff.1 VB.out).1).trans VB.out)
          clear bo KR rr
          go_wp2_with fail
          refine hK.out _ _ hS (fun h0 => ?_)
          clear hK K hS
          try simp only [Act.put, List.setIfInBounds_toArray, List.set_cons_zero, List.set_cons_succ]
          refine wpAnyH_take (i := 7) (v := ?_) (by rw [List.getElem?_toArray]; rfl) (by kernel_rfl) (by kernel_rfl) (by kernel_rfl) (by exact fun _ _ _ h => h) (Or.inl ⟨by rfl, ?_⟩) h0 ?_
          rotate_left
          · intro W hW
            go_simp
            all_goals with_reducible rfl
          try simp only [Act.put, List.setIfInBounds_toArray, List.set_cons_zero, List.set_cons_succ]
          refine wpAnyH_take (i := 8) (v := ?_) (by rw [List.getElem?_toArray]; rfl) (by kernel_rfl) (by kernel_rfl) (by kernel_rfl) (by exact fun _ _ _ h => h) (Or.inl ⟨by rfl, ?_⟩) h0 ?_
          rotate_left
          · intro W hW
            go_simp
            all_goals with_reducible rfl
          try simp only [Act.put, List.setIfInBounds_toArray, List.set_cons_zero, List.set_cons_succ]
          refine wpAnyH_take (i := 9) (v := ?_) (by rw [List.getElem?_toArray]; rfl) (by kernel_rfl) (by kernel_rfl) (by kernel_rfl) (by exact fun _ _ _ h => h) (Or.inl ⟨by rfl, ?_⟩) h0 ?_
          rotate_left
          · intro W hW
            go_simp
            all_goals with_reducible rfl
          try simp only [Act.put, List.setIfInBounds_toArray, List.set_cons_zero, List.set_cons_succ]
          refine wpAnyH_ready (rs := [11]) (by kernel_rfl) (by simp) ?_
          refine AllReadyH.cons (by rw [List.getElem?_toArray]; rfl) (fun K hK => ?_) AllReadyH.nil
          rw [if_pos (by rfl)]
          have VBs : StAt w8 vb ms0 none 0 := VB.out
          have ct := VBs.there ws0_len
          have K9 := Lib.hid (VBs.put (s' := y) (q' := qr) (c' := kr) ws0_len YW.out)
          have VG := VL.out
          have hS := below_setCells' (B := w3.heap.size) vb VG (stRow y qr kr) 0 h0
          have R9 : Hid ((w8.setCells vb 0 (stRow y qr kr)).ownsRow 0 23 1 (.slice qr y.stk.length kr) y.stk.length (wcs y.stk)) := own_keep RR.out (fun g hg => setCells_other (fun e => own_ne RR.out VBs (by decide) (by rw [← e]; exact hg)) _ _ _)
          have uw := YW.out
          clear VBs VB
          go_wp2_with fail
          clear ct uw
          generalize w8.setCells vb 0 (stRow y qr kr) = w10 at *
          refine hK.out _ _ hS (fun h0 => ?_)
          clear hK K hS
          try simp only [Act.put, List.setIfInBounds_toArray, List.set_cons_zero, List.set_cons_succ]
          refine wpAnyH_take (i := 12) (v := ?_) (by rw [List.getElem?_toArray]; rfl) (by kernel_rfl) (by kernel_rfl) (by kernel_rfl) (by exact fun _ _ _ h => h) (Or.inl ⟨by rfl, ?_⟩) h0 ?_
          rotate_left
          · intro W hW
            go_simp
            all_goals with_reducible rfl
          try simp only [Act.put, List.setIfInBounds_toArray, List.set_cons_zero, List.set_cons_succ]
          refine wpAnyH_done (by kernel_rfl) ?_ _
          have hb := Lib.hid (BW.out.trans (h0.mono BW.out.size))
          have kx := Lib.hid (((h0).block _ (Array.getElem?_eq_some_iff.1 KX.out).1).trans KX.out)
          have ks := Lib.hid (((h0).block _ (Array.getElem?_eq_some_iff.1 KS.out).1).trans KS.out)
          go_wp2_with fail
          go_meet
          exact ⟨vb, qr, kr, rfl, rfl, K9, R9, hb, kx, ks⟩
      case rest =>
        obtain ⟨vb, qb, kb, rfl, rfl, KB, RB, BC, KX, KS⟩ := hcut
        clear BW KA RXK
        have BW := Lib.hid BC.out.drew
        have KX : Hid (wc.drew.heap[w.heap.size]? = some (.cells #[.int .u64 c.who, .int .u64 c.val, .slice qi c.inp.length ki] 26 (0, 0))) := KX.out
        have KS : Hid (wc.drew.heap[w.heap.size + 1]? = some (.cells (stRow s qs cs).toArray 29 (0, 0))) := KS.out
        have KB : Hid (wc.drew.heap[vb]? = some (.cells (stRow y qb kb).toArray 34 (0, 0))) := KB.out
        have RB : Hid (wc.drew.ownsRow 0 23 1 (.slice qb y.stk.length kb) y.stk.length (wcs y.stk)) := RB.out
        clear BC
        go_upto_region 7 with fail
        go_cut [15, 16] from 51 to 63 (fun s15 s16 wx => ∃ (vc : Nat) (qc : Option Addr) (kc : Nat), s15 = .pointer (some ⟨vc, 0, none⟩) ∧ s16 = .int .i64 (k : Int) ∧ Hid (wx.heap[vc]? = some (.cells (stRow y qc kc).toArray 34 (0, 0))) ∧ Hid (wx.ownsRow 0 23 1 (.slice qc y.stk.length kc) y.stk.length (wcs y.stk)) ∧ Hid (Below w.heap.size w wx) ∧ Hid (wx.heap[vb]? = some (.cells (stRow y qb kb).toArray 34 (0, 0))) ∧ Hid (wx.ownsRow 0 23 1 (.slice qb y.stk.length kb) y.stk.length (wcs y.stk)))
        case first =>
          as_aux_lemma =>
          refine wp_region_held_drew (S := fun W => Below wc.drew.heap.size wc.drew W) (by kernel_rfl) (Below.refl _ _) (fun h0 => ?_)
          generalize wc.drew = w3 at *
          refine wpAnyH_take (i := 0) (v := ?_) (by rw [List.getElem?_toArray]; rfl) (by kernel_rfl) (by kernel_rfl) (by kernel_rfl) (by exact fun _ _ _ h => h) (Or.inl ⟨by rfl, ?_⟩) h0 ?_
          rotate_left
          · intro W hW
            go_simp
            all_goals with_reducible rfl
          try simp only [Act.put, List.setIfInBounds_toArray, List.set_cons_zero, List.set_cons_succ]
          refine wpAnyH_take (i := 2) (v := ?_) (by rw [List.getElem?_toArray]; rfl) (by kernel_rfl) (by kernel_rfl) (by kernel_rfl) (by exact fun _ _ _ h => h) (Or.inl ⟨by rfl, ?_⟩) h0 ?_
          rotate_left
          · intro W hW
            have kx := ((hW).block _ (Array.getElem?_eq_some_iff.1 KX.out).1).trans KX.out
            have c0 := (Joins.cell_of_block kx 0).trans (rfl : _ = some _)
            have c1 := (Joins.cell_of_block kx 1).trans (rfl : _ = some _)
            have c2 := (Joins.cell_of_block kx 2).trans (rfl : _ = some _)
            go_simp
            all_goals with_reducible rfl
          try simp only [Act.put, List.setIfInBounds_toArray, List.set_cons_zero, List.set_cons_succ]
          refine wpAnyH_take (i := 4) (v := ?_) (by rw [List.getElem?_toArray]; rfl) (by kernel_rfl) (by kernel_rfl) (by kernel_rfl) (by exact fun _ _ _ h => h) (Or.inl ⟨by rfl, ?_⟩) h0 ?_
          rotate_left
          · intro W hW
            have kx := ((hW).block _ (Array.getElem?_eq_some_iff.1 KS.out).1).trans KS.out
            have cc := st_row kx W16.out
            have w16 := W16.out
            go_simp
            all_goals with_reducible rfl
          try simp only [Act.put, List.setIfInBounds_toArray, List.set_cons_zero, List.set_cons_succ]
          refine wpAnyH_take (i := 6) (v := ?_) (by rw [List.getElem?_toArray]; rfl) (by kernel_rfl) (by kernel_rfl) (by kernel_rfl) (by exact fun _ _ _ h => h) (Or.inl ⟨by rfl, ?_⟩) h0 ?_
          rotate_left
          · intro W hW
            go_simp
            all_goals with_reducible rfl
          try simp only [Act.put, List.setIfInBounds_toArray, List.set_cons_zero, List.set_cons_succ]
          refine wpAnyH_take (i := 7) (v := ?_) (by rw [List.getElem?_toArray]; rfl) (by kernel_rfl) (by kernel_rfl) (by kernel_rfl) (by exact fun _ _ _ h => h) (Or.inl ⟨by rfl, ?_⟩) h0 ?_
          rotate_left
          · intro W hW
            go_simp
            all_goals with_reducible rfl
          try simp only [Act.put, List.setIfInBounds_toArray, List.set_cons_zero, List.set_cons_succ]
          refine wpAnyH_take (i := 8) (v := ?_) (by rw [List.getElem?_toArray]; rfl) (by kernel_rfl) (by kernel_rfl) (by kernel_rfl) (by exact fun _ _ _ h => h) (Or.inl ⟨by rfl, ?_⟩) h0 ?_
          rotate_left
          · intro W hW
            have wab := WAB.out
            go_simp
            all_goals with_reducible rfl
          try simp only [Act.put, List.setIfInBounds_toArray, List.set_cons_zero, List.set_cons_succ]
          refine wpAnyH_ready (rs := [1, 13]) (by kernel_rfl) (by simp) ?_
          refine AllReadyH.cons (by rw [List.getElem?_toArray]; rfl) (fun K hK => ?_) (AllReadyH.cons (by rw [List.getElem?_toArray]; rfl) (fun K hK => ?_) (AllReadyH.nil))
          · rw [if_pos (by rfl)]
            go_wp2_with fail
            refine (Own8_any (HR.out _ (BW.out.trans (h0.mono BW.out.size))) HL.out).mono ?_
            rintro e w5 ⟨qo, co, rfl, ro, bo⟩
            have RL := Lib.hid ro
            have hS : Below w3.heap.size w3 _ := h0.trans ((bo).mono h0.size)
            clear ro bo
            go_wp2_with fail
            refine hK.out _ _ hS (fun h0 => ?_)
            clear hK K hS
            try simp only [Act.put, List.setIfInBounds_toArray, List.set_cons_zero, List.set_cons_succ]
            refine wpAnyH_ready (rs := [3, 13]) (by kernel_rfl) (by simp) ?_
            refine AllReadyH.cons (by rw [List.getElem?_toArray]; rfl) (fun K hK => ?_) (AllReadyH.cons (by rw [List.getElem?_toArray]; rfl) (fun K hK => ?_) (AllReadyH.nil))
            · rw [if_pos (by rfl)]
              go_wp2_with fail
              refine (Context8_any (HI.out _ (BW.out.trans (h0.mono BW.out.size))) HIL.out).mono ?_
              rintro e w6 ⟨qc, kc, rfl, rc, bo⟩
              have RC := Lib.hid rc
              have RL := Lib.hid (RL.out.on PIs_ok (by decide) bo)
              have hS : Below w3.heap.size w3 _ := h0.trans ((bo).mono h0.size)
              clear rc bo
              go_wp2_with fail
              refine hK.out _ _ hS (fun h0 => ?_)
              clear hK K hS
              try simp only [Act.put, List.setIfInBounds_toArray, List.set_cons_zero, List.set_cons_succ]
              refine wpAnyH_ready (rs := [5, 13]) (by kernel_rfl) (by simp) ?_
              refine AllReadyH.cons (by rw [List.getElem?_toArray]; rfl) (fun K hK => ?_) (AllReadyH.cons (by rw [List.getElem?_toArray]; rfl) (fun K hK => ?_) (AllReadyH.nil))
              · rw [if_pos (by rfl)]
                go_wp2_with fail
                refine (State8_any (HSK.out _ (BW.out.trans (h0.mono BW.out.size))) HSL.out W16.out).mono ?_
                rintro e w7 ⟨qz, kz, rfl, ⟨rz, -, -⟩, bo⟩
                have RC := Lib.hid (RC.out.on bo)
                have RL := Lib.hid (RL.out.on PIs_ok (by decide) bo)
                have RZ := Lib.hid rz
                have hS : Below w3.heap.size w3 _ := h0.trans ((bo).mono h0.size)
                clear rz bo
                go_wp2_with fail
                refine hK.out _ _ hS (fun h0 => ?_)
                clear hK K hS
                try simp only [Act.put, List.setIfInBounds_toArray, List.set_cons_zero, List.set_cons_succ]
                refine wpAnyH_ready (rs := [9, 13]) (by kernel_rfl) (by simp) ?_
                refine AllReadyH.cons (by rw [List.getElem?_toArray]; rfl) (fun K hK => ?_) (AllReadyH.cons (by rw [List.getElem?_toArray]; rfl) (fun K hK => ?_) (AllReadyH.nil))
                · rw [if_pos (by rfl)]
                  have KR := Lib.hid (Run_any (cL := co) RL.out HL.out LU.out HC.out RC.out (s := s) (qs := qz) (ks := kz) SOK.out RZ.out (M := (A + B)) (by have := HAB.out; omega))
                  rw [HR3.out] at KR
                  unfold RunP at KR
                  go_wp2_with fail
                  refine KR.out.mono ?_
                  rintro e w8 ⟨qr, kr, rfl, rr, bo⟩
                  have RR := Lib.hid rr
                  have hS : Below w3.heap.size w3 _ := h0.trans ((bo).mono h0.size)
                  clear bo KR rr
                  go_wp2_with fail
                  refine hK.out _ _ hS (fun h0 => ?_)
                  clear hK K hS
                  try simp only [Act.put, List.setIfInBounds_toArray, List.set_cons_zero, List.set_cons_succ]
                  refine wpAnyH_take (i := 10) (v := ?_) (by rw [List.getElem?_toArray]; rfl) (by kernel_rfl) (by kernel_rfl) (by kernel_rfl) (by exact fun _ _ _ h => h) (Or.inl ⟨by rfl, ?_⟩) h0 ?_
                  rotate_left
                  · intro W hW
                    go_simp
                    all_goals with_reducible rfl
                  try simp only [Act.put, List.setIfInBounds_toArray, List.set_cons_zero, List.set_cons_succ]
                  refine wpAnyH_take (i := 11) (v := ?_) (by rw [List.getElem?_toArray]; rfl) (by kernel_rfl) (by kernel_rfl) (by kernel_rfl) (by exact fun _ _ _ h => h) (Or.inl ⟨by rfl, ?_⟩) h0 ?_
                  rotate_left
                  · intro W hW
                    go_simp
                    all_goals with_reducible rfl
                  try simp only [Act.put, List.setIfInBounds_toArray, List.set_cons_zero, List.set_cons_succ]
                  refine wpAnyH_take (i := 12) (v := ?_) (by rw [List.getElem?_toArray]; rfl) (by kernel_rfl) (by kernel_rfl) (by kernel_rfl) (by exact fun _ _ _ h => h) (Or.inl ⟨by rfl, ?_⟩) h0 ?_
                  rotate_left
                  · intro W hW
                    go_simp
                    all_goals with_reducible rfl
                  try simp only [Act.put, List.setIfInBounds_toArray, List.set_cons_zero, List.set_cons_succ]
                  refine wpAnyH_ready (rs := [13]) (by kernel_rfl) (by simp) ?_
                  refine AllReadyH.cons (by rw [List.getElem?_toArray]; rfl) (fun K hK => ?_) AllReadyH.nil
                  rw [if_pos (by rfl)]
                  have ba : Below w8.heap.size w8 (w8.alloc (.cells (stRow ms0 none 0).toArray 34)) := (Below.refl _ _).alloc (Nat.le_refl _) _
                  have hS : Below w3.heap.size w3 (w8.alloc (.cells (stRow ms0 none 0).toArray 34)) := h0.trans (ba.mono h0.size)
                  have VB := Lib.hid (heap_alloc_new w8 (.cells (stRow ms0 none 0).toArray 34))
                  have RR := Lib.hid (own_on RR.out ba)
                  clear ba
                  go_wp2_with fail
                  obtain ⟨vb, hvb, VL⟩ : ∃ z, w8.heap.size = z ∧ Hid (w3.heap.size ≤ z) := ⟨_, rfl, h0.size⟩
                  rw [hvb] at VB ⊢
                  generalize w8.alloc (.cells (stRow ms0 none 0).toArray 34) = w9 at *
                  clear hvb
                  refine hK.out _ _ hS (fun h0 => ?_)
                  clear hK K hS
                  try simp only [Act.put, List.setIfInBounds_toArray, List.set_cons_zero, List.set_cons_succ]
                  refine wpAnyH_ready (rs := [14]) (by kernel_rfl) (by simp) ?_
                  refine AllReadyH.cons (by rw [List.getElem?_toArray]; rfl) (fun K hK => ?_) AllReadyH.nil
                  rw [if_pos (by rfl)]
                  have VBs : StAt w9 vb ms0 none 0 := VB.out
                  have ct := VBs.there ws0_len
                  have K9 := Lib.hid (VBs.put (s' := y) (q' := qr) (c' := kr) ws0_len YW.out)
                  have VG := VL.out
                  have hS := below_setCells' (B := w3.heap.size) vb VG (stRow y qr kr) 0 h0
                  have R9 : Hid ((w9.setCells vb 0 (stRow y qr kr)).ownsRow 0 23 1 (.slice qr y.stk.length kr) y.stk.length (wcs y.stk)) := own_keep RR.out (fun g hg => setCells_other (fun e => own_ne RR.out VBs (by decide) (by rw [← e]; exact hg)) _ _ _)
                  have uw := YW.out
                  clear VBs VB
                  go_wp2_with fail
                  clear ct uw
                  generalize w9.setCells vb 0 (stRow y qr kr) = w10 at *
                  refine hK.out _ _ hS (fun h0 => ?_)
                  clear hK K hS
                  try simp only [Act.put, List.setIfInBounds_toArray, List.set_cons_zero, List.set_cons_succ]
                  refine wpAnyH_take (i := 15) (v := ?_) (by rw [List.getElem?_toArray]; rfl) (by kernel_rfl) (by kernel_rfl) (by kernel_rfl) (by exact fun _ _ _ h => h) (Or.inl ⟨by rfl, ?_⟩) h0 ?_
                  rotate_left
                  · intro W hW
                    go_simp
                    all_goals with_reducible rfl
                  try simp only [Act.put, List.setIfInBounds_toArray, List.set_cons_zero, List.set_cons_succ]
                  refine wpAnyH_done (by kernel_rfl) ?_ _
                  have hb := Lib.hid (BW.out.trans (h0.mono BW.out.size))
                  have kbb := Lib.hid (((h0).block _ (Array.getElem?_eq_some_iff.1 KB.out).1).trans KB.out)
                  have rbb := Lib.hid (own_on RB.out h0)
                  go_wp2_with fail
                  go_meet
                  exact ⟨vb, qr, kr, rfl, rfl, K9, R9, hb, kbb, rbb⟩
                · rw [if_pos (by rfl)]
                  have ba : Below w7.heap.size w7 (w7.alloc (.cells (stRow ms0 none 0).toArray 34)) := (Below.refl _ _).alloc (Nat.le_refl _) _
                  have hS : Below w3.heap.size w3 (w7.alloc (.cells (stRow ms0 none 0).toArray 34)) := h0.trans (ba.mono h0.size)
                  have VB := Lib.hid (heap_alloc_new w7 (.cells (stRow ms0 none 0).toArray 34))
                  have RL := Lib.hid (RL.out.on PIs_ok (by decide) ba)
                  have RC := Lib.hid (RC.out.on ba)
                  have RZ := Lib.hid (RZ.out.on ba)
                  clear ba
                  go_wp2_with fail
                  obtain ⟨vb, hvb, VL⟩ : ∃ z, w7.heap.size = z ∧ Hid (w3.heap.size ≤ z) := ⟨_, rfl, h0.size⟩
                  rw [hvb] at VB ⊢
                  generalize w7.alloc (.cells (stRow ms0 none 0).toArray 34) = w9 at *
                  clear hvb
                  refine hK.out _ _ hS (fun h0 => ?_)
                  clear hK K hS
                  try simp only [Act.put, List.setIfInBounds_toArray, List.set_cons_zero, List.set_cons_succ]
                  refine wpAnyH_ready (rs := [9]) (by kernel_rfl) (by simp) ?_
                  refine AllReadyH.cons (by rw [List.getElem?_toArray]; rfl) (fun K hK => ?_) AllReadyH.nil
                  rw [if_pos (by rfl)]
                  have KR := Lib.hid (Run_any (cL := co) RL.out HL.out LU.out HC.out RC.out (s := s) (qs := qz) (ks := kz) SOK.out RZ.out (M := (A + B)) (by have := HAB.out; omega))
                  rw [HR3.out] at KR
                  unfold RunP at KR
                  go_wp2_with fail
                  refine KR.out.mono ?_
                  rintro e w8 ⟨qr, kr, rfl, rr, bo⟩
                  have RR := Lib.hid rr
                  have hS : Below w3.heap.size w3 _ := h0.trans ((bo).mono h0.size)
                  have VB := Lib.hid (((bo).block _ (Array.getElem?_eq_some_iff.1 VB.out).1).trans VB.out)
                  clear bo KR rr
                  go_wp2_with fail
                  refine hK.out _ _ hS (fun h0 => ?_)
                  clear hK K hS
                  try simp only [Act.put, List.setIfInBounds_toArray, List.set_cons_zero, List.set_cons_succ]
                  refine wpAnyH_take (i := 10) (v := ?_) (by rw [List.getElem?_toArray]; rfl) (by kernel_rfl) (by kernel_rfl) (by kernel_rfl) (by exact fun _ _ _ h => h) (Or.inl ⟨by rfl, ?_⟩) h0 ?_
                  rotate_left
                  · intro W hW
                    go_simp
                    all_goals with_reducible rfl
                  try simp only [Act.put, List.setIfInBounds_toArray, List.set_cons_zero, List.set_cons_succ]
                  refine wpAnyH_take (i := 11) (v := ?_) (by rw [List.getElem?_toArray]; rfl) (by kernel_rfl) (by kernel_rfl) (by kernel_rfl) (by exact fun _ _ _ h => h) (Or.inl ⟨by rfl, ?_⟩) h0 ?_
                  rotate_left
                  · intro W hW
                    go_simp
                    all_goals with_reducible rfl
                  try simp only [Act.put, List.setIfInBounds_toArray, List.set_cons_zero, List.set_cons_succ]
                  refine wpAnyH_take (i := 12) (v := ?_) (by rw [List.getElem?_toArray]; rfl) (by kernel_rfl) (by kernel_rfl) (by kernel_rfl) (by exact fun _ _ _ h => h) (Or.inl ⟨by rfl, ?_⟩) h0 ?_
                  rotate_left
                  · intro W hW
                    go_simp
                    all_goals with_reducible rfl
                  try simp only [Act.put, List.setIfInBounds_toArray, List.set_cons_zero, List.set_cons_succ]
                  refine wpAnyH_ready (rs := [14]) (by kernel_rfl) (by simp) ?_
                  refine AllReadyH.cons (by rw [List.getElem?_toArray]; rfl) (fun K hK => ?_) AllReadyH.nil
                  rw [if_pos (by rfl)]
                  have VBs : StAt w8 vb ms0 none 0 := VB.out
                  have ct := VBs.there ws0_len
                  have K9 := Lib.hid (VBs.put (s' := y) (q' := qr) (c' := kr) ws0_len YW.out)
                  have VG := VL.out
                  have hS := below_setCells' (B := w3.heap.size) vb VG (stRow y qr kr) 0 h0
                  have R9 : Hid ((w8.setCells vb 0 (stRow y qr kr)).ownsRow 0 23 1 (.slice qr y.stk.length kr) y.stk.length (wcs y.stk)) := own_keep RR.out (fun g hg => setCells_other (fun e => own_ne RR.out VBs (by decide) (by rw [← e]; exact hg)) _ _ _)
                  have uw := YW.out
                  clear VBs VB
                  go_wp2_with fail
                  clear ct uw
                  generalize w8.setCells vb 0 (stRow y qr kr) = w10 at *
                  refine hK.out _ _ hS (fun h0 => ?_)
                  clear hK K hS
                  try simp only [Act.put, List.setIfInBounds_toArray, List.set_cons_zero, List.set_cons_succ]
                  refine wpAnyH_take (i := 15) (v := ?_) (by rw [List.getElem?_toArray]; rfl) (by kernel_rfl) (by kernel_rfl) (by kernel_rfl) (by exact fun _ _ _ h => h) (Or.inl ⟨by rfl, ?_⟩) h0 ?_
                  rotate_left
                  · intro W hW
                    go_simp
                    all_goals with_reducible rfl
                  try simp only [Act.put, List.setIfInBounds_toArray, List.set_cons_zero, List.set_cons_succ]
                  refine wpAnyH_done (by kernel_rfl) ?_ _
                  have hb := Lib.hid (BW.out.trans (h0.mono BW.out.size))
                  have kbb := Lib.hid (((h0).block _ (Array.getElem?_eq_some_iff.1 KB.out).1).trans KB.out)
                  have rbb := Lib.hid (own_on RB.out h0)
                  go_wp2_with fail
                  go_meet
                  exact ⟨vb, qr, kr, rfl, rfl, K9, R9, hb, kbb, rbb⟩
              · rw [if_pos (by rfl)]
                have ba : Below w6.heap.size w6 (w6.alloc (.cells (stRow ms0 none 0).toArray 34)) := (Below.refl _ _).alloc (Nat.le_refl _) _
                have hS : Below w3.heap.size w3 (w6.alloc (.cells (stRow ms0 none 0).toArray 34)) := h0.trans (ba.mono h0.size)
                have VB := Lib.hid (heap_alloc_new w6 (.cells (stRow ms0 none 0).toArray 34))
                have RL := Lib.hid (RL.out.on PIs_ok (by decide) ba)
                have RC := Lib.hid (RC.out.on ba)
                clear ba
                go_wp2_with fail
                obtain ⟨vb, hvb, VL⟩ : ∃ z, w6.heap.size = z ∧ Hid (w3.heap.size ≤ z) := ⟨_, rfl, h0.size⟩
                rw [hvb] at VB ⊢
                generalize w6.alloc (.cells (stRow ms0 none 0).toArray 34) = w9 at *
                clear hvb
                refine hK.out _ _ hS (fun h0 => ?_)
                clear hK K hS
                try simp only [Act.put, List.setIfInBounds_toArray, List.set_cons_zero, List.set_cons_succ]
                refine wpAnyH_ready (rs := [5]) (by kernel_rfl) (by simp) ?_
                refine AllReadyH.cons (by rw [List.getElem?_toArray]; rfl) (fun K hK => ?_) AllReadyH.nil
                rw [if_pos (by rfl)]
                go_wp2_with fail
                refine (State8_any (HSK.out _ (BW.out.trans (h0.mono BW.out.size))) HSL.out W16.out).mono ?_
                rintro e w7 ⟨qz, kz, rfl, ⟨rz, -, -⟩, bo⟩
                have RC := Lib.hid (RC.out.on bo)
                have RL := Lib.hid (RL.out.on PIs_ok (by decide) bo)
                have RZ := Lib.hid rz
                have hS : Below w3.heap.size w3 _ := h0.trans ((bo).mono h0.size)
                have VB := Lib.hid (((bo).block _ (Array.getElem?_eq_some_iff.1 VB.out).1).trans VB.out)
                clear rz bo
                go_wp2_with fail
                refine hK.out _ _ hS (fun h0 => ?_)
                clear hK K hS
                try simp only [Act.put, List.setIfInBounds_toArray, List.set_cons_zero, List.set_cons_succ]
                refine wpAnyH_ready (rs := [9]) (by kernel_rfl) (by simp) ?_
                refine AllReadyH.cons (by rw [List.getElem?_toArray]; rfl) (fun K hK => ?_) AllReadyH.nil
                rw [if_pos (by rfl)]
                have KR := Lib.hid (Run_any (cL := co) RL.out HL.out LU.out HC.out RC.out (s := s) (qs := qz) (ks := kz) SOK.out RZ.out (M := (A + B)) (by have := HAB.out; omega))
                rw [HR3.out] at KR
                unfold RunP at KR
                go_wp2_with fail
                refine KR.out.mono ?_
                rintro e w8 ⟨qr, kr, rfl, rr, bo⟩
                have RR := Lib.hid rr
                have hS : Below w3.heap.size w3 _ := h0.trans ((bo).mono h0.size)
                have VB := Lib.hid (((bo).block _ (Array.getElem?_eq_some_iff.1 VB.out).1).trans VB.out)
                clear bo KR rr
                go_wp2_with fail
                refine hK.out _ _ hS (fun h0 => ?_)
                clear hK K hS
                try simp only [Act.put, List.setIfInBounds_toArray, List.set_cons_zero, List.set_cons_succ]
                refine wpAnyH_take (i := 10) (v := ?_) (by rw [List.getElem?_toArray]; rfl) (by kernel_rfl) (by kernel_rfl) (by kernel_rfl) (by exact fun _ _ _ h => h) (Or.inl ⟨by rfl, ?_⟩) h0 ?_
                rotate_left
                · intro W hW
                  go_simp
                  all_goals with_reducible rfl
                try simp only [Act.put, List.setIfInBounds_toArray, List.set_cons_zero, List.set_cons_succ]
                refine wpAnyH_take (i := 11) (v := ?_) (by rw [List.getElem?_toArray]; rfl) (by kernel_rfl) (by kernel_rfl) (by kernel_rfl) (by exact fun _ _ _ h => h) (Or.inl ⟨by rfl, ?_⟩) h0 ?_
                rotate_left
                · intro W hW
                  go_simp
                  all_goals with_reducible rfl
                try simp only [Act.put, List.setIfInBounds_toArray, List.set_cons_zero, List.set_cons_succ]
                refine wpAnyH_take (i := 12) (v := ?_) (by rw [List.getElem?_toArray]; rfl) (by kernel_rfl) (by kernel_rfl) (by kernel_rfl) (by exact fun _ _ _ h => h) (Or.inl ⟨by rfl, ?_⟩) h0 ?_
                rotate_left
                · intro W hW
                  go_simp
                  all_goals with_reducible rfl
                try simp only [Act.put, List.setIfInBounds_toArray, List.set_cons_zero, List.set_cons_succ]
                refine wpAnyH_ready (rs := [14]) (by kernel_rfl) (by simp) ?_
                refine AllReadyH.cons (by rw [List.getElem?_toArray]; rfl) (fun K hK => ?_) AllReadyH.nil
                rw [if_pos (by rfl)]
                have VBs : StAt w8 vb ms0 none 0 := VB.out
                have ct := VBs.there ws0_len
                have K9 := Lib.hid (VBs.put (s' := y) (q' := qr) (c' := kr) ws0_len YW.out)
                have VG := VL.out
                have hS := below_setCells' (B := w3.heap.size) vb VG (stRow y qr kr) 0 h0
                have R9 : Hid ((w8.setCells vb 0 (stRow y qr kr)).ownsRow 0 23 1 (.slice qr y.stk.length kr) y.stk.length (wcs y.stk)) := own_keep RR.out (fun g hg => setCells_other (fun e => own_ne RR.out VBs (by decide) (by rw [← e]; exact hg)) _ _ _)
                have uw := YW.out
                clear VBs VB
                go_wp2_with fail
                clear ct uw
                generalize w8.setCells vb 0 (stRow y qr kr) = w10 at *
                refine hK.out _ _ hS (fun h0 => ?_)
                clear hK K hS
                try simp only [Act.put, List.setIfInBounds_toArray, List.set_cons_zero, List.set_cons_succ]
                refine wpAnyH_take (i := 15) (v := ?_) (by rw [List.getElem?_toArray]; rfl) (by kernel_rfl) (by kernel_rfl) (by kernel_rfl) (by exact fun _ _ _ h => h) (Or.inl ⟨by rfl, ?_⟩) h0 ?_
                rotate_left
                · intro W hW
                  go_simp
                  all_goals with_reducible rfl
                try simp only [Act.put, List.setIfInBounds_toArray, List.set_cons_zero, List.set_cons_succ]
                refine wpAnyH_done (by kernel_rfl) ?_ _
                have hb := Lib.hid (BW.out.trans (h0.mono BW.out.size))
                have kbb := Lib.hid (((h0).block _ (Array.getElem?_eq_some_iff.1 KB.out).1).trans KB.out)
                have rbb := Lib.hid (own_on RB.out h0)
                go_wp2_with fail
                go_meet
                exact ⟨vb, qr, kr, rfl, rfl, K9, R9, hb, kbb, rbb⟩
            · rw [if_pos (by rfl)]
              have ba : Below w5.heap.size w5 (w5.alloc (.cells (stRow ms0 none 0).toArray 34)) := (Below.refl _ _).alloc (Nat.le_refl _) _
              have hS : Below w3.heap.size w3 (w5.alloc (.cells (stRow ms0 none 0).toArray 34)) := h0.trans (ba.mono h0.size)
              have VB := Lib.hid (heap_alloc_new w5 (.cells (stRow ms0 none 0).toArray 34))
              have RL := Lib.hid (RL.out.on PIs_ok (by decide) ba)
              clear ba
              go_wp2_with fail
              obtain ⟨vb, hvb, VL⟩ : ∃ z, w5.heap.size = z ∧ Hid (w3.heap.size ≤ z) := ⟨_, rfl, h0.size⟩
              rw [hvb] at VB ⊢
              generalize w5.alloc (.cells (stRow ms0 none 0).toArray 34) = w9 at *
              clear hvb
              refine hK.out _ _ hS (fun h0 => ?_)
              clear hK K hS
              try simp only [Act.put, List.setIfInBounds_toArray, List.set_cons_zero, List.set_cons_succ]
              refine wpAnyH_ready (rs := [3]) (by kernel_rfl) (by simp) ?_
              refine AllReadyH.cons (by rw [List.getElem?_toArray]; rfl) (fun K hK => ?_) AllReadyH.nil
              rw [if_pos (by rfl)]
              go_wp2_with fail
              refine (Context8_any (HI.out _ (BW.out.trans (h0.mono BW.out.size))) HIL.out).mono ?_
              rintro e w6 ⟨qc, kc, rfl, rc, bo⟩
              have RC := Lib.hid rc
              have RL := Lib.hid (RL.out.on PIs_ok (by decide) bo)
              have hS : Below w3.heap.size w3 _ := h0.trans ((bo).mono h0.size)
              have VB := Lib.hid (((bo).block _ (Array.getElem?_eq_some_iff.1 VB.out).1).trans VB.out)
              clear rc bo
              go_wp2_with fail
              refine hK.out _ _ hS (fun h0 => ?_)
              clear hK K hS
              try simp only [Act.put, List.setIfInBounds_toArray, List.set_cons_zero, List.set_cons_succ]
              refine wpAnyH_ready (rs := [5]) (by kernel_rfl) (by simp) ?_
              refine AllReadyH.cons (by rw [List.getElem?_toArray]; rfl) (fun K hK => ?_) AllReadyH.nil
              rw [if_pos (by rfl)]
              go_wp2_with fail
              refine (State8_any (HSK.out _ (BW.out.trans (h0.mono BW.out.size))) HSL.out W16.out).mono ?_
              rintro e w7 ⟨qz, kz, rfl, ⟨rz, -, -⟩, bo⟩
              have RC := Lib.hid (RC.out.on bo)
              have RL := Lib.hid (RL.out.on PIs_ok (by decide) bo)
              have RZ := Lib.hid rz
              have hS : Below w3.heap.size w3 _ := h0.trans ((bo).mono h0.size)
              have VB := Lib.hid (((bo).block _ (Array.getElem?_eq_some_iff.1 VB.out).1).trans VB.out)
              clear rz bo
              go_wp2_with fail
              refine hK.out _ _ hS (fun h0 => ?_)
              clear hK K hS
              try simp only [Act.put, List.setIfInBounds_toArray, List.set_cons_zero, List.set_cons_succ]
              refine wpAnyH_ready (rs := [9]) (by kernel_rfl) (by simp) ?_
              refine AllReadyH.cons (by rw [List.getElem?_toArray]; rfl) (fun K hK => ?_) AllReadyH.nil
              rw [if_pos (by rfl)]
              have KR := Lib.hid (Run_any (cL := co) RL.out HL.out LU.out HC.out RC.out (s := s) (qs := qz) (ks := kz) SOK.out RZ.out (M := (A + B)) (by have := HAB.out; omega))
              rw [HR3.out] at KR
              unfold RunP at KR
              go_wp2_with fail
              refine KR.out.mono ?_
              rintro e w8 ⟨qr, kr, rfl, rr, bo⟩
              have RR := Lib.hid rr
              have hS : Below w3.heap.size w3 _ := h0.trans ((bo).mono h0.size)
              have VB := Lib.hid (((bo).block _ (Array.getElem?_eq_some_iff.1 VB.out).1).trans VB.out)
              clear bo KR rr
              go_wp2_with fail
              refine hK.out _ _ hS (fun h0 => ?_)
              clear hK K hS
              try simp only [Act.put, List.setIfInBounds_toArray, List.set_cons_zero, List.set_cons_succ]
              refine wpAnyH_take (i := 10) (v := ?_) (by rw [List.getElem?_toArray]; rfl) (by kernel_rfl) (by kernel_rfl) (by kernel_rfl) (by exact fun _ _ _ h => h) (Or.inl ⟨by rfl, ?_⟩) h0 ?_
              rotate_left
              · intro W hW
                go_simp
                all_goals with_reducible rfl
              try simp only [Act.put, List.setIfInBounds_toArray, List.set_cons_zero, List.set_cons_succ]
              refine wpAnyH_take (i := 11) (v := ?_) (by rw [List.getElem?_toArray]; rfl) (by kernel_rfl) (by kernel_rfl) (by kernel_rfl) (by exact fun _ _ _ h => h) (Or.inl ⟨by rfl, ?_⟩) h0 ?_
              rotate_left
              · intro W hW
                go_simp
                all_goals with_reducible rfl
              try simp only [Act.put, List.setIfInBounds_toArray, List.set_cons_zero, List.set_cons_succ]
              refine wpAnyH_take (i := 12) (v := ?_) (by rw [List.getElem?_toArray]; rfl) (by kernel_rfl) (by kernel_rfl) (by kernel_rfl) (by exact fun _ _ _ h => h) (Or.inl ⟨by rfl, ?_⟩) h0 ?_
              rotate_left
              · intro W hW
                go_simp
                all_goals with_reducible rfl
              try simp only [Act.put, List.setIfInBounds_toArray, List.set_cons_zero, List.set_cons_succ]
              refine wpAnyH_ready (rs := [14]) (by kernel_rfl) (by simp) ?_
              refine AllReadyH.cons (by rw [List.getElem?_toArray]; rfl) (fun K hK => ?_) AllReadyH.nil
              rw [if_pos (by rfl)]
              have VBs : StAt w8 vb ms0 none 0 := VB.out
              have ct := VBs.there ws0_len
              have K9 := Lib.hid (VBs.put (s' := y) (q' := qr) (c' := kr) ws0_len YW.out)
              have VG := VL.out
              have hS := below_setCells' (B := w3.heap.size) vb VG (stRow y qr kr) 0 h0
              have R9 : Hid ((w8.setCells vb 0 (stRow y qr kr)).ownsRow 0 23 1 (.slice qr y.stk.length kr) y.stk.length (wcs y.stk)) := own_keep RR.out (fun g hg => setCells_other (fun e => own_ne RR.out VBs (by decide) (by rw [← e]; exact hg)) _ _ _)
              have uw := YW.out
              clear VBs VB
              go_wp2_with fail
              clear ct uw
              generalize w8.setCells vb 0 (stRow y qr kr) = w10 at *
              refine hK.out _ _ hS (fun h0 => ?_)
              clear hK K hS
              try simp only [Act.put, List.setIfInBounds_toArray, List.set_cons_zero, List.set_cons_succ]
              refine wpAnyH_take (i := 15) (v := ?_) (by rw [List.getElem?_toArray]; rfl) (by kernel_rfl) (by kernel_rfl) (by kernel_rfl) (by exact fun _ _ _ h => h) (Or.inl ⟨by rfl, ?_⟩) h0 ?_
              rotate_left
              · intro W hW
                go_simp
                all_goals with_reducible rfl
              try simp only [Act.put, List.setIfInBounds_toArray, List.set_cons_zero, List.set_cons_succ]
              refine wpAnyH_done (by kernel_rfl) ?_ _
              have hb := Lib.hid (BW.out.trans (h0.mono BW.out.size))
              have kbb := Lib.hid (((h0).block _ (Array.getElem?_eq_some_iff.1 KB.out).1).trans KB.out)
              have rbb := Lib.hid (own_on RB.out h0)
              go_wp2_with fail
              go_meet
              exact ⟨vb, qr, kr, rfl, rfl, K9, R9, hb, kbb, rbb⟩
          · rw [if_pos (by rfl)]
            have ba : Below w3.heap.size w3 (w3.alloc (.cells (stRow ms0 none 0).toArray 34)) := (Below.refl _ _).alloc (Nat.le_refl _) _
            have hS : Below w3.heap.size w3 (w3.alloc (.cells (stRow ms0 none 0).toArray 34)) := h0.trans (ba.mono h0.size)
            have VB := Lib.hid (heap_alloc_new w3 (.cells (stRow ms0 none 0).toArray 34))
            clear ba
            go_wp2_with fail
            obtain ⟨vb, hvb, VL⟩ : ∃ z, w3.heap.size = z ∧ Hid (w3.heap.size ≤ z) := ⟨_, rfl, h0.size⟩
            rw [hvb] at VB ⊢
            generalize w3.alloc (.cells (stRow ms0 none 0).toArray 34) = w9 at *
            clear hvb
            refine hK.out _ _ hS (fun h0 => ?_)
            clear hK K hS
            try simp only [Act.put, List.setIfInBounds_toArray, List.set_cons_zero, List.set_cons_succ]
            refine wpAnyH_ready (rs := [1]) (by kernel_rfl) (by simp) ?_
            refine AllReadyH.cons (by rw [List.getElem?_toArray]; rfl) (fun K hK => ?_) AllReadyH.nil
            rw [if_pos (by rfl)]
            go_wp2_with fail
            refine (Own8_any (HR.out _ (BW.out.trans (h0.mono BW.out.size))) HL.out).mono ?_
            rintro e w5 ⟨qo, co, rfl, ro, bo⟩
            have RL := Lib.hid ro
            have hS : Below w3.heap.size w3 _ := h0.trans ((bo).mono h0.size)
            have VB := Lib.hid (((bo).block _ (Array.getElem?_eq_some_iff.1 VB.out).1).trans VB.out)
            clear ro bo
            go_wp2_with fail
            refine hK.out _ _ hS (fun h0 => ?_)
            clear hK K hS
            try simp only [Act.put, List.setIfInBounds_toArray, List.set_cons_zero, List.set_cons_succ]
            refine wpAnyH_ready (rs := [3]) (by kernel_rfl) (by simp) ?_
            refine AllReadyH.cons (by rw [List.getElem?_toArray]; rfl) (fun K hK => ?_) AllReadyH.nil
            rw [if_pos (by rfl)]
            go_wp2_with fail
            refine (Context8_any (HI.out _ (BW.out.trans (h0.mono BW.out.size))) HIL.out).mono ?_
            rintro e w6 ⟨qc, kc, rfl, rc, bo⟩
            have RC := Lib.hid rc
            have RL := Lib.hid (RL.out.on PIs_ok (by decide) bo)
            have hS : Below w3.heap.size w3 _ := h0.trans ((bo).mono h0.size)
            have VB := Lib.hid (((bo).block _ (Array.getElem?_eq_some_iff.1 VB.out).1).trans VB.out)
            clear rc bo
            go_wp2_with fail
            refine hK.out _ _ hS (fun h0 => ?_)
            clear hK K hS
            try simp only [Act.put, List.setIfInBounds_toArray, List.set_cons_zero, List.set_cons_succ]
            refine wpAnyH_ready (rs := [5]) (by kernel_rfl) (by simp) ?_
            refine AllReadyH.cons (by rw [List.getElem?_toArray]; rfl) (fun K hK => ?_) AllReadyH.nil
            rw [if_pos (by rfl)]
            go_wp2_with fail
            refine (State8_any (HSK.out _ (BW.out.trans (h0.mono BW.out.size))) HSL.out W16.out).mono ?_
            rintro e w7 ⟨qz, kz, rfl, ⟨rz, -, -⟩, bo⟩
            have RC := Lib.hid (RC.out.on bo)
            have RL := Lib.hid (RL.out.on PIs_ok (by decide) bo)
            have RZ := Lib.hid rz
            have hS : Below w3.heap.size w3 _ := h0.trans ((bo).mono h0.size)
            have VB := Lib.hid (((bo).block _ (Array.getElem?_eq_some_iff.1 VB.out).1).trans VB.out)
            clear rz bo
            go_wp2_with fail
            refine hK.out _ _ hS (fun h0 => ?_)
            clear hK K hS
            try simp only [Act.put, List.setIfInBounds_toArray, List.set_cons_zero, List.set_cons_succ]
            refine wpAnyH_ready (rs := [9]) (by kernel_rfl) (by simp) ?_
            refine AllReadyH.cons (by rw [List.getElem?_toArray]; rfl) (fun K hK => ?_) AllReadyH.nil
            rw [if_pos (by rfl)]
            have KR := Lib.hid (Run_any (cL := co) RL.out HL.out LU.out HC.out RC.out (s := s) (qs := qz) (ks := kz) SOK.out RZ.out (M := (A + B)) (by have := HAB.out; omega))
            rw [HR3.out] at KR
            unfold RunP at KR
            go_wp2_with fail
            refine KR.out.mono ?_
            rintro e w8 ⟨qr, kr, rfl, rr, bo⟩
            have RR := Lib.hid rr
            have hS : Below w3.heap.size w3 _ := h0.trans ((bo).mono h0.size)
            have VB := Lib.hid (((bo).block _ (Array.getElem?_eq_some_iff.1 VB.out).1).trans VB.out)
            clear bo KR rr
            go_wp2_with fail
            refine hK.out _ _ hS (fun h0 => ?_)
            clear hK K hS
            try simp only [Act.put, List.setIfInBounds_toArray, List.set_cons_zero, List.set_cons_succ]
            refine wpAnyH_take (i := 10) (v := ?_) (by rw [List.getElem?_toArray]; rfl) (by kernel_rfl) (by kernel_rfl) (by kernel_rfl) (by exact fun _ _ _ h => h) (Or.inl ⟨by rfl, ?_⟩) h0 ?_
            rotate_left
            · intro W hW
              go_simp
              all_goals with_reducible rfl
            try simp only [Act.put, List.setIfInBounds_toArray, List.set_cons_zero, List.set_cons_succ]
            refine wpAnyH_take (i := 11) (v := ?_) (by rw [List.getElem?_toArray]; rfl) (by kernel_rfl) (by kernel_rfl) (by kernel_rfl) (by exact fun _ _ _ h => h) (Or.inl ⟨by rfl, ?_⟩) h0 ?_
            rotate_left
            · intro W hW
              go_simp
              all_goals with_reducible rfl
            try simp only [Act.put, List.setIfInBounds_toArray, List.set_cons_zero, List.set_cons_succ]
            refine wpAnyH_take (i := 12) (v := ?_) (by rw [List.getElem?_toArray]; rfl) (by kernel_rfl) (by kernel_rfl) (by kernel_rfl) (by exact fun _ _ _ h => h) (Or.inl ⟨by rfl, ?_⟩) h0 ?_
            rotate_left
            · intro W hW
              go_simp
              all_goals with_reducible rfl
            try simp only [Act.put, List.setIfInBounds_toArray, List.set_cons_zero, List.set_cons_succ]
            refine wpAnyH_ready (rs := [14]) (by kernel_rfl) (by simp) ?_
            refine AllReadyH.cons (by rw [List.getElem?_toArray]; rfl) (fun K hK => ?_) AllReadyH.nil
            rw [if_pos (by rfl)]
            have VBs : StAt w8 vb ms0 none 0 := VB.out
            have ct := VBs.there ws0_len
            have K9 := Lib.hid (VBs.put (s' := y) (q' := qr) (c' := kr) ws0_len YW.out)
            have VG := VL.out
            have hS := below_setCells' (B := w3.heap.size) vb VG (stRow y qr kr) 0 h0
            have R9 : Hid ((w8.setCells vb 0 (stRow y qr kr)).ownsRow 0 23 1 (.slice qr y.stk.length kr) y.stk.length (wcs y.stk)) := own_keep RR.out (fun g hg => setCells_other (fun e => own_ne RR.out VBs (by decide) (by rw [← e]; exact hg)) _ _ _)
            have uw := YW.out
            clear VBs VB
            go_wp2_with fail
            clear ct uw
            generalize w8.setCells vb 0 (stRow y qr kr) = w10 at *
            refine hK.out _ _ hS (fun h0 => ?_)
            clear hK K hS
            try simp only [Act.put, List.setIfInBounds_toArray, List.set_cons_zero, List.set_cons_succ]
            refine wpAnyH_take (i := 15) (v := ?_) (by rw [List.getElem?_toArray]; rfl) (by kernel_rfl) (by kernel_rfl) (by kernel_rfl) (by exact fun _ _ _ h => h) (Or.inl ⟨by rfl, ?_⟩) h0 ?_
            rotate_left
            · intro W hW
              go_simp
              all_goals with_reducible rfl
            try simp only [Act.put, List.setIfInBounds_toArray, List.set_cons_zero, List.set_cons_succ]
            refine wpAnyH_done (by kernel_rfl) ?_ _
            have hb := Lib.hid (BW.out.trans (h0.mono BW.out.size))
            have kbb := Lib.hid (((h0).block _ (Array.getElem?_eq_some_iff.1 KB.out).1).trans KB.out)
            have rbb := Lib.hid (own_on RB.out h0)
            go_wp2_with fail
            go_meet
            exact ⟨vb, qr, kr, rfl, rfl, K9, R9, hb, kbb, rbb⟩
        case rest =>
          obtain ⟨vc, qc, kc, rfl, rfl, KC, RCc, BC, KB, RB⟩ := hcut
          clear BW KX KS
          obtain ⟨wd, hwd⟩ : ∃ x, wc = x := ⟨_, rfl⟩
          rw [hwd] at KC RCc BC KB RB ⊢
          clear hwd
          have BW := Lib.hid BC.out.drew
          have KC : Hid (wd.drew.heap[vc]? = some (.cells (stRow y qc kc).toArray 34 (0, 0))) := KC.out
          have RCc : Hid (wd.drew.ownsRow 0 23 1 (.slice qc y.stk.length kc) y.stk.length (wcs y.stk)) := RCc.out
          have KB : Hid (wd.drew.heap[vb]? = some (.cells (stRow y qb kb).toArray 34 (0, 0))) := KB.out
          have RB : Hid (wd.drew.ownsRow 0 23 1 (.slice qb y.stk.length kb) y.stk.length (wcs y.stk)) := RB.out
          have nb1 := NB.out.1
          have nb2 := NB.out.2
          clear BC
          go_upto_region 8 with fail
          refine wp_region_held_drew (S := fun W => Below wd.drew.heap.size wd.drew W) (by kernel_rfl) (Below.refl _ _) (fun h0 => ?_)
          generalize wd.drew = w3 at *
          refine wpAnyH_take (i := 0) (v := ?_) (by rw [List.getElem?_toArray]; rfl) (by kernel_rfl) (by kernel_rfl) (by kernel_rfl) (by exact fun _ _ _ h => h) (Or.inl ⟨by rfl, ?_⟩) h0 ?_
          rotate_left
          · intro W hW
            go_simp
            all_goals with_reducible rfl
          try simp only [Act.put, List.setIfInBounds_toArray, List.set_cons_zero, List.set_cons_succ]
          refine wpAnyH_take (i := 1) (v := ?_) (by rw [List.getElem?_toArray]; rfl) (by kernel_rfl) (by kernel_rfl) (by kernel_rfl) (by exact fun _ _ _ h => h) (Or.inl ⟨by rfl, ?_⟩) h0 ?_
          rotate_left
          · intro W hW
            go_simp
            all_goals with_reducible rfl
          try simp only [Act.put, List.setIfInBounds_toArray, List.set_cons_zero, List.set_cons_succ]
          refine wpAnyH_take (i := 2) (v := ?_) (by rw [List.getElem?_toArray]; rfl) (by kernel_rfl) (by kernel_rfl) (by kernel_rfl) (by exact fun _ _ _ h => h) (Or.inl ⟨by rfl, ?_⟩) h0 ?_
          rotate_left
          · intro W hW
            have cw : IntKind.i64.wrap ((n : Int) + (m : Int)) = (n : Int) + (m : Int) := IntWalk.i64_in _ (by have := NB.out; omega)
            go_simp
            all_goals with_reducible rfl
          try simp only [Act.put, List.setIfInBounds_toArray, List.set_cons_zero, List.set_cons_succ]
          refine wpAnyH_take (i := 3) (v := ?_) (by rw [List.getElem?_toArray]; rfl) (by kernel_rfl) (by kernel_rfl) (by kernel_rfl) (by exact fun _ _ _ h => h) (Or.inl ⟨by rfl, ?_⟩) h0 ?_
          rotate_left
          · intro W hW
            go_simp
            all_goals with_reducible rfl
          try simp only [Act.put, List.setIfInBounds_toArray, List.set_cons_zero, List.set_cons_succ]
          refine wpAnyH_take (i := 4) (v := ?_) (by rw [List.getElem?_toArray]; rfl) (by kernel_rfl) (by kernel_rfl) (by kernel_rfl) (by exact fun _ _ _ h => h) (Or.inl ⟨by rfl, ?_⟩) h0 ?_
          rotate_left
          · intro W hW
            have cc := HNK.out
            go_simp
            all_goals with_reducible rfl
          try simp only [Act.put, List.setIfInBounds_toArray, List.set_cons_zero, List.set_cons_succ]
          refine wpAnyH_take (i := 5) (v := ?_) (by rw [List.getElem?_toArray]; rfl) (by kernel_rfl) (by kernel_rfl) (by kernel_rfl) (by exact fun _ _ _ h => h) (Or.inl ⟨by rfl, ?_⟩) h0 ?_
          rotate_left
          · intro W hW
            go_simp
            all_goals with_reducible rfl
          try simp only [Act.put, List.setIfInBounds_toArray, List.set_cons_zero, List.set_cons_succ]
          refine wpAnyH_take (i := 6) (v := ?_) (by rw [List.getElem?_toArray]; rfl) (by kernel_rfl) (by kernel_rfl) (by kernel_rfl) (by exact fun _ _ _ h => h) (Or.inl ⟨by rfl, ?_⟩) h0 ?_
          rotate_left
          · intro W hW
            have kx := ((hW).block _ (Array.getElem?_eq_some_iff.1 KB.out).1).trans KB.out
            have cc := st_row kx YW.out
            have w16 := YW.out
            go_simp
            all_goals with_reducible rfl
          try simp only [Act.put, List.setIfInBounds_toArray, List.set_cons_zero, List.set_cons_succ]
          refine wpAnyH_take (i := 8) (v := ?_) (by rw [List.getElem?_toArray]; rfl) (by kernel_rfl) (by kernel_rfl) (by kernel_rfl) (by exact fun _ _ _ h => h) (Or.inl ⟨by rfl, ?_⟩) h0 ?_
          rotate_left
          · intro W hW
            have kx := ((hW).block _ (Array.getElem?_eq_some_iff.1 KC.out).1).trans KC.out
            have cc := st_row kx YW.out
            have w16 := YW.out
            go_simp
            all_goals with_reducible rfl
          try simp only [Act.put, List.setIfInBounds_toArray, List.set_cons_zero, List.set_cons_succ]
          refine wpAnyH_ready (rs := [7]) (by kernel_rfl) (by simp) ?_
          refine AllReadyH.cons (by rw [List.getElem?_toArray]; rfl) (fun K hK => ?_) AllReadyH.nil
          rw [if_pos (by rfl)]
          go_wp2_with fail
          refine (Hash8_any (HT.out.on (BW.out.trans (h0.mono BW.out.size)) HT.out.pos) YW.out YU.out ((rdU_of_own RB.out).on h0) (own_room RB.out) YL.out).mono ?_
          rintro e w7 ⟨rfl, bo⟩
          have hS : Below w3.heap.size w3 _ := h0.trans (bo.mono h0.size)
          clear bo
          go_wp2_with fail
          refine hK.out _ _ hS (fun h0 => ?_)
          clear hK K hS
          try simp only [Act.put, List.setIfInBounds_toArray, List.set_cons_zero, List.set_cons_succ]
          refine wpAnyH_ready (rs := [9]) (by kernel_rfl) (by simp) ?_
          refine AllReadyH.cons (by rw [List.getElem?_toArray]; rfl) (fun K hK => ?_) AllReadyH.nil
          rw [if_pos (by rfl)]
          go_wp2_with fail
          refine (Hash8_any (HT.out.on (BW.out.trans (h0.mono BW.out.size)) HT.out.pos) YW.out YU.out ((rdU_of_own RCc.out).on h0) (own_room RCc.out) YL.out).mono ?_
          rintro e w7 ⟨rfl, bo⟩
          have hS : Below w3.heap.size w3 _ := h0.trans (bo.mono h0.size)
          clear bo
          go_wp2_with fail
          refine hK.out _ _ hS (fun h0 => ?_)
          clear hK K hS
          try simp only [Act.put, List.setIfInBounds_toArray, List.set_cons_zero, List.set_cons_succ]
          refine wpAnyH_take (i := 10) (v := ?_) (by rw [List.getElem?_toArray]; rfl) (by kernel_rfl) (by kernel_rfl) (by kernel_rfl) (by exact fun _ _ _ h => h) (Or.inl ⟨by rfl, ?_⟩) h0 ?_
          rotate_left
          · intro W hW
            have cc : (hashM y == hashM y) = true := beq_self_eq_true _
            have cl := hashM_len y
            go_simp
            all_goals with_reducible rfl
          try simp only [Act.put, List.setIfInBounds_toArray, List.set_cons_zero, List.set_cons_succ]
          refine wpAnyH_take (i := 11) (v := ?_) (by rw [List.getElem?_toArray]; rfl) (by kernel_rfl) (by kernel_rfl) (by kernel_rfl) (by exact fun _ _ _ h => h) (Or.inl ⟨by rfl, ?_⟩) h0 ?_
          rotate_left
          · intro W hW
            go_simp
            all_goals with_reducible rfl
          try simp only [Act.put, List.setIfInBounds_toArray, List.set_cons_zero, List.set_cons_succ]
          refine wpAnyH_take (i := 12) (v := ?_) (by rw [List.getElem?_toArray]; rfl) (by kernel_rfl) (by kernel_rfl) (by kernel_rfl) (by exact fun _ _ _ h => h) (Or.inl ⟨by rfl, ?_⟩) h0 ?_
          rotate_left
          · intro W hW
            go_simp
            all_goals with_reducible rfl
          try simp only [Act.put, List.setIfInBounds_toArray, List.set_cons_zero, List.set_cons_succ]
          refine wpAnyH_take (i := 13) (v := ?_) (by rw [List.getElem?_toArray]; rfl) (by kernel_rfl) (by kernel_rfl) (by kernel_rfl) (by exact fun _ _ _ h => h) (Or.inl ⟨by rfl, ?_⟩) h0 ?_
          rotate_left
          · intro W hW
            go_simp
            all_goals with_reducible rfl
          try simp only [Act.put, List.setIfInBounds_toArray, List.set_cons_zero, List.set_cons_succ]
          refine wpAnyH_take (i := 14) (v := ?_) (by rw [List.getElem?_toArray]; rfl) (by kernel_rfl) (by kernel_rfl) (by kernel_rfl) (by exact fun _ _ _ h => h) (Or.inl ⟨by rfl, ?_⟩) h0 ?_
          rotate_left
          · intro W hW
            have kx := ((hW).block _ (Array.getElem?_eq_some_iff.1 KB.out).1).trans KB.out
            have cc : W.cell? ⟨vb, 0, none⟩ = some (.int .i64 y.pc) := (Joins.cell_of_block kx 0).trans rfl
            go_simp
            all_goals with_reducible rfl
          try simp only [Act.put, List.setIfInBounds_toArray, List.set_cons_zero, List.set_cons_succ]
          refine wpAnyH_take (i := 15) (v := ?_) (by rw [List.getElem?_toArray]; rfl) (by kernel_rfl) (by kernel_rfl) (by kernel_rfl) (by exact fun _ _ _ h => h) (Or.inl ⟨by rfl, ?_⟩) h0 ?_
          rotate_left
          · intro W hW
            go_simp
            all_goals with_reducible rfl
          try simp only [Act.put, List.setIfInBounds_toArray, List.set_cons_zero, List.set_cons_succ]
          refine wpAnyH_take (i := 16) (v := ?_) (by rw [List.getElem?_toArray]; rfl) (by kernel_rfl) (by kernel_rfl) (by kernel_rfl) (by exact fun _ _ _ h => h) (Or.inl ⟨by rfl, ?_⟩) h0 ?_
          rotate_left
          · intro W hW
            have kx := ((hW).block _ (Array.getElem?_eq_some_iff.1 KC.out).1).trans KC.out
            have cc : W.cell? ⟨vc, 0, none⟩ = some (.int .i64 y.pc) := (Joins.cell_of_block kx 0).trans rfl
            go_simp
            all_goals with_reducible rfl
          try simp only [Act.put, List.setIfInBounds_toArray, List.set_cons_zero, List.set_cons_succ]
          refine wpAnyH_take (i := 17) (v := ?_) (by rw [List.getElem?_toArray]; rfl) (by kernel_rfl) (by kernel_rfl) (by kernel_rfl) (by exact fun _ _ _ h => h) (Or.inl ⟨by rfl, ?_⟩) h0 ?_
          rotate_left
          · intro W hW
            have cc : (y.pc == y.pc) = true := beq_self_eq_true _
            go_simp
            all_goals with_reducible rfl
          try simp only [Act.put, List.setIfInBounds_toArray, List.set_cons_zero, List.set_cons_succ]
          refine wpAnyH_take (i := 18) (v := ?_) (by rw [List.getElem?_toArray]; rfl) (by kernel_rfl) (by kernel_rfl) (by kernel_rfl) (by exact fun _ _ _ h => h) (Or.inl ⟨by rfl, ?_⟩) h0 ?_
          rotate_left
          · intro W hW
            go_simp
            all_goals with_reducible rfl
          try simp only [Act.put, List.setIfInBounds_toArray, List.set_cons_zero, List.set_cons_succ]
          refine wpAnyH_take (i := 19) (v := ?_) (by rw [List.getElem?_toArray]; rfl) (by kernel_rfl) (by kernel_rfl) (by kernel_rfl) (by exact fun _ _ _ h => h) (Or.inl ⟨by rfl, ?_⟩) h0 ?_
          rotate_left
          · intro W hW
            go_simp
            all_goals with_reducible rfl
          try simp only [Act.put, List.setIfInBounds_toArray, List.set_cons_zero, List.set_cons_succ]
          refine wpAnyH_take (i := 20) (v := ?_) (by rw [List.getElem?_toArray]; rfl) (by kernel_rfl) (by kernel_rfl) (by kernel_rfl) (by exact fun _ _ _ h => h) (Or.inl ⟨by rfl, ?_⟩) h0 ?_
          rotate_left
          · intro W hW
            go_simp
            all_goals with_reducible rfl
          try simp only [Act.put, List.setIfInBounds_toArray, List.set_cons_zero, List.set_cons_succ]
          refine wpAnyH_take (i := 21) (v := ?_) (by rw [List.getElem?_toArray]; rfl) (by kernel_rfl) (by kernel_rfl) (by kernel_rfl) (by exact fun _ _ _ h => h) (Or.inl ⟨by rfl, ?_⟩) h0 ?_
          rotate_left
          · intro W hW
            have kx := ((hW).block _ (Array.getElem?_eq_some_iff.1 KB.out).1).trans KB.out
            have cc : W.cell? ⟨vb, 4, none⟩ = some (.slice qb y.stk.length kb) := (Joins.cell_of_block kx 4).trans rfl
            go_simp
            all_goals with_reducible rfl
          try simp only [Act.put, List.setIfInBounds_toArray, List.set_cons_zero, List.set_cons_succ]
          refine wpAnyH_take (i := 22) (v := ?_) (by rw [List.getElem?_toArray]; rfl) (by kernel_rfl) (by kernel_rfl) (by kernel_rfl) (by exact fun _ _ _ h => h) (Or.inl ⟨by rfl, ?_⟩) h0 ?_
          rotate_left
          · intro W hW
            go_simp
            all_goals with_reducible rfl
          try simp only [Act.put, List.setIfInBounds_toArray, List.set_cons_zero, List.set_cons_succ]
          refine wpAnyH_take (i := 23) (v := ?_) (by rw [List.getElem?_toArray]; rfl) (by kernel_rfl) (by kernel_rfl) (by kernel_rfl) (by exact fun _ _ _ h => h) (Or.inl ⟨by rfl, ?_⟩) h0 ?_
          rotate_left
          · intro W hW
            go_simp
            all_goals with_reducible rfl
          try simp only [Act.put, List.setIfInBounds_toArray, List.set_cons_zero, List.set_cons_succ]
          refine wpAnyH_take (i := 24) (v := ?_) (by rw [List.getElem?_toArray]; rfl) (by kernel_rfl) (by kernel_rfl) (by kernel_rfl) (by exact fun _ _ _ h => h) (Or.inl ⟨by rfl, ?_⟩) h0 ?_
          rotate_left
          · intro W hW
            have kx := ((hW).block _ (Array.getElem?_eq_some_iff.1 KC.out).1).trans KC.out
            have cc : W.cell? ⟨vc, 4, none⟩ = some (.slice qc y.stk.length kc) := (Joins.cell_of_block kx 4).trans rfl
            go_simp
            all_goals with_reducible rfl
          try simp only [Act.put, List.setIfInBounds_toArray, List.set_cons_zero, List.set_cons_succ]
          refine wpAnyH_take (i := 25) (v := ?_) (by rw [List.getElem?_toArray]; rfl) (by kernel_rfl) (by kernel_rfl) (by kernel_rfl) (by exact fun _ _ _ h => h) (Or.inl ⟨by rfl, ?_⟩) h0 ?_
          rotate_left
          · intro W hW
            go_simp
            all_goals with_reducible rfl
          try simp only [Act.put, List.setIfInBounds_toArray, List.set_cons_zero, List.set_cons_succ]
          refine wpAnyH_take (i := 26) (v := ?_) (by rw [List.getElem?_toArray]; rfl) (by kernel_rfl) (by kernel_rfl) (by kernel_rfl) (by exact fun _ _ _ h => h) (Or.inl ⟨by rfl, ?_⟩) h0 ?_
          rotate_left
          · intro W hW
            have cc : ((y.stk.length : Int) == (y.stk.length : Int)) = true := beq_self_eq_true _
            go_simp
            all_goals with_reducible rfl
          try simp only [Act.put, List.setIfInBounds_toArray, List.set_cons_zero, List.set_cons_succ]
          refine wpAnyH_take (i := 27) (v := ?_) (by rw [List.getElem?_toArray]; rfl) (by kernel_rfl) (by kernel_rfl) (by kernel_rfl) (by exact fun _ _ _ h => h) (Or.inl ⟨by rfl, ?_⟩) h0 ?_
          rotate_left
          · intro W hW
            go_simp
            all_goals with_reducible rfl
          try simp only [Act.put, List.setIfInBounds_toArray, List.set_cons_zero, List.set_cons_succ]
          refine wpAnyH_take (i := 28) (v := ?_) (by rw [List.getElem?_toArray]; rfl) (by kernel_rfl) (by kernel_rfl) (by kernel_rfl) (by exact fun _ _ _ h => h) (Or.inl ⟨by rfl, ?_⟩) h0 ?_
          rotate_left
          · intro W hW
            go_simp
            all_goals with_reducible rfl
          try simp only [Act.put, List.setIfInBounds_toArray, List.set_cons_zero, List.set_cons_succ]
          refine wpAnyH_ready (rs := [29]) (by kernel_rfl) (by simp) ?_
          refine AllReadyH.cons (by rw [List.getElem?_toArray]; rfl) (fun K hK => ?_) AllReadyH.nil
          rw [if_pos (by rfl)]
          go_wp2_with fail
          refine (knows8_any _).mono ?_
          rintro e w9 ⟨rfl, bo⟩
          have hS : Below w3.heap.size w3 _ := h0.trans (bo.mono h0.size)
          clear bo
          go_wp2_with fail
          refine hK.out _ _ hS (fun h0 => ?_)
          clear hK K hS
          try simp only [Act.put, List.setIfInBounds_toArray, List.set_cons_zero, List.set_cons_succ]
          refine wpAnyH_take (i := 30) (v := ?_) (by rw [List.getElem?_toArray]; rfl) (by kernel_rfl) (by kernel_rfl) (by kernel_rfl) (by exact fun _ _ _ h => h) (Or.inl ⟨by rfl, ?_⟩) h0 ?_
          rotate_left
          · intro W hW
            go_simp
            all_goals with_reducible rfl
          try simp only [Act.put, List.setIfInBounds_toArray, List.set_cons_zero, List.set_cons_succ]
          refine wpAnyH_take (i := 31) (v := ?_) (by rw [List.getElem?_toArray]; rfl) (by kernel_rfl) (by kernel_rfl) (by kernel_rfl) (by exact fun _ _ _ h => h) (Or.inl ⟨by rfl, ?_⟩) h0 ?_
          rotate_left
          · intro W hW
            go_simp
            all_goals with_reducible rfl
          try simp only [Act.put, List.setIfInBounds_toArray, List.set_cons_zero, List.set_cons_succ]
          refine wpAnyH_done (by kernel_rfl) ?_ _
          go_wp2_with fail
          go_ret
          exact ⟨rfl, BW.out.trans (h0.mono BW.out.size)⟩
end Go.Proofs.YtnllcmcahfkmaaaDoor
