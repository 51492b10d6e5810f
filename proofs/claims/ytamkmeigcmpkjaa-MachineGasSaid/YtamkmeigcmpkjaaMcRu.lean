/-
  The machine's Run.
-/
import Derived.Test.YtamkmeigcmpkjaaMcRn
import Derived.Test.YtamkmeigcmpkjaaMcGo
namespace Go.Proofs.Ytamkmeigcmpkjaa
set_option maxRecDepth 100000
open Go.RowKit

theorem RdU.src {P : Program} {tx e' : TypeId} {w : World} {v : Value} {xs : List Int} (hk : P.underlying tx = some (.slice e')) (h : RdU w v xs) : Src P 1 tx v xs.length (wcs xs) w := by
  obtain ⟨q, c, rfl, rfl | ⟨b, off, rfl, hx⟩⟩ := h
  · cases q with
    | none => exact Src.ofNil w hk c
    | some a => exact Src.ofSlice w hk a 0 c [] (by simp) (fun j u hu => by simp at hu) (by simp)
  · refine Src.ofSlice w hk _ _ _ _ (by simp) (fun j u hu => ?_) (wcs_one xs)
    have hl : j < xs.length := by
      have := (List.getElem?_eq_some_iff.1 hu).1
      rwa [wcs_len] at this
    rw [wcs_get hl] at hu
    rw [addr_add, hx j hl]
    exact hu
theorem rdU_of_own {w : World} {e : TypeId} {q : Option Addr} {c : Nat} {xs : List Int} (h : w.ownsRow 0 e 1 (.slice q xs.length c) xs.length (wcs xs)) : RdU w (.slice q xs.length c) xs := by
  refine ⟨q, c, rfl, ?_⟩
  by_cases h0 : xs = []
  · exact .inl h0
  · obtain ⟨g, cap, e1⟩ := Joins.ownsRow_form h (List.length_pos_iff.2 h0)
    simp only [Value.slice.injEq] at e1
    obtain ⟨rfl, -, rfl⟩ := e1
    refine .inr ⟨g, 0, rfl, fun i hi => ?_⟩
    rw [Nat.zero_add, h.cellAt i (by omega)]
    exact wcs_get hi
/-- What Run answers. -/
def RunP (r : Ms × Nat) (w : World) (e : Ending) (w' : World) : Prop := ∃ q k, e = .returned (.tuple #[.agg (stRow r.1 q k).toArray, .int .i64 (r.2 : Int)]) ∧ RdU w' (.slice q r.1.stk.length k) r.1.stk ∧ Below w.heap.size w w'
set_option maxHeartbeats 8000000 in
theorem Run_any {w : World} {F : Fp} {L : List Ins} {qL : Option Addr} {cL : Nat} (hr : RwF 2 ins0 PIs w F qL L) (hl : L.length ≤ 1000) (lu : ∀ i ∈ L, i.ok) {c : Cx} {qi : Option Addr} {ki : Nat} (hc : c.ok) (hi : RdU w (.slice qi c.inp.length ki) c.inp)
    {s : Ms} {qs : Option Addr} {ks : Nat} (ok : s.ok) (hs : RdU w (.slice qs s.stk.length ks) s.stk) {M : Int} (hm : M ≤ 1000000000000) :
    Calls Try.prog 6 #[.slice qL L.length cL, cxV c qi ki, .agg (stRow s qs ks).toArray, .int .i64 M] w (RunP (runM L c s M) w) := by
  obtain ⟨i0, hi0, hz0, hz1, hz2⟩ := info_parts Try.infoU64
  replace hi0 := Lib.hid hi0
  replace hz0 := Lib.hid hz0
  replace hz1 := Lib.hid hz1
  replace hz2 := Lib.hid hz2
  have OK := Lib.hid ok
  have HC := Lib.hid hc
  have LU := Lib.hid lu
  have HL3 : Hid (L.length ≤ 3000000000000) := Nat.le_trans hl (by decide)
  have HL1 := Lib.hid hl
  have HMX := Lib.hid hm
  -- the four blocks
  have z1 : (w.alloc (.cells #[.slice qL L.length cL] 34)).heap.size = w.heap.size + 1 := by simp
  have z2 : ((w.alloc (.cells #[.slice qL L.length cL] 34)).alloc (.cells #[.int .u64 c.who, .int .u64 c.val, .slice qi c.inp.length ki] 36)).heap.size = w.heap.size + 2 := by simp
  have b1 : Below w.heap.size w (w.alloc (.cells #[.slice qL L.length cL] 34)) := (Below.refl _ _).alloc (Nat.le_refl _) _
  have b2 : Below w.heap.size w ((w.alloc (.cells #[.slice qL L.length cL] 34)).alloc (.cells #[.int .u64 c.who, .int .u64 c.val, .slice qi c.inp.length ki] 36)) := b1.alloc b1.size _
  have K0 : ((w.alloc (.cells #[.slice qL L.length cL] 34)).alloc (.cells #[.int .u64 c.who, .int .u64 c.val, .slice qi c.inp.length ki] 36)).heap[w.heap.size]? = some (.cells #[.slice qL L.length cL] 34 (0, 0)) := by
    rw [Below.heap_alloc _ _ _ (by rw [z1]; omega)]
    exact heap_alloc_new w _
  have K1 : ((w.alloc (.cells #[.slice qL L.length cL] 34)).alloc (.cells #[.int .u64 c.who, .int .u64 c.val, .slice qi c.inp.length ki] 36)).heap[w.heap.size + 1]? = some (.cells #[.int .u64 c.who, .int .u64 c.val, .slice qi c.inp.length ki] 36 (0, 0)) := by
    have := heap_alloc_new (w.alloc (.cells #[.slice qL L.length cL] 34)) (.cells #[.int .u64 c.who, .int .u64 c.val, .slice qi c.inp.length ki] 36)
    rw [z1] at this
    exact this
  obtain ⟨a, ha⟩ : ∃ a, (w.alloc (.cells #[.slice qL L.length cL] 34)).alloc (.cells #[.int .u64 c.who, .int .u64 c.val, .slice qi c.inp.length ki] 36) = a := ⟨_, rfl⟩
  rw [ha] at b2 z2 K0 K1
  have za : a.heap.size = w.heap.size + 2 := z2
  have BA := Lib.hid b2
  have hra := hr.on PIs_ok (by decide) b2
  have KA : Hid (∀ W pc, Below a.heap.size a W → Calls Try.prog 14 #[.int .i64 pc, .pointer (some ⟨w.heap.size, 0, none⟩)] W fun e w' => e = .returned (atV L pc) ∧ Below W.heap.size W w') := fun W pc hb =>
    At_any (by rw [hb.block _ (Array.getElem?_eq_some_iff.1 K0).1]; exact K0) (hra.on PIs_ok (by decide) hb) hl pc
  have RI := Lib.hid (hi.on b2)
  have b3 : Below a.heap.size a (a.alloc (.cells (stRow s qs ks).toArray 31)) := (Below.refl _ _).alloc (Nat.le_refl _) _
  have b4 : Below a.heap.size a ((a.alloc (.cells (stRow s qs ks).toArray 31)).alloc (.cells (stRow ms0 none 0).toArray 31)) := b3.alloc b3.size _
  have z3 : (a.alloc (.cells (stRow s qs ks).toArray 31)).heap.size = w.heap.size + 2 + 1 := by simp [za]
  have z4 : ((a.alloc (.cells (stRow s qs ks).toArray 31)).alloc (.cells (stRow ms0 none 0).toArray 31)).heap.size = w.heap.size + 2 + 1 + 1 := by simp [za]
  have KP : ((a.alloc (.cells (stRow s qs ks).toArray 31)).alloc (.cells (stRow ms0 none 0).toArray 31)).heap[w.heap.size + 2]? = some (.cells (stRow s qs ks).toArray 31 (0, 0)) := by
    rw [Below.heap_alloc _ _ _ (by rw [z3]; omega)]
    have := heap_alloc_new a (.cells (stRow s qs ks).toArray 31)
    rw [za] at this
    exact this
  have KR : StAt ((a.alloc (.cells (stRow s qs ks).toArray 31)).alloc (.cells (stRow ms0 none 0).toArray 31)) (w.heap.size + 2 + 1) ms0 none 0 := by
    have := heap_alloc_new (a.alloc (.cells (stRow s qs ks).toArray 31)) (.cells (stRow ms0 none 0).toArray 31)
    rw [z3] at this
    exact this
  have KBL := Lib.hid (show ((a.alloc (.cells (stRow s qs ks).toArray 31)).alloc (.cells (stRow ms0 none 0).toArray 31)).heap[w.heap.size]? = some (.cells #[.slice qL L.length cL] 34 (0, 0)) by rw [b4.block _ (by omega)]; exact K0)
  have KBC := Lib.hid (show ((a.alloc (.cells (stRow s qs ks).toArray 31)).alloc (.cells (stRow ms0 none 0).toArray 31)).heap[w.heap.size + 1]? = some (.cells #[.int .u64 c.who, .int .u64 c.val, .slice qi c.inp.length ki] 36 (0, 0)) by rw [b4.block _ (by omega)]; exact K1)
  have HRA := Lib.hid hra
  have RS := Lib.hid ((hs.on b2).on b4)
  have B4 := Lib.hid b4
  clear hr hi hs hra b1 b2 b3 b4 z1 z2 z3 z4 K0 K1 lu hc ok
  unfold cxV
  obtain ⟨R, hR⟩ : ∃ R, runM L c s M = R := ⟨_, rfl⟩
  rw [hR]
  have HRR := Lib.hid hR
  clear hR
  go_enter Try.func6, Try.ntmps6
  go_upto_region 1 with fail
  clear ha
  obtain ⟨w4, hw4⟩ : ∃ x, (a.alloc (.cells (stRow s qs ks).toArray 31)).alloc (.cells (stRow ms0 none 0).toArray 31) = x := ⟨_, rfl⟩
  rw [hw4] at KP KR KBL KBC RS B4 ⊢
  clear hw4
  have RBA : Hid (w.heap.size ≤ w.heap.size + 2 + 1) := by show _ ≤ _; omega
  have PLA : Hid (a.heap.size ≤ w.heap.size + 2) := by show _ ≤ _; omega
  have NE1 : Hid (w.heap.size + 2 + 1 ≠ w.heap.size + 2) := by show _ ≠ _; omega
  have NE2 : Hid (w.heap.size ≠ w.heap.size + 2) := by show _ ≠ _; omega
  have NE3 : Hid (w.heap.size + 1 ≠ w.heap.size + 2) := by show _ ≠ _; omega
  have HP := Lib.hid KP
  obtain ⟨rb, hrb⟩ : ∃ x, w.heap.size + 2 + 1 = x := ⟨_, rfl⟩
  rw [hrb] at KR RBA NE1 ⊢
  obtain ⟨p, hp⟩ : ∃ x, w.heap.size + 2 = x := ⟨_, rfl⟩
  have HPz := Lib.hid hp
  rw [hp] at HP PLA NE1 NE2 NE3 ⊢
  obtain ⟨bc, hbc⟩ : ∃ x, w.heap.size + 1 = x := ⟨_, rfl⟩
  rw [hbc] at KBC NE3 ⊢
  obtain ⟨bl, hbl⟩ : ∃ x, w.heap.size = x := ⟨_, rfl⟩
  have HBL := Lib.hid hbl
  have KA2 : Hid (∀ W pc, Below a.heap.size a W → Calls Try.prog 14 #[.int .i64 pc, .pointer (some ⟨bl, 0, none⟩)] W fun e w' => e = .returned (atV L pc) ∧ Below W.heap.size W w') := by rw [← hbl]; exact KA
  have KBL2 : Hid (w4.heap[bl]? = some (.cells #[.slice qL L.length cL] 34 (0, 0))) := by rw [← hbl]; exact KBL
  have NE2' : Hid (bl ≠ p) := by rw [← hbl]; exact NE2
  obtain ⟨ws, hws⟩ : ∃ x, x = w.heap.size := ⟨_, rfl⟩
  have KR := Lib.hid KR
  have c4 : w4.cell? ⟨p, 4, none⟩ = some (Value.slice qs s.stk.length ks) := (Joins.cell_of_block HP.out 4).trans rfl
  have SR := Lib.hid (RS.out.src (P := Try.prog) Try.underlying24)
  have ON := Lib.hid (World.ownsRow_nil w4 0 23 1)
  have LS := Lib.hid OK.out.len
  clear hbl hbc hp hrb hws KP KBL KA NE2 hl hm
  obtain ⟨n, hn⟩ : ∃ n, s.stk.length = n := ⟨_, rfl⟩
  have HN := Lib.hid hn
  rw [hn] at c4 SR LS
  clear hn
  have ln := LS.out
  rw [HBL.out]
  go_wp2_with (at_builtin; refine wpList_append_row rfl _ _ rfl Try.underlying24 hi0.out hz0.out hz1.out hz2.out rfl ON.out SR.out ?b1 ?b2 ?_)
  case b1 => unfold maxLen; omega
  case b2 => omega
  intro q8 k8 w8 own8 grow8 fr8
  try simp only [Nat.zero_add, List.nil_append] at own8
  try simp only [Nat.zero_add] at fr8
  try simp only [Nat.zero_add]
  have K48 : Kept p w4 w8 := Kept.grown (v := .slice none 0 0) grow8 ON.out
  have H8 : w8.heap[p]? = some (.cells (stRow s qs ks).toArray 31 (0, 0)) := by
    rw [grow8.block p (Array.getElem?_eq_some_iff.1 HP.out).1 (by simp [Value.ownBlock])]; exact HP.out
  have B8 : Below a.heap.size a w8 := B4.out.grown grow8 B4.out.size (fun j hj => by simp [Value.ownBlock] at hj)
  have u4 := Joins.unfrozen_of_block H8 4
  have c48 : w8.cell? ⟨p, 4, none⟩ = some (Value.slice qs n ks) := (Joins.cell_of_block H8 4).trans (by rw [← HN.out]; rfl)
  have S9 := McS.stack (xs := s.stk) (q' := q8) (c' := k8) H8 PLA.out B8 (by rw [HN.out]; exact own8) (by
    rw [HN.out]
    intro g hg
    rcases fr8 with e | e
    · rw [e] at hg; simp [Value.ownBlock] at hg
    · rw [e] at hg
      have h9 : w4.heap.size = g := by simpa using hg
      have := B4.out.size
      omega)
  rw [HN.out] at S9
  have S9 : Hid (McS a (w8.setCell ⟨p, 4, none⟩ (.slice q8 n k8)) p s) := S9
  have KX := K48.trans (Kept.setCell p w8 4 (.slice q8 n k8))
  have BL9 := Lib.hid (KX _ _ _ _ KBL2.out NE2'.out (by decide))
  have BC9 := Lib.hid (KX _ _ _ _ KBC.out NE3.out (by decide))
  have RB9 : Hid (StAt (w8.setCell ⟨p, 4, none⟩ (.slice q8 n k8)) rb ms0 none 0) := KX _ _ _ _ KR.out NE1.out (by decide)
  clear own8 grow8 fr8 K48 H8 B8 KX KBL2 KBC KR c4 SR ON HP B4 RS
  go_upto_region 2 with fail
  generalize w8.setCell ⟨p, 4, none⟩ (.slice q8 n k8) = w9 at *
  clear u4 c48
  obtain ⟨q9, k9, h91, h92, -⟩ := S9.out.ex
  have c2 := (McC.mk h91 h92).c2
  clear h91 h92
  by_cases hst : s.st = 0
  rotate_left
  · have e1 : (s.st != 0) = true := by simp [hst]
    have HX : runM L c s M = (s, 0) := by unfold runM; rw [if_pos (.inl hst)]
    have HX := Lib.hid HX
    clear hst
    obtain ⟨q8, k8, h81, h82, h83⟩ := S9.out.ex
    have W16 : (s).wds.length = 16 := OK.out.w16
    have P8 : StAt w9 p (s) q8 k8 := h81
    have cp := P8.row W16
    have ct := RB9.out.there ws0_len
    have K9 := Lib.hid (RB9.out.put (s' := s) (q' := q8) (c' := k8) ws0_len W16)
    have BE := Lib.hid (below_setCells' rb RBA.out (stRow (s) q8 k8) 0 (BA.out.trans (S9.out.below.mono BA.out.size)))
    have OW := Lib.hid (own_keep h82 (fun g hg => setCells_other (show g ≠ rb from fun e => own_ne h82 RB9.out (by decide) (by rw [← e]; exact hg)) (stRow (s) q8 k8) 0 _))
    clear h81 h82 h83 P8
    go_wp2_with fail
    clear cp ct
    have cf := K9.out.row W16
    refine bodyPost_ret (v := .tuple #[.agg (stRow (s) q8 k8).toArray, .int .i64 0]) (by simp [results, Try.results6, go_sem, cf, W16]) rfl ?_
    have hR2 := HRR.out
    rw [HX.out] at hR2
    subst hR2
    exact ⟨q8, k8, rfl, rdU_of_own OW.out, BE.out⟩
  have e1 : (s.st != 0) = false := by simp [hst]
  rw [hst] at c2
  have e1' : ((0 : Int) != 0) = false := rfl
  by_cases hm1 : M < 1
  · have e2 : decide (M < 1) = true := decide_eq_true hm1
    have HX : runM L c s M = (s, 0) := by unfold runM; rw [if_pos (.inr hm1)]
    have HX := Lib.hid HX
    clear hst hm1
    obtain ⟨q8, k8, h81, h82, h83⟩ := S9.out.ex
    have W16 : (s).wds.length = 16 := OK.out.w16
    have P8 : StAt w9 p (s) q8 k8 := h81
    have cp := P8.row W16
    have ct := RB9.out.there ws0_len
    have K9 := Lib.hid (RB9.out.put (s' := s) (q' := q8) (c' := k8) ws0_len W16)
    have BE := Lib.hid (below_setCells' rb RBA.out (stRow (s) q8 k8) 0 (BA.out.trans (S9.out.below.mono BA.out.size)))
    have OW := Lib.hid (own_keep h82 (fun g hg => setCells_other (show g ≠ rb from fun e => own_ne h82 RB9.out (by decide) (by rw [← e]; exact hg)) (stRow (s) q8 k8) 0 _))
    clear h81 h82 h83 P8
    go_wp2_with fail
    clear cp ct
    have cf := K9.out.row W16
    refine bodyPost_ret (v := .tuple #[.agg (stRow (s) q8 k8).toArray, .int .i64 0]) (by simp [results, Try.results6, go_sem, cf, W16]) rfl ?_
    have hR2 := HRR.out
    rw [HX.out] at hR2
    subst hR2
    exact ⟨q8, k8, rfl, rdU_of_own OW.out, BE.out⟩
  have e2 : decide (M < 1) = false := decide_eq_false hm1
  obtain ⟨m, rfl⟩ : ∃ m : Nat, M = m := ⟨M.toNat, by omega⟩
  have HX0 : Hid (runM L c s (m : Int) = if codeOk L = true then goM L c m s else (s.fail 37, 1)) := by
    show _ = _
    unfold runM
    rw [if_neg (by omega)]
    rfl
  have HMM : Hid (m ≤ 1000000000000) := by have := HMX.out; show _ ≤ _; omega
  have RT := Lib.hid (Right_any (c := cL) (HRA.out.on PIs_ok (by decide) S9.out.below) HL3.out)
  obtain ⟨B, hB⟩ : ∃ B, codeOk L = B := ⟨_, rfl⟩
  have HB := Lib.hid hB
  rw [hB] at RT HX0
  have j0 := (Joins.cell_of_block BL9.out 0).trans (rfl : _ = some _)
  clear hst hm1 hB
  go_wp2_with fail
  clear j0 c2
  refine RT.out.mono ?_
  rintro e w10 ⟨rfl, b10⟩
  have S10 := Lib.hid (S9.out.on b10)
  have K10 := Kept.below (p := p) b10
  have BC10 := Lib.hid (K10 _ _ _ _ BC9.out NE3.out (by decide))
  have RB10 : Hid (StAt w10 rb ms0 none 0) := K10 _ _ _ _ RB9.out NE1.out (by decide)
  clear b10 K10 S9 BC9 RB9 RT BL9
  cases B with
  | false =>
    have HX : Hid (runM L c s (m : Int) = (s.fail 37, 1)) := by show _ = _; rw [HX0.out]; rfl
    go_wp2_with fail
    refine (fail_any S10.out 37).mono ?_
    rintro e w11 ⟨rfl, S11, K11⟩
    have S11 := Lib.hid S11
    have RB11 : Hid (StAt w11 rb ms0 none 0) := K11 _ _ _ _ RB10.out NE1.out (by decide)
    clear K11 S10 BC10 RB10
    obtain ⟨q8, k8, h81, h82, h83⟩ := S11.out.ex
    have W16 : (s.fail 37).wds.length = 16 := OK.out.w16
    have P8 : StAt w11 p (s.fail 37) q8 k8 := h81
    have cp := P8.row W16
    have ct := RB11.out.there ws0_len
    have K9 := Lib.hid (RB11.out.put (s' := s.fail 37) (q' := q8) (c' := k8) ws0_len W16)
    have BE := Lib.hid (below_setCells' rb RBA.out (stRow (s.fail 37) q8 k8) 0 (BA.out.trans (S11.out.below.mono BA.out.size)))
    have OW := Lib.hid (own_keep h82 (fun g hg => setCells_other (show g ≠ rb from fun e => own_ne h82 RB11.out (by decide) (by rw [← e]; exact hg)) (stRow (s.fail 37) q8 k8) 0 _))
    clear h81 h82 h83 P8
    go_wp2_with fail
    clear cp ct
    have cf := K9.out.row W16
    refine bodyPost_ret (v := .tuple #[.agg (stRow (s.fail 37) q8 k8).toArray, .int .i64 1]) (by simp [results, Try.results6, go_sem, cf, W16]) rfl ?_
    have hR2 := HRR.out
    rw [HX.out] at hR2
    subst hR2
    exact ⟨q8, k8, rfl, rdU_of_own OW.out, BE.out⟩
  | true =>
    have HX : Hid (runM L c s (m : Int) = goM L c m s) := by show _ = _; rw [HX0.out]; rfl
    have GOK := Lib.hid (goM_ok (L := L) (k := m) HC.out LU.out OK.out)
    have KR := Lib.hid (run_any S10.out OK.out HB.out LU.out HC.out KA2.out RI.out (M := m) HMM.out)
    unfold cxV at KR
    obtain ⟨G, hG⟩ : ∃ G, goM L c m s = G := ⟨_, rfl⟩
    rw [hG] at HX GOK KR
    obtain ⟨u, k⟩ := G
    have j0 := (Joins.cell_of_block BC10.out 0).trans (rfl : _ = some _)
    have j1 := (Joins.cell_of_block BC10.out 1).trans (rfl : _ = some _)
    have j2 := (Joins.cell_of_block BC10.out 2).trans (rfl : _ = some _)
    clear hG HX0
    go_wp2_with fail
    clear j0 j1 j2
    refine KR.out.mono ?_
    rintro e w11 ⟨rfl, S11, K11⟩
    have S11 := Lib.hid S11
    have RB11 : Hid (StAt w11 rb ms0 none 0) := K11 _ _ _ _ RB10.out NE1.out (by decide)
    clear K11 S10 BC10 RB10 KR
    obtain ⟨q8, k8, h81, h82, h83⟩ := S11.out.ex
    have W16 : (u).wds.length = 16 := GOK.out.w16
    have P8 : StAt w11 p (u) q8 k8 := h81
    have cp := P8.row W16
    have ct := RB11.out.there ws0_len
    have K9 := Lib.hid (RB11.out.put (s' := u) (q' := q8) (c' := k8) ws0_len W16)
    have BE := Lib.hid (below_setCells' rb RBA.out (stRow (u) q8 k8) 0 (BA.out.trans (S11.out.below.mono BA.out.size)))
    have OW := Lib.hid (own_keep h82 (fun g hg => setCells_other (show g ≠ rb from fun e => own_ne h82 RB11.out (by decide) (by rw [← e]; exact hg)) (stRow (u) q8 k8) 0 _))
    clear h81 h82 h83 P8
    go_wp2_with fail
    clear cp ct
    have cf := K9.out.row W16
    refine bodyPost_ret (v := .tuple #[.agg (stRow (u) q8 k8).toArray, .int .i64 (k : Int)]) (by simp [results, Try.results6, go_sem, cf, W16]) rfl ?_
    have hR2 := HRR.out
    rw [HX.out] at hR2
    subst hR2
    exact ⟨q8, k8, rfl, rdU_of_own OW.out, BE.out⟩
end Go.Proofs.Ytamkmeigcmpkjaa
