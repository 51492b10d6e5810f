/-
  The document's GetBatch, its Txs within new blocks.; Where the batch of a number stands, by the document.
-/
import Derived.Deep.CutRange
import Derived.Test.YtonjkhhihiigfaaDv13
import Derived.Test.YtonjkhhihiigfaaDv21
namespace Go.Proofs.Ytonjkhhihiigfaa
set_option maxRecDepth 100000
open Go.RowKit

theorem RxS.rwF {w W : World} {p b pos c : Nat} {v1 : Value} {xs : List Int} {ep : Int} {f : Bool} {q : Option Addr} {L : List Tg} {done : List Value} (h : RxS w W p b v1 xs ep pos f q c L done) : RwF 10 tg0 PTx W (fun x => w.heap.size + 1 ≤ x) q L := by
  have hro := own_ne h.own h.res (by decide)
  have hp := h.hp
  have hb := h.hb
  rcases h.own.2 with ⟨e, h0⟩ | ⟨g, cap, cur, e, _, hg, hnc, hcm, hcs', htake⟩
  · exact .inl (List.eq_nil_of_length_eq_zero h0)
  · simp only [Value.slice.injEq] at e
    obtain ⟨rfl, -, rfl⟩ := e
    have hfr := h.fresh g rfl
    have hng : g ≠ w.heap.size := fun e => hro (by rw [e]; rfl)
    refine .inr ⟨g, 0, rfl, by show _ ≤ _; omega, fun j hj => ?_⟩
    obtain ⟨qi, ki, h1, h2, h3⟩ := h.rows j hj
    refine ⟨txRow (L.getD j tg0) qi (L.getD j tg0).data.length ki, txRow_len _ _ _ _, ?_, qi, ki, rfl, h2, fun hne x hx => ?_⟩
    · have hl := h.len
      have hc2 : cur = (done ++ cur.toList.drop (L.length * 10)).toArray := by
        apply Array.ext'
        show cur.toList = done ++ cur.toList.drop (L.length * 10)
        rw [← htake, List.take_append_drop]
      rw [hc2] at hg
      rw [rowOf_block hg, Nat.zero_add, ← h1]
      have e : ((done ++ cur.toList.drop (L.length * 10)).drop (j * 10)).take 10 = (done.drop (j * 10)).take 10 := by
        rw [List.drop_append_of_le_length (by omega), List.take_append_of_le_length (by rw [List.length_drop]; omega)]
      rw [← e]
      simp [List.take_drop]
    · have := (h3 x hne hx).1
      show _ ≤ _
      omega
set_option maxHeartbeats 8000000 in
theorem refGetBatch_f {w : World} {vb : Value} {xs : List Int} (hr : Rd w vb xs) (hx : Bytes xs) (hl : xs.length ≤ 140737488355328) :
    Calls Try.prog 24 #[vb] w (GbF xs w) := by
  obtain ⟨i0, hi, hz0, hz1, hz2⟩ := info_parts Try.infoTxr
  replace hi := Lib.hid hi
  replace hz0 := Lib.hid hz0
  replace hz1 := Lib.hid hz1
  replace hz2 := Lib.hid hz2
  have b1 : Below w.heap.size w (w.alloc (.cells #[.int .u64 0, .slice none 0 0] 67)) := (Below.refl _ _).alloc (Nat.le_refl _) _
  have B0 := Lib.hid b1
  have R0 : Hid ((w.alloc (.cells #[.int .u64 0, .slice none 0 0] 67)).heap[w.heap.size]? = some (.cells #[.int .u64 0, .slice none 0 0] 67 (0, 0))) := heap_alloc_new w (.cells #[.int .u64 0, .slice none 0 0] 67)
  have KN := Lib.hid (rdNew_any (hr.on b1) hl)
  have BX := Lib.hid hx
  have SZ : Hid ((w.alloc (.cells #[.int .u64 0, .slice none 0 0] 67)).heap.size = w.heap.size + 1) := by show _ = _; simp
  have HEP : uV (fU false xs 0 8) xs 0 = bEp xs := rfl
  have HBN : uV (fC (fU false xs 0 8) xs (0 + 8) 8) xs (0 + 8) = (bN xs : Int) := (bN_le hx).2
  have n8 := (bN_le hx).1
  have NO := Lib.hid (fun (h : bOk xs = false) (W : World) (hb : Below w.heap.size w W) => GbF.no h hb)
  have YES := Lib.hid (fun (h : bOk xs = true) (W : World) (q : Option Addr) (c : Nat) (hr : RwF 10 tg0 PTx W (fun x => w.heap.size ≤ x) q (bIt xs (bN xs)).1) (hb : Below w.heap.size w W) => GbF.yes (c := c) h hr hb)
  have BAD := Lib.hid (fun (i : Nat) (h : (rIt xs i).2.2 = true) (hi : i ≤ bN xs) => two_bad h hi)
  have TWO := Lib.hid (fun (h : (rIt xs (bN xs)).2.2 = false) => two_end h)
  have OKL := Lib.hid (fun i => rIt_ok hx i)
  obtain ⟨QP, hQP⟩ : ∃ QP, GbF xs w = QP := ⟨_, rfl⟩
  rw [hQP] at NO YES ⊢
  obtain ⟨ep, hep⟩ : ∃ ep, bEp xs = ep := ⟨_, rfl⟩
  rw [hep] at YES HEP
  obtain ⟨n, hn⟩ : ∃ n, bN xs = n := ⟨_, rfl⟩
  rw [hn] at YES HBN BAD TWO n8
  obtain ⟨mo, hmo⟩ : ∃ mo, bOk xs = mo := ⟨_, rfl⟩
  rw [hmo] at NO YES BAD TWO
  have HEP' := Lib.hid HEP
  have HBN' := Lib.hid HBN
  obtain ⟨qv, cv, rfl⟩ := hr.len
  clear hr hx b1 hQP hep hn hmo HEP HBN
  go_enter Try.func24, Try.ntmps24
  go_wp2_with fail
  generalize w.alloc (.cells #[.int .u64 0, .slice none 0 0] 67) = w0 at *
  refine KN.out.mono ?_
  rintro e w1 ⟨p, v1, rfl, hV, hp, hb1, -⟩
  have S1 := Lib.hid (DSt.mk0 hV)
  have R1 : Hid (w1.heap[w.heap.size]? = some (.cells #[.int .u64 0, .slice none 0 0] 67 (0, 0))) := by show _ = _; rw [hb1.block _ (Array.getElem?_eq_some_iff.1 R0.out).1]; exact R0.out
  have B1 := Lib.hid (B0.out.trans (hb1.mono B0.out.size))
  have hwp : Hid (w.heap.size < p) := by have := SZ.out; show _ < _; omega
  clear hV hb1 KN R0 B0 hp SZ
  go_wp2_with fail
  refine (rdUint_st S1.out BX.out).mono ?_
  rintro e w2 ⟨rfl, hs, hc⟩
  rw [HEP'.out]
  have hpl := hs.lt
  have R2 : w2.heap[w.heap.size]? = some (.cells #[.int .u64 0, .slice none 0 0] 67 (0, 0)) := by rw [hc.block _ (Array.getElem?_eq_some_iff.1 R1.out).1 (by have := hwp.out; simp; omega)]; exact R1.out
  have B2 := B1.out.trans (hc.toBelow B1.out.size (fun g hg => by have := hwp.out; simp at hg; omega))
  have ba : Below w2.heap.size w2 (w2.alloc (.cells #[.int .u64 ep, .slice none 0 0] 67)) := (Below.refl _ _).alloc (Nat.le_refl _) _
  have X2 : Hid (RxS w (w2.alloc (.cells #[.int .u64 ep, .slice none 0 0] 67)) p w2.heap.size v1 xs ep (0 + 8) (fU false xs 0 8) none 0 [] []) :=
    ⟨hs.on ba, heap_alloc_new w2 _, by rw [ba.block _ (Array.getElem?_eq_some_iff.1 R2).1]; exact R2, World.ownsRow_nil _ 0 _ 10, rfl, fun j hj => by simp at hj, by simp [Value.ownBlock], B2.trans (ba.mono B2.size), hwp.out, hpl⟩
  clear hs hc R1 S1 B1 R2 B2 ba hpl
  go_wp2_with fail
  obtain ⟨b, hbe⟩ : ∃ b, w2.heap.size = b := ⟨_, rfl⟩
  rw [hbe] at X2 ⊢
  generalize w2.alloc (.cells #[.int .u64 ep, .slice none 0 0] 67) = w3 at *
  clear hbe
  refine (rdCount_det X2.out.rd BX.out (most := 8) (by omega)).mono ?_
  rintro e w4 ⟨rfl, hs, hc⟩
  rw [HBN'.out]
  have X4 : Hid (RxS w w4 p b v1 xs ep (rIt xs 0).2.1 (rIt xs 0).2.2 none 0 (rIt xs 0).1 []) := X2.out.chg hc hs X2.out.offp
  clear hs hc X2 HEP' HBN'
  go_wp2_with fail
  go_loopw [7] (fun iv wr => ∃ (i : Nat) (q : Option Addr) (c : Nat) (done : List Value), iv = .int .i64 (i : Int) ∧ i ≤ n ∧ Hid (RxS w wr p b v1 xs ep (rIt xs i).2.1 (rIt xs i).2.2 q c (rIt xs i).1 done)) (fun iv _ => n - (intOf iv).toNat)
  case atStart => exact ⟨0, none, 0, [], rfl, by omega, X4⟩
  case round =>
    clear X4
    obtain ⟨i, q, c, done, rfl, hin, hX⟩ := hrel
    obtain ⟨z, c2, hz⟩ := hX.out.rd.errT
    by_cases hlt : i < n
    · cases hf : (rIt xs i).2.2 with
      | true =>
        have hE := Lib.hid (BAD.out i hf (by omega))
        rw [hf] at hX hz
        have hz' : (z == 0) = false := hz
        clear hz
        go_wp2_with fail
        clear c2 hz'
        refine (rdDone_st hX.out.rd).mono ?_
        rintro e w9 ⟨zd, mm, rfl, rfl, hzd⟩
        have hz1' : (zd != 0) = true := by
          have : zd ≠ 0 := fun e => by have := (hzd.1 e).1; cases this
          simpa using this
        have X9 : Hid (RxS w (wr.drewN mm) p b v1 xs ep (rIt xs i).2.1 true q c (rIt xs i).1 done) := hX.out.on (below_drewN (Below.refl _ _) mm)
        have EE := Lib.hid (NO.out hE.out)
        clear hzd hX
        generalize wr.drewN mm = w9 at *
        have r0 := (Joins.cell_of_block X9.out.res 0).trans (rfl : _ = some _)
        have r1 := (Joins.cell_of_block X9.out.res 1).trans (rfl : _ = some _)
        have y0 := Joins.unfrozen_of_block X9.out.res 0
        have y1 := Joins.unfrozen_of_block X9.out.res 1
        have BX2 : Hid (Below w.heap.size w ((w9.setCell ⟨w.heap.size, 0, none⟩ (.int .u64 0)).setCell ⟨w.heap.size, 1, none⟩ (.slice none 0 0))) := ((X9.out.below.setCell (p := ⟨_, 0, none⟩) (by simp) _).setCell (p := ⟨_, 1, none⟩) (by simp) _)
        have hb9 : ((w9.setCell ⟨w.heap.size, 0, none⟩ (.int .u64 0)).setCell ⟨w.heap.size, 1, none⟩ (.slice none 0 0)).heap[w.heap.size]? = some (.cells #[.int .u64 0, .slice none 0 0] 67 (0, 0)) := Joins.block_setCell (Joins.block_setCell X9.out.res _) _
        have x0 := (Joins.cell_of_block hb9 0).trans (rfl : _ = some _)
        have x1 := (Joins.cell_of_block hb9 1).trans (rfl : _ = some _)
        clear hb9
        go_wp2_with fail
        refine bodyPost_ret (v := .tuple #[.agg #[.int .u64 0, .slice none 0 0], .int .i64 21]) (by simp [results, Try.results24, go_sem, x0, x1]) rfl (EE.out _ BX2.out)
      | false =>
        rw [hf] at hX hz
        have hz' : (z == 0) = true := hz
        obtain rfl : z = 0 := by simpa using hz'
        have HS : Hid (rIt xs (i + 1) = ((rIt xs i).1 ++ [uM xs (rIt xs i).2.1 false], uE xs (rIt xs i).2.1 false, u7 xs (rIt xs i).2.1 false)) := by
          show _ = _
          simp only [rIt, hf]
        have LNi : Hid ((rIt xs i).1.length = i) := rIt_len xs i
        clear hz hz' hf
        go_wp2_with fail
        clear c2
        obtain ⟨pos, hpos⟩ : ∃ pos, (rIt xs i).2.1 = pos := ⟨_, rfl⟩
        obtain ⟨L, hL⟩ : ∃ L, (rIt xs i).1 = L := ⟨_, rfl⟩
        rw [hpos, hL] at hX HS
        rw [hL] at LNi
        have XD : Hid (RxS w wr.drew p b v1 xs ep pos false q c L done) := hX.out.on ((Below.refl _ _).drew)
        clear hX hpos hL
        refine wp_region_held_drew (S := fun _ => True) (by kernel_rfl) (trivial) (fun h0 => ?_)
        generalize wr.drew = w5 at *
        refine wpAnyH_take (i := 0) (v := ?_) (by rw [List.getElem?_toArray]; rfl) (by kernel_rfl) (by kernel_rfl) (by kernel_rfl) (by exact fun _ _ _ h => h) (Or.inl ⟨by rfl, ?_⟩) h0 ?_
        rotate_left
        · intro W hW
          go_simp
          all_goals with_reducible rfl
        try simp only [Act.put, List.setIfInBounds_toArray, List.set_cons_zero, List.set_cons_succ]
        refine wpAnyH_take (i := 2) (v := ?_) (by rw [List.getElem?_toArray]; rfl) (by kernel_rfl) (by kernel_rfl) (by kernel_rfl) (by exact fun _ _ _ h => h) (Or.inl ⟨by rfl, ?_⟩) h0 ?_
        rotate_left
        · intro W hW
          go_simp
          all_goals with_reducible rfl
        try simp only [Act.put, List.setIfInBounds_toArray, List.set_cons_zero, List.set_cons_succ]
        refine wpAnyH_ready (rs := [1, 3]) (by kernel_rfl) (by simp) ?_
        refine AllReadyH.cons (by rw [List.getElem?_toArray]; rfl) (fun K hK => ?_) (AllReadyH.cons (by rw [List.getElem?_toArray]; rfl) (fun K hK => ?_) AllReadyH.nil)
        · rw [if_pos (by rfl)]
          have c1 := (Joins.cell_of_block XD.out.blk 1).trans (rfl : _ = some _)
          go_wp2_with fail
          clear c1
          refine hK.out _ _ trivial (fun _ => ?_)
          clear hK K
          try simp only [Act.put, List.setIfInBounds_toArray, List.set_cons_zero, List.set_cons_succ]
          refine wpAnyH_ready (rs := [3]) (by kernel_rfl) (by simp) ?_
          refine AllReadyH.cons (by rw [List.getElem?_toArray]; rfl) (fun K hK => ?_) AllReadyH.nil
          rw [if_pos (by rfl)]
          go_wp2_with fail
          refine (reftx_any XD.out.rd BX.out).mono ?_
          rintro e w6 ⟨qi, ki, rfl, hV, hd, hfr, hc⟩
          have X6 := Lib.hid (XD.out.chg hc hV XD.out.offp)
          obtain ⟨t, ht⟩ : ∃ t, uM xs pos false = t := ⟨_, rfl⟩
          rw [ht] at hd hfr HS ⊢
          have D6 := Lib.hid hd
          have F6 : Hid (∀ g, t.data ≠ [] → (Value.slice qi t.data.length ki).ownBlock = some g → b < g ∧ (Value.slice q L.length c).ownBlock ≠ some g) := fun g _ hg => by
            have h1 := hfr g hg
            have h2 := (Array.getElem?_eq_some_iff.1 XD.out.blk).1
            exact ⟨by omega, fun e => by have := own_lt XD.out.own e; omega⟩
          have hRl := txRow_len t qi t.data.length ki
          have hRo := Lib.hid (txRow_one t qi t.data.length ki)
          obtain ⟨R, hR⟩ : ∃ R, txRow t qi t.data.length ki = R := ⟨_, rfl⟩
          have HR := Lib.hid hR
          rw [hR] at hRl hRo ⊢
          clear hR
          clear hV hd hfr hc ht XD
          go_wp2_with fail
          refine hK.out _ _ trivial (fun _ => ?_)
          clear hK K
          try simp only [Act.put, List.setIfInBounds_toArray, List.set_cons_zero, List.set_cons_succ]
          refine wpAnyH_ready (rs := [4]) (by kernel_rfl) (by simp) ?_
          refine AllReadyH.cons (by rw [List.getElem?_toArray]; rfl) (fun K hK => ?_) AllReadyH.nil
          rw [if_pos (by rfl)]
          have hsl := Try.run_slice_txr w6 R hRl
          have ba : Below w6.heap.size w6 (w6.alloc (.cells R.toArray 84)) := (Below.refl _ _).alloc (Nat.le_refl _) _
          have X7 := Lib.hid (X6.out.on ba)
          have D7 := Lib.hid (D6.out.on ba)
          have SR := Lib.hid (src_txr (P := Try.prog) (w := w6) Try.underlying65 hRl hRo.out)
          clear ba X6 D6
          go_wp2_with fail
          clear hsl
          generalize w6.alloc (.cells R.toArray 84) = w7 at *
          have OW7 := Lib.hid X7.out.own
          refine hK.out _ _ trivial (fun _ => ?_)
          clear hK K
          try simp only [Act.put, List.setIfInBounds_toArray, List.set_cons_zero, List.set_cons_succ]
          refine wpAnyH_ready (rs := [5]) (by kernel_rfl) (by simp) ?_
          refine AllReadyH.cons (by rw [List.getElem?_toArray]; rfl) (fun K hK => ?_) AllReadyH.nil
          rw [if_pos (by rfl)]
          refine wp_append_row _ _ rfl Try.underlying65 hi.out hz0.out hz1.out hz2.out tx0_cells OW7.out SR.out (by have := LNi.out; unfold maxLen; omega) (by have := LNi.out; omega) ?_
          intro q8 k8 w8 own8 grow8 fr8
          rw [← HR.out] at own8
          have X9 := Lib.hid (X7.out.push D7.out F6.out own8 grow8 fr8)
          have B8 : Hid (w8.heap[b]? = some (.cells #[.int .u64 ep, .slice q L.length c] 67 (0, 0))) := by
            show _ = _
            rw [grow8.block b (Array.getElem?_eq_some_iff.1 X7.out.blk).1 (fun e => own_ne X7.out.own X7.out.blk (by decide) e.symm)]
            exact X7.out.blk
          clear own8 grow8 fr8 X7 D7 F6 SR OW7 HR
          refine hK.out _ _ trivial (fun _ => ?_)
          clear hK K
          try simp only [Act.put, List.setIfInBounds_toArray, List.set_cons_zero, List.set_cons_succ]
          refine wpAnyH_take (i := 6) (v := ?_) (by rw [List.getElem?_toArray]; rfl) (by kernel_rfl) (by kernel_rfl) (by kernel_rfl) (by exact fun _ _ _ h => h) (Or.inl ⟨by rfl, ?_⟩) h0 ?_
          rotate_left
          · intro W hW
            go_simp
            all_goals with_reducible rfl
          try simp only [Act.put, List.setIfInBounds_toArray, List.set_cons_zero, List.set_cons_succ]
          refine wpAnyH_ready (rs := [7]) (by kernel_rfl) (by simp) ?_
          refine AllReadyH.cons (by rw [List.getElem?_toArray]; rfl) (fun K hK => ?_) AllReadyH.nil
          rw [if_pos (by rfl)]
          have c1 := (Joins.cell_of_block B8.out 1).trans (rfl : _ = some _)
          have y1 := Joins.unfrozen_of_block B8.out 1
          go_wp2_with fail
          clear c1 y1
          refine hK.out _ _ trivial (fun _ => ?_)
          clear hK K
          try simp only [Act.put, List.setIfInBounds_toArray, List.set_cons_zero, List.set_cons_succ]
          refine wpAnyH_done (by kernel_rfl) ?_ _
          go_wp2_with fail
          go_roundw
          case rel => exact ⟨i + 1, q8, k8, _, by go_num, by omega, by rw [HS.out]; exact X9⟩
          case measure => simp [intOf]; omega
        · rw [if_pos (by rfl)]
          go_wp2_with fail
          refine (reftx_any XD.out.rd BX.out).mono ?_
          rintro e w6 ⟨qi, ki, rfl, hV, hd, hfr, hc⟩
          have X6 := Lib.hid (XD.out.chg hc hV XD.out.offp)
          obtain ⟨t, ht⟩ : ∃ t, uM xs pos false = t := ⟨_, rfl⟩
          rw [ht] at hd hfr HS ⊢
          have D6 := Lib.hid hd
          have F6 : Hid (∀ g, t.data ≠ [] → (Value.slice qi t.data.length ki).ownBlock = some g → b < g ∧ (Value.slice q L.length c).ownBlock ≠ some g) := fun g _ hg => by
            have h1 := hfr g hg
            have h2 := (Array.getElem?_eq_some_iff.1 XD.out.blk).1
            exact ⟨by omega, fun e => by have := own_lt XD.out.own e; omega⟩
          have hRl := txRow_len t qi t.data.length ki
          have hRo := Lib.hid (txRow_one t qi t.data.length ki)
          obtain ⟨R, hR⟩ : ∃ R, txRow t qi t.data.length ki = R := ⟨_, rfl⟩
          have HR := Lib.hid hR
          rw [hR] at hRl hRo ⊢
          clear hR
          clear hV hd hfr hc ht XD
          go_wp2_with fail
          refine hK.out _ _ trivial (fun _ => ?_)
          clear hK K
          try simp only [Act.put, List.setIfInBounds_toArray, List.set_cons_zero, List.set_cons_succ]
          refine wpAnyH_ready (rs := [1, 4]) (by kernel_rfl) (by simp) ?_
          refine AllReadyH.cons (by rw [List.getElem?_toArray]; rfl) (fun K hK => ?_) (AllReadyH.cons (by rw [List.getElem?_toArray]; rfl) (fun K hK => ?_) AllReadyH.nil)
          · rw [if_pos (by rfl)]
            have c1 := (Joins.cell_of_block X6.out.blk 1).trans (rfl : _ = some _)
            go_wp2_with fail
            clear c1
            refine hK.out _ _ trivial (fun _ => ?_)
            clear hK K
            try simp only [Act.put, List.setIfInBounds_toArray, List.set_cons_zero, List.set_cons_succ]
            refine wpAnyH_ready (rs := [4]) (by kernel_rfl) (by simp) ?_
            refine AllReadyH.cons (by rw [List.getElem?_toArray]; rfl) (fun K hK => ?_) AllReadyH.nil
            rw [if_pos (by rfl)]
            have hsl := Try.run_slice_txr w6 R hRl
            have ba : Below w6.heap.size w6 (w6.alloc (.cells R.toArray 84)) := (Below.refl _ _).alloc (Nat.le_refl _) _
            have X7 := Lib.hid (X6.out.on ba)
            have D7 := Lib.hid (D6.out.on ba)
            have SR := Lib.hid (src_txr (P := Try.prog) (w := w6) Try.underlying65 hRl hRo.out)
            clear ba X6 D6
            go_wp2_with fail
            clear hsl
            generalize w6.alloc (.cells R.toArray 84) = w7 at *
            have OW7 := Lib.hid X7.out.own
            refine hK.out _ _ trivial (fun _ => ?_)
            clear hK K
            try simp only [Act.put, List.setIfInBounds_toArray, List.set_cons_zero, List.set_cons_succ]
            refine wpAnyH_ready (rs := [5]) (by kernel_rfl) (by simp) ?_
            refine AllReadyH.cons (by rw [List.getElem?_toArray]; rfl) (fun K hK => ?_) AllReadyH.nil
            rw [if_pos (by rfl)]
            refine wp_append_row _ _ rfl Try.underlying65 hi.out hz0.out hz1.out hz2.out tx0_cells OW7.out SR.out (by have := LNi.out; unfold maxLen; omega) (by have := LNi.out; omega) ?_
            intro q8 k8 w8 own8 grow8 fr8
            rw [← HR.out] at own8
            have X9 := Lib.hid (X7.out.push D7.out F6.out own8 grow8 fr8)
            have B8 : Hid (w8.heap[b]? = some (.cells #[.int .u64 ep, .slice q L.length c] 67 (0, 0))) := by
              show _ = _
              rw [grow8.block b (Array.getElem?_eq_some_iff.1 X7.out.blk).1 (fun e => own_ne X7.out.own X7.out.blk (by decide) e.symm)]
              exact X7.out.blk
            clear own8 grow8 fr8 X7 D7 F6 SR OW7 HR
            refine hK.out _ _ trivial (fun _ => ?_)
            clear hK K
            try simp only [Act.put, List.setIfInBounds_toArray, List.set_cons_zero, List.set_cons_succ]
            refine wpAnyH_take (i := 6) (v := ?_) (by rw [List.getElem?_toArray]; rfl) (by kernel_rfl) (by kernel_rfl) (by kernel_rfl) (by exact fun _ _ _ h => h) (Or.inl ⟨by rfl, ?_⟩) h0 ?_
            rotate_left
            · intro W hW
              go_simp
              all_goals with_reducible rfl
            try simp only [Act.put, List.setIfInBounds_toArray, List.set_cons_zero, List.set_cons_succ]
            refine wpAnyH_ready (rs := [7]) (by kernel_rfl) (by simp) ?_
            refine AllReadyH.cons (by rw [List.getElem?_toArray]; rfl) (fun K hK => ?_) AllReadyH.nil
            rw [if_pos (by rfl)]
            have c1 := (Joins.cell_of_block B8.out 1).trans (rfl : _ = some _)
            have y1 := Joins.unfrozen_of_block B8.out 1
            go_wp2_with fail
            clear c1 y1
            refine hK.out _ _ trivial (fun _ => ?_)
            clear hK K
            try simp only [Act.put, List.setIfInBounds_toArray, List.set_cons_zero, List.set_cons_succ]
            refine wpAnyH_done (by kernel_rfl) ?_ _
            go_wp2_with fail
            go_roundw
            case rel => exact ⟨i + 1, q8, k8, _, by go_num, by omega, by rw [HS.out]; exact X9⟩
            case measure => simp [intOf]; omega
          · rw [if_pos (by rfl)]
            have hsl := Try.run_slice_txr w6 R hRl
            have ba : Below w6.heap.size w6 (w6.alloc (.cells R.toArray 84)) := (Below.refl _ _).alloc (Nat.le_refl _) _
            have X7 := Lib.hid (X6.out.on ba)
            have D7 := Lib.hid (D6.out.on ba)
            have SR := Lib.hid (src_txr (P := Try.prog) (w := w6) Try.underlying65 hRl hRo.out)
            clear ba X6 D6
            go_wp2_with fail
            clear hsl
            generalize w6.alloc (.cells R.toArray 84) = w7 at *
            have OW7 := Lib.hid X7.out.own
            refine hK.out _ _ trivial (fun _ => ?_)
            clear hK K
            try simp only [Act.put, List.setIfInBounds_toArray, List.set_cons_zero, List.set_cons_succ]
            refine wpAnyH_ready (rs := [1]) (by kernel_rfl) (by simp) ?_
            refine AllReadyH.cons (by rw [List.getElem?_toArray]; rfl) (fun K hK => ?_) AllReadyH.nil
            rw [if_pos (by rfl)]
            have c1 := (Joins.cell_of_block X7.out.blk 1).trans (rfl : _ = some _)
            go_wp2_with fail
            clear c1
            refine hK.out _ _ trivial (fun _ => ?_)
            clear hK K
            try simp only [Act.put, List.setIfInBounds_toArray, List.set_cons_zero, List.set_cons_succ]
            refine wpAnyH_ready (rs := [5]) (by kernel_rfl) (by simp) ?_
            refine AllReadyH.cons (by rw [List.getElem?_toArray]; rfl) (fun K hK => ?_) AllReadyH.nil
            rw [if_pos (by rfl)]
            refine wp_append_row _ _ rfl Try.underlying65 hi.out hz0.out hz1.out hz2.out tx0_cells OW7.out SR.out (by have := LNi.out; unfold maxLen; omega) (by have := LNi.out; omega) ?_
            intro q8 k8 w8 own8 grow8 fr8
            rw [← HR.out] at own8
            have X9 := Lib.hid (X7.out.push D7.out F6.out own8 grow8 fr8)
            have B8 : Hid (w8.heap[b]? = some (.cells #[.int .u64 ep, .slice q L.length c] 67 (0, 0))) := by
              show _ = _
              rw [grow8.block b (Array.getElem?_eq_some_iff.1 X7.out.blk).1 (fun e => own_ne X7.out.own X7.out.blk (by decide) e.symm)]
              exact X7.out.blk
            clear own8 grow8 fr8 X7 D7 F6 SR OW7 HR
            refine hK.out _ _ trivial (fun _ => ?_)
            clear hK K
            try simp only [Act.put, List.setIfInBounds_toArray, List.set_cons_zero, List.set_cons_succ]
            refine wpAnyH_take (i := 6) (v := ?_) (by rw [List.getElem?_toArray]; rfl) (by kernel_rfl) (by kernel_rfl) (by kernel_rfl) (by exact fun _ _ _ h => h) (Or.inl ⟨by rfl, ?_⟩) h0 ?_
            rotate_left
            · intro W hW
              go_simp
              all_goals with_reducible rfl
            try simp only [Act.put, List.setIfInBounds_toArray, List.set_cons_zero, List.set_cons_succ]
            refine wpAnyH_ready (rs := [7]) (by kernel_rfl) (by simp) ?_
            refine AllReadyH.cons (by rw [List.getElem?_toArray]; rfl) (fun K hK => ?_) AllReadyH.nil
            rw [if_pos (by rfl)]
            have c1 := (Joins.cell_of_block B8.out 1).trans (rfl : _ = some _)
            have y1 := Joins.unfrozen_of_block B8.out 1
            go_wp2_with fail
            clear c1 y1
            refine hK.out _ _ trivial (fun _ => ?_)
            clear hK K
            try simp only [Act.put, List.setIfInBounds_toArray, List.set_cons_zero, List.set_cons_succ]
            refine wpAnyH_done (by kernel_rfl) ?_ _
            go_wp2_with fail
            go_roundw
            case rel => exact ⟨i + 1, q8, k8, _, by go_num, by omega, by rw [HS.out]; exact X9⟩
            case measure => simp [intOf]; omega
    · obtain rfl : i = n := by omega
      go_wp2_with fail
      clear c2 hz
      refine (rdDone_st hX.out.rd).mono ?_
      rintro e w9 ⟨zd, mm, rfl, rfl, hzd⟩
      have X9 : Hid (RxS w (wr.drewN mm) p b v1 xs ep (rIt xs i).2.1 (rIt xs i).2.2 q c (rIt xs i).1 done) := hX.out.on (below_drewN (Below.refl _ _) mm)
      clear hX
      generalize wr.drewN mm = w9 at *
      by_cases hzz : zd = 0
      rotate_left
      · have hz1' : (zd != 0) = true := by simpa using hzz
        have EE : Hid (∀ W, Below w.heap.size w W → QP (.returned (.tuple #[.agg #[.int .u64 0, .slice none 0 0], .int .i64 21])) W) := NO.out (by
          cases hf : (rIt xs i).2.2 with
          | true => exact BAD.out i hf (Nat.le_refl _)
          | false =>
            have h1 := (TWO.out hf).1
            have h2 : ¬ (rIt xs i).2.1 = xs.length := fun e => hzz (hzd.2 ⟨hf, e⟩)
            rw [h1, decide_eq_false h2]; rfl)
        clear hzd hzz
        have r0 := (Joins.cell_of_block X9.out.res 0).trans (rfl : _ = some _)
        have r1 := (Joins.cell_of_block X9.out.res 1).trans (rfl : _ = some _)
        have y0 := Joins.unfrozen_of_block X9.out.res 0
        have y1 := Joins.unfrozen_of_block X9.out.res 1
        have BX2 : Hid (Below w.heap.size w ((w9.setCell ⟨w.heap.size, 0, none⟩ (.int .u64 0)).setCell ⟨w.heap.size, 1, none⟩ (.slice none 0 0))) := ((X9.out.below.setCell (p := ⟨_, 0, none⟩) (by simp) _).setCell (p := ⟨_, 1, none⟩) (by simp) _)
        have hb9 : ((w9.setCell ⟨w.heap.size, 0, none⟩ (.int .u64 0)).setCell ⟨w.heap.size, 1, none⟩ (.slice none 0 0)).heap[w.heap.size]? = some (.cells #[.int .u64 0, .slice none 0 0] 67 (0, 0)) := Joins.block_setCell (Joins.block_setCell X9.out.res _) _
        have x0 := (Joins.cell_of_block hb9 0).trans (rfl : _ = some _)
        have x1 := (Joins.cell_of_block hb9 1).trans (rfl : _ = some _)
        clear hb9
        go_wp2_with fail
        refine bodyPost_ret (v := .tuple #[.agg #[.int .u64 0, .slice none 0 0], .int .i64 21]) (by simp [results, Try.results24, go_sem, x0, x1]) rfl (EE.out _ BX2.out)
      have hf := (hzd.1 hzz).1
      have he := (hzd.1 hzz).2
      obtain ⟨h1, h2⟩ := TWO.out hf
      rw [decide_eq_true he, Bool.true_and] at h1
      have H1 := Lib.hid h1
      have H2 := Lib.hid h2
      subst hzz
      have LI : Hid ((rIt xs i).1.length = i) := rIt_len xs i
      have OI := Lib.hid (OKL.out i)
      clear hzd hf he h1 h2 BAD TWO OKL
      obtain ⟨L, hL⟩ : ∃ L, (rIt xs i).1 = L := ⟨_, rfl⟩
      rw [hL] at X9 H1 H2 LI OI
      have c0 := (Joins.cell_of_block X9.out.blk 0).trans (rfl : _ = some _)
      have c1 := (Joins.cell_of_block X9.out.blk 1).trans (rfl : _ = some _)
      clear hL
      go_wp2_with fail
      clear c0 c1
      refine (refRightBatch_any X9.out.rdTx OI.out (by have := LI.out; omega)).mono ?_
      rintro e w10 ⟨rfl, hb⟩
      have XA := Lib.hid (X9.out.on hb)
      clear hb X9
      cases ho : okB L with
      | false =>
        have EE := Lib.hid (NO.out (by rw [H1.out, ho]))
        clear H1 H2 ho
        have r0 := (Joins.cell_of_block XA.out.res 0).trans (rfl : _ = some _)
        have r1 := (Joins.cell_of_block XA.out.res 1).trans (rfl : _ = some _)
        have y0 := Joins.unfrozen_of_block XA.out.res 0
        have y1 := Joins.unfrozen_of_block XA.out.res 1
        have BX2 : Hid (Below w.heap.size w ((w10.setCell ⟨w.heap.size, 0, none⟩ (.int .u64 0)).setCell ⟨w.heap.size, 1, none⟩ (.slice none 0 0))) := ((XA.out.below.setCell (p := ⟨_, 0, none⟩) (by simp) _).setCell (p := ⟨_, 1, none⟩) (by simp) _)
        have hb9 : ((w10.setCell ⟨w.heap.size, 0, none⟩ (.int .u64 0)).setCell ⟨w.heap.size, 1, none⟩ (.slice none 0 0)).heap[w.heap.size]? = some (.cells #[.int .u64 0, .slice none 0 0] 67 (0, 0)) := Joins.block_setCell (Joins.block_setCell XA.out.res _) _
        have x0 := (Joins.cell_of_block hb9 0).trans (rfl : _ = some _)
        have x1 := (Joins.cell_of_block hb9 1).trans (rfl : _ = some _)
        clear hb9
        go_wp2_with fail
        refine bodyPost_ret (v := .tuple #[.agg #[.int .u64 0, .slice none 0 0], .int .i64 21]) (by simp [results, Try.results24, go_sem, x0, x1]) rfl (EE.out _ BX2.out)
      | true =>
        have hmo : mo = true := by rw [H1.out, ho]
        have DX2 : Hid (RwF 10 tg0 PTx w10 (fun x => w.heap.size + 1 ≤ x) q (bIt xs i).1) := by show RwF 10 tg0 PTx w10 (fun x => w.heap.size + 1 ≤ x) q (bIt xs i).1; rw [← H2.out hmo]; exact XA.out.rwF
        have c0 := (Joins.cell_of_block XA.out.blk 0).trans (rfl : _ = some _)
        have c1 := (Joins.cell_of_block XA.out.blk 1).trans (rfl : _ = some _)
        have r0 := (Joins.cell_of_block XA.out.res 0).trans (rfl : _ = some _)
        have r1 := (Joins.cell_of_block XA.out.res 1).trans (rfl : _ = some _)
        have y0 := Joins.unfrozen_of_block XA.out.res 0
        have y1 := Joins.unfrozen_of_block XA.out.res 1
        have BX2 : Hid (Below w.heap.size w ((w10.setCell ⟨w.heap.size, 0, none⟩ (.int .u64 ep)).setCell ⟨w.heap.size, 1, none⟩ (.slice q L.length c))) := ((XA.out.below.setCell (p := ⟨_, 0, none⟩) (by simp) _).setCell (p := ⟨_, 1, none⟩) (by simp) _)
        have hb9 : ((w10.setCell ⟨w.heap.size, 0, none⟩ (.int .u64 ep)).setCell ⟨w.heap.size, 1, none⟩ (.slice q L.length c)).heap[w.heap.size]? = some (.cells #[.int .u64 ep, .slice q L.length c] 67 (0, 0)) := Joins.block_setCell (Joins.block_setCell XA.out.res _) _
        have x0 := (Joins.cell_of_block hb9 0).trans (rfl : _ = some _)
        have x1 := (Joins.cell_of_block hb9 1).trans (rfl : _ = some _)
        have EE := Lib.hid (YES.out hmo _ q c ((DX2.out.twoF (u := .int .u64 ep) (v := .slice q L.length c)).mono PTx_ok (fun x hx => Nat.le_of_succ_le hx)) BX2.out)
        clear hb9 H1 H2 ho DX2 BX2 NO YES
        go_wp2_with fail
        have EF := EE.out
        rw [← LI.out] at EF
        refine bodyPost_ret (v := .tuple #[.agg #[.int .u64 ep, .slice q L.length c], .int .i64 0]) (by simp [results, Try.results24, go_sem, x0, x1]) rfl EF
end Go.Proofs.Ytonjkhhihiigfaa
namespace Go.Proofs.Ytonjkhhihiigfaa
set_option maxRecDepth 100000
open Go.RowKit

/-- What the document's Find answers. -/
def FdR (o : Option (Nat × Nat)) (w : World) (e : Ending) (w' : World) : Prop := e = .returned (.tuple #[.int .i64 (foB o), .int .i64 (foI o), .bool o.isSome]) ∧ Below w.heap.size w w'
theorem FdR.no {w W : World} (hb : Below w.heap.size w W) : FdR none w (.returned (.tuple #[.int .i64 0, .int .i64 0, .bool false])) W := ⟨rfl, hb⟩
theorem FdR.yes {w W : World} {b i : Nat} (hb : Below w.heap.size w W) : FdR (some (b, i)) w (.returned (.tuple #[.int .i64 (b : Int), .int .i64 (i : Int), .bool true])) W := ⟨rfl, hb⟩
set_option maxHeartbeats 8000000 in
theorem refFind_any {w : World} {F : Fp} {Ls : List Bk} {q : Option Addr} {c : Nat} {n k : Int} (hr : RwF 2 bk0 PBk w F q Ls) (ok : BksOk Ls) (hl : Ls.length ≤ 3000000000000) :
    Calls Try.prog 12 #[.slice q Ls.length c, .int .i64 n, .int .i64 k] w (FdR (fFind Ls n k) w) := by
  have H0 := Lib.hid hr
  have OK := Lib.hid ok
  have LL := Lib.hid hl
  have HF : Hid (fFind Ls n k = if wOk k = true ∧ 1 ≤ n ∧ n < Ls.length then fScan Ls n (n.toNat + 1) (min (n.toNat + k.toNat) Ls.length - n.toNat) else none) := rfl
  have NO := Lib.hid (fun (W : World) (hb : Below w.heap.size w W) => FdR.no hb)
  have YES := Lib.hid (fun (W : World) (b i : Nat) (hb : Below w.heap.size w W) => FdR.yes (b := b) (i := i) hb)
  have B0 : Hid (Below w.heap.size w w) := Below.refl _ _
  have KW := Lib.hid (fun (W : World) => refwindow_any k W)
  have HW : Hid (wOk k = decide (1 ≤ k ∧ k ≤ 64)) := rfl
  obtain ⟨o, ho⟩ : ∃ o, fFind Ls n k = o := ⟨_, rfl⟩
  rw [ho] at HF ⊢
  obtain ⟨wk, hwk⟩ : ∃ x, wOk k = x := ⟨_, rfl⟩
  rw [hwk] at HF KW HW
  clear hr ok hl ho hwk
  go_enter Try.func12, Try.ntmps12
  go_wp2_with fail
  refine (KW.out _).mono ?_
  rintro e wz ⟨rfl, hwz⟩
  obtain rfl := hwz.symm
  clear hwz
  cases wk with
  | false =>
    have ON : o = none := by rw [HF.out]; exact if_neg (fun h => by simp at h)
    subst ON
    clear HF YES
    go_wp2_with fail
    refine bodyPost_ret (v := .tuple #[.int .i64 0, .int .i64 0, .bool false]) (by simp [results, Try.results12, go_sem]) rfl (NO.out _ B0.out)
  | true =>
  have hk : 1 ≤ k ∧ k ≤ 64 := by simpa using HW.out.symm
  by_cases hn1 : n < 1
  · have d1 : decide (n < 1) = true := decide_eq_true hn1
    have ON : o = none := by rw [HF.out]; exact if_neg (fun h => by omega)
    subst ON
    clear HF YES
    go_wp2_with fail
    refine bodyPost_ret (v := .tuple #[.int .i64 0, .int .i64 0, .bool false]) (by simp [results, Try.results12, go_sem]) rfl (NO.out _ B0.out)
  have d1 : decide (n < 1) = false := decide_eq_false hn1
  by_cases hn2 : n > (Ls.length : Int)
  · have d2 : decide (n > (Ls.length : Int)) = true := decide_eq_true hn2
    have d2' : decide ((Ls.length : Int) < n) = true := decide_eq_true hn2
    have ON : o = none := by rw [HF.out]; exact if_neg (fun h => by omega)
    subst ON
    clear HF YES
    go_wp2_with fail
    refine bodyPost_ret (v := .tuple #[.int .i64 0, .int .i64 0, .bool false]) (by simp [results, Try.results12, go_sem]) rfl (NO.out _ B0.out)
  have d2 : decide (n > (Ls.length : Int)) = false := decide_eq_false hn2
  have d2' : decide ((Ls.length : Int) < n) = false := decide_eq_false hn2
  obtain ⟨m, rfl⟩ : ∃ m : Nat, n = m := ⟨n.toNat, by omega⟩
  obtain ⟨kk, rfl⟩ : ∃ x : Nat, k = x := ⟨k.toNat, by omega⟩
  obtain ⟨N, hN⟩ : ∃ N, min (m + kk) Ls.length = N := ⟨_, rfl⟩
  have HO : Hid (o = fScan Ls m (m + 1) (N - m)) := by
    show _ = _
    rw [HF.out]
    by_cases hm : (m : Int) < Ls.length
    · rw [if_pos ⟨rfl, by omega, hm⟩]
      simp only [Int.toNat_natCast, hN]
    · rw [if_neg (fun h => hm h.2.2), show N - m = 0 by omega]
      rfl
  have hl' := LL.out
  have hmN : m ≤ N := by omega
  have hNk : N ≤ m + kk := by omega
  have hNl : N ≤ Ls.length := by omega
  have HN : Hid (∀ b : Nat, N ≤ b → b + 1 ≤ m + kk → ¬ b + 1 ≤ Ls.length) := fun b h1 h2 h3 => by omega
  have wr1 : IntKind.i64.wrap ((m : Int) + 1) = (m : Int) + 1 := IntWalk.i64_in _ (by omega)
  have wmk : IntKind.i64.wrap ((m : Int) + (kk : Int)) = (m : Int) + (kk : Int) := IntWalk.i64_in _ (by omega)
  have um : IntKind.u64.wrap (m : Int) = (m : Int) := by rw [IntKind.wrap_u64]; omega
  have d2m : decide (Ls.length < m) = false := by rw [decide_eq_false_iff_not]; omega
  have d2n : ¬ Ls.length < m := by omega
  clear HF hN
  go_wp2_with fail
  clear wr1 d1 d2 d2' d2m d2n
  go_loopw [9, 10, 11, 12] (fun bv iv xv ev wr => ∃ (b : Nat), bv = .int .i64 ((b : Int) + 1) ∧ m ≤ b ∧ b ≤ N ∧ Hid (o = fScan Ls m (b + 1) (N - b)) ∧ Hid (Below w.heap.size w wr)) (fun bv _ _ _ _ => N + 1 - (intOf bv).toNat)
  case atStart => exact ⟨m, rfl, by omega, hmN, HO, B0⟩
  case round =>
    clear HO B0
    obtain ⟨b, rfl, hmb, hbN, hO, hB⟩ := hrel
    have wb1 : IntKind.i64.wrap ((b : Int) + 1 + 1) = (b : Int) + 1 + 1 := IntWalk.i64_in _ (by omega)
    have wb0 : IntKind.i64.wrap ((b : Int) + 1 - 1) = (b : Int) := by
      rw [show (b : Int) + 1 - 1 = (b : Int) by omega]; exact IntWalk.i64_in _ (by omega)
    by_cases hlt : b < N
    · have c1i : (b : Int) + 1 ≤ (m : Int) + (kk : Int) := by omega
      have c2i : (b : Int) + 1 ≤ (Ls.length : Int) := by omega
      have c1d : decide ((b : Int) + 1 ≤ (m : Int) + (kk : Int)) = true := decide_eq_true c1i
      have c2d : decide ((b : Int) + 1 ≤ (Ls.length : Int)) = true := decide_eq_true c2i
      have hbl : b < Ls.length := by omega
      obtain ⟨bb, off, r, hq, hFb, hr2, hrow, qd, kd, qb, kb, hre, hds, hbs⟩ := H0.out.get hbl
      subst hq hre
      have c1w := row_cell hrow hr2 (j := 1) (v := .slice qb (Ls.getD b bk0).bs.length kb) rfl
      have E1 := Lib.hid (fun (W : World) (hb : Below w.heap.size w W) => (hb.cell (lt_of_cell c1w)).trans c1w)
      have HBS := Lib.hid hbs
      have OKB := Lib.hid ((OK.out.get b).bs)
      have HBL := Lib.hid ((OK.out.get b).bl)
      have HSC : Hid (∀ i, fIn m (Ls.getD b bk0).bs = some i → o = some (b + 1, i)) := fun i h => by
        rw [hO.out, show N - b = (N - (b + 1)) + 1 by omega]
        exact fScan_hit h
      have HSN : Hid (fIn m (Ls.getD b bk0).bs = none → o = fScan Ls m (b + 1 + 1) (N - (b + 1))) := fun h => by
        rw [hO.out, show N - b = (N - (b + 1)) + 1 by omega]
        exact fScan_on h
      obtain ⟨bs, hbse⟩ : ∃ bs, (Ls.getD b bk0).bs = bs := ⟨_, rfl⟩
      rw [hbse] at E1 HBS OKB HSC HSN HBL
      clear hbs hds hrow hr2 hFb c1w hbse
      go_wp2_with fail
      clear c1i c2i c1d c2d
      go_loopw [10, 11, 12] (fun jv xv ev wr => ∃ (j : Nat), jv = .int .i64 (j : Int) ∧ j ≤ bs.length ∧ Hid (∀ j', j' < j → hit m (bs.getD j' []) = false) ∧ Hid (Below w.heap.size w wr)) (fun jv _ _ _ => bs.length - (intOf jv).toNat)
      case atStart => exact ⟨0, rfl, by omega, fun j hj => by omega, hB⟩
      case round =>
        clear hB
        obtain ⟨j, rfl, hjl, hJ, hB⟩ := hrel
        have e1 := E1.out _ hB.out
        by_cases hlj : j < bs.length
        · have HLJ := Lib.hid hlj
          have hbl6 := HBL.out
          obtain ⟨b2, off2, r2, hq2, _, hr3, hrow3, qx, kx, hre2, hxd⟩ := HBS.out.get hlj
          subst hq2 hre2
          have c3w := row_cell hrow3 hr3 (j := 0) (v := .slice qx (bs.getD j []).length kx) rfl
          rw [Nat.mul_one, Nat.add_zero] at c3w
          have cX := (hB.out.cell (lt_of_cell c3w)).trans c3w
          have HX := Lib.hid (hxd.rd.on hB.out)
          obtain ⟨bX, lX⟩ := OKB.out _ (getD_mem (d := []) hlj)
          have KG := Lib.hid (refGetBatch_any HX.out bX (by omega))
          unfold GbP at KG
          have HH : Hid (hit m (bs.getD j []) = ((bE (bs.getD j []) == 0) && (bGe (bs.getD j []) == (m : Int)))) := rfl
          have FND : Hid (hit m (bs.getD j []) = true → o = some (b + 1, j)) := fun h => HSC.out j (fIn_some hlj h hJ.out)
          have NXT : Hid (hit m (bs.getD j []) = false → ∀ j', j' < j + 1 → hit m (bs.getD j' []) = false) := fun h j' hj' => by
            by_cases h2 : j' < j
            · exact hJ.out j' h2
            · obtain rfl : j' = j := by omega
              exact h
          obtain ⟨X, hX⟩ : ∃ X, bs.getD j [] = X := ⟨_, rfl⟩
          rw [hX] at cX KG HH FND NXT
          obtain ⟨E, hE⟩ : ∃ E, bE X = E := ⟨_, rfl⟩
          obtain ⟨e0, he0⟩ : ∃ e0, bGe X = e0 := ⟨_, rfl⟩
          obtain ⟨Y, hY⟩ : ∃ Y, bGl X = Y := ⟨_, rfl⟩
          rw [hE, he0, hY] at KG
          rw [hE, he0] at HH
          clear hxd c3w hrow3 hr3 bX lX hX hE he0 hY HX hJ
          go_wp2_with fail
          clear cX e1
          refine KG.out.mono ?_
          rintro e w5 ⟨q5, k5, rfl, -, hb⟩
          have ba : Below w5.heap.size w5 (w5.alloc (.cells #[.int .u64 e0, .slice q5 Y.length k5] 67)) := (Below.refl _ _).alloc (Nat.le_refl _) _
          have hb3 := hb.trans (ba.mono hb.size)
          have K6 := Lib.hid (heap_alloc_new w5 (.cells #[.int .u64 e0, .slice q5 Y.length k5] 67))
          have B6 := Lib.hid (hB.out.trans (hb3.mono hB.out.size))
          clear hb ba hb3 hB KG
          go_upto_region 10 with fail
          obtain ⟨bx, hbx⟩ : ∃ b, w5.heap.size = b := ⟨_, rfl⟩
          rw [hbx] at K6 ⊢
          generalize w5.alloc (.cells #[.int .u64 e0, .slice q5 Y.length k5] 67) = w6 at *
          clear hbx
          cases hz : (E == 0) with
          | false =>
            go_wp2_with fail
            go_roundw
            case rel => exact ⟨j + 1, by go_num, by have := HLJ.out; omega, NXT.out (by rw [HH.out, hz]; rfl), B6⟩
            case measure => have := HLJ.out; simp [intOf]; omega
          | true =>
            have c0 := (Joins.cell_of_block K6.out 0).trans (rfl : _ = some _)
            cases hz2 : (e0 == (m : Int)) with
            | false =>
              go_wp2_with fail
              go_roundw
              case rel => exact ⟨j + 1, by go_num, by have := HLJ.out; omega, NXT.out (by rw [HH.out, hz, hz2]; rfl), B6⟩
              case measure => have := HLJ.out; simp [intOf]; omega
            | true =>
              have OS : Hid (o = some (b + 1, j)) := FND.out (by rw [HH.out, hz, hz2]; rfl)
              clear HH HSC HSN KW NO FND NXT
              obtain rfl := OS.out
              clear OS
              have EY := Lib.hid (YES.out _ (b + 1) j B6.out)
              clear YES
              go_wp2_with fail
              have EZ := EY.out
              push_cast at EZ
              refine bodyPost_ret (v := .tuple #[.int .i64 ((b : Int) + 1), .int .i64 (j : Int), .bool true]) (by simp [results, Try.results12, go_sem]) rfl EZ
        · obtain rfl : j = bs.length := by omega
          have HSS := Lib.hid (HSN.out (fIn_none hJ.out))
          have HLT := Lib.hid hlt
          have HMB := Lib.hid hmb
          clear HSC HSN hJ
          go_wp2_with fail
          go_roundw
          case rel => exact ⟨b + 1, by go_num, by have := HMB.out; omega, by have := HLT.out; omega, HSS, hB⟩
          case measure => have := HLT.out; simp [intOf]; omega
    · obtain rfl : b = N := by omega
      have ON : o = none := by rw [hO.out, Nat.sub_self]; rfl
      obtain rfl := ON
      by_cases hc1 : b + 1 ≤ m + kk
      · have hc2 := HN.out b (Nat.le_refl _) hc1
        have c1d : decide ((b : Int) + 1 ≤ (m : Int) + (kk : Int)) = true := decide_eq_true (by omega)
        have c2d : decide ((b : Int) + 1 ≤ (Ls.length : Int)) = false := decide_eq_false (by omega)
        clear YES hO
        go_wp2_with fail
        refine bodyPost_ret (v := .tuple #[.int .i64 0, .int .i64 0, .bool false]) (by simp [results, Try.results12, go_sem]) rfl (NO.out _ hB.out)
      · have c1d : decide ((b : Int) + 1 ≤ (m : Int) + (kk : Int)) = false := decide_eq_false (by omega)
        clear YES hO
        go_wp2_with fail
        refine bodyPost_ret (v := .tuple #[.int .i64 0, .int .i64 0, .bool false]) (by simp [results, Try.results12, go_sem]) rfl (NO.out _ hB.out)
end Go.Proofs.Ytonjkhhihiigfaa
