/-
  The document's GetBatch.
-/
import Derived.Test.YtonjkhhihiigfaaDv20
namespace Go.Proofs.Ytonjkhhihiigfaa
set_option maxRecDepth 100000
open Go.RowKit

theorem RdTx.twoR {w : World} {b n0 c0 : Nat} {x : Int} {q q0 : Option Addr} {L : List Tg} {u v : Value} (h : RdTx w q L) (hb : w.heap[b]? = some (.cells #[.int .u64 x, .slice q0 n0 c0] 67 (0, 0))) : RdTx ((w.setCell ⟨b, 0, none⟩ u).setCell ⟨b, 1, none⟩ v) q L := by
  have cs : Chg w ((w.setCell ⟨b, 0, none⟩ u).setCell ⟨b, 1, none⟩ v) [b] := ((Chg.refl w [b]).setCell (p := ⟨b, 0, none⟩) (.inl (by simp)) _).setCell (p := ⟨b, 1, none⟩) (.inl (by simp)) _
  have nb : ∀ {o : Nat} {z : Int}, ¬ w.cell? ⟨b, o, none⟩ = some (.int .u8 z) := fun {o z} e => by
    rw [Joins.cell_of_block hb] at e
    rcases o with _ | _ | o <;> simp at e
  rcases h with h | ⟨g, off, e, hx⟩
  · exact .inl h
  · refine .inr ⟨g, off, e, fun i hi => ?_⟩
    obtain ⟨qi, ki, h1, h2⟩ := hx i hi
    have hl : (rowOf w g (off + i * 10) 10).length = 10 := by rw [h1, txRow_len]
    have hg : g < w.heap.size := by
      unfold rowOf at hl
      cases e : w.heap[g]? with
      | none => rw [e] at hl; simp at hl
      | some y => exact (Array.getElem?_eq_some_iff.1 e).1
    have hgb : g ≠ b := fun e => by
      subst e
      rw [rowOf_block hb] at hl
      simp at hl
      omega
    refine ⟨qi, ki, ?_, h2.chg cs (fun hne k hk _ hm => ?_)⟩
    · rw [← h1]
      unfold rowOf
      rw [cs.block g hg (by simpa using hgb)]
    · obtain rfl : k = b := by simpa using hm
      obtain ⟨q', c', e', h'⟩ := h2
      obtain ⟨b', o', e2, hc⟩ := h'.resolve_left hne
      subst e2
      simp only [Value.slice.injEq] at e'
      obtain ⟨rfl, -, -⟩ := e'
      simp only [Value.ownBlock, Option.some.injEq] at hk
      have := hc 0 (List.length_pos_iff.2 hne)
      rw [hk] at this
      exact nb this
theorem src_txr {P : Program} {tx e' : TypeId} {w : World} {R : List Value} (hk : P.underlying tx = some (.slice e')) (hR : R.length = 10) (h1 : ∀ u ∈ R, u.oneCell' = true) : Src P 10 tx (.slice (some ⟨w.heap.size, 0, none⟩) 1 1) 1 R (w.alloc (.cells R.toArray 84)) := by
  refine Src.ofSlice _ hk _ _ _ _ (by rw [hR]) (fun j u hu => ?_) h1
  rw [addr_add, Joins.cell_of_block (heap_alloc_new w (.cells R.toArray 84)), Nat.zero_add]
  simpa using hu
@[go_sem ↓] theorem Try.slice_txr (ps : Array (Nat × Value)) : Instr.buildSlice 65 1 ps = rowNew 65 ps := rfl
theorem Try.run_slice_txr (w : World) (R : List Value) (hR : R.length = 10) :
    (rowNew 65 #[(0, .agg R.toArray)]).run Try.prog w = .ok (.slice (some ⟨w.heap.size, 0, none⟩) 1 1) (w.alloc (.cells R.toArray 84)) :=
  run_bs_one w Try.underlying65 (by kernel_rfl) (Try.zero_txr w) (n := 10) (by decide) (by decide) hR
theorem Try.infoTxr : (Try.prog.info? 84).map (fun i => (i.zero, i.size, i.bytes)) = some (some (.agg (txRow tg0 none 0 0).toArray), 10, 96) := by kernel_rfl
theorem uM_ok {xs : List Int} (hx : Bytes xs) (p : Nat) (f : Bool) : (uM xs p f).ok := by
  have h0 := uV_bd hx (u1 xs p f) p
  refine ⟨?_, uV_bd hx _ _, uV_bd hx _ _, uV_bd hx _ _, wV_ok hx _ _, uV_bd hx _ _, bD_bytes hx _ _⟩
  have h9 : uV (u1 xs p f) xs p ≤ 9 := by
    cases h : u1 xs p f with
    | true =>
      show (0 : Int) ≤ 9
      decide
    | false =>
      have h2 : ¬ (9 : Int) < nAt xs p := fun h3 => by simp [u1, fC, h3] at h
      have : uV false xs p = nAt xs p := rfl
      omega
  have e : (uM xs p f).kd = uV (u1 xs p f) xs p := rfl
  omega
theorem rIt_ok {xs : List Int} (hx : Bytes xs) : ∀ i, TgsOk (rIt xs i).1
  | 0 => fun t ht => by simp [rIt] at ht
  | i + 1 => fun t ht => by
    simp only [rIt] at ht
    rcases List.mem_append.1 ht with h | h
    · exact rIt_ok hx i t h
    · obtain rfl := List.mem_singleton.1 h
      have : (uM xs (rIt xs i).2.1 (rIt xs i).2.2).data.length ≤ 65536 := bD_len (u6 xs (rIt xs i).2.1 (rIt xs i).2.2) xs _ (.inr trivial)
      exact ⟨uM_ok hx _ _, by omega⟩
theorem DSt.errT {w : World} {p pos : Nat} {v : Value} {xs : List Int} {f : Bool} (h : DSt w p v xs pos f) : ∃ z : Int, w.cell? ⟨p, 2, none⟩ = some (.int .i64 z) ∧ (z == 0) = !f := by
  cases f with
  | false => exact ⟨0, (Joins.cell_of_block (h.ok rfl).blk 2).trans (rfl : _ = some _), rfl⟩
  | true =>
    obtain ⟨_, _, z, hz, e⟩ := h.bad rfl
    exact ⟨z, (Joins.cell_of_block e 2).trans (rfl : _ = some _), by simpa using hz⟩

set_option maxHeartbeats 8000000 in
theorem refGetBatch_any {w : World} {vb : Value} {xs : List Int} (hr : Rd w vb xs) (hx : Bytes xs) (hl : xs.length ≤ 140737488355328) :
    Calls Try.prog 24 #[vb] w (GbP xs w) := by
  obtain ⟨i0, hi, hz0, hz1, hz2⟩ := info_parts Try.infoTxr
  replace hi := Lib.hid hi
  replace hz0 := Lib.hid hz0
  replace hz1 := Lib.hid hz1
  replace hz2 := Lib.hid hz2
  have b1 : Below w.heap.size w (w.alloc (.cells #[.int .u64 0, .slice none 0 0] 67)) := (Below.refl _ _).alloc (Nat.le_refl _) _
  have B0 := Lib.hid b1
  have R0 : Hid ((w.alloc (.cells #[.int .u64 0, .slice none 0 0] 67)).heap[w.heap.size]? = some (.cells #[.int .u64 0, .slice none 0 0] 67 (0, 0))) := heap_alloc_new w (.cells #[.int .u64 0, .slice none 0 0] 67)
  have KN := Lib.hid (rdNew_any (hr.on b1) hl)
  have BX := Lib.hid hx
  have SZ : Hid ((w.alloc (.cells #[.int .u64 0, .slice none 0 0] 67)).heap.size = w.heap.size + 1) := by show _ = _; simp
  have HEP : uV (fU false xs 0 8) xs 0 = bEp xs := rfl
  have HBN : uV (fC (fU false xs 0 8) xs (0 + 8) 8) xs (0 + 8) = (bN xs : Int) := (bN_le hx).2
  have n8 := (bN_le hx).1
  have NO := Lib.hid (fun (h : bOk xs = false) (W : World) (hb : Below w.heap.size w W) => GbP.no h hb)
  have YES := Lib.hid (fun (h : bOk xs = true) (W : World) (q : Option Addr) (c : Nat) (hr : RdTx W q (bIt xs (bN xs)).1) (hb : Below w.heap.size w W) => GbP.yes (c := c) h hr hb)
  have BAD := Lib.hid (fun (i : Nat) (h : (rIt xs i).2.2 = true) (hi : i ≤ bN xs) => two_bad h hi)
  have TWO := Lib.hid (fun (h : (rIt xs (bN xs)).2.2 = false) => two_end h)
  have OKL := Lib.hid (fun i => rIt_ok hx i)
  obtain ⟨QP, hQP⟩ : ∃ QP, GbP xs w = QP := ⟨_, rfl⟩
  rw [hQP] at NO YES ⊢
  obtain ⟨ep, hep⟩ : ∃ ep, bEp xs = ep := ⟨_, rfl⟩
  rw [hep] at YES HEP
  obtain ⟨n, hn⟩ : ∃ n, bN xs = n := ⟨_, rfl⟩
  rw [hn] at YES HBN BAD TWO n8
  obtain ⟨mo, hmo⟩ : ∃ mo, bOk xs = mo := ⟨_, rfl⟩
  rw [hmo] at NO YES BAD TWO
  have HEP' := Lib.hid HEP
  have HBN' := Lib.hid HBN
  obtain ⟨qv, cv, rfl⟩ := hr.len
  clear hr hx b1 hQP hep hn hmo HEP HBN
  go_enter Try.func24, Try.ntmps24
  go_wp2_with fail
  generalize w.alloc (.cells #[.int .u64 0, .slice none 0 0] 67) = w0 at *
  refine KN.out.mono ?_
  rintro e w1 ⟨p, v1, rfl, hV, hp, hb1, -⟩
  have S1 := Lib.hid (DSt.mk0 hV)
  have R1 : Hid (w1.heap[w.heap.size]? = some (.cells #[.int .u64 0, .slice none 0 0] 67 (0, 0))) := by show _ = _; rw [hb1.block _ (Array.getElem?_eq_some_iff.1 R0.out).1]; exact R0.out
  have B1 := Lib.hid (B0.out.trans (hb1.mono B0.out.size))
  have hwp : Hid (w.heap.size < p) := by have := SZ.out; show _ < _; omega
  clear hV hb1 KN R0 B0 hp SZ
  go_wp2_with fail
  refine (rdUint_st S1.out BX.out).mono ?_
  rintro e w2 ⟨rfl, hs, hc⟩
  rw [HEP'.out]
  have hpl := hs.lt
  have R2 : w2.heap[w.heap.size]? = some (.cells #[.int .u64 0, .slice none 0 0] 67 (0, 0)) := by rw [hc.block _ (Array.getElem?_eq_some_iff.1 R1.out).1 (by have := hwp.out; simp; omega)]; exact R1.out
  have B2 := B1.out.trans (hc.toBelow B1.out.size (fun g hg => by have := hwp.out; simp at hg; omega))
  have ba : Below w2.heap.size w2 (w2.alloc (.cells #[.int .u64 ep, .slice none 0 0] 67)) := (Below.refl _ _).alloc (Nat.le_refl _) _
  have X2 : Hid (RxS w (w2.alloc (.cells #[.int .u64 ep, .slice none 0 0] 67)) p w2.heap.size v1 xs ep (0 + 8) (fU false xs 0 8) none 0 [] []) :=
    ⟨hs.on ba, heap_alloc_new w2 _, by rw [ba.block _ (Array.getElem?_eq_some_iff.1 R2).1]; exact R2, World.ownsRow_nil _ 0 _ 10, rfl, fun j hj => by simp at hj, by simp [Value.ownBlock], B2.trans (ba.mono B2.size), hwp.out, hpl⟩
  clear hs hc R1 S1 B1 R2 B2 ba hpl
  go_wp2_with fail
  obtain ⟨b, hbe⟩ : ∃ b, w2.heap.size = b := ⟨_, rfl⟩
  rw [hbe] at X2 ⊢
  generalize w2.alloc (.cells #[.int .u64 ep, .slice none 0 0] 67) = w3 at *
  clear hbe
  refine (rdCount_det X2.out.rd BX.out (most := 8) (by omega)).mono ?_
  rintro e w4 ⟨rfl, hs, hc⟩
  rw [HBN'.out]
  have X4 : Hid (RxS w w4 p b v1 xs ep (rIt xs 0).2.1 (rIt xs 0).2.2 none 0 (rIt xs 0).1 []) := X2.out.chg hc hs X2.out.offp
  clear hs hc X2 HEP' HBN'
  go_wp2_with fail
  go_loopw [7] (fun iv wr => ∃ (i : Nat) (q : Option Addr) (c : Nat) (done : List Value), iv = .int .i64 (i : Int) ∧ i ≤ n ∧ Hid (RxS w wr p b v1 xs ep (rIt xs i).2.1 (rIt xs i).2.2 q c (rIt xs i).1 done)) (fun iv _ => n - (intOf iv).toNat)
  case atStart => exact ⟨0, none, 0, [], rfl, by omega, X4⟩
  case round =>
    clear X4
    obtain ⟨i, q, c, done, rfl, hin, hX⟩ := hrel
    obtain ⟨z, c2, hz⟩ := hX.out.rd.errT
    by_cases hlt : i < n
    · cases hf : (rIt xs i).2.2 with
      | true =>
        have hE := Lib.hid (BAD.out i hf (by omega))
        rw [hf] at hX hz
        have hz' : (z == 0) = false := hz
        clear hz
        go_wp2_with fail
        clear c2 hz'
        refine (rdDone_st hX.out.rd).mono ?_
        rintro e w9 ⟨zd, mm, rfl, rfl, hzd⟩
        have hz1' : (zd != 0) = true := by
          have : zd ≠ 0 := fun e => by have := (hzd.1 e).1; cases this
          simpa using this
        have X9 : Hid (RxS w (wr.drewN mm) p b v1 xs ep (rIt xs i).2.1 true q c (rIt xs i).1 done) := hX.out.on (below_drewN (Below.refl _ _) mm)
        have EE := Lib.hid (NO.out hE.out)
        clear hzd hX
        generalize wr.drewN mm = w9 at *
        have r0 := (Joins.cell_of_block X9.out.res 0).trans (rfl : _ = some _)
        have r1 := (Joins.cell_of_block X9.out.res 1).trans (rfl : _ = some _)
        have y0 := Joins.unfrozen_of_block X9.out.res 0
        have y1 := Joins.unfrozen_of_block X9.out.res 1
        have BX2 : Hid (Below w.heap.size w ((w9.setCell ⟨w.heap.size, 0, none⟩ (.int .u64 0)).setCell ⟨w.heap.size, 1, none⟩ (.slice none 0 0))) := ((X9.out.below.setCell (p := ⟨_, 0, none⟩) (by simp) _).setCell (p := ⟨_, 1, none⟩) (by simp) _)
        have hb9 : ((w9.setCell ⟨w.heap.size, 0, none⟩ (.int .u64 0)).setCell ⟨w.heap.size, 1, none⟩ (.slice none 0 0)).heap[w.heap.size]? = some (.cells #[.int .u64 0, .slice none 0 0] 67 (0, 0)) := Joins.block_setCell (Joins.block_setCell X9.out.res _) _
        have x0 := (Joins.cell_of_block hb9 0).trans (rfl : _ = some _)
        have x1 := (Joins.cell_of_block hb9 1).trans (rfl : _ = some _)
        clear hb9
        go_wp2_with fail
        refine bodyPost_ret (v := .tuple #[.agg #[.int .u64 0, .slice none 0 0], .int .i64 21]) (by simp [results, Try.results24, go_sem, x0, x1]) rfl (EE.out _ BX2.out)
      | false =>
        rw [hf] at hX hz
        have hz' : (z == 0) = true := hz
        obtain rfl : z = 0 := by simpa using hz'
        have HS : Hid (rIt xs (i + 1) = ((rIt xs i).1 ++ [uM xs (rIt xs i).2.1 false], uE xs (rIt xs i).2.1 false, u7 xs (rIt xs i).2.1 false)) := by
          show _ = _
          simp only [rIt, hf]
        have LNi : Hid ((rIt xs i).1.length = i) := rIt_len xs i
        clear hz hz' hf
        go_wp2_with fail
        clear c2
        obtain ⟨pos, hpos⟩ : ∃ pos, (rIt xs i).2.1 = pos := ⟨_, rfl⟩
        obtain ⟨L, hL⟩ : ∃ L, (rIt xs i).1 = L := ⟨_, rfl⟩
        rw [hpos, hL] at hX HS
        rw [hL] at LNi
        have XD : Hid (RxS w wr.drew p b v1 xs ep pos false q c L done) := hX.out.on ((Below.refl _ _).drew)
        clear hX hpos hL
        refine wp_region_held_drew (S := fun _ => True) (by kernel_rfl) (trivial) (fun h0 => ?_)
        generalize wr.drew = w5 at *
        refine wpAnyH_take (i := 0) (v := ?_) (by rw [List.getElem?_toArray]; rfl) (by kernel_rfl) (by kernel_rfl) (by kernel_rfl) (by exact fun _ _ _ h => h) (Or.inl ⟨by rfl, ?_⟩) h0 ?_
        rotate_left
        · intro W hW
          go_simp
          all_goals with_reducible rfl
        try simp only [Act.put, List.setIfInBounds_toArray, List.set_cons_zero, List.set_cons_succ]
        refine wpAnyH_take (i := 2) (v := ?_) (by rw [List.getElem?_toArray]; rfl) (by kernel_rfl) (by kernel_rfl) (by kernel_rfl) (by exact fun _ _ _ h => h) (Or.inl ⟨by rfl, ?_⟩) h0 ?_
        rotate_left
        · intro W hW
          go_simp
          all_goals with_reducible rfl
        try simp only [Act.put, List.setIfInBounds_toArray, List.set_cons_zero, List.set_cons_succ]
        refine wpAnyH_ready (rs := [1, 3]) (by kernel_rfl) (by simp) ?_
        refine AllReadyH.cons (by rw [List.getElem?_toArray]; rfl) (fun K hK => ?_) (AllReadyH.cons (by rw [List.getElem?_toArray]; rfl) (fun K hK => ?_) AllReadyH.nil)
        · rw [if_pos (by rfl)]
          have c1 := (Joins.cell_of_block XD.out.blk 1).trans (rfl : _ = some _)
          go_wp2_with fail
          clear c1
          refine hK.out _ _ trivial (fun _ => ?_)
          clear hK K
          try simp only [Act.put, List.setIfInBounds_toArray, List.set_cons_zero, List.set_cons_succ]
          refine wpAnyH_ready (rs := [3]) (by kernel_rfl) (by simp) ?_
          refine AllReadyH.cons (by rw [List.getElem?_toArray]; rfl) (fun K hK => ?_) AllReadyH.nil
          rw [if_pos (by rfl)]
          go_wp2_with fail
          refine (reftx_any XD.out.rd BX.out).mono ?_
          rintro e w6 ⟨qi, ki, rfl, hV, hd, hfr, hc⟩
          have X6 := Lib.hid (XD.out.chg hc hV XD.out.offp)
          obtain ⟨t, ht⟩ : ∃ t, uM xs pos false = t := ⟨_, rfl⟩
          rw [ht] at hd hfr HS ⊢
          have D6 := Lib.hid hd
          have F6 : Hid (∀ g, t.data ≠ [] → (Value.slice qi t.data.length ki).ownBlock = some g → b < g ∧ (Value.slice q L.length c).ownBlock ≠ some g) := fun g _ hg => by
            have h1 := hfr g hg
            have h2 := (Array.getElem?_eq_some_iff.1 XD.out.blk).1
            exact ⟨by omega, fun e => by have := own_lt XD.out.own e; omega⟩
          have hRl := txRow_len t qi t.data.length ki
          have hRo := Lib.hid (txRow_one t qi t.data.length ki)
          obtain ⟨R, hR⟩ : ∃ R, txRow t qi t.data.length ki = R := ⟨_, rfl⟩
          have HR := Lib.hid hR
          rw [hR] at hRl hRo ⊢
          clear hR
          clear hV hd hfr hc ht XD
          go_wp2_with fail
          refine hK.out _ _ trivial (fun _ => ?_)
          clear hK K
          try simp only [Act.put, List.setIfInBounds_toArray, List.set_cons_zero, List.set_cons_succ]
          refine wpAnyH_ready (rs := [4]) (by kernel_rfl) (by simp) ?_
          refine AllReadyH.cons (by rw [List.getElem?_toArray]; rfl) (fun K hK => ?_) AllReadyH.nil
          rw [if_pos (by rfl)]
          have hsl := Try.run_slice_txr w6 R hRl
          have ba : Below w6.heap.size w6 (w6.alloc (.cells R.toArray 84)) := (Below.refl _ _).alloc (Nat.le_refl _) _
          have X7 := Lib.hid (X6.out.on ba)
          have D7 := Lib.hid (D6.out.on ba)
          have SR := Lib.hid (src_txr (P := Try.prog) (w := w6) Try.underlying65 hRl hRo.out)
          clear ba X6 D6
          go_wp2_with fail
          clear hsl
          generalize w6.alloc (.cells R.toArray 84) = w7 at *
          have OW7 := Lib.hid X7.out.own
          refine hK.out _ _ trivial (fun _ => ?_)
          clear hK K
          try simp only [Act.put, List.setIfInBounds_toArray, List.set_cons_zero, List.set_cons_succ]
          refine wpAnyH_ready (rs := [5]) (by kernel_rfl) (by simp) ?_
          refine AllReadyH.cons (by rw [List.getElem?_toArray]; rfl) (fun K hK => ?_) AllReadyH.nil
          rw [if_pos (by rfl)]
          refine wp_append_row _ _ rfl Try.underlying65 hi.out hz0.out hz1.out hz2.out tx0_cells OW7.out SR.out (by have := LNi.out; unfold maxLen; omega) (by have := LNi.out; omega) ?_
          intro q8 k8 w8 own8 grow8 fr8
          rw [← HR.out] at own8
          have X9 := Lib.hid (X7.out.push D7.out F6.out own8 grow8 fr8)
          have B8 : Hid (w8.heap[b]? = some (.cells #[.int .u64 ep, .slice q L.length c] 67 (0, 0))) := by
            show _ = _
            rw [grow8.block b (Array.getElem?_eq_some_iff.1 X7.out.blk).1 (fun e => own_ne X7.out.own X7.out.blk (by decide) e.symm)]
            exact X7.out.blk
          clear own8 grow8 fr8 X7 D7 F6 SR OW7 HR
          refine hK.out _ _ trivial (fun _ => ?_)
          clear hK K
          try simp only [Act.put, List.setIfInBounds_toArray, List.set_cons_zero, List.set_cons_succ]
          refine wpAnyH_take (i := 6) (v := ?_) (by rw [List.getElem?_toArray]; rfl) (by kernel_rfl) (by kernel_rfl) (by kernel_rfl) (by exact fun _ _ _ h => h) (Or.inl ⟨by rfl, ?_⟩) h0 ?_
          rotate_left
          · intro W hW
            go_simp
            all_goals with_reducible rfl
          try simp only [Act.put, List.setIfInBounds_toArray, List.set_cons_zero, List.set_cons_succ]
          refine wpAnyH_ready (rs := [7]) (by kernel_rfl) (by simp) ?_
          refine AllReadyH.cons (by rw [List.getElem?_toArray]; rfl) (fun K hK => ?_) AllReadyH.nil
          rw [if_pos (by rfl)]
          have c1 := (Joins.cell_of_block B8.out 1).trans (rfl : _ = some _)
          have y1 := Joins.unfrozen_of_block B8.out 1
          go_wp2_with fail
          clear c1 y1
          refine hK.out _ _ trivial (fun _ => ?_)
          clear hK K
          try simp only [Act.put, List.setIfInBounds_toArray, List.set_cons_zero, List.set_cons_succ]
          refine wpAnyH_done (by kernel_rfl) ?_ _
          go_wp2_with fail
          go_roundw
          case rel => exact ⟨i + 1, q8, k8, _, by go_num, by omega, by rw [HS.out]; exact X9⟩
          case measure => simp [intOf]; omega
        · rw [if_pos (by rfl)]
          go_wp2_with fail
          refine (reftx_any XD.out.rd BX.out).mono ?_
          rintro e w6 ⟨qi, ki, rfl, hV, hd, hfr, hc⟩
          have X6 := Lib.hid (XD.out.chg hc hV XD.out.offp)
          obtain ⟨t, ht⟩ : ∃ t, uM xs pos false = t := ⟨_, rfl⟩
          rw [ht] at hd hfr HS ⊢
          have D6 := Lib.hid hd
          have F6 : Hid (∀ g, t.data ≠ [] → (Value.slice qi t.data.length ki).ownBlock = some g → b < g ∧ (Value.slice q L.length c).ownBlock ≠ some g) := fun g _ hg => by
            have h1 := hfr g hg
            have h2 := (Array.getElem?_eq_some_iff.1 XD.out.blk).1
            exact ⟨by omega, fun e => by have := own_lt XD.out.own e; omega⟩
          have hRl := txRow_len t qi t.data.length ki
          have hRo := Lib.hid (txRow_one t qi t.data.length ki)
          obtain ⟨R, hR⟩ : ∃ R, txRow t qi t.data.length ki = R := ⟨_, rfl⟩
          have HR := Lib.hid hR
          rw [hR] at hRl hRo ⊢
          clear hR
          clear hV hd hfr hc ht XD
          go_wp2_with fail
          refine hK.out _ _ trivial (fun _ => ?_)
          clear hK K
          try simp only [Act.put, List.setIfInBounds_toArray, List.set_cons_zero, List.set_cons_succ]
          refine wpAnyH_ready (rs := [1, 4]) (by kernel_rfl) (by simp) ?_
          refine AllReadyH.cons (by rw [List.getElem?_toArray]; rfl) (fun K hK => ?_) (AllReadyH.cons (by rw [List.getElem?_toArray]; rfl) (fun K hK => ?_) AllReadyH.nil)
          · rw [if_pos (by rfl)]
            have c1 := (Joins.cell_of_block X6.out.blk 1).trans (rfl : _ = some _)
            go_wp2_with fail
            clear c1
            refine hK.out _ _ trivial (fun _ => ?_)
            clear hK K
            try simp only [Act.put, List.setIfInBounds_toArray, List.set_cons_zero, List.set_cons_succ]
            refine wpAnyH_ready (rs := [4]) (by kernel_rfl) (by simp) ?_
            refine AllReadyH.cons (by rw [List.getElem?_toArray]; rfl) (fun K hK => ?_) AllReadyH.nil
            rw [if_pos (by rfl)]
            have hsl := Try.run_slice_txr w6 R hRl
            have ba : Below w6.heap.size w6 (w6.alloc (.cells R.toArray 84)) := (Below.refl _ _).alloc (Nat.le_refl _) _
            have X7 := Lib.hid (X6.out.on ba)
            have D7 := Lib.hid (D6.out.on ba)
            have SR := Lib.hid (src_txr (P := Try.prog) (w := w6) Try.underlying65 hRl hRo.out)
            clear ba X6 D6
            go_wp2_with fail
            clear hsl
            generalize w6.alloc (.cells R.toArray 84) = w7 at *
            have OW7 := Lib.hid X7.out.own
            refine hK.out _ _ trivial (fun _ => ?_)
            clear hK K
            try simp only [Act.put, List.setIfInBounds_toArray, List.set_cons_zero, List.set_cons_succ]
            refine wpAnyH_ready (rs := [5]) (by kernel_rfl) (by simp) ?_
            refine AllReadyH.cons (by rw [List.getElem?_toArray]; rfl) (fun K hK => ?_) AllReadyH.nil
            rw [if_pos (by rfl)]
            refine wp_append_row _ _ rfl Try.underlying65 hi.out hz0.out hz1.out hz2.out tx0_cells OW7.out SR.out (by have := LNi.out; unfold maxLen; omega) (by have := LNi.out; omega) ?_
            intro q8 k8 w8 own8 grow8 fr8
            rw [← HR.out] at own8
            have X9 := Lib.hid (X7.out.push D7.out F6.out own8 grow8 fr8)
            have B8 : Hid (w8.heap[b]? = some (.cells #[.int .u64 ep, .slice q L.length c] 67 (0, 0))) := by
              show _ = _
              rw [grow8.block b (Array.getElem?_eq_some_iff.1 X7.out.blk).1 (fun e => own_ne X7.out.own X7.out.blk (by decide) e.symm)]
              exact X7.out.blk
            clear own8 grow8 fr8 X7 D7 F6 SR OW7 HR
            refine hK.out _ _ trivial (fun _ => ?_)
            clear hK K
            try simp only [Act.put, List.setIfInBounds_toArray, List.set_cons_zero, List.set_cons_succ]
            refine wpAnyH_take (i := 6) (v := ?_) (by rw [List.getElem?_toArray]; rfl) (by kernel_rfl) (by kernel_rfl) (by kernel_rfl) (by exact fun _ _ _ h => h) (Or.inl ⟨by rfl, ?_⟩) h0 ?_
            rotate_left
            · intro W hW
              go_simp
              all_goals with_reducible rfl
            try simp only [Act.put, List.setIfInBounds_toArray, List.set_cons_zero, List.set_cons_succ]
            refine wpAnyH_ready (rs := [7]) (by kernel_rfl) (by simp) ?_
            refine AllReadyH.cons (by rw [List.getElem?_toArray]; rfl) (fun K hK => ?_) AllReadyH.nil
            rw [if_pos (by rfl)]
            have c1 := (Joins.cell_of_block B8.out 1).trans (rfl : _ = some _)
            have y1 := Joins.unfrozen_of_block B8.out 1
            go_wp2_with fail
            clear c1 y1
            refine hK.out _ _ trivial (fun _ => ?_)
            clear hK K
            try simp only [Act.put, List.setIfInBounds_toArray, List.set_cons_zero, List.set_cons_succ]
            refine wpAnyH_done (by kernel_rfl) ?_ _
            go_wp2_with fail
            go_roundw
            case rel => exact ⟨i + 1, q8, k8, _, by go_num, by omega, by rw [HS.out]; exact X9⟩
            case measure => simp [intOf]; omega
          · rw [if_pos (by rfl)]
            have hsl := Try.run_slice_txr w6 R hRl
            have ba : Below w6.heap.size w6 (w6.alloc (.cells R.toArray 84)) := (Below.refl _ _).alloc (Nat.le_refl _) _
            have X7 := Lib.hid (X6.out.on ba)
            have D7 := Lib.hid (D6.out.on ba)
            have SR := Lib.hid (src_txr (P := Try.prog) (w := w6) Try.underlying65 hRl hRo.out)
            clear ba X6 D6
            go_wp2_with fail
            clear hsl
            generalize w6.alloc (.cells R.toArray 84) = w7 at *
            have OW7 := Lib.hid X7.out.own
            refine hK.out _ _ trivial (fun _ => ?_)
            clear hK K
            try simp only [Act.put, List.setIfInBounds_toArray, List.set_cons_zero, List.set_cons_succ]
            refine wpAnyH_ready (rs := [1]) (by kernel_rfl) (by simp) ?_
            refine AllReadyH.cons (by rw [List.getElem?_toArray]; rfl) (fun K hK => ?_) AllReadyH.nil
            rw [if_pos (by rfl)]
            have c1 := (Joins.cell_of_block X7.out.blk 1).trans (rfl : _ = some _)
            go_wp2_with fail
            clear c1
            refine hK.out _ _ trivial (fun _ => ?_)
            clear hK K
            try simp only [Act.put, List.setIfInBounds_toArray, List.set_cons_zero, List.set_cons_succ]
            refine wpAnyH_ready (rs := [5]) (by kernel_rfl) (by simp) ?_
            refine AllReadyH.cons (by rw [List.getElem?_toArray]; rfl) (fun K hK => ?_) AllReadyH.nil
            rw [if_pos (by rfl)]
            refine wp_append_row _ _ rfl Try.underlying65 hi.out hz0.out hz1.out hz2.out tx0_cells OW7.out SR.out (by have := LNi.out; unfold maxLen; omega) (by have := LNi.out; omega) ?_
            intro q8 k8 w8 own8 grow8 fr8
            rw [← HR.out] at own8
            have X9 := Lib.hid (X7.out.push D7.out F6.out own8 grow8 fr8)
            have B8 : Hid (w8.heap[b]? = some (.cells #[.int .u64 ep, .slice q L.length c] 67 (0, 0))) := by
              show _ = _
              rw [grow8.block b (Array.getElem?_eq_some_iff.1 X7.out.blk).1 (fun e => own_ne X7.out.own X7.out.blk (by decide) e.symm)]
              exact X7.out.blk
            clear own8 grow8 fr8 X7 D7 F6 SR OW7 HR
            refine hK.out _ _ trivial (fun _ => ?_)
            clear hK K
            try simp only [Act.put, List.setIfInBounds_toArray, List.set_cons_zero, List.set_cons_succ]
            refine wpAnyH_take (i := 6) (v := ?_) (by rw [List.getElem?_toArray]; rfl) (by kernel_rfl) (by kernel_rfl) (by kernel_rfl) (by exact fun _ _ _ h => h) (Or.inl ⟨by rfl, ?_⟩) h0 ?_
            rotate_left
            · intro W hW
              go_simp
              all_goals with_reducible rfl
            try simp only [Act.put, List.setIfInBounds_toArray, List.set_cons_zero, List.set_cons_succ]
            refine wpAnyH_ready (rs := [7]) (by kernel_rfl) (by simp) ?_
            refine AllReadyH.cons (by rw [List.getElem?_toArray]; rfl) (fun K hK => ?_) AllReadyH.nil
            rw [if_pos (by rfl)]
            have c1 := (Joins.cell_of_block B8.out 1).trans (rfl : _ = some _)
            have y1 := Joins.unfrozen_of_block B8.out 1
            go_wp2_with fail
            clear c1 y1
            refine hK.out _ _ trivial (fun _ => ?_)
            clear hK K
            try simp only [Act.put, List.setIfInBounds_toArray, List.set_cons_zero, List.set_cons_succ]
            refine wpAnyH_done (by kernel_rfl) ?_ _
            go_wp2_with fail
            go_roundw
            case rel => exact ⟨i + 1, q8, k8, _, by go_num, by omega, by rw [HS.out]; exact X9⟩
            case measure => simp [intOf]; omega
    · obtain rfl : i = n := by omega
      go_wp2_with fail
      clear c2 hz
      refine (rdDone_st hX.out.rd).mono ?_
      rintro e w9 ⟨zd, mm, rfl, rfl, hzd⟩
      have X9 : Hid (RxS w (wr.drewN mm) p b v1 xs ep (rIt xs i).2.1 (rIt xs i).2.2 q c (rIt xs i).1 done) := hX.out.on (below_drewN (Below.refl _ _) mm)
      clear hX
      generalize wr.drewN mm = w9 at *
      by_cases hzz : zd = 0
      rotate_left
      · have hz1' : (zd != 0) = true := by simpa using hzz
        have EE : Hid (∀ W, Below w.heap.size w W → QP (.returned (.tuple #[.agg #[.int .u64 0, .slice none 0 0], .int .i64 21])) W) := NO.out (by
          cases hf : (rIt xs i).2.2 with
          | true => exact BAD.out i hf (Nat.le_refl _)
          | false =>
            have h1 := (TWO.out hf).1
            have h2 : ¬ (rIt xs i).2.1 = xs.length := fun e => hzz (hzd.2 ⟨hf, e⟩)
            rw [h1, decide_eq_false h2]; rfl)
        clear hzd hzz
        have r0 := (Joins.cell_of_block X9.out.res 0).trans (rfl : _ = some _)
        have r1 := (Joins.cell_of_block X9.out.res 1).trans (rfl : _ = some _)
        have y0 := Joins.unfrozen_of_block X9.out.res 0
        have y1 := Joins.unfrozen_of_block X9.out.res 1
        have BX2 : Hid (Below w.heap.size w ((w9.setCell ⟨w.heap.size, 0, none⟩ (.int .u64 0)).setCell ⟨w.heap.size, 1, none⟩ (.slice none 0 0))) := ((X9.out.below.setCell (p := ⟨_, 0, none⟩) (by simp) _).setCell (p := ⟨_, 1, none⟩) (by simp) _)
        have hb9 : ((w9.setCell ⟨w.heap.size, 0, none⟩ (.int .u64 0)).setCell ⟨w.heap.size, 1, none⟩ (.slice none 0 0)).heap[w.heap.size]? = some (.cells #[.int .u64 0, .slice none 0 0] 67 (0, 0)) := Joins.block_setCell (Joins.block_setCell X9.out.res _) _
        have x0 := (Joins.cell_of_block hb9 0).trans (rfl : _ = some _)
        have x1 := (Joins.cell_of_block hb9 1).trans (rfl : _ = some _)
        clear hb9
        go_wp2_with fail
        refine bodyPost_ret (v := .tuple #[.agg #[.int .u64 0, .slice none 0 0], .int .i64 21]) (by simp [results, Try.results24, go_sem, x0, x1]) rfl (EE.out _ BX2.out)
      have hf := (hzd.1 hzz).1
      have he := (hzd.1 hzz).2
      obtain ⟨h1, h2⟩ := TWO.out hf
      rw [decide_eq_true he, Bool.true_and] at h1
      have H1 := Lib.hid h1
      have H2 := Lib.hid h2
      subst hzz
      have LI : Hid ((rIt xs i).1.length = i) := rIt_len xs i
      have OI := Lib.hid (OKL.out i)
      clear hzd hf he h1 h2 BAD TWO OKL
      obtain ⟨L, hL⟩ : ∃ L, (rIt xs i).1 = L := ⟨_, rfl⟩
      rw [hL] at X9 H1 H2 LI OI
      have c0 := (Joins.cell_of_block X9.out.blk 0).trans (rfl : _ = some _)
      have c1 := (Joins.cell_of_block X9.out.blk 1).trans (rfl : _ = some _)
      clear hL
      go_wp2_with fail
      clear c0 c1
      refine (refRightBatch_any X9.out.rdTx OI.out (by have := LI.out; omega)).mono ?_
      rintro e w10 ⟨rfl, hb⟩
      have XA := Lib.hid (X9.out.on hb)
      clear hb X9
      cases ho : okB L with
      | false =>
        have EE := Lib.hid (NO.out (by rw [H1.out, ho]))
        clear H1 H2 ho
        have r0 := (Joins.cell_of_block XA.out.res 0).trans (rfl : _ = some _)
        have r1 := (Joins.cell_of_block XA.out.res 1).trans (rfl : _ = some _)
        have y0 := Joins.unfrozen_of_block XA.out.res 0
        have y1 := Joins.unfrozen_of_block XA.out.res 1
        have BX2 : Hid (Below w.heap.size w ((w10.setCell ⟨w.heap.size, 0, none⟩ (.int .u64 0)).setCell ⟨w.heap.size, 1, none⟩ (.slice none 0 0))) := ((XA.out.below.setCell (p := ⟨_, 0, none⟩) (by simp) _).setCell (p := ⟨_, 1, none⟩) (by simp) _)
        have hb9 : ((w10.setCell ⟨w.heap.size, 0, none⟩ (.int .u64 0)).setCell ⟨w.heap.size, 1, none⟩ (.slice none 0 0)).heap[w.heap.size]? = some (.cells #[.int .u64 0, .slice none 0 0] 67 (0, 0)) := Joins.block_setCell (Joins.block_setCell XA.out.res _) _
        have x0 := (Joins.cell_of_block hb9 0).trans (rfl : _ = some _)
        have x1 := (Joins.cell_of_block hb9 1).trans (rfl : _ = some _)
        clear hb9
        go_wp2_with fail
        refine bodyPost_ret (v := .tuple #[.agg #[.int .u64 0, .slice none 0 0], .int .i64 21]) (by simp [results, Try.results24, go_sem, x0, x1]) rfl (EE.out _ BX2.out)
      | true =>
        have hmo : mo = true := by rw [H1.out, ho]
        have DX2 : Hid (RdTx w10 q (bIt xs i).1) := by show RdTx _ _ _; rw [← H2.out hmo]; exact XA.out.rdTx
        have c0 := (Joins.cell_of_block XA.out.blk 0).trans (rfl : _ = some _)
        have c1 := (Joins.cell_of_block XA.out.blk 1).trans (rfl : _ = some _)
        have r0 := (Joins.cell_of_block XA.out.res 0).trans (rfl : _ = some _)
        have r1 := (Joins.cell_of_block XA.out.res 1).trans (rfl : _ = some _)
        have y0 := Joins.unfrozen_of_block XA.out.res 0
        have y1 := Joins.unfrozen_of_block XA.out.res 1
        have BX2 : Hid (Below w.heap.size w ((w10.setCell ⟨w.heap.size, 0, none⟩ (.int .u64 ep)).setCell ⟨w.heap.size, 1, none⟩ (.slice q L.length c))) := ((XA.out.below.setCell (p := ⟨_, 0, none⟩) (by simp) _).setCell (p := ⟨_, 1, none⟩) (by simp) _)
        have hb9 : ((w10.setCell ⟨w.heap.size, 0, none⟩ (.int .u64 ep)).setCell ⟨w.heap.size, 1, none⟩ (.slice q L.length c)).heap[w.heap.size]? = some (.cells #[.int .u64 ep, .slice q L.length c] 67 (0, 0)) := Joins.block_setCell (Joins.block_setCell XA.out.res _) _
        have x0 := (Joins.cell_of_block hb9 0).trans (rfl : _ = some _)
        have x1 := (Joins.cell_of_block hb9 1).trans (rfl : _ = some _)
        have EE := Lib.hid (YES.out hmo _ q c (DX2.out.twoR XA.out.res (u := .int .u64 ep) (v := .slice q L.length c)) BX2.out)
        clear hb9 H1 H2 ho DX2 BX2 NO YES
        go_wp2_with fail
        have EF := EE.out
        rw [← LI.out] at EF
        refine bodyPost_ret (v := .tuple #[.agg #[.int .u64 ep, .slice q L.length c], .int .i64 0]) (by simp [results, Try.results24, go_sem, x0, x1]) rfl EF
end Go.Proofs.Ytonjkhhihiigfaa
