/-
  What the program reads of bytes as a batch.; Txs, as a law's argument.; Slices of whatever rows, as a law's argument.; A message within an argument.; Blocks: their deposits and batches, read; as a law's argument.; Windows, and how many numbers are known.
-/
import Derived.Test.YtonjkhhihiigfaaDv6
import Derived.Test.YtonjkhhihiigfaaDv10
namespace Go.Proofs.Ytonjkhhihiigfaa
set_option maxRecDepth 100000
open Go.RowKit

/-- What bytes tell as a batch: i Txs, where the reader stands, its flag. -/
def bIt (xs : List Int) : Nat → List Tg × Nat × Bool
  | 0 => ([], 16, fC (fU false xs 0 8) xs 8 8)
  | i + 1 => ((bIt xs i).1 ++ [tM xs (bIt xs i).2.1 (bIt xs i).2.2], tE xs (bIt xs i).2.1 (bIt xs i).2.2, t7 xs (bIt xs i).2.1 (bIt xs i).2.2)
def bN (xs : List Int) : Nat := (uV (bIt xs 0).2.2 xs 8).toNat
def bEp (xs : List Int) : Int := uV (fU false xs 0 8) xs 0
theorem bIt_len (xs : List Int) : ∀ i, (bIt xs i).1.length = i
  | 0 => rfl
  | i + 1 => by simp [bIt, bIt_len xs i]
theorem bN_le {xs : List Int} (hx : Bytes xs) : bN xs ≤ 8 ∧ uV (bIt xs 0).2.2 xs 8 = (bN xs : Int) := by
  have h0 := uV_bd hx (bIt xs 0).2.2 8
  have h1 : uV (bIt xs 0).2.2 xs 8 ≤ 8 := by
    unfold uV
    split
    · decide
    · rename_i h
      have h2 : ¬ 8 < nAt xs 8 := fun h3 => h (by simp [bIt, fC, h3])
      omega
  unfold bN
  omega
theorem rowOf_on9 {w w' : World} {b o n : Nat} (h : 0 < (rowOf w b o n).length) (hb : Below w.heap.size w w') : rowOf w' b o n = rowOf w b o n := by
  unfold rowOf at *
  cases e : w.heap[b]? with
  | none => rw [e] at h; simp at h
  | some x => rw [hb.block b (Array.getElem?_eq_some_iff.1 e).1, e]
/-- A slice of Txs. -/
def RdTx (w : World) (q : Option Addr) (L : List Tg) : Prop := L = [] ∨ ∃ b off, q = some ⟨b, off, none⟩ ∧ ∀ i, i < L.length → ∃ qi ki, rowOf w b (off + i * 10) 10 = txRow (L.getD i tg0) qi (L.getD i tg0).data.length ki ∧ Rd w (.slice qi (L.getD i tg0).data.length ki) (L.getD i tg0).data
theorem RdTx.on {w w' : World} {q : Option Addr} {L : List Tg} (h : RdTx w q L) (hb : Below w.heap.size w w') : RdTx w' q L := by
  rcases h with h | ⟨b, off, e, hx⟩
  · exact .inl h
  · refine .inr ⟨b, off, e, fun i hi => ?_⟩
    obtain ⟨qi, ki, h1, h2⟩ := hx i hi
    exact ⟨qi, ki, by rw [rowOf_on9 (by rw [h1, txRow_len]; omega) hb]; exact h1, h2.on hb⟩
/-- Rows of zeros. -/
def ztx : Nat → List Value
  | 0 => []
  | m + 1 => txRow tg0 none 0 0 ++ ztx m
theorem ztx_len : ∀ m, (ztx m).length = m * 10
  | 0 => rfl
  | m + 1 => by rw [ztx, List.length_append, ztx_len m, txRow_len]; omega
theorem tx0_at : (List.range 10).map (fun k => (txRow tg0 none 0 0).toArray[k]!) = txRow tg0 none 0 0 := by kernel_rfl
theorem ztx_snoc : ∀ m, ztx (m + 1) = ztx m ++ txRow tg0 none 0 0
  | 0 => by simp [ztx]
  | m + 1 => by
    have := ztx_snoc m
    rw [ztx, this, ← List.append_assoc, ← ztx, this]
theorem made_tx (n : Nat) : (madeCells (txRow tg0 none 0 0).toArray (n * 10)).toList = ztx n := by
  induction n with
  | zero => simp [madeCells, ztx]
  | succ n ih =>
    have hs : (txRow tg0 none 0 0).toArray.size = 10 := rfl
    rw [ztx_snoc, ← ih]
    unfold madeCells
    simp only [Array.toList_map, Array.toList_range, hs]
    rw [show (n + 1) * 10 = n * 10 + 10 by omega, List.range_add, List.map_append, List.map_map]
    congr 1
    refine Eq.trans ?_ tx0_at
    refine List.map_congr_left fun k hk => ?_
    have hk' := List.mem_range.1 hk
    show (txRow tg0 none 0 0).toArray[(n * 10 + k) % 10]! = _
    rw [show (n * 10 + k) % 10 = k by omega]
/-- Rows that are done. -/
def DoneTx (W : World) (mx : Nat) (done : List Value) (L : List Tg) : Prop := done.length = L.length * 10 ∧ ∀ j, j < L.length → ∃ q k, (done.drop (j * 10)).take 10 = txRow (L.getD j tg0) q (L.getD j tg0).data.length k ∧ Rd W (.slice q (L.getD j tg0).data.length k) (L.getD j tg0).data ∧ ∀ g, (Value.slice q (L.getD j tg0).data.length k).ownBlock = some g → mx ≤ g
theorem DoneTx.chg {W W' : World} {mx : Nat} {done : List Value} {L : List Tg} {K : List Nat} (h : DoneTx W mx done L) (hc : Chg W W' K) (hK : ∀ x, x ∈ K → x < mx) : DoneTx W' mx done L := by
  refine ⟨h.1, fun j hj => ?_⟩
  obtain ⟨q, k, h1, h2, h3⟩ := h.2 j hj
  exact ⟨q, k, h1, h2.chg hc (fun _ g hg _ hm => by have := h3 g hg; have := hK g hm; omega), h3⟩
theorem DoneTx.add {W : World} {mx : Nat} {done : List Value} {L : List Tg} {t : Tg} {q : Option Addr} {k : Nat} (h : DoneTx W mx done L) (hr : Rd W (.slice q t.data.length k) t.data) (hf : ∀ g, (Value.slice q t.data.length k).ownBlock = some g → mx ≤ g) : DoneTx W mx (done ++ txRow t q t.data.length k) (L ++ [t]) := by
  refine ⟨by simp [h.1, txRow_len]; omega, fun j hj => ?_⟩
  by_cases e : j = L.length
  · subst e
    have e1 : (L ++ [t]).getD L.length tg0 = t := by simp [List.getD]
    rw [e1]
    exact ⟨q, k, by rw [List.drop_left' h.1]; exact List.take_of_length_le (by rw [txRow_len]; omega), hr, hf⟩
  · have hj2 : j < L.length := by simp at hj; omega
    have e1 : (L ++ [t]).getD j tg0 = L.getD j tg0 := by simp [List.getD, List.getElem?_append_left hj2]
    obtain ⟨q', k', h1, h2, h3⟩ := h.2 j hj2
    rw [e1]
    refine ⟨q', k', ?_, h2, h3⟩
    have hl := h.1
    rw [List.drop_append_of_le_length (by omega), List.take_append_of_le_length (by rw [List.length_drop]; omega)]
    exact h1
theorem DoneTx.rd {W : World} {mx g : Nat} {done post : List Value} {L : List Tg} (h : DoneTx W mx done L) (hb : W.heap[g]? = some (.cells (done ++ post).toArray 54 (0, 0))) : RdTx W (some ⟨g, 0, none⟩) L := by
  refine .inr ⟨g, 0, rfl, fun j hj => ?_⟩
  obtain ⟨q, k, h1, h2, _⟩ := h.2 j hj
  refine ⟨q, k, ?_, h2⟩
  have hl := h.1
  rw [rowOf_block hb, Nat.zero_add]
  have e : ((done ++ post).drop (j * 10)).take 10 = (done.drop (j * 10)).take 10 := by
    rw [List.drop_append_of_le_length (by omega), List.take_append_of_le_length (by rw [List.length_drop]; omega)]
  rw [← h1, ← e]
  simp [List.take_drop]
theorem Try.infoTx : (Try.prog.info? 54).map (fun i => (i.zero, i.size, i.bytes)) = some (some (.agg (txRow tg0 none 0 0).toArray), 10, 96) := by kernel_rfl

set_option maxHeartbeats 16000000 in
theorem Batchparse_any {w : World} {bb p : Nat} {v : Value} {xs : List Int} (hK : w.heap[bb]? = some (.cells #[.int .u64 0, .slice none 0 0] 78 (0, 0))) (hS : RSt w p v xs 0 false) (hx : Bytes xs) (hbp : bb ≠ p) :
    Calls Try.prog 90 #[.pointer (some ⟨bb, 0, none⟩), .pointer (some ⟨p, 0, none⟩)] w fun e w' => ∃ g, e = .returned (.tuple #[]) ∧ w'.heap[bb]? = some (.cells #[.int .u64 (bEp xs), .slice (some ⟨g, 0, none⟩) (bN xs) (bN xs)] 78 (0, 0)) ∧ RdTx w' (some ⟨g, 0, none⟩) (bIt xs (bN xs)).1 ∧ RSt w' p v xs (bIt xs (bN xs)).2.1 (bIt xs (bN xs)).2.2 ∧ w.heap.size ≤ g ∧ Chg w w' [bb, p] := by
  obtain ⟨i0, hi, hz0, hz1, hz2⟩ := info_parts Try.infoTx
  replace hi := Lib.hid hi
  replace hz0 := Lib.hid hz0
  replace hz1 := Lib.hid hz1
  replace hz2 := Lib.hid hz2
  have BX := Lib.hid hx
  have hbl : bb < w.heap.size := (Array.getElem?_eq_some_iff.1 hK).1
  have K0 := Lib.hid hK
  have S0 := Lib.hid hS
  have EP : Hid (bEp xs = uV (fU false xs 0 8) xs 0) := rfl
  obtain ⟨hn8, hnz⟩ := bN_le hx
  have NZ := Lib.hid hnz
  have HF0 : Hid (fC (fU false xs 0 8) xs (0 + 8) 8 = (bIt xs 0).2.2) := rfl
  have HP0 : Hid ((bIt xs 0).2.1 = 16) := rfl
  have HL0 : Hid ((bIt xs 0).1 = []) := rfl
  have IT : Hid (∀ i, bIt xs (i + 1) = ((bIt xs i).1 ++ [tM xs (bIt xs i).2.1 (bIt xs i).2.2], tE xs (bIt xs i).2.1 (bIt xs i).2.2, t7 xs (bIt xs i).2.1 (bIt xs i).2.2)) := fun i => rfl
  have IL : Hid (∀ i, (bIt xs i).1.length = i) := bIt_len xs
  obtain ⟨BI, hBI⟩ : ∃ BI, bIt xs = BI := ⟨_, rfl⟩
  rw [hBI] at NZ HF0 HP0 HL0 IT IL ⊢
  obtain ⟨n, hn⟩ : ∃ n, bN xs = n := ⟨_, rfl⟩
  rw [hn] at hn8 NZ ⊢
  obtain ⟨ep, hep⟩ : ∃ ep, bEp xs = ep := ⟨_, rfl⟩
  rw [hep] at EP ⊢
  clear hK hS hx hnz hBI hn hep
  have c0 : w.cell? ⟨bb, 0, none⟩ = some (.int .u64 0) := (Joins.cell_of_block K0.out 0).trans rfl
  go_enter Try.func90, Try.ntmps90
  go_wp2_with fail
  clear c0
  refine (Uint_st S0.out BX.out).mono ?_
  rintro e w1 ⟨rfl, hs, hc⟩
  rw [← EP.out]
  have K1 : w1.heap[bb]? = some (.cells #[.int .u64 0, .slice none 0 0] 78 (0, 0)) := by rw [hc.block bb hbl (by simpa using hbp)]; exact K0.out
  have c0 : w1.cell? ⟨bb, 0, none⟩ = some (.int .u64 0) := (Joins.cell_of_block K1 0).trans rfl
  have y0 := Joins.unfrozen_of_block K1 0
  have cs : Chg w1 (w1.setCell ⟨bb, 0, none⟩ (.int .u64 ep)) [bb] := (Chg.refl _ [bb]).setCell (p := ⟨bb, 0, none⟩) (.inl (by simp)) _
  have K2 : Hid ((w1.setCell ⟨bb, 0, none⟩ (.int .u64 ep)).heap[bb]? = some (.cells #[.int .u64 ep, .slice none 0 0] 78 (0, 0))) := Joins.block_setCell (i := 0) K1 _
  have S2 := Lib.hid (hs.chg2 cs (by simpa using Ne.symm hbp) (fun ho g hg hm => by
    obtain rfl : g = bb := by simpa using hm
    exact own_ne ho K1 (by decide) hg))
  have C2 : Hid (Chg w (w1.setCell ⟨bb, 0, none⟩ (.int .u64 ep)) [bb, p]) := (hc.more (by simp)).trans (cs.more (by simp)) (fun x hx _ => hx)
  clear hs hc K1 cs K0 S0
  go_wp2_with fail
  clear c0 y0
  generalize w1.setCell ⟨bb, 0, none⟩ (.int .u64 ep) = w2 at *
  refine (Count_det (most := 8) S2.out BX.out (by omega)).mono ?_
  rintro e w3 ⟨rfl, hs, hc⟩
  rw [HF0.out] at hs ⊢
  rw [show 0 + 8 = 8 from rfl, NZ.out]
  have hb2 : bb < w2.heap.size := (Array.getElem?_eq_some_iff.1 K2.out).1
  have K3 : Hid (w3.heap[bb]? = some (.cells #[.int .u64 ep, .slice none 0 0] 78 (0, 0))) := by
    show _ = _
    rw [hc.block bb hb2 (by simpa using hbp)]; exact K2.out
  have S3 : Hid (RSt w3 p v xs 16 (BI 0).2.2) := hs
  have C3 : Hid (Chg w w3 [bb, p]) := C2.out.trans (hc.more (by simp)) (fun x hx _ => hx)
  clear hs hc K2 S2 C2 hb2
  go_wp2_with (refine wpList_make_full _ rfl _ _ _ rfl 0 _ _ _ _ Try.underlying76 hi.out hz0.out hz1.out _ _ _ _ n rfl rfl rfl rfl ?b1 ?b2 ?b3 ?_)
  case b1 => rw [hz2.out]; omega
  case b2 => unfold maxLen; omega
  case b3 => omega
  intro w4 own4 grow4
  have b4 : Below w3.heap.size w3 w4 := (Below.refl _ _).grown grow4 (Nat.le_refl _) (by intro k hk; simp at hk)
  have hbs : bb < w3.heap.size := (Array.getElem?_eq_some_iff.1 K3.out).1
  have hps : p < w3.heap.size := S3.out.lt
  have K4 : w4.heap[bb]? = some (.cells #[.int .u64 ep, .slice none 0 0] 78 (0, 0)) := by rw [b4.block bb hbs]; exact K3.out
  have G4 : w4.heap[w3.heap.size]? = some (.cells ([] ++ ztx n).toArray 54 (0, 0)) := by
    rcases own4.2 with ⟨e, _⟩ | ⟨g', cap, cur, e, _, h1, h2, h3, h4, h5⟩
    · simp at e
    · simp only [Value.slice.injEq, Option.some.injEq, Addr.mk.injEq] at e
      obtain ⟨⟨e1, -, -⟩, -, e2⟩ := e
      subst e1 e2
      rw [h1]
      have e1 : (madeCells (txRow tg0 none 0 0).toArray (n * 10)).toList = ztx n := made_tx n
      rw [e1] at h5
      have hl : cur.toList.length = n * 10 := by rw [Array.length_toList, h4]
      rw [List.take_of_length_le (by omega)] at h5
      rw [List.nil_append, ← h5]
  have hg4 : w3.heap.size < w4.heap.size := (Array.getElem?_eq_some_iff.1 G4).1
  have c1 : w4.cell? ⟨bb, 1, none⟩ = some (.slice none 0 0) := (Joins.cell_of_block K4 1).trans rfl
  have y1 := Joins.unfrozen_of_block K4 1
  have cs : Chg w4 (w4.setCell ⟨bb, 1, none⟩ (.slice (some ⟨w3.heap.size, 0, none⟩) n n)) [bb] := (Chg.refl _ [bb]).setCell (p := ⟨bb, 1, none⟩) (.inl (by simp)) _
  have K5 : Hid ((w4.setCell ⟨bb, 1, none⟩ (.slice (some ⟨w3.heap.size, 0, none⟩) n n)).heap[bb]? = some (.cells #[.int .u64 ep, .slice (some ⟨w3.heap.size, 0, none⟩) n n] 78 (0, 0))) := Joins.block_setCell (i := 1) K4 _
  have G5 : Hid ((w4.setCell ⟨bb, 1, none⟩ (.slice (some ⟨w3.heap.size, 0, none⟩) n n)).heap[w3.heap.size]? = some (.cells ([] ++ ztx n).toArray 54 (0, 0))) := by
    show _ = _
    rw [cs.block _ hg4 (by simp; omega)]; exact G4
  have S5 := Lib.hid ((S3.out.on b4).chg2 cs (by simpa using Ne.symm hbp) (fun ho g hg hm => by
    obtain rfl : g = bb := by simpa using hm
    exact own_ne ho K4 (by decide) hg))
  have C5 : Hid (Chg w (w4.setCell ⟨bb, 1, none⟩ (.slice (some ⟨w3.heap.size, 0, none⟩) n n)) [bb, p]) := (C3.out.trans (Chg.below b4 (Nat.le_refl _) [bb, p]) (fun x hx _ => hx)).trans (cs.more (by simp)) (fun x hx _ => hx)
  have hwg : Hid (w.heap.size ≤ w3.heap.size) := C3.out.size
  have hMX : Hid (w3.heap.size < (w4.setCell ⟨bb, 1, none⟩ (.slice (some ⟨w3.heap.size, 0, none⟩) n n)).heap.size) := Nat.lt_of_lt_of_le hg4 cs.size
  have d1 : (w4.setCell ⟨bb, 1, none⟩ (.slice (some ⟨w3.heap.size, 0, none⟩) n n)).cell? ⟨bb, 1, none⟩ = some (.slice (some ⟨w3.heap.size, 0, none⟩) n n) := (Joins.cell_of_block K5.out 1).trans rfl
  clear own4 grow4 b4 K4 G4 cs K3 S3 C3
  go_wp2_with fail
  clear c1 y1 d1
  obtain ⟨g, hg⟩ : ∃ g, w3.heap.size = g := ⟨_, rfl⟩
  rw [hg] at K5 G5 S5 C5 hwg hMX hbs hps ⊢
  generalize w4.setCell ⟨bb, 1, none⟩ (.slice (some ⟨g, 0, none⟩) n n) = w5 at *
  clear hg hg4
  obtain ⟨mx, hmx⟩ : ∃ mx, w5.heap.size = mx := ⟨_, rfl⟩
  have D5 : Hid (DoneTx w5 mx [] (BI 0).1) := by
    rw [HL0.out]
    exact ⟨rfl, fun j hj => by simp at hj⟩
  have P5 : Hid (RSt w5 p v xs (BI 0).2.1 (BI 0).2.2) := by rw [HP0.out]; exact S5.out
  have M5 : Hid (mx ≤ w5.heap.size) := Nat.le_of_eq hmx.symm
  have hgm : Hid (g < mx) := by rw [← hmx]; exact hMX.out
  clear hmx hMX S5
  go_loopw [21] (fun iv wr => ∃ (i : Nat) (done : List Value), iv = .int .i64 (i : Int) ∧ i ≤ n ∧ Hid (wr.heap[bb]? = some (.cells #[.int .u64 ep, .slice (some ⟨g, 0, none⟩) n n] 78 (0, 0))) ∧ Hid (wr.heap[g]? = some (.cells (done ++ ztx (n - i)).toArray 54 (0, 0))) ∧ Hid (DoneTx wr mx done (BI i).1) ∧ Hid (RSt wr p v xs (BI i).2.1 (BI i).2.2) ∧ Hid (mx ≤ wr.heap.size) ∧ Hid (Chg w wr [bb, p])) (fun iv _ => n - (intOf iv).toNat)
  case atStart => exact ⟨0, [], rfl, by omega, K5, G5, D5, P5, M5, C5⟩
  case round =>
    clear K5 G5 D5 P5 M5 C5
    obtain ⟨i, done, rfl, hil, hK, hG, hD, hS, hM, hC⟩ := hrel
    by_cases hlt : i < n
    · have d1 : wr.cell? ⟨bb, 1, none⟩ = some (.slice (some ⟨g, 0, none⟩) n n) := (Joins.cell_of_block hK.out 1).trans rfl
      have hdl : done.length = i * 10 := by have := hD.out.1; rw [IL.out i] at this; exact this
      have T0 : Hid (TxIn wr g done (txRow tg0 none 0 0) (ztx (n - (i + 1)))) := by
        have := hG.out
        rw [show n - i = (n - (i + 1)) + 1 by omega] at this
        exact this
      have HDL := Lib.hid hdl
      clear hdl hG
      go_wp2_with fail
      clear d1
      refine (Txparse_any T0.out HDL.out.symm hS.out BX.out (by have := hgm.out; omega)).mono ?_
      rintro e w6 ⟨q, k, rfl, hT, hS6, hR, hF, hC6⟩
      have hgb : bb ≠ g := by omega
      have K6 : Hid (w6.heap[bb]? = some (.cells #[.int .u64 ep, .slice (some ⟨g, 0, none⟩) n n] 78 (0, 0))) := by
        show _ = _
        rw [hC6.block bb (Array.getElem?_eq_some_iff.1 hK.out).1 (by simp; omega)]; exact hK.out
      have D6 : Hid (DoneTx w6 mx (done ++ txRow (tM xs (BI i).2.1 (BI i).2.2) q (tM xs (BI i).2.1 (BI i).2.2).data.length k) (BI (i + 1)).1) := by
        rw [IT.out i]
        exact (hD.out.chg hC6 (fun x hx => by have := hgm.out; simp at hx; omega)).add hR (fun g' hg' => Nat.le_trans hM.out (hF g' hg'))
      have G6 : Hid (w6.heap[g]? = some (.cells ((done ++ txRow (tM xs (BI i).2.1 (BI i).2.2) q (tM xs (BI i).2.1 (BI i).2.2).data.length k) ++ ztx (n - (i + 1))).toArray 54 (0, 0))) := by
        have := hT
        unfold TxIn at this
        rw [← List.append_assoc] at this
        exact this
      have S6 : Hid (RSt w6 p v xs (BI (i + 1)).2.1 (BI (i + 1)).2.2) := by rw [IT.out i]; exact hS6
      have M6 : Hid (mx ≤ w6.heap.size) := Nat.le_trans hM.out hC6.size
      have C6 : Hid (Chg w w6 [bb, p]) := hC.out.trans hC6 (fun x hx hl => by have := hwg.out; simp at hx ⊢; omega)
      clear hT hS6 hR hF hC6 T0 hK hD hS hM hC HDL hgb
      go_wp2_with fail
      go_roundw
      case rel => exact ⟨i + 1, _, by go_num, by omega, K6, G6, D6, S6, M6, C6⟩
      case measure => simp [intOf]; omega
    · obtain rfl : i = n := by omega
      have RD := Lib.hid (hD.out.rd hG.out)
      clear hD hG
      go_wp2_with fail
      go_end0
      exact ⟨g, rfl, hK.out, RD.out, hS.out, hwg.out, hC.out⟩
end Go.Proofs.Ytonjkhhihiigfaa
namespace Go.Proofs.Ytonjkhhihiigfaa
set_option maxRecDepth 100000
open Go.ChangeShapes Go.WideShapes Go.ChangeAt Go.RowKit Go.Deep

theorem rowOf_vals {w : World} {b o n : Nat} {cs : List Value} (hn : cs.length = n) (h0 : 0 < n) (h : ∀ j v, cs[j]? = some v → w.cell? ⟨b, o + j, none⟩ = some v) : rowOf w b o n = cs := by
  subst hn
  have hf := h 0 cs[0] (by simp [h0])
  unfold World.cell? at hf
  split at hf
  · rename_i C t fr hb
    rw [rowOf_block hb]
    apply List.ext_getElem?
    intro j
    by_cases hj : j < cs.length
    · have := h j cs[j] (by simp [hj])
      rw [Joins.cell_of_block hb] at this
      have hlt := (Array.getElem?_eq_some_iff.1 this).1
      rw [Array.getElem?_toList, Array.getElem?_extract, if_pos (by omega), this, List.getElem?_eq_getElem hj]
    · rw [List.getElem?_eq_none (by rw [Array.length_toList, Array.size_extract]; omega), List.getElem?_eq_none (by omega)]
  · simp at hf

theorem i64_bd {x : Int} (h : (Lit.int .i64 x).wf = true) : -9223372036854775808 ≤ x ∧ x < 9223372036854775808 := by
  have : -9223372036854775808 ≤ x ∧ x ≤ 9223372036854775807 := by simpa [Lit.wf, IntKind.min, IntKind.max, IntKind.signed, IntKind.bits] using h
  omega
section
variable {H : Type} {enc : TypeId × Value → H} {w : World} {base : Nat} {held : Bool}
theorem trod_tx {fuel : Nat} {cs : List Value} {y : DataW H × List MemPlace} (hf : DataW.trod enc Try.prog w base (fun _ => true) held fuel 84 cs = some y)
    (hs : ∀ n ∈ y.1.weights Try.prog 84, n ≤ reachBytes) : ∃ (t : Tg) (q : Option Addr) (k : Nat), cs = txRow t q t.data.length k ∧ t.ok ∧ Rd w (.slice q t.data.length k) t.data ∧ t.data.length ≤ 140737488355000 := by
  have hr := reach46
  obtain ⟨hl, mm, ys, hx, hfld⟩ := trod_struct Try.underlying84 (n := 10) (by kernel_rfl) hf
  rw [hx] at hs
  have ci : Try.prog.cellsOf 3 = 1 := by kernel_rfl
  have c1 : Try.prog.cellsOf 47 = 1 := by kernel_rfl
  have c4 : Try.prog.cellsOf 49 = 4 := by kernel_rfl
  have cb : Try.prog.cellsOf 50 = 1 := by kernel_rfl
  obtain ⟨y0, g0, t0⟩ := hfld 0 _ rfl
  obtain ⟨y1, g1, t1⟩ := hfld 1 _ rfl
  obtain ⟨y2, g2, t2⟩ := hfld 2 _ rfl
  obtain ⟨y3, g3, t3⟩ := hfld 3 _ rfl
  obtain ⟨y4, g4, t4⟩ := hfld 4 _ rfl
  obtain ⟨y5, g5, t5⟩ := hfld 5 _ rfl
  obtain ⟨y6, g6, t6⟩ := hfld 6 _ rfl
  dsimp only at t0 t1 t2 t3 t4 t5 t6
  rw [ci] at t0
  rw [c1] at t1 t2 t3 t5
  rw [c4] at t4
  rw [cb] at t6
  have m6 := weights_struct Try.underlying84 hs (j := 6) rfl (show (ys.map (·.1))[6]? = some y6.1 by rw [List.getElem?_map, g6]; rfl)
  dsimp only at m6
  obtain ⟨a0, e0', _, h0'⟩ := DataW.trod_int Try.underlying3 t0
  have e0 := one_at e0'
  have h0 := i64_bd h0'
  obtain ⟨a1, e1, h1⟩ := trod_u64B Try.underlying47 t1
  obtain ⟨a2, e2, h2⟩ := trod_u64B Try.underlying47 t2
  obtain ⟨a3, e3, h3⟩ := trod_u64B Try.underlying47 t3
  obtain ⟨a5, e5, h5⟩ := trod_u64B Try.underlying47 t5
  obtain ⟨l4, h4⟩ := trod_arrI Try.underlying49 Try.underlying47 c4 c1 t4
  obtain ⟨b0, f0, w0⟩ := h4 0 (by omega)
  obtain ⟨b1, f1, w1⟩ := h4 1 (by omega)
  obtain ⟨b2, f2, w2⟩ := h4 2 (by omega)
  obtain ⟨b3, f3, w3⟩ := h4 3 (by omega)
  obtain ⟨v6, xs, e6, r6, bx, z6⟩ := trod_bytes t6
  obtain ⟨q, k, rfl⟩ := r6.len
  have s6 : xs.length ≤ 140737488355000 := by
    rcases z6 with z | ⟨el, sp, z1, z2⟩
    · rw [z]; simp
    · rw [z1] at m6
      have := (weights_slice Try.underlying50 m6).1
      rw [show Try.prog.bytesOf 5 = 1 by kernel_rfl, z2] at this
      omega
  have dg : ∀ {x : Int}, (Lit.int .u64 x).wf = true → Dg x := fun hx => by
    have := u64_bd hx
    unfold Dg B; omega
  have sub : ∀ {i : Nat} {u : Value}, i < 4 → ((cs.drop 4).take 4)[i]? = some u → cs[4 + i]? = some u := fun hi h => by
    rw [List.getElem?_take, if_pos hi, List.getElem?_drop] at h
    exact h
  have e9 : cs[9]? = some (.slice q xs.length k) := one_at e6
  refine ⟨⟨a0, a1, a2, a3, ⟨b0, b1, b2, b3⟩, a5, xs⟩, q, k, ?_, ⟨h0, h1, h2, h3, ⟨dg w0, dg w1, dg w2, dg w3⟩, h5, bx⟩, r6, s6⟩
  apply List.ext_getElem?
  intro i
  have hi : i = 0 ∨ i = 1 ∨ i = 2 ∨ i = 3 ∨ i = 4 ∨ i = 5 ∨ i = 6 ∨ i = 7 ∨ i = 8 ∨ i = 9 ∨ 10 ≤ i := by omega
  rcases hi with rfl | rfl | rfl | rfl | rfl | rfl | rfl | rfl | rfl | rfl | hi
  · rw [e0]; rfl
  · rw [e1]; rfl
  · rw [e2]; rfl
  · rw [e3]; rfl
  · rw [sub (i := 0) (by omega) f0]; rfl
  · rw [sub (i := 1) (by omega) f1]; rfl
  · rw [sub (i := 2) (by omega) f2]; rfl
  · rw [sub (i := 3) (by omega) f3]; rfl
  · rw [e5]; rfl
  · rw [e9]; rfl
  · rw [List.getElem?_eq_none (by omega), List.getElem?_eq_none (by rw [txRow_len]; omega)]
theorem open_txs {r : Reach} {b0 : Nat} {v : Value} {d : DataW H} {p : List MemPlace} (hv : Value.okWide Try.prog w r b0 65 v) (h : DataW.Trod enc Try.prog w base (fun _ => true) held 65 v d p)
    (hs : ∀ n ∈ d.weights Try.prog 65, n ≤ reachBytes) : ∃ q c L, v = .slice q L.length c ∧ RdTx w q L ∧ (∀ t ∈ L, t.ok ∧ t.data.length ≤ 140737488355328) ∧ L.length ≤ 140737488355000 := by
  have hr := reach46
  obtain ⟨a0, len0, cap0, rfl⟩ := okWide_slice Try.underlying65 hv
  obtain ⟨fuel, hf⟩ := h
  rcases Deep.open_slice Try.underlying65 hf with ⟨h0, _⟩ | ⟨a, len, cap, m, n, D, Pl, hcs, hb, hl, hm, hmm, hy, hx⟩
  · simp [Value.cells] at h0
    obtain ⟨rfl, rfl, rfl⟩ := h0
    exact ⟨none, 0, [], rfl, .inl rfl, fun s h => by simp at h, by simp⟩
  · simp [Value.cells] at hcs
    obtain ⟨e1, e2, e3⟩ := hcs
    subst e1 e2 e3
    simp only [if_true] at hmm
    subst hmm
    simp only [Prod.mk.injEq] at hy
    rw [hy.1] at hs
    obtain ⟨w1, w2⟩ := weights_slice Try.underlying65 hs
    rw [show Try.prog.bytesOf 84 = 96 by kernel_rfl] at w1
    have key : ∀ i, ∃ x : Tg × Option Addr × Nat, i < len0 → x.1.ok ∧ Rd w (.slice x.2.1 x.1.data.length x.2.2) x.1.data ∧ x.1.data.length ≤ 140737488355000 ∧ ∀ j u, (txRow x.1 x.2.1 x.1.data.length x.2.2)[j]? = some u → w.cell? (a.add (i * 10 + j)) = some u := by
      intro i
      by_cases hi : i < len0
      · obtain ⟨cs', hc1, ht⟩ := hx i (by omega)
        rw [show Try.prog.cellsOf 84 = 10 by kernel_rfl] at hc1
        obtain ⟨s, q, k, rfl, ok, hq, hle⟩ := trod_tx ht (w2 (D i) (List.mem_map.2 ⟨i, by simpa using hi, rfl⟩))
        refine ⟨(s, q, k), fun _ => ⟨ok, hq, hle, fun j u hu => ?_⟩⟩
        have hj : j < 10 := by
          have := (List.getElem?_eq_some_iff.1 hu).1
          rw [txRow_len] at this
          exact this
        have := (World.cells?_some hc1).2.2 j hj
        rw [Addr.add_add] at this
        rw [this]
        exact hu
      · exact ⟨(tg0, none, 0), fun h => absurd h hi⟩
    obtain ⟨f, hf⟩ := Classical.axiomOfChoice key
    have hlen : ((List.range len0).map fun i => (f i).1).length = len0 := by simp
    have hg : ∀ i, i < len0 → ((List.range len0).map fun i => (f i).1).getD i tg0 = (f i).1 := fun i hi => by simp [List.getD, hi]
    have hle : len0 ≤ 140737488355000 := by
      simp only [List.length_map, List.length_range] at w1
      omega
    refine ⟨some a, _, (List.range len0).map fun i => (f i).1, by rw [hlen], ?_, ?_, by rw [hlen]; exact hle⟩
    · by_cases h0 : len0 = 0
      · exact .inl (by simp [h0])
      · obtain ⟨b, o, sp⟩ := a
        have hsp : sp = none := by
          obtain ⟨ok, _, _, h3⟩ := hf 0 (by omega)
          have hl := txRow_len (f 0).1 (f 0).2.1 (f 0).1.data.length (f 0).2.2
          have := h3 0 _ (List.getElem?_eq_getElem (by omega))
          simpa [Addr.add] using World.cell?_spot this
        subst hsp
        refine .inr ⟨b, o, rfl, fun i hi => ?_⟩
        rw [hlen] at hi
        obtain ⟨ok, h2, _, h3⟩ := hf i hi
        rw [hg i hi]
        refine ⟨(f i).2.1, (f i).2.2, rowOf_vals (txRow_len _ _ _ _) (by decide) (fun j u hu => ?_), h2⟩
        have := h3 j u hu
        rw [addr_add] at this
        rw [← this]
        congr 2
        omega
    · intro s hS
      obtain ⟨i, hi, rfl⟩ := List.mem_map.1 hS
      have := hf i (List.mem_range.1 hi)
      exact ⟨this.1, by omega⟩
end
end Go.Proofs.Ytonjkhhihiigfaa
namespace Go.Proofs.Ytonjkhhihiigfaa
set_option maxRecDepth 100000
open Go.ChangeShapes Go.WideShapes Go.ChangeAt Go.RowKit Go.Deep

section
variable {H : Type} {enc : TypeId × Value → H} {P : Program} {w : World} {base : Nat} {held : Bool}
/-- A slice's cell, element by element. -/
theorem trod_rows {α : Type} {R : World → Fp → α → List Value → Prop} {okx : α → Prop} {d0 : α} {n by_ : Nat} {t e : TypeId} (k : FpOk R) (hn : 0 < n) (ht : P.underlying t = some (.slice e)) (hC : P.cellsOf e = n) (hB : P.bytesOf e = by_)
    (elem : ∀ (fuel : Nat) (cs : List Value) (y : DataW H × List MemPlace), DataW.trod enc P w base (fun _ => true) held fuel e cs = some y → (∀ n ∈ y.1.weights P e, n ≤ reachBytes) → ∃ x, cs.length = n ∧ R w (fun g => g < w.heap.size) x cs ∧ okx x)
    {fuel : Nat} {cs : List Value} {y : DataW H × List MemPlace} (hf : DataW.trod enc P w base (fun _ => true) held fuel t cs = some y) (hs : ∀ n ∈ y.1.weights P t, n ≤ reachBytes) :
    ∃ q c L, cs = [.slice q L.length c] ∧ RwF n d0 R w (fun g => g < w.heap.size) q L ∧ (∀ x ∈ L, okx x) ∧ L.length * by_ ≤ reachBytes := by
  have _ := k
  rcases Deep.open_slice ht hf with ⟨h0, _⟩ | ⟨a, len, cap, m, nn, D, Pl, hcs, hb, hl, hm, hmm, hy, hx⟩
  · exact ⟨none, 0, [], h0, .inl rfl, fun s h => by simp at h, by simp⟩
  · simp only [if_true] at hmm
    subst hmm
    rw [hy] at hs
    obtain ⟨w1, w2⟩ := weights_slice ht hs
    rw [hB] at w1
    have key : ∀ i, ∃ x : α × List Value, i < len → okx x.1 ∧ x.2.length = n ∧ R w (fun g => g < w.heap.size) x.1 x.2 ∧ ∀ j u, x.2[j]? = some u → w.cell? (a.add (i * n + j)) = some u := by
      intro i
      by_cases hi : i < len
      · obtain ⟨cs', hc1, hte⟩ := hx i (by omega)
        rw [hC] at hc1
        obtain ⟨x, l9, hr, ok⟩ := elem _ _ _ hte (w2 (D i) (List.mem_map.2 ⟨i, by simpa using hi, rfl⟩))
        refine ⟨(x, cs'), fun _ => ⟨ok, l9, hr, fun j u hu => ?_⟩⟩
        have hj2 : j < cs'.length := (List.getElem?_eq_some_iff.1 hu).1
        have hj : j < n := by omega
        have := (World.cells?_some hc1).2.2 j hj
        rw [Addr.add_add] at this
        rw [this]
        exact hu
      · exact ⟨(d0, []), fun h => absurd h hi⟩
    obtain ⟨f, hf⟩ := Classical.axiomOfChoice key
    have hlen : ((List.range len).map fun i => (f i).1).length = len := by simp
    have hg : ∀ i, i < len → ((List.range len).map fun i => (f i).1).getD i d0 = (f i).1 := fun i hi => by simp [List.getD, hi]
    refine ⟨some a, m, (List.range len).map fun i => (f i).1, by rw [hlen]; exact hcs, ?_, ?_, by rw [hlen]; simpa using w1⟩
    · by_cases h0 : len = 0
      · exact .inl (by simp [h0])
      · obtain ⟨b, o, sp⟩ := a
        have hsp : sp = none := by
          obtain ⟨_, l9, _, h3⟩ := hf 0 (by omega)
          have := h3 0 _ (List.getElem?_eq_getElem (by omega))
          simpa [Addr.add] using World.cell?_spot this
        subst hsp
        refine .inr ⟨b, o, rfl, ?_, fun i hi => ?_⟩
        · obtain ⟨_, l9, _, h3⟩ := hf 0 (by omega)
          have := lt_of_cell (h3 0 _ (List.getElem?_eq_getElem (by omega)))
          rw [addr_add] at this
          exact this
        · rw [hlen] at hi
          obtain ⟨ok, l9, h2, h3⟩ := hf i hi
          rw [hg i hi]
          refine ⟨(f i).2, l9, rowOf_vals l9 hn (fun j u hu => ?_), h2⟩
          have := h3 j u hu
          rw [addr_add] at this
          rw [← this]
          congr 2
          omega
    · intro s hS
      obtain ⟨i, hi, rfl⟩ := List.mem_map.1 hS
      exact (hf i (List.mem_range.1 hi)).1
end
end Go.Proofs.Ytonjkhhihiigfaa
namespace Go.Proofs.Ytonjkhhihiigfaa
set_option maxRecDepth 100000
open Go.ChangeShapes Go.WideShapes Go.ChangeAt Go.RowKit Go.Deep

section
variable {H : Type} {enc : TypeId × Value → H} {w : World} {base : Nat} {held : Bool}
theorem trod_mg {fuel : Nat} {cs : List Value} {y : DataW H × List MemPlace} (hf : DataW.trod enc Try.prog w base (fun _ => true) held fuel 62 cs = some y)
    (hs : ∀ n ∈ y.1.weights Try.prog 62, n ≤ reachBytes) : ∃ (m : Mg) (q : Option Addr) (k : Nat), cs = mgRow m q m.data.length k ∧ m.ok ∧ Rd w (.slice q m.data.length k) m.data ∧ m.data.length ≤ 140737488355000 := by
  have hr := reach46
  obtain ⟨hl, mm, ys, hx, hfld⟩ := trod_struct Try.underlying62 (n := 9) (by kernel_rfl) hf
  rw [hx] at hs
  have c1 : Try.prog.cellsOf 47 = 1 := by kernel_rfl
  have c4 : Try.prog.cellsOf 49 = 4 := by kernel_rfl
  have cb : Try.prog.cellsOf 50 = 1 := by kernel_rfl
  obtain ⟨y0, g0, t0⟩ := hfld 0 _ rfl
  obtain ⟨y1, g1, t1⟩ := hfld 1 _ rfl
  obtain ⟨y2, g2, t2⟩ := hfld 2 _ rfl
  obtain ⟨y3, g3, t3⟩ := hfld 3 _ rfl
  obtain ⟨y4, g4, t4⟩ := hfld 4 _ rfl
  obtain ⟨y5, g5, t5⟩ := hfld 5 _ rfl
  dsimp only at t0 t1 t2 t3 t4 t5
  rw [c1] at t0 t1 t2 t4
  rw [c4] at t3
  rw [cb] at t5
  have m5 := weights_struct Try.underlying62 hs (j := 5) rfl (show (ys.map (·.1))[5]? = some y5.1 by rw [List.getElem?_map, g5]; rfl)
  dsimp only at m5
  obtain ⟨a0, e0, h0⟩ := trod_u64B Try.underlying47 t0
  obtain ⟨a1, e1, h1⟩ := trod_u64B Try.underlying47 t1
  obtain ⟨a2, e2, h2⟩ := trod_u64B Try.underlying47 t2
  obtain ⟨a4, e4, h4⟩ := trod_u64B Try.underlying47 t4
  obtain ⟨l3, h3⟩ := trod_arrI Try.underlying49 Try.underlying47 c4 c1 t3
  obtain ⟨b0, f0, w0⟩ := h3 0 (by omega)
  obtain ⟨b1, f1, w1⟩ := h3 1 (by omega)
  obtain ⟨b2, f2, w2⟩ := h3 2 (by omega)
  obtain ⟨b3, f3, w3⟩ := h3 3 (by omega)
  obtain ⟨v5, xs, e5, r5, bx, z5⟩ := trod_bytes t5
  obtain ⟨q, k, rfl⟩ := r5.len
  have s5 : xs.length ≤ 140737488355000 := by
    rcases z5 with z | ⟨el, sp, z1, z2⟩
    · rw [z]; simp
    · rw [z1] at m5
      have := (weights_slice Try.underlying50 m5).1
      rw [show Try.prog.bytesOf 5 = 1 by kernel_rfl, z2] at this
      omega
  have dg : ∀ {x : Int}, (Lit.int .u64 x).wf = true → Dg x := fun hx => by
    have := u64_bd hx
    unfold Dg B; omega
  have sub : ∀ {i : Nat} {u : Value}, i < 4 → ((cs.drop 3).take 4)[i]? = some u → cs[3 + i]? = some u := fun hi h => by
    rw [List.getElem?_take, if_pos hi, List.getElem?_drop] at h
    exact h
  have e8 : cs[8]? = some (.slice q xs.length k) := one_at e5
  refine ⟨⟨a0, a1, a2, ⟨b0, b1, b2, b3⟩, a4, xs⟩, q, k, ?_, ⟨h0, h1, h2, ⟨dg w0, dg w1, dg w2, dg w3⟩, h4, bx⟩, r5, s5⟩
  apply List.ext_getElem?
  intro i
  have hi : i = 0 ∨ i = 1 ∨ i = 2 ∨ i = 3 ∨ i = 4 ∨ i = 5 ∨ i = 6 ∨ i = 7 ∨ i = 8 ∨ 9 ≤ i := by omega
  rcases hi with rfl | rfl | rfl | rfl | rfl | rfl | rfl | rfl | rfl | hi
  · rw [e0]; rfl
  · rw [e1]; rfl
  · rw [e2]; rfl
  · rw [sub (i := 0) (by omega) f0]; rfl
  · rw [sub (i := 1) (by omega) f1]; rfl
  · rw [sub (i := 2) (by omega) f2]; rfl
  · rw [sub (i := 3) (by omega) f3]; rfl
  · rw [e4]; rfl
  · rw [e8]; rfl
  · rw [List.getElem?_eq_none (by omega), List.getElem?_eq_none (by rw [mgRow_len]; omega)]
end
end Go.Proofs.Ytonjkhhihiigfaa
namespace Go.Proofs.Ytonjkhhihiigfaa
set_option maxRecDepth 100000
open Go.ChangeShapes Go.WideShapes Go.ChangeAt Go.RowKit Go.Deep

structure Bk where
  ds : List Mg
  bs : List (List Int)
def bk0 : Bk := ⟨[], []⟩
/-- A block's two cells. -/
def PBk (w : World) (F : Fp) (x : Bk) (r : List Value) : Prop := ∃ qd kd qb kb, r = [.slice qd x.ds.length kd, .slice qb x.bs.length kb] ∧ RwF 9 mg0 PMg w F qd x.ds ∧ RwF 1 [] PBs w F qb x.bs
theorem PBk_ok : FpOk PBk where
  mono := fun ⟨qd, kd, qb, kb, e, h1, h2⟩ hG => ⟨qd, kd, qb, kb, e, h1.mono PMg_ok hG, h2.mono PBs_ok hG⟩
  agr := fun ⟨qd, kd, qb, kb, e, h1, h2⟩ ha => ⟨qd, kd, qb, kb, e, h1.agr PMg_ok (by decide) ha, h2.agr PBs_ok (by decide) ha⟩
  lt := fun ⟨qd, kd, qb, kb, e, h1, h2⟩ => ⟨qd, kd, qb, kb, e, h1.lt PMg_ok (by decide), h2.lt PBs_ok (by decide)⟩
structure Bk.ok (x : Bk) : Prop where
  ds : ∀ m ∈ x.ds, m.ok ∧ m.data.length ≤ 140737488355000
  bs : ∀ b ∈ x.bs, Bytes b ∧ b.length ≤ 140737488355000
  dl : x.ds.length ≤ 2000000000000
  bl : x.bs.length ≤ 6000000000000
theorem bk0_ok : bk0.ok := ⟨fun m hm => by simp [bk0] at hm, fun b hb => by simp [bk0] at hb, by simp [bk0], by simp [bk0]⟩
def BksOk (L : List Bk) : Prop := ∀ x ∈ L, x.ok
theorem getD_mem {α : Type} {L : List α} {d : α} {i : Nat} (hi : i < L.length) : L.getD i d ∈ L := by
  have e : L.getD i d = L[i] := by simp [List.getD, hi]
  rw [e]; exact List.getElem_mem hi
theorem BksOk.get {L : List Bk} (h : BksOk L) (i : Nat) : (L.getD i bk0).ok := by
  by_cases hi : i < L.length
  · exact h _ (getD_mem hi)
  · have e : L.getD i bk0 = bk0 := by simp [List.getD, Nat.not_lt.1 hi]
    rw [e]; exact bk0_ok
section
variable {H : Type} {enc : TypeId × Value → H} {w : World} {base : Nat} {held : Bool}
theorem elem_mg (fuel : Nat) (cs : List Value) (y : DataW H × List MemPlace) (hf : DataW.trod enc Try.prog w base (fun _ => true) held fuel 62 cs = some y) (hs : ∀ n ∈ y.1.weights Try.prog 62, n ≤ reachBytes) :
    ∃ x, cs.length = 9 ∧ PMg w (fun g => g < w.heap.size) x cs ∧ (x.ok ∧ x.data.length ≤ 140737488355000) := by
  obtain ⟨m, q, k, rfl, ok, hr, hl⟩ := trod_mg hf hs
  exact ⟨m, mgRow_len _ _ _ _, ⟨q, k, rfl, hr.old⟩, ok, hl⟩
theorem elem_bs (fuel : Nat) (cs : List Value) (y : DataW H × List MemPlace) (hf : DataW.trod enc Try.prog w base (fun _ => true) held fuel 50 cs = some y) (hs : ∀ n ∈ y.1.weights Try.prog 50, n ≤ reachBytes) :
    ∃ x, cs.length = 1 ∧ PBs w (fun g => g < w.heap.size) x cs ∧ (Bytes x ∧ x.length ≤ 140737488355000) := by
  have hr := reach46
  obtain ⟨v, xs, rfl, rx, bx, z⟩ := trod_bytes hf
  obtain ⟨q, k, rfl⟩ := rx.len
  refine ⟨xs, rfl, ⟨q, k, rfl, rx.old⟩, bx, ?_⟩
  rcases z with z | ⟨el, sp, z1, z2⟩
  · rw [z]; simp
  · rw [z1] at hs
    have := (weights_slice Try.underlying50 hs).1
    rw [show Try.prog.bytesOf 5 = 1 by kernel_rfl, z2] at this
    omega
theorem elem_bk (fuel : Nat) (cs : List Value) (y : DataW H × List MemPlace) (hf : DataW.trod enc Try.prog w base (fun _ => true) held fuel 60 cs = some y) (hs : ∀ n ∈ y.1.weights Try.prog 60, n ≤ reachBytes) :
    ∃ x, cs.length = 2 ∧ PBk w (fun g => g < w.heap.size) x cs ∧ x.ok := by
  have hr := reach46
  obtain ⟨hl, mm, ys, hx, hfld⟩ := trod_struct Try.underlying60 (n := 2) (by kernel_rfl) hf
  rw [hx] at hs
  have c1 : Try.prog.cellsOf 57 = 1 := by kernel_rfl
  have c2 : Try.prog.cellsOf 58 = 1 := by kernel_rfl
  obtain ⟨y0, g0, t0⟩ := hfld 0 _ rfl
  obtain ⟨y1, g1, t1⟩ := hfld 1 _ rfl
  dsimp only at t0 t1
  rw [c1] at t0
  rw [c2] at t1
  have m0 := weights_struct Try.underlying60 hs (j := 0) rfl (show (ys.map (·.1))[0]? = some y0.1 by rw [List.getElem?_map, g0]; rfl)
  have m1 := weights_struct Try.underlying60 hs (j := 1) rfl (show (ys.map (·.1))[1]? = some y1.1 by rw [List.getElem?_map, g1]; rfl)
  dsimp only at m0 m1
  obtain ⟨qd, kd, D, e0, r0, o0, l0⟩ := trod_rows (d0 := mg0) PMg_ok (by decide) Try.underlying57 (n := 9) (by kernel_rfl) (by_ := 88) (by kernel_rfl) elem_mg t0 m0
  obtain ⟨qb, kb, B, e1, r1, o1, l1⟩ := trod_rows (d0 := []) PBs_ok (by decide) Try.underlying58 (n := 1) (by kernel_rfl) (by_ := 24) (by kernel_rfl) elem_bs t1 m1
  refine ⟨⟨D, B⟩, hl, ⟨qd, kd, qb, kb, ?_, r0, r1⟩, ⟨o0, o1, by show D.length ≤ _; unfold reachBytes at l0; omega, by show B.length ≤ _; unfold reachBytes at l1; omega⟩⟩
  rcases cs with _ | ⟨a, _ | ⟨b, _ | _⟩⟩ <;> simp at hl
  simp at e0 e1
  rw [e0, e1]
theorem open_bks {r : Reach} {b0 : Nat} {v : Value} {d : DataW H} {p : List MemPlace} (hv : Value.okWide Try.prog w r b0 22 v) (h : DataW.Trod enc Try.prog w base (fun _ => true) held 22 v d p)
    (hs : ∀ n ∈ d.weights Try.prog 22, n ≤ reachBytes) : ∃ q c L, v = .slice q L.length c ∧ RwF 2 bk0 PBk w (fun g => g < w.heap.size) q L ∧ BksOk L ∧ L.length ≤ 3000000000000 := by
  obtain ⟨a0, len0, cap0, rfl⟩ := okWide_slice Try.underlying22 hv
  obtain ⟨fuel, hf⟩ := h
  obtain ⟨q, c, L, e, rr, ok, l⟩ := trod_rows (d0 := bk0) PBk_ok (by decide) Try.underlying22 (n := 2) (by kernel_rfl) (by_ := 48) (by kernel_rfl) elem_bk hf hs
  refine ⟨q, c, L, ?_, rr, ok, by unfold reachBytes at l; omega⟩
  simpa [Value.cells] using e
end
end Go.Proofs.Ytonjkhhihiigfaa
namespace Go.Proofs.Ytonjkhhihiigfaa
set_option maxRecDepth 100000
open Go.RowKit

def wOk (k : Int) : Bool := decide (1 ≤ k ∧ k ≤ 64)
/-- How many numbers are known. -/
def kN (h k : Int) : Int := if wOk k = true ∧ k < h then h - k else 0
theorem rightWindow_any (k : Int) (w : World) : Calls Try.prog 29 #[.int .i64 k] w fun e w' => e = .returned (.bool (wOk k)) ∧ w' = w := by
  unfold wOk
  by_cases h1 : (1 : Int) ≤ k
  · by_cases h2 : k ≤ 64
    · rw [decide_eq_true ⟨h1, h2⟩]
      have d1 : decide (k ≥ 1) = true := decide_eq_true h1
      have d2 : decide (k ≤ 64) = true := decide_eq_true h2
      go_enter Try.func29, Try.ntmps29
      go_wp2_with fail
      go_ret
      exact ⟨rfl, rfl⟩
    · rw [decide_eq_false (fun h => h2 h.2)]
      have d1 : decide (k ≥ 1) = true := decide_eq_true h1
      have d2 : decide (k ≤ 64) = false := decide_eq_false h2
      go_enter Try.func29, Try.ntmps29
      go_wp2_with fail
      go_ret
      exact ⟨rfl, rfl⟩
  · rw [decide_eq_false (fun h => h1 h.1)]
    have d1 : decide (k ≥ 1) = false := decide_eq_false h1
    have d1' : decide (1 ≤ k) = false := decide_eq_false h1
    go_enter Try.func29, Try.ntmps29
    go_wp2_with fail
    go_ret
    exact ⟨rfl, rfl⟩
theorem refwindow_any (k : Int) (w : World) : Calls Try.prog 28 #[.int .i64 k] w fun e w' => e = .returned (.bool (wOk k)) ∧ w' = w := by
  unfold wOk
  by_cases h1 : (1 : Int) ≤ k
  · by_cases h2 : k ≤ 64
    · rw [decide_eq_true ⟨h1, h2⟩]
      have d1 : decide (k ≥ 1) = true := decide_eq_true h1
      have d2 : decide (k ≤ 64) = true := decide_eq_true h2
      go_enter Try.func28, Try.ntmps28
      go_wp2_with fail
      go_ret
      exact ⟨rfl, rfl⟩
    · rw [decide_eq_false (fun h => h2 h.2)]
      have d1 : decide (k ≥ 1) = true := decide_eq_true h1
      have d2 : decide (k ≤ 64) = false := decide_eq_false h2
      go_enter Try.func28, Try.ntmps28
      go_wp2_with fail
      go_ret
      exact ⟨rfl, rfl⟩
  · rw [decide_eq_false (fun h => h1 h.1)]
    have d1 : decide (k ≥ 1) = false := decide_eq_false h1
    have d1' : decide (1 ≤ k) = false := decide_eq_false h1
    go_enter Try.func28, Try.ntmps28
    go_wp2_with fail
    go_ret
    exact ⟨rfl, rfl⟩
theorem Known_any {h k : Int} (hh : -9223372036854775808 ≤ h ∧ h < 9223372036854775808) (w : World) : Calls Try.prog 15 #[.int .i64 h, .int .i64 k] w fun e w' => e = .returned (.int .i64 (kN h k)) ∧ w' = w := by
  unfold kN
  cases hw : wOk k with
  | false =>
    rw [if_neg (by simp)]
    have KW := Lib.hid (rightWindow_any k w)
    rw [hw] at KW
    clear hw
    go_enter Try.func15, Try.ntmps15
    go_wp2_with fail
    refine KW.out.mono ?_
    rintro e wz ⟨rfl, rfl⟩
    go_wp2_with fail
    go_ret
    exact ⟨rfl, rfl⟩
  | true =>
    have KW := Lib.hid (rightWindow_any k w)
    rw [hw] at KW
    have hw' : 1 ≤ k ∧ k ≤ 64 := by simpa [wOk] using hw
    clear hw
    by_cases hk : k < h
    · rw [if_pos ⟨rfl, hk⟩]
      have d1 : decide (h ≤ k) = false := by rw [decide_eq_false_iff_not]; omega
      have w1 : IntKind.i64.wrap (h - k) = h - k := IntWalk.i64_in _ (by omega)
      have HK := Lib.hid hk
      clear hk
      go_enter Try.func15, Try.ntmps15
      go_wp2_with fail
      refine KW.out.mono ?_
      rintro e wz ⟨rfl, rfl⟩
      go_wp2_with fail
      go_ret
      exact ⟨rfl, rfl⟩
    · rw [if_neg (fun h => hk h.2)]
      have d1 : decide (h ≤ k) = true := by rw [decide_eq_true_iff]; omega
      clear hk
      go_enter Try.func15, Try.ntmps15
      go_wp2_with fail
      refine KW.out.mono ?_
      rintro e wz ⟨rfl, rfl⟩
      go_wp2_with fail
      go_ret
      exact ⟨rfl, rfl⟩
theorem refKnown_any {h k : Int} (hh : -9223372036854775808 ≤ h ∧ h < 9223372036854775808) (w : World) : Calls Try.prog 16 #[.int .i64 h, .int .i64 k] w fun e w' => e = .returned (.int .i64 (kN h k)) ∧ w' = w := by
  unfold kN
  cases hw : wOk k with
  | false =>
    rw [if_neg (by simp)]
    have KW := Lib.hid (refwindow_any k w)
    rw [hw] at KW
    clear hw
    go_enter Try.func16, Try.ntmps16
    go_wp2_with fail
    refine KW.out.mono ?_
    rintro e wz ⟨rfl, rfl⟩
    go_wp2_with fail
    go_ret
    exact ⟨rfl, rfl⟩
  | true =>
    have KW := Lib.hid (refwindow_any k w)
    rw [hw] at KW
    have hw' : 1 ≤ k ∧ k ≤ 64 := by simpa [wOk] using hw
    clear hw
    by_cases hk : h < k
    · have e0 : (if true = true ∧ k < h then h - k else 0) = 0 := if_neg (fun h => by omega)
      rw [e0]
      have d1 : decide (h < k) = true := by rw [decide_eq_true_iff]; omega
      clear e0
      go_enter Try.func16, Try.ntmps16
      go_wp2_with fail
      refine KW.out.mono ?_
      rintro e wz ⟨rfl, rfl⟩
      go_wp2_with fail
      go_ret
      exact ⟨rfl, rfl⟩
    · have e0 : (if true = true ∧ k < h then h - k else 0) = h - k := by
        by_cases h1 : k < h
        · exact if_pos ⟨rfl, h1⟩
        · rw [if_neg (fun h => h1 h.2)]; omega
      rw [e0]
      have d1 : decide (h < k) = false := by rw [decide_eq_false_iff_not]; omega
      have w1 : IntKind.i64.wrap (h - k) = h - k := IntWalk.i64_in _ (by omega)
      clear e0
      go_enter Try.func16, Try.ntmps16
      go_wp2_with fail
      refine KW.out.mono ?_
      rintro e wz ⟨rfl, rfl⟩
      go_wp2_with fail
      go_ret
      exact ⟨rfl, rfl⟩
end Go.Proofs.Ytonjkhhihiigfaa
