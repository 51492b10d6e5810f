/-
  What the program reads of bytes as a batch.; Which batches may be; what the program's GetBatch answers.; A writer and blobs.; A Tx's bytes, of the program.
-/
import Derived.Test.YtcpoaalhpjipaaaDoorMd1
import Derived.Test.YtcpoaalhpjipaaaDoorMd12
import Derived.Test.YtcpoaalhpjipaaaDoorMd17
namespace Go.Proofs.YtcpoaalhpjipaaaDoor
set_option maxRecDepth 100000
open Go.RowKit

/-- What bytes tell as a batch: i Txs, where the reader stands, its flag. -/
def bIt (xs : List Int) : Nat → List Tg × Nat × Bool
  | 0 => ([], 16, fC (fU false xs 0 8) xs 8 8)
  | i + 1 => ((bIt xs i).1 ++ [tM xs (bIt xs i).2.1 (bIt xs i).2.2], tE xs (bIt xs i).2.1 (bIt xs i).2.2, t7 xs (bIt xs i).2.1 (bIt xs i).2.2)
def bN (xs : List Int) : Nat := (uV (bIt xs 0).2.2 xs 8).toNat
def bEp (xs : List Int) : Int := uV (fU false xs 0 8) xs 0
theorem bIt_len (xs : List Int) : ∀ i, (bIt xs i).1.length = i
  | 0 => rfl
  | i + 1 => by simp [bIt, bIt_len xs i]
theorem bN_le {xs : List Int} (hx : Bytes xs) : bN xs ≤ 8 ∧ uV (bIt xs 0).2.2 xs 8 = (bN xs : Int) := by
  have h0 := uV_bd hx (bIt xs 0).2.2 8
  have h1 : uV (bIt xs 0).2.2 xs 8 ≤ 8 := by
    unfold uV
    split
    · decide
    · rename_i h
      have h2 : ¬ 8 < nAt xs 8 := fun h3 => h (by simp [bIt, fC, h3])
      omega
  unfold bN
  omega
theorem rowOf_on9 {w w' : World} {b o n : Nat} (h : 0 < (rowOf w b o n).length) (hb : Below w.heap.size w w') : rowOf w' b o n = rowOf w b o n := by
  unfold rowOf at *
  cases e : w.heap[b]? with
  | none => rw [e] at h; simp at h
  | some x => rw [hb.block b (Array.getElem?_eq_some_iff.1 e).1, e]
/-- A slice of Txs. -/
def RdTx (w : World) (q : Option Addr) (L : List Tg) : Prop := L = [] ∨ ∃ b off, q = some ⟨b, off, none⟩ ∧ ∀ i, i < L.length → ∃ qi ki, rowOf w b (off + i * 10) 10 = txRow (L.getD i tg0) qi (L.getD i tg0).data.length ki ∧ Rd w (.slice qi (L.getD i tg0).data.length ki) (L.getD i tg0).data
theorem RdTx.on {w w' : World} {q : Option Addr} {L : List Tg} (h : RdTx w q L) (hb : Below w.heap.size w w') : RdTx w' q L := by
  rcases h with h | ⟨b, off, e, hx⟩
  · exact .inl h
  · refine .inr ⟨b, off, e, fun i hi => ?_⟩
    obtain ⟨qi, ki, h1, h2⟩ := hx i hi
    exact ⟨qi, ki, by rw [rowOf_on9 (by rw [h1, txRow_len]; omega) hb]; exact h1, h2.on hb⟩
/-- Rows of zeros. -/
def ztx : Nat → List Value
  | 0 => []
  | m + 1 => txRow tg0 none 0 0 ++ ztx m
theorem ztx_len : ∀ m, (ztx m).length = m * 10
  | 0 => rfl
  | m + 1 => by rw [ztx, List.length_append, ztx_len m, txRow_len]; omega
theorem tx0_at : (List.range 10).map (fun k => (txRow tg0 none 0 0).toArray[k]!) = txRow tg0 none 0 0 := by kernel_rfl
theorem ztx_snoc : ∀ m, ztx (m + 1) = ztx m ++ txRow tg0 none 0 0
  | 0 => by simp [ztx]
  | m + 1 => by
    have := ztx_snoc m
    rw [ztx, this, ← List.append_assoc, ← ztx, this]
theorem made_tx (n : Nat) : (madeCells (txRow tg0 none 0 0).toArray (n * 10)).toList = ztx n := by
  induction n with
  | zero => simp [madeCells, ztx]
  | succ n ih =>
    have hs : (txRow tg0 none 0 0).toArray.size = 10 := rfl
    rw [ztx_snoc, ← ih]
    unfold madeCells
    simp only [Array.toList_map, Array.toList_range, hs]
    rw [show (n + 1) * 10 = n * 10 + 10 by omega, List.range_add, List.map_append, List.map_map]
    congr 1
    refine Eq.trans ?_ tx0_at
    refine List.map_congr_left fun k hk => ?_
    have hk' := List.mem_range.1 hk
    show (txRow tg0 none 0 0).toArray[(n * 10 + k) % 10]! = _
    rw [show (n * 10 + k) % 10 = k by omega]
/-- Rows that are done. -/
def DoneTx (W : World) (mx : Nat) (done : List Value) (L : List Tg) : Prop := done.length = L.length * 10 ∧ ∀ j, j < L.length → ∃ q k, (done.drop (j * 10)).take 10 = txRow (L.getD j tg0) q (L.getD j tg0).data.length k ∧ Rd W (.slice q (L.getD j tg0).data.length k) (L.getD j tg0).data ∧ ∀ g, (Value.slice q (L.getD j tg0).data.length k).ownBlock = some g → mx ≤ g
theorem DoneTx.chg {W W' : World} {mx : Nat} {done : List Value} {L : List Tg} {K : List Nat} (h : DoneTx W mx done L) (hc : Chg W W' K) (hK : ∀ x, x ∈ K → x < mx) : DoneTx W' mx done L := by
  refine ⟨h.1, fun j hj => ?_⟩
  obtain ⟨q, k, h1, h2, h3⟩ := h.2 j hj
  exact ⟨q, k, h1, h2.chg hc (fun _ g hg _ hm => by have := h3 g hg; have := hK g hm; omega), h3⟩
theorem DoneTx.add {W : World} {mx : Nat} {done : List Value} {L : List Tg} {t : Tg} {q : Option Addr} {k : Nat} (h : DoneTx W mx done L) (hr : Rd W (.slice q t.data.length k) t.data) (hf : ∀ g, (Value.slice q t.data.length k).ownBlock = some g → mx ≤ g) : DoneTx W mx (done ++ txRow t q t.data.length k) (L ++ [t]) := by
  refine ⟨by simp [h.1, txRow_len]; omega, fun j hj => ?_⟩
  by_cases e : j = L.length
  · subst e
    have e1 : (L ++ [t]).getD L.length tg0 = t := by simp [List.getD]
    rw [e1]
    exact ⟨q, k, by rw [List.drop_left' h.1]; exact List.take_of_length_le (by rw [txRow_len]; omega), hr, hf⟩
  · have hj2 : j < L.length := by simp at hj; omega
    have e1 : (L ++ [t]).getD j tg0 = L.getD j tg0 := by simp [List.getD, List.getElem?_append_left hj2]
    obtain ⟨q', k', h1, h2, h3⟩ := h.2 j hj2
    rw [e1]
    refine ⟨q', k', ?_, h2, h3⟩
    have hl := h.1
    rw [List.drop_append_of_le_length (by omega), List.take_append_of_le_length (by rw [List.length_drop]; omega)]
    exact h1
theorem DoneTx.rd {W : World} {mx g : Nat} {done post : List Value} {L : List Tg} (h : DoneTx W mx done L) (hb : W.heap[g]? = some (.cells (done ++ post).toArray 72 (0, 0))) : RdTx W (some ⟨g, 0, none⟩) L := by
  refine .inr ⟨g, 0, rfl, fun j hj => ?_⟩
  obtain ⟨q, k, h1, h2, _⟩ := h.2 j hj
  refine ⟨q, k, ?_, h2⟩
  have hl := h.1
  rw [rowOf_block hb, Nat.zero_add]
  have e : ((done ++ post).drop (j * 10)).take 10 = (done.drop (j * 10)).take 10 := by
    rw [List.drop_append_of_le_length (by omega), List.take_append_of_le_length (by rw [List.length_drop]; omega)]
  rw [← h1, ← e]
  simp [List.take_drop]
theorem Tryd.infoTx : (Tryd.prog.info? 72).map (fun i => (i.zero, i.size, i.bytes)) = some (some (.agg (txRow tg0 none 0 0).toArray), 10, 96) := by kernel_rfl

set_option maxHeartbeats 16000000 in
theorem Batchparse_any {w : World} {bb p : Nat} {v : Value} {xs : List Int} (hK : w.heap[bb]? = some (.cells #[.int .u64 0, .slice none 0 0] 59 (0, 0))) (hS : RSt w p v xs 0 false) (hx : Bytes xs) (hbp : bb ≠ p) :
    Calls Tryd.prog 118 #[.pointer (some ⟨bb, 0, none⟩), .pointer (some ⟨p, 0, none⟩)] w fun e w' => ∃ g, e = .returned (.tuple #[]) ∧ w'.heap[bb]? = some (.cells #[.int .u64 (bEp xs), .slice (some ⟨g, 0, none⟩) (bN xs) (bN xs)] 59 (0, 0)) ∧ RdTx w' (some ⟨g, 0, none⟩) (bIt xs (bN xs)).1 ∧ RSt w' p v xs (bIt xs (bN xs)).2.1 (bIt xs (bN xs)).2.2 ∧ w.heap.size ≤ g ∧ Chg w w' [bb, p] := by
  obtain ⟨i0, hi, hz0, hz1, hz2⟩ := info_parts Tryd.infoTx
  replace hi := Lib.hid hi
  replace hz0 := Lib.hid hz0
  replace hz1 := Lib.hid hz1
  replace hz2 := Lib.hid hz2
  have BX := Lib.hid hx
  have hbl : bb < w.heap.size := (Array.getElem?_eq_some_iff.1 hK).1
  have K0 := Lib.hid hK
  have S0 := Lib.hid hS
  have EP : Hid (bEp xs = uV (fU false xs 0 8) xs 0) := rfl
  obtain ⟨hn8, hnz⟩ := bN_le hx
  have NZ := Lib.hid hnz
  have HF0 : Hid (fC (fU false xs 0 8) xs (0 + 8) 8 = (bIt xs 0).2.2) := rfl
  have HP0 : Hid ((bIt xs 0).2.1 = 16) := rfl
  have HL0 : Hid ((bIt xs 0).1 = []) := rfl
  have IT : Hid (∀ i, bIt xs (i + 1) = ((bIt xs i).1 ++ [tM xs (bIt xs i).2.1 (bIt xs i).2.2], tE xs (bIt xs i).2.1 (bIt xs i).2.2, t7 xs (bIt xs i).2.1 (bIt xs i).2.2)) := fun i => rfl
  have IL : Hid (∀ i, (bIt xs i).1.length = i) := bIt_len xs
  obtain ⟨BI, hBI⟩ : ∃ BI, bIt xs = BI := ⟨_, rfl⟩
  rw [hBI] at NZ HF0 HP0 HL0 IT IL ⊢
  obtain ⟨n, hn⟩ : ∃ n, bN xs = n := ⟨_, rfl⟩
  rw [hn] at hn8 NZ ⊢
  obtain ⟨ep, hep⟩ : ∃ ep, bEp xs = ep := ⟨_, rfl⟩
  rw [hep] at EP ⊢
  clear hK hS hx hnz hBI hn hep
  have c0 : w.cell? ⟨bb, 0, none⟩ = some (.int .u64 0) := (Joins.cell_of_block K0.out 0).trans rfl
  go_enter Tryd.func118, Tryd.ntmps118
  go_wp2_with fail
  clear c0
  refine (Uint_st S0.out BX.out).mono ?_
  rintro e w1 ⟨rfl, hs, hc⟩
  rw [← EP.out]
  have K1 : w1.heap[bb]? = some (.cells #[.int .u64 0, .slice none 0 0] 59 (0, 0)) := by rw [hc.block bb hbl (by simpa using hbp)]; exact K0.out
  have c0 : w1.cell? ⟨bb, 0, none⟩ = some (.int .u64 0) := (Joins.cell_of_block K1 0).trans rfl
  have y0 := Joins.unfrozen_of_block K1 0
  have cs : Chg w1 (w1.setCell ⟨bb, 0, none⟩ (.int .u64 ep)) [bb] := (Chg.refl _ [bb]).setCell (p := ⟨bb, 0, none⟩) (.inl (by simp)) _
  have K2 : Hid ((w1.setCell ⟨bb, 0, none⟩ (.int .u64 ep)).heap[bb]? = some (.cells #[.int .u64 ep, .slice none 0 0] 59 (0, 0))) := Joins.block_setCell (i := 0) K1 _
  have S2 := Lib.hid (hs.chg2 cs (by simpa using Ne.symm hbp) (fun ho g hg hm => by
    obtain rfl : g = bb := by simpa using hm
    exact own_ne ho K1 (by decide) hg))
  have C2 : Hid (Chg w (w1.setCell ⟨bb, 0, none⟩ (.int .u64 ep)) [bb, p]) := (hc.more (by simp)).trans (cs.more (by simp)) (fun x hx _ => hx)
  clear hs hc K1 cs K0 S0
  go_wp2_with fail
  clear c0 y0
  generalize w1.setCell ⟨bb, 0, none⟩ (.int .u64 ep) = w2 at *
  refine (Count_det (most := 8) S2.out BX.out (by omega)).mono ?_
  rintro e w3 ⟨rfl, hs, hc⟩
  rw [HF0.out] at hs ⊢
  rw [show 0 + 8 = 8 from rfl, NZ.out]
  have hb2 : bb < w2.heap.size := (Array.getElem?_eq_some_iff.1 K2.out).1
  have K3 : Hid (w3.heap[bb]? = some (.cells #[.int .u64 ep, .slice none 0 0] 59 (0, 0))) := by
    show _ = _
    rw [hc.block bb hb2 (by simpa using hbp)]; exact K2.out
  have S3 : Hid (RSt w3 p v xs 16 (BI 0).2.2) := hs
  have C3 : Hid (Chg w w3 [bb, p]) := C2.out.trans (hc.more (by simp)) (fun x hx _ => hx)
  clear hs hc K2 S2 C2 hb2
  go_wp2_with (refine wpList_make_full _ rfl _ _ _ rfl 0 _ _ _ _ Tryd.underlying56 hi.out hz0.out hz1.out _ _ _ _ n rfl rfl rfl rfl ?b1 ?b2 ?b3 ?_)
  case b1 => rw [hz2.out]; omega
  case b2 => unfold maxLen; omega
  case b3 => omega
  intro w4 own4 grow4
  have b4 : Below w3.heap.size w3 w4 := (Below.refl _ _).grown grow4 (Nat.le_refl _) (by intro k hk; simp at hk)
  have hbs : bb < w3.heap.size := (Array.getElem?_eq_some_iff.1 K3.out).1
  have hps : p < w3.heap.size := S3.out.lt
  have K4 : w4.heap[bb]? = some (.cells #[.int .u64 ep, .slice none 0 0] 59 (0, 0)) := by rw [b4.block bb hbs]; exact K3.out
  have G4 : w4.heap[w3.heap.size]? = some (.cells ([] ++ ztx n).toArray 72 (0, 0)) := by
    rcases own4.2 with ⟨e, _⟩ | ⟨g', cap, cur, e, _, h1, h2, h3, h4, h5⟩
    · simp at e
    · simp only [Value.slice.injEq, Option.some.injEq, Addr.mk.injEq] at e
      obtain ⟨⟨e1, -, -⟩, -, e2⟩ := e
      subst e1 e2
      rw [h1]
      have e1 : (madeCells (txRow tg0 none 0 0).toArray (n * 10)).toList = ztx n := made_tx n
      rw [e1] at h5
      have hl : cur.toList.length = n * 10 := by rw [Array.length_toList, h4]
      rw [List.take_of_length_le (by omega)] at h5
      rw [List.nil_append, ← h5]
  have hg4 : w3.heap.size < w4.heap.size := (Array.getElem?_eq_some_iff.1 G4).1
  have c1 : w4.cell? ⟨bb, 1, none⟩ = some (.slice none 0 0) := (Joins.cell_of_block K4 1).trans rfl
  have y1 := Joins.unfrozen_of_block K4 1
  have cs : Chg w4 (w4.setCell ⟨bb, 1, none⟩ (.slice (some ⟨w3.heap.size, 0, none⟩) n n)) [bb] := (Chg.refl _ [bb]).setCell (p := ⟨bb, 1, none⟩) (.inl (by simp)) _
  have K5 : Hid ((w4.setCell ⟨bb, 1, none⟩ (.slice (some ⟨w3.heap.size, 0, none⟩) n n)).heap[bb]? = some (.cells #[.int .u64 ep, .slice (some ⟨w3.heap.size, 0, none⟩) n n] 59 (0, 0))) := Joins.block_setCell (i := 1) K4 _
  have G5 : Hid ((w4.setCell ⟨bb, 1, none⟩ (.slice (some ⟨w3.heap.size, 0, none⟩) n n)).heap[w3.heap.size]? = some (.cells ([] ++ ztx n).toArray 72 (0, 0))) := by
    show _ = _
    rw [cs.block _ hg4 (by simp; omega)]; exact G4
  have S5 := Lib.hid ((S3.out.on b4).chg2 cs (by simpa using Ne.symm hbp) (fun ho g hg hm => by
    obtain rfl : g = bb := by simpa using hm
    exact own_ne ho K4 (by decide) hg))
  have C5 : Hid (Chg w (w4.setCell ⟨bb, 1, none⟩ (.slice (some ⟨w3.heap.size, 0, none⟩) n n)) [bb, p]) := (C3.out.trans (Chg.below b4 (Nat.le_refl _) [bb, p]) (fun x hx _ => hx)).trans (cs.more (by simp)) (fun x hx _ => hx)
  have hwg : Hid (w.heap.size ≤ w3.heap.size) := C3.out.size
  have hMX : Hid (w3.heap.size < (w4.setCell ⟨bb, 1, none⟩ (.slice (some ⟨w3.heap.size, 0, none⟩) n n)).heap.size) := Nat.lt_of_lt_of_le hg4 cs.size
  have d1 : (w4.setCell ⟨bb, 1, none⟩ (.slice (some ⟨w3.heap.size, 0, none⟩) n n)).cell? ⟨bb, 1, none⟩ = some (.slice (some ⟨w3.heap.size, 0, none⟩) n n) := (Joins.cell_of_block K5.out 1).trans rfl
  clear own4 grow4 b4 K4 G4 cs K3 S3 C3
  go_wp2_with fail
  clear c1 y1 d1
  obtain ⟨g, hg⟩ : ∃ g, w3.heap.size = g := ⟨_, rfl⟩
  rw [hg] at K5 G5 S5 C5 hwg hMX hbs hps ⊢
  generalize w4.setCell ⟨bb, 1, none⟩ (.slice (some ⟨g, 0, none⟩) n n) = w5 at *
  clear hg hg4
  obtain ⟨mx, hmx⟩ : ∃ mx, w5.heap.size = mx := ⟨_, rfl⟩
  have D5 : Hid (DoneTx w5 mx [] (BI 0).1) := by
    rw [HL0.out]
    exact ⟨rfl, fun j hj => by simp at hj⟩
  have P5 : Hid (RSt w5 p v xs (BI 0).2.1 (BI 0).2.2) := by rw [HP0.out]; exact S5.out
  have M5 : Hid (mx ≤ w5.heap.size) := Nat.le_of_eq hmx.symm
  have hgm : Hid (g < mx) := by rw [← hmx]; exact hMX.out
  clear hmx hMX S5
  go_loopw [21] (fun iv wr => ∃ (i : Nat) (done : List Value), iv = .int .i64 (i : Int) ∧ i ≤ n ∧ Hid (wr.heap[bb]? = some (.cells #[.int .u64 ep, .slice (some ⟨g, 0, none⟩) n n] 59 (0, 0))) ∧ Hid (wr.heap[g]? = some (.cells (done ++ ztx (n - i)).toArray 72 (0, 0))) ∧ Hid (DoneTx wr mx done (BI i).1) ∧ Hid (RSt wr p v xs (BI i).2.1 (BI i).2.2) ∧ Hid (mx ≤ wr.heap.size) ∧ Hid (Chg w wr [bb, p])) (fun iv _ => n - (intOf iv).toNat)
  case atStart => exact ⟨0, [], rfl, by omega, K5, G5, D5, P5, M5, C5⟩
  case round =>
    clear K5 G5 D5 P5 M5 C5
    obtain ⟨i, done, rfl, hil, hK, hG, hD, hS, hM, hC⟩ := hrel
    by_cases hlt : i < n
    · have d1 : wr.cell? ⟨bb, 1, none⟩ = some (.slice (some ⟨g, 0, none⟩) n n) := (Joins.cell_of_block hK.out 1).trans rfl
      have hdl : done.length = i * 10 := by have := hD.out.1; rw [IL.out i] at this; exact this
      have T0 : Hid (TxIn wr g done (txRow tg0 none 0 0) (ztx (n - (i + 1)))) := by
        have := hG.out
        rw [show n - i = (n - (i + 1)) + 1 by omega] at this
        exact this
      have HDL := Lib.hid hdl
      clear hdl hG
      go_wp2_with fail
      clear d1
      refine (Txparse_any T0.out HDL.out.symm hS.out BX.out (by have := hgm.out; omega)).mono ?_
      rintro e w6 ⟨q, k, rfl, hT, hS6, hR, hF, hC6⟩
      have hgb : bb ≠ g := by omega
      have K6 : Hid (w6.heap[bb]? = some (.cells #[.int .u64 ep, .slice (some ⟨g, 0, none⟩) n n] 59 (0, 0))) := by
        show _ = _
        rw [hC6.block bb (Array.getElem?_eq_some_iff.1 hK.out).1 (by simp; omega)]; exact hK.out
      have D6 : Hid (DoneTx w6 mx (done ++ txRow (tM xs (BI i).2.1 (BI i).2.2) q (tM xs (BI i).2.1 (BI i).2.2).data.length k) (BI (i + 1)).1) := by
        rw [IT.out i]
        exact (hD.out.chg hC6 (fun x hx => by have := hgm.out; simp at hx; omega)).add hR (fun g' hg' => Nat.le_trans hM.out (hF g' hg'))
      have G6 : Hid (w6.heap[g]? = some (.cells ((done ++ txRow (tM xs (BI i).2.1 (BI i).2.2) q (tM xs (BI i).2.1 (BI i).2.2).data.length k) ++ ztx (n - (i + 1))).toArray 72 (0, 0))) := by
        have := hT
        unfold TxIn at this
        rw [← List.append_assoc] at this
        exact this
      have S6 : Hid (RSt w6 p v xs (BI (i + 1)).2.1 (BI (i + 1)).2.2) := by rw [IT.out i]; exact hS6
      have M6 : Hid (mx ≤ w6.heap.size) := Nat.le_trans hM.out hC6.size
      have C6 : Hid (Chg w w6 [bb, p]) := hC.out.trans hC6 (fun x hx hl => by have := hwg.out; simp at hx ⊢; omega)
      clear hT hS6 hR hF hC6 T0 hK hD hS hM hC HDL hgb
      go_wp2_with fail
      go_roundw
      case rel => exact ⟨i + 1, _, by go_num, by omega, K6, G6, D6, S6, M6, C6⟩
      case measure => simp [intOf]; omega
    · obtain rfl : i = n := by omega
      have RD := Lib.hid (hD.out.rd hG.out)
      clear hD hG
      go_wp2_with fail
      go_end0
      exact ⟨g, rfl, hK.out, RD.out, hS.out, hwg.out, hC.out⟩
end Go.Proofs.YtcpoaalhpjipaaaDoor
namespace Go.Proofs.YtcpoaalhpjipaaaDoor
set_option maxRecDepth 100000
open Go.RowKit

theorem RightTx_g {w : World} {t : Tg} {q : Option Addr} {n k : Nat} (hg : ¬ t.gas ≤ 65536) :
    Calls Tryd.prog 33 #[.agg (txRow t q n k).toArray] w fun e w' => e = .returned (.bool false) ∧ Below w.heap.size w w' := by
  have B0 := Lib.hid ((Below.refl w.heap.size w).alloc (Nat.le_refl _) (.cells (txRow t q n k).toArray 72))
  have K := TxAt.new w 72 t q n k
  obtain ⟨-, -, -, -, -, -, -, -, c8, c9⟩ := K.cells
  clear K
  have hgI : (65536 : Int) < t.gas := by omega
  have dg : decide ((65536 : Int) < t.gas) = true := decide_eq_true hgI
  go_enter Tryd.func33, Tryd.ntmps33
  go_wp2_with fail
  go_step3
  go_wp2_with fail
  rw [Exit.noGoto_ret]
  go_ret
  exact ⟨rfl, B0.out⟩
theorem RightTx_l {w : World} {t : Tg} {q : Option Addr} {n k : Nat} (hg : t.gas ≤ 65536) (hl : ¬ (n : Int) ≤ 256) :
    Calls Tryd.prog 33 #[.agg (txRow t q n k).toArray] w fun e w' => e = .returned (.bool false) ∧ Below w.heap.size w w' := by
  have B0 := Lib.hid ((Below.refl w.heap.size w).alloc (Nat.le_refl _) (.cells (txRow t q n k).toArray 72))
  have K := TxAt.new w 72 t q n k
  obtain ⟨-, -, -, -, -, -, -, -, c8, c9⟩ := K.cells
  clear K
  have hgI : ¬ (65536 : Int) < t.gas := by omega
  have dg : decide ((65536 : Int) < t.gas) = false := by rw [decide_eq_false_iff_not]; exact hgI
  have hlI : (256 : Int) < (n : Int) := by omega
  have dl : decide ((256 : Int) < (n : Int)) = true := decide_eq_true hlI
  go_enter Tryd.func33, Tryd.ntmps33
  go_wp2_with fail
  go_step3
  go_wp2_with fail
  rw [Exit.noGoto_ret]
  go_ret
  exact ⟨rfl, B0.out⟩

theorem RightTx_any {w : World} {t : Tg} {q : Option Addr} {n k : Nat} (hr : Rd w (.slice q n k) t.data) (hx : Bytes t.data) (hn : n ≤ 140737488355328) :
    Calls Tryd.prog 33 #[.agg (txRow t q n k).toArray] w fun e w' => e = .returned (.bool (okT t n)) ∧ Below w.heap.size w w' := by
  by_cases hg : t.gas ≤ 65536
  · by_cases hl : (n : Int) ≤ 256
    · have e0 : okT t n = okK t n := by unfold okT; rw [decide_eq_true hg, decide_eq_true hl]; rfl
      rw [e0]
      unfold okK
      by_cases h1 : t.kd = 1
      · rw [if_pos h1]; exact RightTx_k1 hr hx hn hg hl h1
      · rw [if_neg h1]
        by_cases h2 : t.kd = 2
        · rw [if_pos h2]; exact RightTx_k2 hr hx hn hg hl h2
        · rw [if_neg h2]
          by_cases h3 : t.kd = 3
          · rw [if_pos h3]; exact RightTx_k3 hr hx hn hg hl h3
          · rw [if_neg h3]
            exact RightTx_k0 hr hx hn hg hl (by simpa using fun e => h1 e.symm) (by simpa using fun e => h2 e.symm) (by simpa using fun e => h3 e.symm)
    · have e0 : okT t n = false := by unfold okT; rw [decide_eq_false hl]; simp
      rw [e0]; exact RightTx_l hg hl
  · have e0 : okT t n = false := by unfold okT; rw [decide_eq_false hg]; simp
    rw [e0]; exact RightTx_g hg
/-- May a batch be? -/
def okL (L : List Tg) : Bool := L.all fun t => okT t t.data.length
def okB (L : List Tg) : Bool := decide (L.length ≤ 8) && okL L
def TgsOk (L : List Tg) : Prop := ∀ t ∈ L, t.ok ∧ t.data.length ≤ 140737488355328
theorem TgsOk.get {L : List Tg} (h : TgsOk L) {i : Nat} (hi : i < L.length) : (L.getD i tg0).ok ∧ (L.getD i tg0).data.length ≤ 140737488355328 := by
  have e : L.getD i tg0 = L[i] := by simp [List.getD, hi]
  rw [e]
  exact h _ (List.getElem_mem hi)
set_option maxHeartbeats 8000000 in
theorem rightBatch_any {w : World} {ep : Int} {q : Option Addr} {c : Nat} {L : List Tg} (hr : RdTx w q L) (ok : TgsOk L) (hn : L.length ≤ 140737488355328) :
    Calls Tryd.prog 42 #[.agg #[.int .u64 ep, .slice q L.length c]] w fun e w' => e = .returned (.bool (okB L)) ∧ Below w.heap.size w w' := by
  have b0 : Below w.heap.size w (w.alloc (.cells #[.int .u64 ep, .slice q L.length c] 59)) := (Below.refl _ _).alloc (Nat.le_refl _) _
  have B0 := Lib.hid b0
  have K0 := heap_alloc_new w (.cells #[.int .u64 ep, .slice q L.length c] 59)
  have c1 : (w.alloc (.cells #[.int .u64 ep, .slice q L.length c] 59)).cell? ⟨w.heap.size, 1, none⟩ = some (.slice q L.length c) := (Joins.cell_of_block K0 1).trans rfl
  have R0 := Lib.hid (hr.on b0)
  have OK := Lib.hid ok
  have YES : Hid (L.length ≤ 8 → (∀ j, j < L.length → okT (L.getD j tg0) (L.getD j tg0).data.length = true) → okB L = true) := fun h1 h2 => by
    unfold okB okL
    rw [decide_eq_true h1, Bool.true_and, List.all_eq_true]
    intro t ht
    obtain ⟨i, hi, e⟩ := List.getElem_of_mem ht
    have := h2 i hi
    have e2 : L.getD i tg0 = t := by simp [List.getD, hi, e]
    rwa [e2] at this
  have NO : Hid (∀ j, j < L.length → okT (L.getD j tg0) (L.getD j tg0).data.length = false → okB L = false) := fun j hj h => by
    unfold okB okL
    rw [Bool.and_eq_false_iff]
    right
    rw [List.all_eq_false]
    exact ⟨L[j], List.getElem_mem hj, by have e2 : L.getD j tg0 = L[j] := by simp [List.getD, hj]
                                         rw [e2] at h; rw [h]; simp⟩
  have NO8 : Hid (¬ L.length ≤ 8 → okB L = false) := fun h => by unfold okB; rw [decide_eq_false h]; rfl
  obtain ⟨res, hres⟩ : ∃ res, okB L = res := ⟨_, rfl⟩
  rw [hres] at YES NO NO8 ⊢
  clear hr ok b0 K0 hres
  go_enter Tryd.func42, Tryd.ntmps42
  by_cases h8 : L.length ≤ 8
  rotate_left
  · have hI : (8 : Int) < (L.length : Int) := by omega
    have E := NO8.out h8
    go_wp2_with fail
    go_ret
    exact ⟨by rw [E]; rfl, B0.out⟩
  have hI : ¬ (8 : Int) < (L.length : Int) := by omega
  have dI : decide ((8 : Int) < (L.length : Int)) = false := by rw [decide_eq_false_iff_not]; exact hI
  go_wp2_with fail
  clear c1 hI dI
  generalize w.alloc (.cells #[.int .u64 ep, .slice q L.length c] 59) = w0 at *
  go_loopw [12] (fun iv wr => ∃ i : Nat, iv = .int .i64 (i : Int) ∧ i ≤ L.length ∧ Hid (∀ j, j < i → okT (L.getD j tg0) (L.getD j tg0).data.length = true) ∧ Hid (Below w.heap.size w wr) ∧ Hid (RdTx wr q L)) (fun iv _ => L.length - (intOf iv).toNat)
  case atStart => exact ⟨0, rfl, by omega, Lib.hid (fun j hj => by omega), B0, R0⟩
  case round =>
    clear B0 R0
    obtain ⟨i, rfl, hi', hS, hB, hQ⟩ := hrel
    by_cases hlt : i < L.length
    · have hne : L ≠ [] := fun e => by rw [e] at hlt; simp at hlt
      obtain ⟨b, off, rfl, hx2⟩ := hQ.out.resolve_left hne
      obtain ⟨qi, ki, r10, rh⟩ := hx2 i hlt
      have oks := OK.out.get hlt
      have FN : Hid (okT (L.getD i tg0) (L.getD i tg0).data.length = false → res = false) := NO.out i hlt
      have FS : Hid (okT (L.getD i tg0) (L.getD i tg0).data.length = true → ∀ j, j < i + 1 → okT (L.getD j tg0) (L.getD j tg0).data.length = true) := fun hk j hj => by
        by_cases e : j = i
        · subst e; exact hk
        · exact hS.out j (by omega)
      obtain ⟨t, htx⟩ : ∃ t, L.getD i tg0 = t := ⟨_, rfl⟩
      rw [htx] at r10 rh oks FN FS
      have hlen := txRow_len t qi t.data.length ki
      have bA : Below wr.heap.size wr (wr.alloc (.cells (txRow tg0 none 0 0).toArray 72)) := (Below.refl _ _).alloc (Nat.le_refl _) _
      have KA := TxAt.new wr 72 tg0 none 0 0
      have th := KA.there
      have cs : Below wr.heap.size wr ((wr.alloc (.cells (txRow tg0 none 0 0).toArray 72)).setCells wr.heap.size 0 (txRow t qi t.data.length ki)) := below_setCells' _ (Nat.le_refl _) _ _ bA
      have K1 := (KA.put t qi t.data.length ki)
      have hrow := K1.row
      have R1 := Lib.hid (rh.on cs)
      have Q1 := Lib.hid (hQ.out.on cs)
      have B1 := Lib.hid (hB.out.trans (cs.mono hB.out.size))
      have OT := Lib.hid oks
      have szz : ((wr.alloc (.cells (txRow tg0 none 0 0).toArray 72)).setCells wr.heap.size 0 (txRow t qi t.data.length ki)).heap.size = wr.heap.size + 1 := by rw [size_setCells]; simp
      clear hx2 hne rh oks htx hS hQ hB bA KA cs K1
      go_wp2_with fail
      clear r10 th szz hrow
      refine (RightTx_any R1.out OT.out.1.data OT.out.2).mono ?_
      rintro e w5 ⟨rfl, hb5⟩
      have B5 := Lib.hid (B1.out.trans (hb5.mono B1.out.size))
      have Q5 := Lib.hid (Q1.out.on hb5)
      clear hb5 B1 Q1 R1
      cases hk : okT t t.data.length with
      | false =>
        have E := FN.out hk
        clear FN FS hk
        go_wp2_with fail
        go_ret
        exact ⟨by rw [E]; rfl, B5.out⟩
      | true =>
        have S5 := Lib.hid (FS.out hk)
        clear FN FS hk
        go_wp2_with fail
        go_roundw
        case rel => exact ⟨i + 1, by go_num, by omega, S5, B5, Q5⟩
        case measure => simp [intOf]; omega
    · obtain rfl : i = L.length := by omega
      have E := YES.out h8 hS.out
      clear YES NO NO8 hS hQ
      go_wp2_with fail
      go_ret
      exact ⟨by rw [E]; rfl, hB.out⟩

/-! ### GetBatch -/
theorem bIt_ok {xs : List Int} (hx : Bytes xs) : ∀ i, TgsOk (bIt xs i).1
  | 0 => fun t ht => by cases ht
  | i + 1 => fun t ht => by
    rcases List.mem_append.1 ht with ht | ht
    · exact bIt_ok hx i t ht
    · obtain rfl : t = _ := by simpa using ht
      exact ⟨tM_ok hx _ _, by have := tM_len xs (bIt xs i).2.1 (bIt xs i).2.2; omega⟩
def brOk (xs : List Int) : Bool := !(bIt xs (bN xs)).2.2 && decide ((bIt xs (bN xs)).2.1 = xs.length)
def bOk (xs : List Int) : Bool := brOk xs && okB (bIt xs (bN xs)).1
def bE (xs : List Int) : Int := if bOk xs = true then 0 else 21
def bGe (xs : List Int) : Int := if bOk xs = true then bEp xs else 0
def bGl (xs : List Int) : List Tg := if bOk xs = true then (bIt xs (bN xs)).1 else []
set_option maxHeartbeats 4000000 in
theorem readB_any {w : World} {b : Nat} {vb : Value} {xs : List Int} (hr : Rd w vb xs) (hx : Bytes xs) (hl : xs.length ≤ 140737488355328) (hK : w.heap[b]? = some (.cells #[.int .u64 0, .slice none 0 0] 59 (0, 0))) :
    Calls Tryd.prog 36 #[vb, .iface 100 (.pointer (some ⟨b, 0, none⟩))] w fun e w' => ∃ g, e = .returned (.bool (brOk xs)) ∧ w'.heap[b]? = some (.cells #[.int .u64 (bEp xs), .slice (some ⟨g, 0, none⟩) (bN xs) (bN xs)] 59 (0, 0)) ∧ RdTx w' (some ⟨g, 0, none⟩) (bIt xs (bN xs)).1 ∧ Chg w w' [b] := by
  have BX := Lib.hid hx
  have KN := Lib.hid (NewReader_any hr hl)
  have K0 := Lib.hid hK
  have hbl : b < w.heap.size := (Array.getElem?_eq_some_iff.1 hK).1
  have RK : Hid (brOk xs = (!(bIt xs (bN xs)).2.2 && decide ((bIt xs (bN xs)).2.1 = xs.length))) := rfl
  obtain ⟨qv, cv, rfl⟩ := hr.len
  clear hr hx hK
  go_enter Tryd.func36, Tryd.ntmps36
  go_wp2_with fail
  refine KN.out.mono ?_
  rintro e w1 ⟨p, v1, rfl, hV, hp, hb1, -⟩
  have S1 := Lib.hid (RSt.mk0 hV)
  have K1 : Hid (w1.heap[b]? = some (.cells #[.int .u64 0, .slice none 0 0] 59 (0, 0))) := by show _ = _; rw [hb1.block b hbl]; exact K0.out
  have B1 := Lib.hid hb1
  clear hV hb1 KN K0
  go_wp2_with fail
  refine (Batchparse_any K1.out S1.out BX.out (by omega)).mono ?_
  rintro e w2 ⟨g, rfl, hK2, hR2, hS2, -, hC2⟩
  have K2 := Lib.hid hK2
  have R2 := Lib.hid hR2
  have C2 : Hid (Chg w w2 [b]) := (Chg.below B1.out (Nat.le_refl _) [b]).trans hC2 (fun x hx hl => by simp at hx ⊢; omega)
  clear hK2 hR2 hC2 K1 S1 B1
  go_wp2_with fail
  refine (Done_st hS2).mono ?_
  rintro e w3 ⟨z, m, rfl, rfl, hz⟩
  have K3 := Lib.hid (show (w2.drewN m).heap[b]? = some (.cells #[.int .u64 (bEp xs), .slice (some ⟨g, 0, none⟩) (bN xs) (bN xs)] 59 (0, 0)) from K2.out)
  have R3 := Lib.hid (R2.out.on (below_drewN (Below.refl _ _) m))
  have C3 : Hid (Chg w (w2.drewN m) [b]) := C2.out.trans (show Chg w2 (w2.drewN m) [] from ⟨rfl, rfl, rfl, Nat.le_refl _, fun _ _ _ => rfl⟩) (fun x hx _ => by cases hx)
  have HZ : Hid ((z == 0) = brOk xs) := by
    show _ = _
    rw [RK.out]
    by_cases h : z = 0
    · obtain ⟨h1, h2⟩ := hz.1 h
      rw [h1, h]; simp [h2]
    · have h0 : (z == 0) = false := by simpa using h
      rw [h0]
      cases hg : (bIt xs (bN xs)).2.2 with
      | true => rfl
      | false =>
        have : ¬ (bIt xs (bN xs)).2.1 = xs.length := fun e => h (hz.2 ⟨hg, e⟩)
        simp [this]
  clear hz hS2 K2 R2 C2
  go_wp2_with fail
  go_ret
  exact ⟨g, by first | rw [HZ.out]; rfl | rfl, K3.out, R3.out, C3.out⟩
theorem RdTx.two {w : World} {b n0 c0 : Nat} {x : Int} {q q0 : Option Addr} {L : List Tg} {u v : Value} (h : RdTx w q L) (hb : w.heap[b]? = some (.cells #[.int .u64 x, .slice q0 n0 c0] 59 (0, 0))) : RdTx ((w.setCell ⟨b, 0, none⟩ u).setCell ⟨b, 1, none⟩ v) q L := by
  have cs : Chg w ((w.setCell ⟨b, 0, none⟩ u).setCell ⟨b, 1, none⟩ v) [b] := ((Chg.refl w [b]).setCell (p := ⟨b, 0, none⟩) (.inl (by simp)) _).setCell (p := ⟨b, 1, none⟩) (.inl (by simp)) _
  have nb : ∀ {o : Nat} {z : Int}, ¬ w.cell? ⟨b, o, none⟩ = some (.int .u8 z) := fun {o z} e => by
    rw [Joins.cell_of_block hb] at e
    rcases o with _ | _ | o <;> simp at e
  rcases h with h | ⟨g, off, e, hx⟩
  · exact .inl h
  · refine .inr ⟨g, off, e, fun i hi => ?_⟩
    obtain ⟨qi, ki, h1, h2⟩ := hx i hi
    have hl : (rowOf w g (off + i * 10) 10).length = 10 := by rw [h1, txRow_len]
    have hg : g < w.heap.size := by
      unfold rowOf at hl
      cases e : w.heap[g]? with
      | none => rw [e] at hl; simp at hl
      | some y => exact (Array.getElem?_eq_some_iff.1 e).1
    have hgb : g ≠ b := fun e => by
      subst e
      rw [rowOf_block hb] at hl
      simp at hl
      omega
    refine ⟨qi, ki, ?_, h2.chg cs (fun hne k hk _ hm => ?_)⟩
    · rw [← h1]
      unfold rowOf
      rw [cs.block g hg (by simpa using hgb)]
    · obtain rfl : k = b := by simpa using hm
      obtain ⟨q', c', e', h'⟩ := h2
      obtain ⟨b', o', e2, hc⟩ := h'.resolve_left hne
      subst e2
      simp only [Value.slice.injEq] at e'
      obtain ⟨rfl, -, -⟩ := e'
      simp only [Value.ownBlock, Option.some.injEq] at hk
      have := hc 0 (List.length_pos_iff.2 hne)
      rw [hk] at this
      exact nb this
def GbP (xs : List Int) (w : World) (e : Ending) (w' : World) : Prop := ∃ q c, e = .returned (.tuple #[.agg #[.int .u64 (bGe xs), .slice q (bGl xs).length c], .int .i64 (bE xs)]) ∧ RdTx w' q (bGl xs) ∧ Below w.heap.size w w'
theorem GbP.no {xs : List Int} {w W : World} (h : bOk xs = false) (hb : Below w.heap.size w W) : GbP xs w (.returned (.tuple #[.agg #[.int .u64 0, .slice none 0 0], .int .i64 21])) W := by
  have e1 : bGe xs = 0 := by unfold bGe; rw [if_neg (by rw [h]; simp)]
  have e2 : bE xs = 21 := by unfold bE; rw [if_neg (by rw [h]; simp)]
  have e3 : bGl xs = [] := by unfold bGl; rw [if_neg (by rw [h]; simp)]
  exact ⟨none, 0, by rw [e1, e2, e3]; rfl, by rw [e3]; exact .inl rfl, hb⟩
theorem GbP.yes {xs : List Int} {w W : World} {q : Option Addr} {c : Nat} (h : bOk xs = true) (hr : RdTx W q (bIt xs (bN xs)).1) (hb : Below w.heap.size w W) : GbP xs w (.returned (.tuple #[.agg #[.int .u64 (bEp xs), .slice q (bN xs) c], .int .i64 0])) W := by
  have e1 : bGe xs = bEp xs := if_pos h
  have e2 : bE xs = 0 := if_pos h
  have e3 : bGl xs = (bIt xs (bN xs)).1 := if_pos h
  exact ⟨q, c, by rw [e1, e2, e3, bIt_len], by rw [e3]; exact hr, hb⟩
set_option maxHeartbeats 4000000 in
theorem GetBatch_any {w : World} {vb : Value} {xs : List Int} (hr : Rd w vb xs) (hx : Bytes xs) (hl : xs.length ≤ 140737488355328) :
    Calls Tryd.prog 25 #[vb] w (GbP xs w) := by
  have b1 : Below w.heap.size w (w.alloc (.cells #[.int .u64 0, .slice none 0 0] 59)) := (Below.refl _ _).alloc (Nat.le_refl _) _
  have b2 : Below (w.alloc (.cells #[.int .u64 0, .slice none 0 0] 59)).heap.size (w.alloc (.cells #[.int .u64 0, .slice none 0 0] 59)) ((w.alloc (.cells #[.int .u64 0, .slice none 0 0] 59)).alloc (.cells #[.int .u64 0, .slice none 0 0] 59)) := (Below.refl _ _).alloc (Nat.le_refl _) _
  have hz : (w.alloc (.cells #[.int .u64 0, .slice none 0 0] 59)).heap.size = w.heap.size + 1 := by simp
  have R00 := heap_alloc_new w (.cells #[.int .u64 0, .slice none 0 0] 59)
  have R0 : Hid (((w.alloc (.cells #[.int .u64 0, .slice none 0 0] 59)).alloc (.cells #[.int .u64 0, .slice none 0 0] 59)).heap[w.heap.size]? = some (.cells #[.int .u64 0, .slice none 0 0] 59 (0, 0))) := by
    show _ = _
    rw [b2.block _ (Array.getElem?_eq_some_iff.1 R00).1]; exact R00
  have K0 := heap_alloc_new (w.alloc (.cells #[.int .u64 0, .slice none 0 0] 59)) (.cells #[.int .u64 0, .slice none 0 0] 59)
  rw [hz] at K0
  have B0 := Lib.hid (b1.trans (b2.mono b1.size))
  have KR := Lib.hid (readB_any (hr.on B0.out) hx hl K0)
  have KRH := Lib.hid (fun (W : World) (q : Option Addr) (c : Nat) (h : RdTx W q (bIt xs (bN xs)).1) => rightBatch_any (ep := bEp xs) (c := c) h (bIt_ok hx _) (by rw [bIt_len]; have := (bN_le hx).1; omega))
  have ML : (bIt xs (bN xs)).1.length = bN xs := bIt_len xs _
  rw [ML] at KRH
  have MK : Hid (bOk xs = (brOk xs && okB (bIt xs (bN xs)).1)) := rfl
  have NO := Lib.hid (fun (h : bOk xs = false) (W : World) (hb : Below w.heap.size w W) => GbP.no h hb)
  have YES := Lib.hid (fun (h : bOk xs = true) (W : World) (q : Option Addr) (c : Nat) (hr : RdTx W q (bIt xs (bN xs)).1) (hb : Below w.heap.size w W) => GbP.yes (c := c) h hr hb)
  obtain ⟨QP, hQP⟩ : ∃ QP, GbP xs w = QP := ⟨_, rfl⟩
  rw [hQP] at NO YES ⊢
  obtain ⟨L, hL⟩ : ∃ L, (bIt xs (bN xs)).1 = L := ⟨_, rfl⟩
  rw [hL] at KR MK KRH YES
  obtain ⟨n, hn⟩ : ∃ n, bN xs = n := ⟨_, rfl⟩
  rw [hn] at KR KRH YES
  obtain ⟨ep, hep⟩ : ∃ ep, bEp xs = ep := ⟨_, rfl⟩
  rw [hep] at KR KRH YES
  obtain ⟨ok, hok⟩ : ∃ ok, okB L = ok := ⟨_, rfl⟩
  rw [hok] at KRH MK
  obtain ⟨r, hrr⟩ : ∃ r, brOk xs = r := ⟨_, rfl⟩
  rw [hrr] at KR MK
  obtain ⟨mo, hmo⟩ : ∃ mo, bOk xs = mo := ⟨_, rfl⟩
  rw [hmo] at MK NO YES
  obtain ⟨qv, cv, rfl⟩ := hr.len
  have SZ : Hid (((w.alloc (.cells #[.int .u64 0, .slice none 0 0] 59)).alloc (.cells #[.int .u64 0, .slice none 0 0] 59)).heap.size = w.heap.size + 2) := by show _ = _; simp
  clear hr hx b1 b2 hz K0 R00 ML hQP hL hn hep hok hrr hmo
  go_enter Tryd.func25, Tryd.ntmps25
  go_wp2_with fail
  generalize ((w.alloc (.cells #[.int .u64 0, .slice none 0 0] 59)).alloc (.cells #[.int .u64 0, .slice none 0 0] 59)) = w0 at *
  refine KR.out.mono ?_
  rintro e w1 ⟨g, rfl, hK1, hR1, hC1⟩
  have R1 : Hid (w1.heap[w.heap.size]? = some (.cells #[.int .u64 0, .slice none 0 0] 59 (0, 0))) := by
    show _ = _
    rw [hC1.block _ (Array.getElem?_eq_some_iff.1 R0.out).1 (by simp)]; exact R0.out
  have B1 : Hid (Below w.heap.size w w1) := Lib.hid (B0.out.trans (hC1.toBelow B0.out.size (fun g hg => by simp at hg; omega)))
  have K1 := Lib.hid hK1
  have D1 := Lib.hid hR1
  clear hK1 hR1 hC1 KR R0 B0
  have c0 : w1.cell? ⟨w.heap.size + 1, 0, none⟩ = some (.int .u64 ep) := (Joins.cell_of_block K1.out 0).trans rfl
  have c1 : w1.cell? ⟨w.heap.size + 1, 1, none⟩ = some (.slice (some ⟨g, 0, none⟩) n n) := (Joins.cell_of_block K1.out 1).trans rfl
  have r0 : w1.cell? ⟨w.heap.size, 0, none⟩ = some (.int .u64 0) := (Joins.cell_of_block R1.out 0).trans rfl
  have r1 : w1.cell? ⟨w.heap.size, 1, none⟩ = some (.slice none 0 0) := (Joins.cell_of_block R1.out 1).trans rfl
  have y0 := Joins.unfrozen_of_block R1.out 0
  have y1 := Joins.unfrozen_of_block R1.out 1
  cases r with
  | false =>
    have E := Lib.hid (NO.out (by rw [MK.out]; rfl))
    have BX : Hid (Below w.heap.size w ((w1.setCell ⟨w.heap.size, 0, none⟩ (.int .u64 0)).setCell ⟨w.heap.size, 1, none⟩ (.slice none 0 0))) := ((B1.out.setCell (p := ⟨_, 0, none⟩) (by simp) _).setCell (p := ⟨_, 1, none⟩) (by simp) _)
    have hb9 : ((w1.setCell ⟨w.heap.size, 0, none⟩ (.int .u64 0)).setCell ⟨w.heap.size, 1, none⟩ (.slice none 0 0)).heap[w.heap.size]? = some (.cells #[.int .u64 0, .slice none 0 0] 59 (0, 0)) := Joins.block_setCell (Joins.block_setCell R1.out _) _
    have x0 := (Joins.cell_of_block hb9 0).trans (rfl : _ = some _)
    have x1 := (Joins.cell_of_block hb9 1).trans (rfl : _ = some _)
    clear hb9
    go_wp2_with fail
    refine bodyPost_ret (v := .tuple #[.agg #[.int .u64 0, .slice none 0 0], .int .i64 21]) (by simp [results, Tryd.results25, go_sem, x0, x1]) rfl (E.out _ BX.out)
  | true =>
    go_wp2_with fail
    refine (KRH.out w1 (some ⟨g, 0, none⟩) n D1.out).mono ?_
    rintro e w2 ⟨rfl, hb2⟩
    have R2 : Hid (w2.heap[w.heap.size]? = some (.cells #[.int .u64 0, .slice none 0 0] 59 (0, 0))) := by show _ = _; rw [hb2.block _ (Array.getElem?_eq_some_iff.1 R1.out).1]; exact R1.out
    have K2 : Hid (w2.heap[w.heap.size + 1]? = some (.cells #[.int .u64 ep, .slice (some ⟨g, 0, none⟩) n n] 59 (0, 0))) := by show _ = _; rw [hb2.block _ (Array.getElem?_eq_some_iff.1 K1.out).1]; exact K1.out
    have B2 := Lib.hid (B1.out.trans (hb2.mono B1.out.size))
    have D2 := Lib.hid (D1.out.on hb2)
    clear hb2 K1 R1 B1 D1 KRH c0 c1 r0 r1 y0 y1
    have c0 : w2.cell? ⟨w.heap.size + 1, 0, none⟩ = some (.int .u64 ep) := (Joins.cell_of_block K2.out 0).trans rfl
    have c1 : w2.cell? ⟨w.heap.size + 1, 1, none⟩ = some (.slice (some ⟨g, 0, none⟩) n n) := (Joins.cell_of_block K2.out 1).trans rfl
    have r0 : w2.cell? ⟨w.heap.size, 0, none⟩ = some (.int .u64 0) := (Joins.cell_of_block R2.out 0).trans rfl
    have r1 : w2.cell? ⟨w.heap.size, 1, none⟩ = some (.slice none 0 0) := (Joins.cell_of_block R2.out 1).trans rfl
    have y0 := Joins.unfrozen_of_block R2.out 0
    have y1 := Joins.unfrozen_of_block R2.out 1
    cases ok with
    | false =>
      have E := Lib.hid (NO.out (by rw [MK.out]; rfl))
      have BX : Hid (Below w.heap.size w ((w2.setCell ⟨w.heap.size, 0, none⟩ (.int .u64 0)).setCell ⟨w.heap.size, 1, none⟩ (.slice none 0 0))) := ((B2.out.setCell (p := ⟨_, 0, none⟩) (by simp) _).setCell (p := ⟨_, 1, none⟩) (by simp) _)
      have hb9 : ((w2.setCell ⟨w.heap.size, 0, none⟩ (.int .u64 0)).setCell ⟨w.heap.size, 1, none⟩ (.slice none 0 0)).heap[w.heap.size]? = some (.cells #[.int .u64 0, .slice none 0 0] 59 (0, 0)) := Joins.block_setCell (Joins.block_setCell R2.out _) _
      have x0 := (Joins.cell_of_block hb9 0).trans (rfl : _ = some _)
      have x1 := (Joins.cell_of_block hb9 1).trans (rfl : _ = some _)
      clear hb9
      go_wp2_with fail
      refine bodyPost_ret (v := .tuple #[.agg #[.int .u64 0, .slice none 0 0], .int .i64 21]) (by simp [results, Tryd.results25, go_sem, x0, x1]) rfl (E.out _ BX.out)
    | true =>
      have BX : Hid (Below w.heap.size w ((w2.setCell ⟨w.heap.size, 0, none⟩ (.int .u64 ep)).setCell ⟨w.heap.size, 1, none⟩ (.slice (some ⟨g, 0, none⟩) n n))) := ((B2.out.setCell (p := ⟨_, 0, none⟩) (by simp) _).setCell (p := ⟨_, 1, none⟩) (by simp) _)
      have hb9 : ((w2.setCell ⟨w.heap.size, 0, none⟩ (.int .u64 ep)).setCell ⟨w.heap.size, 1, none⟩ (.slice (some ⟨g, 0, none⟩) n n)).heap[w.heap.size]? = some (.cells #[.int .u64 ep, .slice (some ⟨g, 0, none⟩) n n] 59 (0, 0)) := Joins.block_setCell (Joins.block_setCell R2.out _) _
      have x0 := (Joins.cell_of_block hb9 0).trans (rfl : _ = some _)
      have x1 := (Joins.cell_of_block hb9 1).trans (rfl : _ = some _)
      have DX : Hid (RdTx ((w2.setCell ⟨w.heap.size, 0, none⟩ (.int .u64 ep)).setCell ⟨w.heap.size, 1, none⟩ (.slice (some ⟨g, 0, none⟩) n n)) (some ⟨g, 0, none⟩) L) := D2.out.two R2.out
      have E := Lib.hid (YES.out (by rw [MK.out]; rfl) _ (some ⟨g, 0, none⟩) n DX.out BX.out)
      clear NO YES MK D2 DX BX
      clear hb9
      go_wp2_with fail
      refine bodyPost_ret (v := .tuple #[.agg #[.int .u64 ep, .slice (some ⟨g, 0, none⟩) n n], .int .i64 0]) (by simp [results, Tryd.results25, go_sem, x0, x1]) rfl (E.out)
end Go.Proofs.YtcpoaalhpjipaaaDoor
namespace Go.Proofs.YtcpoaalhpjipaaaDoor
set_option maxRecDepth 100000
open Go.RowKit

set_option maxHeartbeats 4000000 in
theorem WBlob_fits {w : World} {p : Nat} {v : Value} {xs : List Int} (h : WrV w p v xs) {a : Value} {L : List (List Int)} (hL : RdL w a L (p :: v.ownBlock.toList)) (hl : xs.length + (blobs L).length ≤ 65536) :
    Calls Tryd.prog 71 #[.pointer (some ⟨p, 0, none⟩), a] w fun e w' => e = .returned (.int .i64 0) ∧ WSt w p v w' (xs ++ blobs L) := by
  obtain ⟨i0, hi, hz0, hz1, hz2⟩ := info_parts Tryd.infoU8
  have H0 : Hid (WSt w p v w (xs ++ blobs (L.take 0))) := by
    show WSt w p v w _
    exact (WSt.start h).of_eq (by simp [blobs])
  obtain ⟨c0, c1, -⟩ := h.cells
  obtain ⟨qv, kv, rfl⟩ := h.rd.len
  obtain ⟨q, c, rfl⟩ : ∃ q c, a = .slice q L.length c := by obtain ⟨q, c, e, _⟩ := hL; exact ⟨q, c, e⟩
  have HL := Lib.hid hL
  clear h hL
  replace hi := Lib.hid hi
  replace hz0 := Lib.hid hz0
  replace hz1 := Lib.hid hz1
  replace hz2 := Lib.hid hz2
  have hb0 := blobs_le L 0
  have hlx : xs.length ≤ 65536 := by omega
  have hLn : L.length ≤ 65536 := by have := blobs_many L; omega
  go_enter Tryd.func71, Tryd.ntmps71
  go_wp2_with fail
  go_loopw [5, 7, 29] (fun lv _ iv wr => ∃ i : Nat, iv = .int .i64 i ∧ i ≤ L.length ∧ lv = .int .i64 (65536 - (xs.length : Int) - ((blobs (L.take i)).length : Int)) ∧ wr = w) (fun _ _ iv _ => L.length - (intOf iv).toNat)
  case atStart => exact ⟨0, rfl, by omega, by simp [blobs], rfl⟩
  case round =>
    obtain ⟨i, rfl, hil, rfl, rfl⟩ := hrel
    have hbi := blobs_le L i
    by_cases hlt : i < L.length
    · obtain ⟨b, off, r, m, k, -, rfl, -, hc, rfl, -, -⟩ := HL.out.at hlt
      have hbs := blobs_len hlt
      have hbl := blobs_le L (i + 1)
      have HE := Lib.hid hbs
      have g1 : ((blobs (L.take i)).length : Int) + 8 + ((L.getD i []).length : Int) + (xs.length : Int) ≤ 65536 := by omega
      clear hbs hbl
      generalize hbb : (L.getD i []).length = lb at hc g1 HE ⊢
      go_wp2_with fail
      go_roundw
      case rel => exact ⟨i + 1, by go_num, by omega, by rw [HE.out]; congr 1; omega, trivial⟩
      case measure => simp [intOf]; omega
    · obtain rfl : i = L.length := by omega
      clear hlt c0 c1
      generalize (65536 - (xs.length : Int) - ((blobs (L.take L.length)).length : Int)) = lv
      obtain ⟨w0, rfl⟩ : ∃ w0 : World, w0 = wr := ⟨_, rfl⟩
      go_wp2_with fail
      go_loopw [9, 46] (fun _ iv wr => ∃ i : Nat, iv = .int .i64 i ∧ i ≤ L.length ∧ Hid (WSt w0 p (.slice qv xs.length kv) wr (xs ++ blobs (L.take i)))) (fun _ iv _ => L.length - (intOf iv).toNat)
      case atStart => exact ⟨0, rfl, by omega, H0⟩
      case round =>
        clear H0
        obtain ⟨i, rfl, hil, hS⟩ := hrel
        by_cases hlt : i < L.length
        · obtain ⟨q1, k1, h1, h2, h3⟩ := hS.out.own
          have hbl := blobs_le L i
          obtain ⟨b, off, r, m, k, -, rfl, hbS, hcw, rfl, hrd, hk⟩ := HL.out.at hlt
          have hc : wr.cell? ⟨b, off + i, none⟩ = some (.slice r (L.getD i []).length k) := by
            rw [World.cell?_of_block (w := w0) (h2.block b (lt_of_cell hcw) hbS)]; exact hcw
          have HR := Lib.hid hrd
          have HK := Lib.hid hk
          clear hcw hbS
          have hbi : xs.length + (blobs (L.take i)).length ≤ 65536 := by omega
          have hlen : (xs ++ blobs (L.take i)).length ≤ 65536 := by simp; omega
          have H1 := Lib.hid h1
          have H23 := Lib.hid (And.intro h2 h3)
          have HS := Lib.hid hS.out
          clear h1 h2 h3 hS hrd hk
          have HB := Lib.hid (blobs_take hlt)
          have hbm := blobs_len hlt
          have hbm2 := blobs_le L (i + 1)
          have hlb : (L.getD i []).length ≤ 65536 := by omega
          have hfit : xs.length + (blobs (L.take i)).length + 8 + (L.getD i []).length ≤ 65536 := by omega
          clear hbm hbm2 hbl
          generalize hbb : L.getD i [] = bb at *
          clear hbb
          go_wp2_with fail
          refine (putUint_any H1.out hlen _).mono ?_
          rintro e w3 ⟨rfl, hw3⟩
          have HS3 : Hid (WSt w0 p (.slice qv xs.length kv) w3 (xs ++ blobs (L.take i) ++ be8 bb.length)) := by
            obtain ⟨u1, u2, u3⟩ := H23.out.1, H23.out.2, hw3
            exact WSt.trans ⟨_, H1.out, H23.out.1, H23.out.2⟩ (fun u hu => by
              obtain ⟨qq, cc, he⟩ := hu.rd.len
              have e1 : u = .slice q1 (xs ++ blobs (L.take i)).length k1 := by
                have := hu.cells.2.1
                rw [H1.out.cells.2.1] at this
                exact (Option.some.inj this).symm
              rw [e1]
              exact hw3)
          have hys0 : (xs ++ blobs (L.take i) ++ be8 bb.length).length + bb.length ≤ 65536 := by simp; omega
          generalize hys : xs ++ blobs (L.take i) ++ be8 bb.length = ys at HS3 hys0
          replace hys := Lib.hid hys
          obtain ⟨q3, k3, h31, h32, h33⟩ := HS3.out.own
          obtain ⟨-, c1, -⟩ := h31.cells
          have hRb := Lib.hid (HR.out.chg h32 (fun hn x hx _ => HK.out hn x hx))
          have H3 := Lib.hid h31
          have H3c := Lib.hid (And.intro h32 h33)
          have hp3 := h31.lt
          clear h31 h32 h33 hw3 HS3 H1 H23 hc
          go_wp2_with (at_builtin; refine wpList_append_row rfl _ _ rfl Tryd.underlying25 hi.out hz0.out hz1.out hz2.out rfl H3.out.own (Rd.src (P := Tryd.prog) Tryd.underlying25 hRb.out) ?b1 ?b2 ?_)
          case b1 => unfold maxLen; omega
          case b2 => omega
          intro q4 k4 w4 own4 grow4 fr4
          have HN := Lib.hid (WSt.step H3.out H3c.out.1 H3c.out.2 rfl own4 grow4 fr4)
          have c4 : w4.cell? ⟨p, 1, none⟩ = some (.slice q3 ys.length k3) := by
            rw [World.cell?_of_block (grow4.block p hp3 (fun e => H3.out.ne e.symm))]; exact c1
          have f4 : w4.frozen? ⟨p, 1, none⟩ = false := by
            rw [World.frozen?_of_block (grow4.block p hp3 (fun e => H3.out.ne e.symm))]; exact H3.out.cells.2.2
          clear own4 grow4 fr4 c1
          go_wp2_with fail
          go_roundw
          case rel =>
            refine ⟨i + 1, by go_num, by omega, ?_⟩
            show WSt w0 p _ _ _
            rw [HB.out, ← List.append_assoc, ← List.append_assoc, hys.out]
            exact HN.out
          case measure => simp [intOf]; omega
        · obtain rfl : i = L.length := by omega
          have hb := hS.out
          rw [List.take_length] at hb
          replace hS := Lib.hid hb
          clear hb
          go_wp2_with fail
          go_ret
          exact ⟨rfl, hS.out⟩
end Go.Proofs.YtcpoaalhpjipaaaDoor
namespace Go.Proofs.YtcpoaalhpjipaaaDoor
set_option maxRecDepth 100000
open Go.RowKit

/-- A Tx's bytes. -/
def txB (t : Tg) : List Int := be8 t.kd ++ (be8 t.fr ++ (be8 t.no ++ (be8 t.to ++ (t.val.bytes ++ (be8 t.gas ++ (be8 t.data.length ++ t.data))))))
theorem txB_len (t : Tg) : (txB t).length = 80 + t.data.length := by simp [txB, be8_len, W4.len]; omega

set_option maxHeartbeats 8000000 in
theorem txBytes_any {w : World} {t : Tg} {q : Option Addr} {k : Nat} (ok : t.ok) (hkd : 0 ≤ t.kd) (hr : Rd w (.slice q t.data.length k) t.data) (hl : t.data.length ≤ 256) :
    Calls Tryd.prog 44 #[.agg (txRow t q t.data.length k).toArray] w fun e w' => ∃ u, e = .returned u ∧ BuS w w' u (txB t) := by
  have HD4 := Lib.hid ok.val
  have HM : Hid (txB t = be8 t.kd ++ (be8 t.fr ++ (be8 t.no ++ (be8 t.to ++ (t.val.bytes ++ (be8 t.gas ++ (be8 t.data.length ++ t.data))))))) := rfl
  obtain ⟨MB, hMB⟩ : ∃ MB, txB t = MB := ⟨_, rfl⟩
  have hk2 := ok.kd.2
  have u2 : IntKind.u64.wrap t.kd = t.kd := by rw [IntKind.wrap_u64]; omega
  obtain ⟨D, hD⟩ : ∃ D, t.data = D := ⟨_, rfl⟩
  rw [hMB] at HM ⊢
  rw [hD] at hr hl HM ⊢
  obtain ⟨n, hn⟩ : ∃ n, D.length = n := ⟨_, rfl⟩
  have LN := Lib.hid hn
  rw [hn] at hr hl HM ⊢
  have b1 : Below w.heap.size w (w.alloc (.cells (txRow t q n k).toArray 72)) := (Below.refl _ _).alloc (Nat.le_refl _) _
  have K0 := Lib.hid (TxAt.new w 72 t q n k)
  have HRL : Hid (D ≠ [] → ∀ g, (Value.slice q n k).ownBlock = some g → g < w.heap.size) := fun hne g hg => hr.lt hne hg
  have HV : Hid (∀ W, Below w.heap.size w W → Rd W (.slice q n k) D) := fun W hb => hr.on hb
  have B0 := Lib.hid b1
  have hz : Hid ((w.alloc (.cells (txRow t q n k).toArray 72)).heap.size = w.heap.size + 1) := by show _ = _; simp
  clear hr hn hD hMB b1 ok hkd hk2
  go_enter Tryd.func44, Tryd.ntmps44
  go_wp2_with fail
  generalize w.alloc (.cells (txRow t q n k).toArray 72) = w0 at *
  refine (NewWriter_any w0).mono ?_
  rintro e w1 ⟨rfl, rfl⟩
  have b2 : Below w0.heap.size w0 (w0.alloc (.cells #[.bool true, .slice none 0 0] 137)) := (Below.refl _ _).alloc (Nat.le_refl _) _
  have b3 : Below (w0.alloc (.cells #[.bool true, .slice none 0 0] 137)).heap.size (w0.alloc (.cells #[.bool true, .slice none 0 0] 137)) ((w0.alloc (.cells #[.bool true, .slice none 0 0] 137)).alloc (.cells #[.int .u64 t.kd, .int .u64 t.fr, .int .u64 t.no, .int .u64 t.to] 22)) := (Below.refl _ _).alloc (Nat.le_refl _) _
  have hz1' : (w0.alloc (.cells #[.bool true, .slice none 0 0] 137)).heap.size = w0.heap.size + 1 := by simp
  have K2 := K0.out.on b2
  obtain ⟨c0, c1, c2, c3, -, -, -, -, -, -⟩ := K2.cells
  have K3 := Lib.hid (K2.on b3)
  have HW := Lib.hid ((WrV.new w0).on b3)
  have HR : Hid (RdN ((w0.alloc (.cells #[.bool true, .slice none 0 0] 137)).alloc (.cells #[.int .u64 t.kd, .int .u64 t.fr, .int .u64 t.no, .int .u64 t.to] 22)) (.slice (some ⟨w0.heap.size + 1, 0, none⟩) 4 4) [t.kd, t.fr, t.no, t.to] (w0.heap.size :: (Value.slice none 0 0).ownBlock.toList)) := by
    refine ⟨_, 4, rfl, .inr ⟨w0.heap.size + 1, 0, rfl, by simp [Value.ownBlock], fun i hi => ?_⟩⟩
    have h3 := heap_alloc_new (w0.alloc (.cells #[.bool true, .slice none 0 0] 137)) (.cells #[.int .u64 t.kd, .int .u64 t.fr, .int .u64 t.no, .int .u64 t.to] 22)
    rw [hz1'] at h3
    have e : i = 0 ∨ i = 1 ∨ i = 2 ∨ i = 3 := by simp at hi; omega
    rcases e with rfl | rfl | rfl | rfl
    · exact (Joins.cell_of_block h3 0).trans rfl
    · exact (Joins.cell_of_block h3 1).trans rfl
    · exact (Joins.cell_of_block h3 2).trans rfl
    · exact (Joins.cell_of_block h3 3).trans rfl
  have b23 := b2.trans (b3.mono b2.size)
  have B3 := Lib.hid (B0.out.trans (b23.mono B0.out.size))
  have hsz : Hid (w.heap.size < w0.heap.size) := by show _ < _; rw [hz.out]; omega
  clear b2 b3 b23 K2 K0 hz1'
  go_wp2_with fail
  clear c0 c1 c2 c3
  refine (WUint_fits HW.out HR.out (by simp)).mono ?_
  rintro e w4 ⟨rfl, hS⟩
  obtain ⟨q4, k4, hW4, hC4, hF4⟩ := hS.own
  obtain ⟨XS, hXS⟩ : ∃ XS, ([] ++ nums [t.kd, t.fr, t.no, t.to]) = XS := ⟨_, rfl⟩
  rw [hXS] at hW4 hF4
  have lXS : Hid (XS.length = 32) := by show _ = _; rw [← hXS]; simp [nums]
  have HXS : Hid (XS = be8 t.kd ++ (be8 t.fr ++ (be8 t.no ++ be8 t.to))) := by show _ = _; rw [← hXS]; simp [nums]
  have HW4 := Lib.hid hW4
  have B4 := Lib.hid (B3.out.trans (hC4.toBelow B3.out.size (fun g hg => by simp [Value.ownBlock] at hg; have := hsz.out; omega)))
  have K4 := Lib.hid (K3.out.chg hC4 (by have := hsz.out; simp [Value.ownBlock]; omega))
  have F4 : Hid (∀ g, (Value.slice q4 XS.length k4).ownBlock = some g → w0.heap.size ≤ g) := fun g hg => by
    rcases hF4 with e | e
    · rw [e] at hg; simp [Value.ownBlock] at hg
    · have := e g hg; simp at this; omega
  clear hC4 hF4 hW4 hS hXS HR HW B3 K3
  obtain ⟨-, -, -, -, c4, c5, c6, c7, -, -⟩ := K4.out.cells
  have hsl := Tryd.run_slice_wide w4 t.val.a t.val.b t.val.c t.val.d
  have b5 : Below w4.heap.size w4 (w4.alloc (.cells #[.int .u64 t.val.a, .int .u64 t.val.b, .int .u64 t.val.c, .int .u64 t.val.d] 24)) := (Below.refl _ _).alloc (Nat.le_refl _) _
  have hpw4 := HW4.out.lt
  have HW5 := Lib.hid (HW4.out.on b5)
  have K5 := Lib.hid (K4.out.on b5)
  have B5 := Lib.hid (B4.out.trans (b5.mono B4.out.size))
  have HR5 : Hid (RdW (w4.alloc (.cells #[.int .u64 t.val.a, .int .u64 t.val.b, .int .u64 t.val.c, .int .u64 t.val.d] 24)) (.slice (some ⟨w4.heap.size, 0, none⟩) 1 1) [t.val] (w0.heap.size :: (Value.slice q4 XS.length k4).ownBlock.toList)) := by
    refine ⟨_, 1, rfl, .inr ⟨w4.heap.size, 0, rfl, fun hm => ?_, fun i hi => ?_⟩⟩
    · rcases List.mem_cons.1 hm with e | hm
      · omega
      · have := own_lt HW4.out.own (by simpa using hm); omega
    · obtain rfl : i = 0 := by simpa using hi
      have h3 := heap_alloc_new w4 (.cells #[.int .u64 t.val.a, .int .u64 t.val.b, .int .u64 t.val.c, .int .u64 t.val.d] 24)
      exact ⟨HD4.out, (Joins.cell_of_block h3 0).trans rfl, (Joins.cell_of_block h3 1).trans rfl, (Joins.cell_of_block h3 2).trans rfl, (Joins.cell_of_block h3 3).trans rfl⟩
  clear b5 B4 K4 HW4
  go_wp2_with fail
  clear c4 c5 c6 c7 hsl
  have l24 := lXS.out
  refine (WWide_fits HW5.out HR5.out (by rw [l24]; simp)).mono ?_
  rintro e w6 ⟨rfl, hS⟩
  obtain ⟨q6, k6, hW6, hC6, hF6⟩ := hS.own
  obtain ⟨XT, hXT⟩ : ∃ XT, XS ++ wides [t.val] = XT := ⟨_, rfl⟩
  rw [hXT] at hW6 hF6
  have lXT : Hid (XT.length = 64) := by show _ = _; rw [← hXT]; simp [wides, W4.len, l24]
  have HXT : Hid (XT = XS ++ t.val.bytes) := by show _ = _; rw [← hXT]; simp [wides]
  have HW6 := Lib.hid hW6
  have hs5 : (w4.alloc (.cells #[.int .u64 t.val.a, .int .u64 t.val.b, .int .u64 t.val.c, .int .u64 t.val.d] 24)).heap.size = w4.heap.size + 1 := by simp
  have NK : ∀ g, g ∈ w0.heap.size :: (Value.slice q4 XS.length k4).ownBlock.toList → w0.heap.size ≤ g := fun g hg => by
    rcases List.mem_cons.1 hg with e | hg
    · omega
    · exact F4.out g (by simpa using hg)
  have B6 := Lib.hid (B5.out.trans (hC6.toBelow B5.out.size (fun g hg => by have := NK g hg; have := hsz.out; omega)))
  have K6 := Lib.hid (K5.out.chg hC6 (fun hm => by have := NK _ hm; have := hsz.out; omega))
  have F6 : Hid (∀ g, (Value.slice q6 XT.length k6).ownBlock = some g → w0.heap.size ≤ g) := fun g hg => by
    rcases hF6 with e | e
    · rw [e] at hg; exact F4.out g hg
    · have := e g hg; rw [hs5] at this; omega
  clear hC6 hF6 hW6 hS hXT HR5 HW5 B5 K5 NK hs5 l24
  obtain ⟨-, -, -, -, -, -, -, -, c8, -⟩ := K6.out.cells
  have b7 : Below w6.heap.size w6 (w6.alloc (.cells #[.int .u64 t.gas] 22)) := (Below.refl _ _).alloc (Nat.le_refl _) _
  have hpw6 := HW6.out.lt
  have HW7 := Lib.hid (HW6.out.on b7)
  have K7 := Lib.hid (K6.out.on b7)
  have B7 := Lib.hid (B6.out.trans (b7.mono B6.out.size))
  have HR7 : Hid (RdN (w6.alloc (.cells #[.int .u64 t.gas] 22)) (.slice (some ⟨w6.heap.size, 0, none⟩) 1 1) [t.gas] (w0.heap.size :: (Value.slice q6 XT.length k6).ownBlock.toList)) := by
    refine ⟨_, 1, rfl, .inr ⟨w6.heap.size, 0, rfl, fun hm => ?_, fun i hi => ?_⟩⟩
    · rcases List.mem_cons.1 hm with e | hm
      · omega
      · have := own_lt HW6.out.own (by simpa using hm); omega
    · have h3 := heap_alloc_new w6 (.cells #[.int .u64 t.gas] 22)
      obtain rfl : i = 0 := by simpa using hi
      exact (Joins.cell_of_block h3 0).trans rfl
  clear b7 B6 K6 HW6
  go_wp2_with fail
  clear c8
  have l56 := lXT.out
  refine (WUint_fits HW7.out HR7.out (by rw [l56]; simp)).mono ?_
  rintro e w8 ⟨rfl, hS⟩
  obtain ⟨q8, k8, hW8, hC8, hF8⟩ := hS.own
  obtain ⟨XU, hXU⟩ : ∃ XU, XT ++ nums [t.gas] = XU := ⟨_, rfl⟩
  rw [hXU] at hW8 hF8
  have lXU : Hid (XU.length = 72) := by show _ = _; rw [← hXU]; simp [nums, l56]
  have HXU : Hid (XU = XT ++ be8 t.gas) := by show _ = _; rw [← hXU]; simp [nums]
  have HW8 := Lib.hid hW8
  have hs7 : (w6.alloc (.cells #[.int .u64 t.gas] 22)).heap.size = w6.heap.size + 1 := by simp
  have NK : ∀ g, g ∈ w0.heap.size :: (Value.slice q6 XT.length k6).ownBlock.toList → w0.heap.size ≤ g := fun g hg => by
    rcases List.mem_cons.1 hg with e | hg
    · omega
    · exact F6.out g (by simpa using hg)
  have B8 := Lib.hid (B7.out.trans (hC8.toBelow B7.out.size (fun g hg => by have := NK g hg; have := hsz.out; omega)))
  have K8 := Lib.hid (K7.out.chg hC8 (fun hm => by have := NK _ hm; have := hsz.out; omega))
  have F8 : Hid (∀ g, (Value.slice q8 XU.length k8).ownBlock = some g → w0.heap.size ≤ g) := fun g hg => by
    rcases hF8 with e | e
    · rw [e] at hg; exact F6.out g hg
    · have := e g hg; rw [hs7] at this; omega
  clear hC8 hF8 hW8 hS hXU HR7 HW7 B7 K7 NK hs7 l56
  obtain ⟨-, -, -, -, -, -, -, -, -, c9⟩ := K8.out.cells
  have b9 : Below w8.heap.size w8 (w8.alloc (.cells #[.slice q n k] 25)) := (Below.refl _ _).alloc (Nat.le_refl _) _
  have hpw8 := HW8.out.lt
  have HW9 := Lib.hid (HW8.out.on b9)
  have B9 := Lib.hid (B8.out.trans (b9.mono B8.out.size))
  have HR9 : Hid (RdL (w8.alloc (.cells #[.slice q n k] 25)) (.slice (some ⟨w8.heap.size, 0, none⟩) 1 1) [D] (w0.heap.size :: (Value.slice q8 XU.length k8).ownBlock.toList)) := by
    refine ⟨_, 1, rfl, .inr ⟨w8.heap.size, 0, rfl, fun hm => ?_, fun i hi => ?_⟩⟩
    · rcases List.mem_cons.1 hm with e | hm
      · omega
      · have := own_lt HW8.out.own (by simpa using hm); omega
    · obtain rfl : i = 0 := by simpa using hi
      have h3 := heap_alloc_new w8 (.cells #[.slice q n k] 25)
      refine ⟨.slice q n k, (Joins.cell_of_block h3 0).trans rfl, HV.out _ B9.out, fun hne g hg hm => ?_⟩
      have h1 := HRL.out hne g hg
      have h2 := hsz.out
      rcases List.mem_cons.1 hm with e | hm
      · omega
      · have := F8.out g (by simpa using hm); omega
  clear b9 B8 K8 HW8
  go_wp2_with fail
  clear c9
  have l72 := lXU.out
  refine (WBlob_fits HW9.out HR9.out (by rw [l72]; simp [blobs, be8_len, LN.out]; omega)).mono ?_
  rintro e w10 ⟨rfl, hS⟩
  obtain ⟨q10, k10, hW10, hC10, hF10⟩ := hS.own
  obtain ⟨XV, hXV⟩ : ∃ XV, XU ++ blobs [D] = XV := ⟨_, rfl⟩
  rw [hXV] at hW10 hF10
  have HXV : Hid (XV = MB) := by
    show _ = _
    rw [← hXV, HM.out, HXU.out, HXT.out, HXS.out]; simp [blobs, LN.out]
  have lXV : Hid (XV.length ≤ 65536) := by
    have h1 := l72
    have h2 := LN.out
    show _ ≤ _
    rw [← hXV]; simp [blobs, be8_len, h1, h2]; omega
  have HW10 := Lib.hid hW10
  have NK : ∀ g, g ∈ w0.heap.size :: (Value.slice q8 XU.length k8).ownBlock.toList → w0.heap.size ≤ g := fun g hg => by
    rcases List.mem_cons.1 hg with e | hg
    · omega
    · exact F8.out g (by simpa using hg)
  have B10 := Lib.hid (B9.out.trans (hC10.toBelow B9.out.size (fun g hg => by have := NK g hg; have := hsz.out; omega)))
  clear hC10 hF10 hW10 hS hXV HR9 HW9 B9 NK l72 HXS HXT HXU F4 F6 F8 lXS lXT lXU
  go_wp2_with fail
  refine (WBytes_any HW10.out lXV.out).mono ?_
  rintro e w11 ⟨u, rfl, hN⟩
  obtain ⟨-, ho11, hb11, hf11⟩ := hN
  have SF : Hid (BuS w w11 u MB) := by
    refine ⟨?_, fun g hg => ?_, B10.out.trans (hb11.mono B10.out.size)⟩
    · rw [← HXV.out]; exact ho11
    · have := hf11 g hg; have := B10.out.size; omega
  clear ho11 hb11 hf11
  go_wp2_with fail
  go_ret
  exact ⟨_, rfl, SF.out⟩
end Go.Proofs.YtcpoaalhpjipaaaDoor
