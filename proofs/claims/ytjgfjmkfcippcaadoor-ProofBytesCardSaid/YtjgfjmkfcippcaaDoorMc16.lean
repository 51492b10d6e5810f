/-
  The document's reader: numbers, counts, hashes.; The document's reader: a hash. A proof's bytes and what they tell.; The readers' states, with or without an error.
-/
import Derived.Test.YtjgfjmkfcippcaaDoorMc1
import Derived.Test.YtjgfjmkfcippcaaDoorMc12
import Derived.Test.YtjgfjmkfcippcaaDoorMc15
namespace Go.Proofs.YtjgfjmkfcippcaaDoor
set_option maxRecDepth 100000
open Go.RowKit

theorem rdUint_bad {w : World} {p : Nat} (h : DrF w p) :
    Calls Tryd.prog 111 #[.pointer (some ⟨p, 0, none⟩)] w fun e w' => e = .returned (.int .u64 0) ∧ DrF w' p ∧ Chg w w' [p] := by
  have H := Lib.hid h
  clear h
  go_enter Tryd.func111, Tryd.ntmps111
  go_wp2_with fail
  refine (rdTake_bad H.out).mono ?_
  rintro e w1 ⟨rfl, rfl⟩
  have HF : Hid (DrF w1 p) := H
  have HC : Hid (Chg w1 w1 [p]) := Chg.refl _ _
  go_wp2_with fail
  refine wp_loop_rounds 1 ?_
  rw [rounds_succ]
  go_wp2_with fail
  go_ret
  exact ⟨rfl, HF.out, HC.out⟩
theorem rdUint_end {w : World} {p : Nat} {v : Value} {xs : List Int} {pos : Nat} (h : DrV w p v xs pos) (hf : xs.length < pos + 8) :
    Calls Tryd.prog 111 #[.pointer (some ⟨p, 0, none⟩)] w fun e w' => e = .returned (.int .u64 0) ∧ DrF w' p ∧ Chg w w' [p] := by
  have H := Lib.hid h
  clear h
  go_enter Tryd.func111, Tryd.ntmps111
  go_wp2_with fail
  refine (rdTake_end H.out (n := 8) (by omega) hf).mono ?_
  rintro e w1 ⟨rfl, hF, hC⟩
  have HF := Lib.hid hF
  have HC := Lib.hid hC
  clear hF hC
  go_wp2_with fail
  refine wp_loop_rounds 1 ?_
  rw [rounds_succ]
  go_wp2_with fail
  go_ret
  exact ⟨rfl, HF.out, HC.out⟩

set_option maxHeartbeats 2000000 in
theorem rdUint_ok {w : World} {p : Nat} {v : Value} {xs : List Int} {pos : Nat} (h : DrV w p v xs pos) (hx : Bytes xs) (hf : pos + 8 ≤ xs.length) :
    Calls Tryd.prog 111 #[.pointer (some ⟨p, 0, none⟩)] w fun e w' => e = .returned (.int .u64 (num ((xs.drop pos).take 8))) ∧ DrV w' p v xs (pos + 8) ∧ Chg w w' [p] := by
  have H := Lib.hid h
  have HB : Hid (Bytes ((xs.drop pos).take 8)) := fun x hx' => hx x (List.mem_of_mem_drop (List.mem_of_mem_take hx'))
  have hl8 : ((xs.drop pos).take 8).length = 8 := by simp; omega
  have KT := Lib.hid (rdTake_ok H.out (n := 8) (by omega) (by omega) hf)
  generalize (xs.drop pos).take 8 = ys at HB hl8 KT ⊢
  replace hl8 := Lib.hid hl8
  clear h hx
  go_enter Tryd.func111, Tryd.ntmps111
  go_wp2_with fail
  refine KT.out.mono ?_
  rintro e w1 ⟨q, c, rfl, hR, hD, hC, -⟩
  have HD := Lib.hid hD
  have HCC := Lib.hid hC
  obtain ⟨q', c', e1, hR⟩ := hR
  simp only [Value.slice.injEq] at e1
  obtain ⟨rfl, -, rfl⟩ := e1
  obtain ⟨b, off, rfl, hcell⟩ := hR.resolve_left (fun e => by have := hl8.out; rw [e] at this; simp at this)
  have HCe := Lib.hid hcell
  clear hcell hR hD hC KT
  go_wp2_with fail
  go_loopw [4, 5] (fun nv iv wr => ∃ k : Nat, iv = .int .i64 k ∧ k ≤ 8 ∧ nv = .int .u64 (num (ys.take k)) ∧ wr = w1) (fun _ iv _ => 8 - (intOf iv).toNat)
  case atStart => exact ⟨0, rfl, by omega, by simp [num], rfl⟩
  case round =>
    obtain ⟨k, rfl, hk, rfl, rfl⟩ := hrel
    by_cases hlt : k < 8
    · have hc1 := HCe.out k (by rw [hl8.out]; exact hlt)
      have hb := num_bd HB.out k (by rw [hl8.out]; omega)
      have hp : (256 : Int) ^ k ≤ 72057594037927936 := by
        have e : k = 0 ∨ k = 1 ∨ k = 2 ∨ k = 3 ∨ k = 4 ∨ k = 5 ∨ k = 6 ∨ k = 7 := by omega
        rcases e with rfl | rfl | rfl | rfl | rfl | rfl | rfl | rfl <;> decide
      have hy := HB.out (ys.getD k 0) (by simp [List.getD, show k < ys.length by rw [hl8.out]; exact hlt])
      have HN := Lib.hid (num_take (xs := ys) (k := k) (by rw [hl8.out]; exact hlt))
      obtain ⟨hn0, hn1⟩ := hb
      have hn2 : num (ys.take k) < 72057594037927936 := by omega
      obtain ⟨hy0, hy1⟩ := hy
      clear hn1 hp
      generalize num (ys.take k) = nk at *
      generalize ys.getD k 0 = yk at *
      go_wp2_with fail
      go_roundw
      case rel => exact ⟨k + 1, by go_num, by omega, by rw [HN.out], trivial⟩
      case measure => simp [intOf]; omega
    · obtain rfl : k = 8 := by omega
      rw [List.take_of_length_le (by rw [hl8.out]; omega)]
      clear hlt hk
      go_wp2_with fail
      go_ret
      exact ⟨rfl, HD.out, HCC.out⟩

set_option maxHeartbeats 1000000 in
theorem rdCount_bad {w : World} {p : Nat} {most : Int} (h : DrF w p) :
    Calls Tryd.prog 90 #[.pointer (some ⟨p, 0, none⟩), .int .i64 most] w fun e w' => e = .returned (.int .i64 0) ∧ DrF w' p ∧ Chg w w' [p] := by
  have H := Lib.hid h
  have c1 : ∃ z, w.cell? ⟨p, 1, none⟩ = some (.int .i64 z) := by obtain ⟨v, pos, f, h1, h2⟩ := h; exact ⟨_, (Joins.cell_of_block h2 1).trans rfl⟩
  obtain ⟨z1, c1⟩ := c1
  clear h
  go_enter Tryd.func90, Tryd.ntmps90
  go_wp2_with fail
  refine (rdUint_bad H.out).mono ?_
  rintro e w1 ⟨rfl, hF, hC⟩
  have HF := Lib.hid hF
  have HC := Lib.hid hC
  obtain ⟨v1, pos1, f, h1, h2⟩ := hF
  have c2 := (Joins.cell_of_block h2 2).trans (rfl : _ = some _)
  have d0 : (f == 0) = false := by simpa using h1
  clear h2 h1 hC
  go_wp2_with fail
  go_ret
  exact ⟨rfl, HF.out, HC.out⟩
set_option maxHeartbeats 1000000 in
theorem rdCount_end {w : World} {p : Nat} {most : Int} {v : Value} {xs : List Int} {pos : Nat} (h : DrV w p v xs pos) (hf : xs.length < pos + 8) :
    Calls Tryd.prog 90 #[.pointer (some ⟨p, 0, none⟩), .int .i64 most] w fun e w' => e = .returned (.int .i64 0) ∧ DrF w' p ∧ Chg w w' [p] := by
  have H := Lib.hid h
  have c1 : ∃ z, w.cell? ⟨p, 1, none⟩ = some (.int .i64 z) := ⟨_, (Joins.cell_of_block h.blk 1).trans rfl⟩
  obtain ⟨z1, c1⟩ := c1
  clear h
  go_enter Tryd.func90, Tryd.ntmps90
  go_wp2_with fail
  refine (rdUint_end H.out hf).mono ?_
  rintro e w1 ⟨rfl, hF, hC⟩
  have HF := Lib.hid hF
  have HC := Lib.hid hC
  obtain ⟨v1, pos1, f, h1, h2⟩ := hF
  have c2 := (Joins.cell_of_block h2 2).trans (rfl : _ = some _)
  have d0 : (f == 0) = false := by simpa using h1
  clear h2 h1 hC
  go_wp2_with fail
  go_ret
  exact ⟨rfl, HF.out, HC.out⟩

set_option maxHeartbeats 2000000 in
theorem rdCount_big {w : World} {p : Nat} {v : Value} {xs : List Int} {pos : Nat} {most : Nat} (h : DrV w p v xs pos) (hx : Bytes xs) (hm : most ≤ 1000000) (hf : pos + 8 ≤ xs.length) (hz : (most : Int) < num ((xs.drop pos).take 8)) :
    Calls Tryd.prog 90 #[.pointer (some ⟨p, 0, none⟩), .int .i64 most] w fun e w' => e = .returned (.int .i64 0) ∧ DrF w' p ∧ Chg w w' [p] := by
  have H := Lib.hid h
  have c1 := (Joins.cell_of_block h.blk 1).trans (rfl : _ = some _)
  have u0 : IntKind.u64.wrap (most : Int) = (most : Int) := by rw [IntKind.wrap_u64]; omega
  have KU := Lib.hid (rdUint_ok H.out hx hf)
  clear h hx
  go_enter Tryd.func90, Tryd.ntmps90
  go_wp2_with fail
  refine KU.out.mono ?_
  rintro e w1 ⟨rfl, hD, hC⟩
  have c2 := (Joins.cell_of_block hD.blk 2).trans (rfl : _ = some _)
  have f1 := Joins.unfrozen_of_block hD.blk 1
  have f2 := Joins.unfrozen_of_block hD.blk 2
  have k1 := (Joins.cell_of_block hD.blk 1).trans (rfl : _ = some _)
  have hb1 : ((w1.setCell ⟨p, 2, none⟩ (.int .i64 21)).setCell ⟨p, 1, none⟩ (.int .i64 pos)).heap[p]? = some (.cells #[v, .int .i64 pos, .int .i64 21] 146 (0, 0)) := Joins.block_setCell (Joins.block_setCell hD.blk _) _
  have c2' := (Joins.cell_of_block hb1 2).trans (rfl : _ = some _)
  have HF : Hid (DrF ((w1.setCell ⟨p, 2, none⟩ (.int .i64 21)).setCell ⟨p, 1, none⟩ (.int .i64 pos)) p) := ⟨v, pos, 21, by decide, hb1⟩
  have HC : Hid (Chg w ((w1.setCell ⟨p, 2, none⟩ (.int .i64 21)).setCell ⟨p, 1, none⟩ (.int .i64 pos)) [p]) := (hC.setCell (.inl (by simp)) _).setCell (.inl (by simp)) _
  generalize num ((xs.drop pos).take 8) = z at *
  clear hD hC hb1 KU H
  go_wp2_with fail
  go_ret
  exact ⟨rfl, HF.out, HC.out⟩
set_option maxHeartbeats 2000000 in
theorem rdCount_ok {w : World} {p : Nat} {v : Value} {xs : List Int} {pos : Nat} {most : Nat} (h : DrV w p v xs pos) (hx : Bytes xs) (hm : most ≤ 1000000) (hf : pos + 8 ≤ xs.length) {z : Nat} (hz : num ((xs.drop pos).take 8) = z) (hzm : z ≤ most) :
    Calls Tryd.prog 90 #[.pointer (some ⟨p, 0, none⟩), .int .i64 most] w fun e w' => e = .returned (.int .i64 z) ∧ DrV w' p v xs (pos + 8) ∧ Chg w w' [p] := by
  have H := Lib.hid h
  have c1 := (Joins.cell_of_block h.blk 1).trans (rfl : _ = some _)
  have u0 : IntKind.u64.wrap (most : Int) = (most : Int) := by rw [IntKind.wrap_u64]; omega
  have hzI : ¬ (most : Int) < (z : Int) := by omega
  have KU := Lib.hid (rdUint_ok H.out hx hf)
  rw [hz] at KU
  clear h hx hz
  go_enter Tryd.func90, Tryd.ntmps90
  go_wp2_with fail
  refine KU.out.mono ?_
  rintro e w1 ⟨rfl, hD, hC⟩
  have c2 := (Joins.cell_of_block hD.blk 2).trans (rfl : _ = some _)
  have HD := Lib.hid hD
  have HC := Lib.hid hC
  clear hD hC KU H
  go_wp2_with fail
  go_ret
  exact ⟨rfl, HD.out, HC.out⟩

set_option maxHeartbeats 2000000 in
theorem rdHash_bad {w : World} {p : Nat} (h : DrF w p) :
    Calls Tryd.prog 91 #[.pointer (some ⟨p, 0, none⟩)] w fun e w' => e = .returned (.agg (hc zero32).toArray) ∧ DrF w' p ∧ Chg w w' [p] := by
  have b1 : Below w.heap.size w (w.alloc (.cells (hc zero32).toArray 23)) := (Below.refl _ _).alloc (Nat.le_refl _) _
  have b2 : Below (w.alloc (.cells (hc zero32).toArray 23)).heap.size (w.alloc (.cells (hc zero32).toArray 23)) ((w.alloc (.cells (hc zero32).toArray 23)).alloc (.cells (hc zero32).toArray 23)) := (Below.refl _ _).alloc (Nat.le_refl _) _
  have b0 := b1.trans (b2.mono b1.size)
  have R0 := Lib.hid ((HashAt.new w zero32).on b2)
  have T0 := Lib.hid (HashAt.new (w.alloc (.cells (hc zero32).toArray 23)) zero32)
  rw [show (w.alloc (.cells (hc zero32).toArray 23)).heap.size = w.heap.size + 1 by simp] at T0
  have H := Lib.hid (h.on b0)
  have hpl := h.lt
  have B0 := Lib.hid b0
  have lz := hc_len zero32
  clear h b0 b1 b2
  go_enter Tryd.func91, Tryd.ntmps91
  go_wp2_with fail
  generalize ((w.alloc (.cells (hc zero32).toArray 23)).alloc (.cells (hc zero32).toArray 23)) = w0 at *
  refine (rdTake_bad (n := 32) H.out).mono ?_
  rintro e w2 ⟨rfl, rfl⟩
  have HF : Hid (DrF w2 p) := H
  have HC2 : Hid (Chg w2 w2 [p]) := Chg.refl _ _
  have R2 := Lib.hid (R0.out.chg HC2.out (by simp; omega))
  have T2 := Lib.hid (T0.out.chg HC2.out (by simp; omega))
  have ct := R2.out.there zero32_len
  have cr := T2.out.row zero32_len
  have hput := (R2.out.put zero32_len zero32_len).row zero32_len
  have HC : Hid (Chg w w2 [p]) := (Chg.below B0.out (Nat.le_refl _) [p]).trans HC2.out (fun x hx _ => hx)
  have HS : Hid (Chg w2 (w2.setCells w.heap.size 0 (hc zero32)) [w.heap.size]) := chg_setCells w.heap.size (hc zero32) 0 (Chg.refl _ _)
  go_wp2_with fail
  refine wp_loop_rounds 1 ?_
  rw [rounds_succ]
  go_wp2_with fail
  refine bodyPost_ret (v := .agg (hc zero32).toArray) (by simp [results, Tryd.results91, go_sem, hput]) rfl ⟨rfl, ?_, ?_⟩
  · obtain ⟨v, pos, f, h1, h2⟩ := HF.out
    exact ⟨v, pos, f, h1, by rw [setCells_other (by omega)]; exact h2⟩
  · exact HC.out.trans HS.out (fun x hx hl => by simp at hx; omega)
set_option maxHeartbeats 2000000 in
theorem rdHash_end {w : World} {p : Nat} {v : Value} {xs : List Int} {pos : Nat} (h : DrV w p v xs pos) (hf : xs.length < pos + 32) :
    Calls Tryd.prog 91 #[.pointer (some ⟨p, 0, none⟩)] w fun e w' => e = .returned (.agg (hc zero32).toArray) ∧ DrF w' p ∧ Chg w w' [p] := by
  have b1 : Below w.heap.size w (w.alloc (.cells (hc zero32).toArray 23)) := (Below.refl _ _).alloc (Nat.le_refl _) _
  have b2 : Below (w.alloc (.cells (hc zero32).toArray 23)).heap.size (w.alloc (.cells (hc zero32).toArray 23)) ((w.alloc (.cells (hc zero32).toArray 23)).alloc (.cells (hc zero32).toArray 23)) := (Below.refl _ _).alloc (Nat.le_refl _) _
  have b0 := b1.trans (b2.mono b1.size)
  have R0 := Lib.hid ((HashAt.new w zero32).on b2)
  have T0 := Lib.hid (HashAt.new (w.alloc (.cells (hc zero32).toArray 23)) zero32)
  rw [show (w.alloc (.cells (hc zero32).toArray 23)).heap.size = w.heap.size + 1 by simp] at T0
  have H := Lib.hid (h.on b0)
  have hpl := h.lt
  have B0 := Lib.hid b0
  have lz := hc_len zero32
  clear h b0 b1 b2
  go_enter Tryd.func91, Tryd.ntmps91
  go_wp2_with fail
  generalize ((w.alloc (.cells (hc zero32).toArray 23)).alloc (.cells (hc zero32).toArray 23)) = w0 at *
  refine (rdTake_end H.out (n := 32) (by omega) hf).mono ?_
  rintro e w2 ⟨rfl, hF, hC⟩
  have HF := Lib.hid hF
  have HC2 := Lib.hid hC
  have R2 := Lib.hid (R0.out.chg HC2.out (by simp; omega))
  have T2 := Lib.hid (T0.out.chg HC2.out (by simp; omega))
  have ct := R2.out.there zero32_len
  have cr := T2.out.row zero32_len
  have hput := (R2.out.put zero32_len zero32_len).row zero32_len
  have HC : Hid (Chg w w2 [p]) := (Chg.below B0.out (Nat.le_refl _) [p]).trans HC2.out (fun x hx _ => hx)
  have HS : Hid (Chg w2 (w2.setCells w.heap.size 0 (hc zero32)) [w.heap.size]) := chg_setCells w.heap.size (hc zero32) 0 (Chg.refl _ _)
  go_wp2_with fail
  refine wp_loop_rounds 1 ?_
  rw [rounds_succ]
  go_wp2_with fail
  refine bodyPost_ret (v := .agg (hc zero32).toArray) (by simp [results, Tryd.results91, go_sem, hput]) rfl ⟨rfl, ?_, ?_⟩
  · obtain ⟨v, pos, f, h1, h2⟩ := HF.out
    exact ⟨v, pos, f, h1, by rw [setCells_other (by omega)]; exact h2⟩
  · exact HC.out.trans HS.out (fun x hx hl => by simp at hx; omega)

theorem rdDone_bad {w : World} {p : Nat} (h : DrF w p) :
    Calls Tryd.prog 74 #[.pointer (some ⟨p, 0, none⟩)] w fun e w' => ∃ f : Int, f ≠ 0 ∧ e = .returned (.int .i64 f) ∧ w' = w := by
  obtain ⟨v, pos, f, h1, h2⟩ := h
  have c2 := (Joins.cell_of_block h2 2).trans (rfl : _ = some _)
  have d0 : (f == 0) = false := by simpa using h1
  have HN := Lib.hid h1
  clear h2 h1
  go_enter Tryd.func74, Tryd.ntmps74
  go_wp2_with fail
  go_ret
  exact ⟨f, HN.out, rfl, rfl⟩
theorem rdDone_left {w : World} {p : Nat} {v : Value} {xs : List Int} {pos : Nat} (h : DrV w p v xs pos) (hlt : pos < xs.length) :
    Calls Tryd.prog 74 #[.pointer (some ⟨p, 0, none⟩)] w fun e w' => ∃ m, e = .returned (.int .i64 21) ∧ w' = w.drewN m := by
  have H := Lib.hid h
  have hg : (0 : Int) < (xs.length : Int) - (pos : Int) := by omega
  have c2 := (Joins.cell_of_block h.blk 2).trans (rfl : _ = some _)
  clear h
  go_enter Tryd.func74, Tryd.ntmps74
  go_wp2_with fail
  refine (rdLeft_ok H.out).mono ?_
  rintro e w1 ⟨m, rfl, rfl⟩
  go_wp2_with fail
  go_ret
  exact ⟨m, rfl, rfl⟩
theorem rdDone_all {w : World} {p : Nat} {v : Value} {xs : List Int} (h : DrV w p v xs xs.length) :
    Calls Tryd.prog 74 #[.pointer (some ⟨p, 0, none⟩)] w fun e w' => ∃ m, e = .returned (.int .i64 0) ∧ w' = w.drewN m := by
  have H := Lib.hid h
  have c2 := (Joins.cell_of_block h.blk 2).trans (rfl : _ = some _)
  clear h
  go_enter Tryd.func74, Tryd.ntmps74
  go_wp2_with fail
  refine (rdLeft_ok H.out).mono ?_
  rintro e w1 ⟨m, rfl, rfl⟩
  have H1 := H.out.drewN m
  have c2 := (Joins.cell_of_block H1.blk 2).trans (rfl : _ = some _)
  clear H1
  rw [Int.sub_self]
  go_wp2_with fail
  go_ret
  exact ⟨m, rfl, rfl⟩
end Go.Proofs.YtjgfjmkfcippcaaDoor
namespace Go.Proofs.YtjgfjmkfcippcaaDoor
set_option maxRecDepth 100000
open Go.RowKit

theorem rwk_hash {w : World} {b : Nat} {F : List Int} (hF : F.length = 32) (h : RwK .u8 w b 32 23 (fun j => F.getD j 0)) : HashAt w b F := by
  have := h.block
  have e : ((List.range 32).map fun i => Value.int .u8 (F.getD i 0)) = hc F := by
    apply List.ext_getElem?
    intro i
    by_cases hi : i < 32
    · simp [hc, List.getD, hi, hF]
    · rw [List.getElem?_eq_none (by simp; omega), List.getElem?_eq_none (by rw [hc_len]; omega)]
  rw [e] at this
  exact this
theorem hash_rwk {w : World} {b : Nat} {F : List Int} (hF : F.length = 32) (h : HashAt w b F) : RwK .u8 w b 32 23 (fun j => F.getD j 0) :=
  ⟨_, h, by simp [hc_len, hF], fun i hi => by simp [hc, List.getD, hF, hi]⟩

set_option maxHeartbeats 4000000 in
theorem rdHash_ok {w : World} {p : Nat} {v : Value} {xs : List Int} {pos : Nat} (h : DrV w p v xs pos) {ys : List Int} (hl : ys.length = 32) (hf : pos + 32 ≤ xs.length) (hy : (xs.drop pos).take 32 = ys) :
    Calls Tryd.prog 91 #[.pointer (some ⟨p, 0, none⟩)] w fun e w' => e = .returned (.agg (hc ys).toArray) ∧ DrV w' p v xs (pos + 32) ∧ Chg w w' [p] := by
  have b1 : Below w.heap.size w (w.alloc (.cells (hc zero32).toArray 23)) := (Below.refl _ _).alloc (Nat.le_refl _) _
  have b2 : Below (w.alloc (.cells (hc zero32).toArray 23)).heap.size (w.alloc (.cells (hc zero32).toArray 23)) ((w.alloc (.cells (hc zero32).toArray 23)).alloc (.cells (hc zero32).toArray 23)) := (Below.refl _ _).alloc (Nat.le_refl _) _
  have b0 := b1.trans (b2.mono b1.size)
  have R0 := Lib.hid ((HashAt.new w zero32).on b2)
  have T0 := Lib.hid (HashAt.new (w.alloc (.cells (hc zero32).toArray 23)) zero32)
  have hz : (w.alloc (.cells (hc zero32).toArray 23)).heap.size = w.heap.size + 1 := by simp
  rw [hz] at T0
  have H := Lib.hid (h.on b0)
  have hpl := h.lt
  have B0 := Lib.hid b0
  have HV : Hid (∀ g, v.ownBlock = some g → g < w.heap.size) := fun g hg => own_lt h.own hg
  have KT := Lib.hid (rdTake_ok H.out (n := 32) (by omega) (by omega) hf)
  rw [hy] at KT
  replace hl := Lib.hid hl
  clear h hy b0 b1 b2 hz
  go_enter Tryd.func91, Tryd.ntmps91
  go_wp2_with fail
  generalize ((w.alloc (.cells (hc zero32).toArray 23)).alloc (.cells (hc zero32).toArray 23)) = w0 at *
  refine KT.out.mono ?_
  rintro e w1 ⟨q, c, rfl, hR, hD, hC, hfq⟩
  have HD := Lib.hid hD
  have HCC : Hid (Chg w w1 [p]) := (Chg.below B0.out (Nat.le_refl _) [p]).trans hC (fun x hx _ => hx)
  have R1 := Lib.hid (R0.out.chg hC (by simp; omega))
  have T1 := Lib.hid (hash_rwk zero32_len (T0.out.chg hC (by simp; omega)))
  obtain ⟨q', c', e1, hR⟩ := hR
  simp only [Value.slice.injEq] at e1
  obtain ⟨rfl, -, rfl⟩ := e1
  obtain ⟨b, off, rfl, hcell⟩ := hR.resolve_left (fun e => by have := hl.out; rw [e] at this; simp at this)
  have HCe := Lib.hid hcell
  have hs0 : w.heap.size + 1 < w0.heap.size := T0.out.lt
  have hbn : b ≠ w.heap.size + 1 := fun e => by
    have := hfq _ rfl
    simp only at this
    omega
  have hs1 : Hid (w.heap.size + 1 < w1.heap.size) := T1.out.lt
  clear hcell hR hD hC KT R0 T0 hfq hs0
  have S0 : Hid (∃ f : Nat → Int, RwK .u8 w1 (w.heap.size + 1) 32 23 f ∧ (∀ j, j < 0 → f j = ys.getD j 0)) := ⟨_, T1.out, fun j hj => by omega⟩
  have C0 : Hid (Chg w1 w1 [w.heap.size + 1]) := Chg.refl _ _
  go_wp2_with fail
  go_loopw [5] (fun iv wr => ∃ k : Nat, iv = .int .i64 k ∧ k ≤ 32 ∧ Hid (∃ f : Nat → Int, RwK .u8 wr (w.heap.size + 1) 32 23 f ∧ (∀ j, j < k → f j = ys.getD j 0)) ∧ Hid (Chg w1 wr [w.heap.size + 1])) (fun iv _ => 32 - (intOf iv).toNat)
  case atStart => exact ⟨0, rfl, by omega, S0, C0⟩
  case round =>
    clear S0 C0
    obtain ⟨k, rfl, hk, hS, hC⟩ := hrel
    by_cases hlt : k < 32
    · have hne : b ≠ w.heap.size + 1 ∨ True := .inr trivial
      have hc1 : wr.cell? ⟨b, off + k, none⟩ = some (.int .u8 (ys.getD k 0)) := by
        rw [← HCe.out k (by rw [hl.out]; exact hlt)]
        exact World.cell?_of_block (hC.out.block b (lt_of_cell (HCe.out k (by rw [hl.out]; exact hlt))) (by simp only [List.mem_singleton]; exact hbn))
      obtain ⟨f, hW, hfj⟩ := hS.out
      have g0 := hW.cell k hlt
      have fr := hW.free k
      have HS2 : Hid (∃ f : Nat → Int, RwK .u8 (wr.setCell ⟨w.heap.size + 1, k, none⟩ (.int .u8 (ys.getD k 0))) (w.heap.size + 1) 32 23 f ∧ (∀ j, j < k + 1 → f j = ys.getD j 0)) := by
        refine ⟨_, hW.store hlt (ys.getD k 0), fun j hj => ?_⟩
        by_cases e : j = k
        · subst e; rw [updK_same]
        · rw [updK_ne _ _ e]; exact hfj j (by omega)
      have HC2 : Hid (Chg w1 (wr.setCell ⟨w.heap.size + 1, k, none⟩ (.int .u8 (ys.getD k 0))) [w.heap.size + 1]) := hC.out.setCell (.inl (by simp)) _
      generalize ys.getD k 0 = yk at *
      clear hW hfj hS hC
      go_wp2_with fail
      go_roundw
      case rel => exact ⟨k + 1, by go_num, by omega, HS2, HC2⟩
      case measure => simp [intOf]; omega
    · obtain rfl : k = 32 := by omega
      obtain ⟨f, hW, hfj⟩ := hS.out
      have TF := Lib.hid (rwk_hash hl.out (hW.same hfj))
      have cr := TF.out.row hl.out
      have RF := Lib.hid (R1.out.chg hC.out (by simp))
      have ct := RF.out.there zero32_len
      have lY := hl.out
      have lcY := hc_len ys
      have hput := (RF.out.put zero32_len hl.out).row hl.out
      have HS : Hid (Chg wr (wr.setCells w.heap.size 0 (hc ys)) [w.heap.size]) := chg_setCells w.heap.size (hc ys) 0 (Chg.refl _ _)
      have HDr : Hid (DrV wr p v xs (pos + 32)) := HD.out.chg hC.out (by simp; omega) (fun g hg hm => by have := HV.out g hg; simp at hm; omega)
      have HDF : Hid (DrV (wr.setCells w.heap.size 0 (hc ys)) p v xs (pos + 32)) := HDr.out.chg HS.out (by simp; omega) (fun g hg hm => by have := HV.out g hg; simp at hm; omega)
      have HCF : Hid (Chg w (wr.setCells w.heap.size 0 (hc ys)) [p]) := ((HCC.out.trans hC.out (fun x hx hl => by simp at hx; omega)).trans HS.out (fun x hx hl => by simp at hx; omega))
      clear hW hfj hS hC HDr HS
      go_wp2_with fail
      refine bodyPost_ret (v := .agg (hc ys).toArray) (by simp [results, Tryd.results91, go_sem, hput, lY]) rfl ⟨rfl, HDF.out, HCF.out⟩
end Go.Proofs.YtjgfjmkfcippcaaDoor
namespace Go.Proofs.YtjgfjmkfcippcaaDoor
set_option maxRecDepth 100000
open Go.RowKit

/-! ### The program -/
/-- A reader's state: f tells whether there was an error. -/
structure RSt (w : World) (p : Nat) (v : Value) (xs : List Int) (pos : Nat) (f : Bool) : Prop where
  ok : f = false → RrV w p v xs pos
  bad : f = true → RrF w p
  lt : p < w.heap.size
theorem RSt.chg {w w' : World} {p : Nat} {v : Value} {xs : List Int} {pos : Nat} {f : Bool} (h : RSt w p v xs pos f) {K : List Nat} (hc : Chg w w' K) (hp : p ∉ K) (hv : ∀ g, v.ownBlock = some g → g ∉ K) : RSt w' p v xs pos f := by
  refine ⟨fun e => (h.ok e).chg hc hp hv, fun e => ?_, by have := hc.size; have := h.lt; omega⟩
  have := h.bad e
  unfold RrF at this ⊢
  rw [hc.block p h.lt hp]; exact this
theorem RSt.on {w w' : World} {p : Nat} {v : Value} {xs : List Int} {pos : Nat} {f : Bool} (h : RSt w p v xs pos f) (hb : Below w.heap.size w w') : RSt w' p v xs pos f := h.chg (K := []) (Chg.below hb (Nat.le_refl _) []) (by simp) (fun _ _ => by simp)
theorem RSt.mk0 {w : World} {p : Nat} {v : Value} {xs : List Int} {pos : Nat} (h : RrV w p v xs pos) : RSt w p v xs pos false := ⟨fun _ => h, fun e => by simp at e, h.lt⟩
theorem RSt.mk1 {w : World} {p : Nat} {v : Value} {xs : List Int} {pos : Nat} (h : RrF w p) : RSt w p v xs pos true := ⟨fun e => by simp at e, fun _ => h, h.lt⟩
theorem Count_st {w : World} {p : Nat} {v : Value} {xs : List Int} {pos most : Nat} {f : Bool} (h : RSt w p v xs pos f) (hx : Bytes xs) (hm : most ≤ 1000000) :
    Calls Tryd.prog 69 #[.pointer (some ⟨p, 0, none⟩), .int .i64 (most : Int)] w fun e w' => ∃ (z : Nat) (f' : Bool), e = .returned (.int .i64 z) ∧ z ≤ most ∧ RSt w' p v xs (pos + 8) f' ∧ Chg w w' [p] ∧ (f' = false → f = false ∧ pos + 8 ≤ xs.length ∧ num ((xs.drop pos).take 8) = z) ∧ (f' = true → f = true ∨ xs.length < pos + 8 ∨ (most : Int) < num ((xs.drop pos).take 8)) := by
  cases f with
  | true =>
    refine (Count_bad (most := (most : Int)) (h.bad rfl)).mono ?_
    rintro e w' ⟨rfl, h1, h2⟩
    exact ⟨0, true, rfl, Nat.zero_le _, RSt.mk1 h1, h2, fun e => by simp at e, fun _ => .inl rfl⟩
  | false =>
    have h0 := h.ok rfl
    by_cases hf : pos + 8 ≤ xs.length
    · have hb := num_bd (xs := (xs.drop pos).take 8) (fun x hx' => hx x (List.mem_of_mem_drop (List.mem_of_mem_take hx'))) 8 (by simp; omega)
      rw [List.take_of_length_le (l := (xs.drop pos).take 8) (by simp; omega)] at hb
      obtain ⟨z, hz⟩ : ∃ z : Nat, num ((xs.drop pos).take 8) = z := ⟨(num ((xs.drop pos).take 8)).toNat, by omega⟩
      by_cases hzm : z ≤ most
      · refine (Count_ok h0 hx hm hf hz hzm).mono ?_
        rintro e w' ⟨rfl, h1, h2⟩
        exact ⟨z, false, rfl, hzm, RSt.mk0 h1, h2, fun _ => ⟨rfl, hf, hz⟩, fun e => by simp at e⟩
      · refine (Count_big h0 hx hm hf (by rw [hz]; omega)).mono ?_
        rintro e w' ⟨rfl, h1, h2⟩
        exact ⟨0, true, rfl, Nat.zero_le _, RSt.mk1 h1, h2, fun e => by simp at e, fun _ => .inr (.inr (by rw [hz]; omega))⟩
    · refine (Count_end (most := (most : Int)) h0 (by omega)).mono ?_
      rintro e w' ⟨rfl, h1, h2⟩
      exact ⟨0, true, rfl, Nat.zero_le _, RSt.mk1 h1, h2, fun e => by simp at e, fun _ => .inr (.inl (by omega))⟩
theorem Hash_st {w : World} {p : Nat} {v : Value} {xs : List Int} {pos : Nat} {f : Bool} (h : RSt w p v xs pos f) (hx : Bytes xs) :
    Calls Tryd.prog 70 #[.pointer (some ⟨p, 0, none⟩)] w fun e w' => ∃ (F : List Int) (f' : Bool), e = .returned (.agg (hc F).toArray) ∧ F.length = 32 ∧ Bytes F ∧ RSt w' p v xs (pos + 32) f' ∧ Chg w w' [p] ∧ (f' = false → f = false ∧ pos + 32 ≤ xs.length ∧ (xs.drop pos).take 32 = F) ∧ (f' = true → f = true ∨ xs.length < pos + 32) := by
  have bz : Bytes zero32 := by
    intro x hx
    have e : ∀ x ∈ zero32, x = 0 := by decide
    rw [e x hx]; omega
  cases f with
  | true =>
    refine (Hash_bad (h.bad rfl)).mono ?_
    rintro e w' ⟨rfl, h1, h2⟩
    exact ⟨zero32, true, rfl, zero32_len, bz, RSt.mk1 h1, h2, fun e => by simp at e, fun _ => .inl rfl⟩
  | false =>
    have h0 := h.ok rfl
    by_cases hf : pos + 32 ≤ xs.length
    · have hl : ((xs.drop pos).take 32).length = 32 := by simp; omega
      refine (RHash_ok h0 hl hf rfl).mono ?_
      rintro e w' ⟨rfl, h1, h2⟩
      exact ⟨_, false, rfl, hl, fun x hx' => hx x (List.mem_of_mem_drop (List.mem_of_mem_take hx')), RSt.mk0 h1, h2, fun _ => ⟨rfl, hf, rfl⟩, fun e => by simp at e⟩
    · refine (Hash_end h0 (by omega)).mono ?_
      rintro e w' ⟨rfl, h1, h2⟩
      exact ⟨zero32, true, rfl, zero32_len, bz, RSt.mk1 h1, h2, fun e => by simp at e, fun _ => .inr (by omega)⟩
theorem Done_st {w : World} {p : Nat} {v : Value} {xs : List Int} {pos : Nat} {f : Bool} (h : RSt w p v xs pos f) :
    Calls Tryd.prog 71 #[.pointer (some ⟨p, 0, none⟩)] w fun e w' => ∃ (z : Int) (m : Nat), e = .returned (.int .i64 z) ∧ w' = w.drewN m ∧ (z = 0 ↔ f = false ∧ pos = xs.length) := by
  cases f with
  | true =>
    refine (Done_bad (h.bad rfl)).mono ?_
    rintro e w' ⟨z, hz, rfl, rfl⟩
    exact ⟨z, 0, rfl, rfl, ⟨fun e => absurd e hz, fun e => by simp at e⟩⟩
  | false =>
    have h0 := h.ok rfl
    have hle := h0.le
    by_cases hl : pos = xs.length
    · subst hl
      refine (Done_all h0).mono ?_
      rintro e w' ⟨m, rfl, rfl⟩
      exact ⟨0, m, rfl, rfl, by simp⟩
    · refine (Done_left h0 (by omega)).mono ?_
      rintro e w' ⟨m, rfl, rfl⟩
      exact ⟨21, m, rfl, rfl, by constructor <;> intro e <;> omega⟩

/-! ### The document -/
/-- A reader's state: f tells whether there was an error. -/
structure DSt (w : World) (p : Nat) (v : Value) (xs : List Int) (pos : Nat) (f : Bool) : Prop where
  ok : f = false → DrV w p v xs pos
  bad : f = true → DrF w p
  lt : p < w.heap.size
theorem DSt.chg {w w' : World} {p : Nat} {v : Value} {xs : List Int} {pos : Nat} {f : Bool} (h : DSt w p v xs pos f) {K : List Nat} (hc : Chg w w' K) (hp : p ∉ K) (hv : ∀ g, v.ownBlock = some g → g ∉ K) : DSt w' p v xs pos f := by
  refine ⟨fun e => (h.ok e).chg hc hp hv, fun e => ?_, by have := hc.size; have := h.lt; omega⟩
  have := h.bad e
  unfold DrF at this ⊢
  rw [hc.block p h.lt hp]; exact this
theorem DSt.on {w w' : World} {p : Nat} {v : Value} {xs : List Int} {pos : Nat} {f : Bool} (h : DSt w p v xs pos f) (hb : Below w.heap.size w w') : DSt w' p v xs pos f := h.chg (K := []) (Chg.below hb (Nat.le_refl _) []) (by simp) (fun _ _ => by simp)
theorem DSt.mk0 {w : World} {p : Nat} {v : Value} {xs : List Int} {pos : Nat} (h : DrV w p v xs pos) : DSt w p v xs pos false := ⟨fun _ => h, fun e => by simp at e, h.lt⟩
theorem DSt.mk1 {w : World} {p : Nat} {v : Value} {xs : List Int} {pos : Nat} (h : DrF w p) : DSt w p v xs pos true := ⟨fun e => by simp at e, fun _ => h, h.lt⟩
theorem rdCount_st {w : World} {p : Nat} {v : Value} {xs : List Int} {pos most : Nat} {f : Bool} (h : DSt w p v xs pos f) (hx : Bytes xs) (hm : most ≤ 1000000) :
    Calls Tryd.prog 90 #[.pointer (some ⟨p, 0, none⟩), .int .i64 (most : Int)] w fun e w' => ∃ (z : Nat) (f' : Bool), e = .returned (.int .i64 z) ∧ z ≤ most ∧ DSt w' p v xs (pos + 8) f' ∧ Chg w w' [p] ∧ (f' = false → f = false ∧ pos + 8 ≤ xs.length ∧ num ((xs.drop pos).take 8) = z) ∧ (f' = true → f = true ∨ xs.length < pos + 8 ∨ (most : Int) < num ((xs.drop pos).take 8)) := by
  cases f with
  | true =>
    refine (rdCount_bad (most := (most : Int)) (h.bad rfl)).mono ?_
    rintro e w' ⟨rfl, h1, h2⟩
    exact ⟨0, true, rfl, Nat.zero_le _, DSt.mk1 h1, h2, fun e => by simp at e, fun _ => .inl rfl⟩
  | false =>
    have h0 := h.ok rfl
    by_cases hf : pos + 8 ≤ xs.length
    · have hb := num_bd (xs := (xs.drop pos).take 8) (fun x hx' => hx x (List.mem_of_mem_drop (List.mem_of_mem_take hx'))) 8 (by simp; omega)
      rw [List.take_of_length_le (l := (xs.drop pos).take 8) (by simp; omega)] at hb
      obtain ⟨z, hz⟩ : ∃ z : Nat, num ((xs.drop pos).take 8) = z := ⟨(num ((xs.drop pos).take 8)).toNat, by omega⟩
      by_cases hzm : z ≤ most
      · refine (rdCount_ok h0 hx hm hf hz hzm).mono ?_
        rintro e w' ⟨rfl, h1, h2⟩
        exact ⟨z, false, rfl, hzm, DSt.mk0 h1, h2, fun _ => ⟨rfl, hf, hz⟩, fun e => by simp at e⟩
      · refine (rdCount_big h0 hx hm hf (by rw [hz]; omega)).mono ?_
        rintro e w' ⟨rfl, h1, h2⟩
        exact ⟨0, true, rfl, Nat.zero_le _, DSt.mk1 h1, h2, fun e => by simp at e, fun _ => .inr (.inr (by rw [hz]; omega))⟩
    · refine (rdCount_end (most := (most : Int)) h0 (by omega)).mono ?_
      rintro e w' ⟨rfl, h1, h2⟩
      exact ⟨0, true, rfl, Nat.zero_le _, DSt.mk1 h1, h2, fun e => by simp at e, fun _ => .inr (.inl (by omega))⟩
theorem rdHash_st {w : World} {p : Nat} {v : Value} {xs : List Int} {pos : Nat} {f : Bool} (h : DSt w p v xs pos f) (hx : Bytes xs) :
    Calls Tryd.prog 91 #[.pointer (some ⟨p, 0, none⟩)] w fun e w' => ∃ (F : List Int) (f' : Bool), e = .returned (.agg (hc F).toArray) ∧ F.length = 32 ∧ Bytes F ∧ DSt w' p v xs (pos + 32) f' ∧ Chg w w' [p] ∧ (f' = false → f = false ∧ pos + 32 ≤ xs.length ∧ (xs.drop pos).take 32 = F) ∧ (f' = true → f = true ∨ xs.length < pos + 32) := by
  have bz : Bytes zero32 := by
    intro x hx
    have e : ∀ x ∈ zero32, x = 0 := by decide
    rw [e x hx]; omega
  cases f with
  | true =>
    refine (rdHash_bad (h.bad rfl)).mono ?_
    rintro e w' ⟨rfl, h1, h2⟩
    exact ⟨zero32, true, rfl, zero32_len, bz, DSt.mk1 h1, h2, fun e => by simp at e, fun _ => .inl rfl⟩
  | false =>
    have h0 := h.ok rfl
    by_cases hf : pos + 32 ≤ xs.length
    · have hl : ((xs.drop pos).take 32).length = 32 := by simp; omega
      refine (rdHash_ok h0 hl hf rfl).mono ?_
      rintro e w' ⟨rfl, h1, h2⟩
      exact ⟨_, false, rfl, hl, fun x hx' => hx x (List.mem_of_mem_drop (List.mem_of_mem_take hx')), DSt.mk0 h1, h2, fun _ => ⟨rfl, hf, rfl⟩, fun e => by simp at e⟩
    · refine (rdHash_end h0 (by omega)).mono ?_
      rintro e w' ⟨rfl, h1, h2⟩
      exact ⟨zero32, true, rfl, zero32_len, bz, DSt.mk1 h1, h2, fun e => by simp at e, fun _ => .inr (by omega)⟩
theorem rdDone_st {w : World} {p : Nat} {v : Value} {xs : List Int} {pos : Nat} {f : Bool} (h : DSt w p v xs pos f) :
    Calls Tryd.prog 74 #[.pointer (some ⟨p, 0, none⟩)] w fun e w' => ∃ (z : Int) (m : Nat), e = .returned (.int .i64 z) ∧ w' = w.drewN m ∧ (z = 0 ↔ f = false ∧ pos = xs.length) := by
  cases f with
  | true =>
    refine (rdDone_bad (h.bad rfl)).mono ?_
    rintro e w' ⟨z, hz, rfl, rfl⟩
    exact ⟨z, 0, rfl, rfl, ⟨fun e => absurd e hz, fun e => by simp at e⟩⟩
  | false =>
    have h0 := h.ok rfl
    have hle := h0.le
    by_cases hl : pos = xs.length
    · subst hl
      refine (rdDone_all h0).mono ?_
      rintro e w' ⟨m, rfl, rfl⟩
      exact ⟨0, m, rfl, rfl, by simp⟩
    · refine (rdDone_left h0 (by omega)).mono ?_
      rintro e w' ⟨m, rfl, rfl⟩
      exact ⟨21, m, rfl, rfl, by constructor <;> intro e <;> omega⟩

end Go.Proofs.YtjgfjmkfcippcaaDoor
