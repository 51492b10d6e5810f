/-
  The document's reader: numbers, counts, hashes.; The writer's Hash, where there is room.; The bytes of a proof, as the program writes them.; The document's reader: a hash. A proof's bytes and what they tell.; What bytes tell a proof.
-/
import Derived.Test.YtebeacejlkiglaaDoorMa1
import Derived.Test.YtebeacejlkiglaaDoorMa2
import Derived.Test.YtebeacejlkiglaaDoorMa3
import Derived.Test.YtebeacejlkiglaaDoorMa5
import Derived.Test.YtebeacejlkiglaaDoorMa9
import Derived.Test.YtebeacejlkiglaaDoorMa11
import Derived.Test.YtebeacejlkiglaaDoorMa20
namespace Go.Proofs.YtebeacejlkiglaaDoor
set_option maxRecDepth 100000
open Go.RowKit

theorem rdUint_bad {w : World} {p : Nat} (h : DrF w p) :
    Calls Tryd.prog 75 #[.pointer (some ⟨p, 0, none⟩)] w fun e w' => e = .returned (.int .u64 0) ∧ DrF w' p ∧ Chg w w' [p] := by
  have H := Lib.hid h
  clear h
  go_enter Tryd.func75, Tryd.ntmps75
  go_wp2_with fail
  refine (rdTake_bad H.out).mono ?_
  rintro e w1 ⟨rfl, rfl⟩
  have HF : Hid (DrF w1 p) := H
  have HC : Hid (Chg w1 w1 [p]) := Chg.refl _ _
  go_wp2_with fail
  refine wp_loop_rounds 1 ?_
  rw [rounds_succ]
  go_wp2_with fail
  go_ret
  exact ⟨rfl, HF.out, HC.out⟩
theorem rdUint_end {w : World} {p : Nat} {v : Value} {xs : List Int} {pos : Nat} (h : DrV w p v xs pos) (hf : xs.length < pos + 8) :
    Calls Tryd.prog 75 #[.pointer (some ⟨p, 0, none⟩)] w fun e w' => e = .returned (.int .u64 0) ∧ DrF w' p ∧ Chg w w' [p] := by
  have H := Lib.hid h
  clear h
  go_enter Tryd.func75, Tryd.ntmps75
  go_wp2_with fail
  refine (rdTake_end H.out (n := 8) (by omega) hf).mono ?_
  rintro e w1 ⟨rfl, hF, hC⟩
  have HF := Lib.hid hF
  have HC := Lib.hid hC
  clear hF hC
  go_wp2_with fail
  refine wp_loop_rounds 1 ?_
  rw [rounds_succ]
  go_wp2_with fail
  go_ret
  exact ⟨rfl, HF.out, HC.out⟩

set_option maxHeartbeats 2000000 in
theorem rdUint_ok {w : World} {p : Nat} {v : Value} {xs : List Int} {pos : Nat} (h : DrV w p v xs pos) (hx : Bytes xs) (hf : pos + 8 ≤ xs.length) :
    Calls Tryd.prog 75 #[.pointer (some ⟨p, 0, none⟩)] w fun e w' => e = .returned (.int .u64 (num ((xs.drop pos).take 8))) ∧ DrV w' p v xs (pos + 8) ∧ Chg w w' [p] := by
  have H := Lib.hid h
  have HB : Hid (Bytes ((xs.drop pos).take 8)) := fun x hx' => hx x (List.mem_of_mem_drop (List.mem_of_mem_take hx'))
  have hl8 : ((xs.drop pos).take 8).length = 8 := by simp; omega
  have KT := Lib.hid (rdTake_ok H.out (n := 8) (by omega) (by omega) hf)
  generalize (xs.drop pos).take 8 = ys at HB hl8 KT ⊢
  replace hl8 := Lib.hid hl8
  clear h hx
  go_enter Tryd.func75, Tryd.ntmps75
  go_wp2_with fail
  refine KT.out.mono ?_
  rintro e w1 ⟨q, c, rfl, hR, hD, hC, -⟩
  have HD := Lib.hid hD
  have HCC := Lib.hid hC
  obtain ⟨q', c', e1, hR⟩ := hR
  simp only [Value.slice.injEq] at e1
  obtain ⟨rfl, -, rfl⟩ := e1
  obtain ⟨b, off, rfl, hcell⟩ := hR.resolve_left (fun e => by have := hl8.out; rw [e] at this; simp at this)
  have HCe := Lib.hid hcell
  clear hcell hR hD hC KT
  go_wp2_with fail
  go_loopw [4, 5] (fun nv iv wr => ∃ k : Nat, iv = .int .i64 k ∧ k ≤ 8 ∧ nv = .int .u64 (num (ys.take k)) ∧ wr = w1) (fun _ iv _ => 8 - (intOf iv).toNat)
  case atStart => exact ⟨0, rfl, by omega, by simp [num], rfl⟩
  case round =>
    obtain ⟨k, rfl, hk, rfl, rfl⟩ := hrel
    by_cases hlt : k < 8
    · have hc1 := HCe.out k (by rw [hl8.out]; exact hlt)
      have hb := num_bd HB.out k (by rw [hl8.out]; omega)
      have hp : (256 : Int) ^ k ≤ 72057594037927936 := by
        have e : k = 0 ∨ k = 1 ∨ k = 2 ∨ k = 3 ∨ k = 4 ∨ k = 5 ∨ k = 6 ∨ k = 7 := by omega
        rcases e with rfl | rfl | rfl | rfl | rfl | rfl | rfl | rfl <;> decide
      have hy := HB.out (ys.getD k 0) (by simp [List.getD, show k < ys.length by rw [hl8.out]; exact hlt])
      have HN := Lib.hid (num_take (xs := ys) (k := k) (by rw [hl8.out]; exact hlt))
      obtain ⟨hn0, hn1⟩ := hb
      have hn2 : num (ys.take k) < 72057594037927936 := by omega
      obtain ⟨hy0, hy1⟩ := hy
      clear hn1 hp
      generalize num (ys.take k) = nk at *
      generalize ys.getD k 0 = yk at *
      go_wp2_with fail
      go_roundw
      case rel => exact ⟨k + 1, by go_num, by omega, by rw [HN.out], trivial⟩
      case measure => simp [intOf]; omega
    · obtain rfl : k = 8 := by omega
      rw [List.take_of_length_le (by rw [hl8.out]; omega)]
      clear hlt hk
      go_wp2_with fail
      go_ret
      exact ⟨rfl, HD.out, HCC.out⟩

set_option maxHeartbeats 1000000 in
theorem rdCount_bad {w : World} {p : Nat} {most : Int} (h : DrF w p) :
    Calls Tryd.prog 67 #[.pointer (some ⟨p, 0, none⟩), .int .i64 most] w fun e w' => e = .returned (.int .i64 0) ∧ DrF w' p ∧ Chg w w' [p] := by
  have H := Lib.hid h
  have c1 : ∃ z, w.cell? ⟨p, 1, none⟩ = some (.int .i64 z) := by obtain ⟨v, pos, f, h1, h2⟩ := h; exact ⟨_, (Joins.cell_of_block h2 1).trans rfl⟩
  obtain ⟨z1, c1⟩ := c1
  clear h
  go_enter Tryd.func67, Tryd.ntmps67
  go_wp2_with fail
  refine (rdUint_bad H.out).mono ?_
  rintro e w1 ⟨rfl, hF, hC⟩
  have HF := Lib.hid hF
  have HC := Lib.hid hC
  obtain ⟨v1, pos1, f, h1, h2⟩ := hF
  have c2 := (Joins.cell_of_block h2 2).trans (rfl : _ = some _)
  have d0 : (f == 0) = false := by simpa using h1
  clear h2 h1 hC
  go_wp2_with fail
  go_ret
  exact ⟨rfl, HF.out, HC.out⟩
set_option maxHeartbeats 1000000 in
theorem rdCount_end {w : World} {p : Nat} {most : Int} {v : Value} {xs : List Int} {pos : Nat} (h : DrV w p v xs pos) (hf : xs.length < pos + 8) :
    Calls Tryd.prog 67 #[.pointer (some ⟨p, 0, none⟩), .int .i64 most] w fun e w' => e = .returned (.int .i64 0) ∧ DrF w' p ∧ Chg w w' [p] := by
  have H := Lib.hid h
  have c1 : ∃ z, w.cell? ⟨p, 1, none⟩ = some (.int .i64 z) := ⟨_, (Joins.cell_of_block h.blk 1).trans rfl⟩
  obtain ⟨z1, c1⟩ := c1
  clear h
  go_enter Tryd.func67, Tryd.ntmps67
  go_wp2_with fail
  refine (rdUint_end H.out hf).mono ?_
  rintro e w1 ⟨rfl, hF, hC⟩
  have HF := Lib.hid hF
  have HC := Lib.hid hC
  obtain ⟨v1, pos1, f, h1, h2⟩ := hF
  have c2 := (Joins.cell_of_block h2 2).trans (rfl : _ = some _)
  have d0 : (f == 0) = false := by simpa using h1
  clear h2 h1 hC
  go_wp2_with fail
  go_ret
  exact ⟨rfl, HF.out, HC.out⟩

set_option maxHeartbeats 2000000 in
theorem rdCount_big {w : World} {p : Nat} {v : Value} {xs : List Int} {pos : Nat} {most : Nat} (h : DrV w p v xs pos) (hx : Bytes xs) (hm : most ≤ 1000000) (hf : pos + 8 ≤ xs.length) (hz : (most : Int) < num ((xs.drop pos).take 8)) :
    Calls Tryd.prog 67 #[.pointer (some ⟨p, 0, none⟩), .int .i64 most] w fun e w' => e = .returned (.int .i64 0) ∧ DrF w' p ∧ Chg w w' [p] := by
  have H := Lib.hid h
  have c1 := (Joins.cell_of_block h.blk 1).trans (rfl : _ = some _)
  have u0 : IntKind.u64.wrap (most : Int) = (most : Int) := by rw [IntKind.wrap_u64]; omega
  have KU := Lib.hid (rdUint_ok H.out hx hf)
  clear h hx
  go_enter Tryd.func67, Tryd.ntmps67
  go_wp2_with fail
  refine KU.out.mono ?_
  rintro e w1 ⟨rfl, hD, hC⟩
  have c2 := (Joins.cell_of_block hD.blk 2).trans (rfl : _ = some _)
  have f1 := Joins.unfrozen_of_block hD.blk 1
  have f2 := Joins.unfrozen_of_block hD.blk 2
  have k1 := (Joins.cell_of_block hD.blk 1).trans (rfl : _ = some _)
  have hb1 : ((w1.setCell ⟨p, 2, none⟩ (.int .i64 21)).setCell ⟨p, 1, none⟩ (.int .i64 pos)).heap[p]? = some (.cells #[v, .int .i64 pos, .int .i64 21] 109 (0, 0)) := Joins.block_setCell (Joins.block_setCell hD.blk _) _
  have c2' := (Joins.cell_of_block hb1 2).trans (rfl : _ = some _)
  have HF : Hid (DrF ((w1.setCell ⟨p, 2, none⟩ (.int .i64 21)).setCell ⟨p, 1, none⟩ (.int .i64 pos)) p) := ⟨v, pos, 21, by decide, hb1⟩
  have HC : Hid (Chg w ((w1.setCell ⟨p, 2, none⟩ (.int .i64 21)).setCell ⟨p, 1, none⟩ (.int .i64 pos)) [p]) := (hC.setCell (.inl (by simp)) _).setCell (.inl (by simp)) _
  generalize num ((xs.drop pos).take 8) = z at *
  clear hD hC hb1 KU H
  go_wp2_with fail
  go_ret
  exact ⟨rfl, HF.out, HC.out⟩
set_option maxHeartbeats 2000000 in
theorem rdCount_ok {w : World} {p : Nat} {v : Value} {xs : List Int} {pos : Nat} {most : Nat} (h : DrV w p v xs pos) (hx : Bytes xs) (hm : most ≤ 1000000) (hf : pos + 8 ≤ xs.length) {z : Nat} (hz : num ((xs.drop pos).take 8) = z) (hzm : z ≤ most) :
    Calls Tryd.prog 67 #[.pointer (some ⟨p, 0, none⟩), .int .i64 most] w fun e w' => e = .returned (.int .i64 z) ∧ DrV w' p v xs (pos + 8) ∧ Chg w w' [p] := by
  have H := Lib.hid h
  have c1 := (Joins.cell_of_block h.blk 1).trans (rfl : _ = some _)
  have u0 : IntKind.u64.wrap (most : Int) = (most : Int) := by rw [IntKind.wrap_u64]; omega
  have hzI : ¬ (most : Int) < (z : Int) := by omega
  have KU := Lib.hid (rdUint_ok H.out hx hf)
  rw [hz] at KU
  clear h hx hz
  go_enter Tryd.func67, Tryd.ntmps67
  go_wp2_with fail
  refine KU.out.mono ?_
  rintro e w1 ⟨rfl, hD, hC⟩
  have c2 := (Joins.cell_of_block hD.blk 2).trans (rfl : _ = some _)
  have HD := Lib.hid hD
  have HC := Lib.hid hC
  clear hD hC KU H
  go_wp2_with fail
  go_ret
  exact ⟨rfl, HD.out, HC.out⟩

set_option maxHeartbeats 2000000 in
theorem rdHash_bad {w : World} {p : Nat} (h : DrF w p) :
    Calls Tryd.prog 68 #[.pointer (some ⟨p, 0, none⟩)] w fun e w' => e = .returned (.agg (hc zero32).toArray) ∧ DrF w' p ∧ Chg w w' [p] := by
  have b1 : Below w.heap.size w (w.alloc (.cells (hc zero32).toArray 36)) := (Below.refl _ _).alloc (Nat.le_refl _) _
  have b2 : Below (w.alloc (.cells (hc zero32).toArray 36)).heap.size (w.alloc (.cells (hc zero32).toArray 36)) ((w.alloc (.cells (hc zero32).toArray 36)).alloc (.cells (hc zero32).toArray 36)) := (Below.refl _ _).alloc (Nat.le_refl _) _
  have b0 := b1.trans (b2.mono b1.size)
  have R0 := Lib.hid ((HashAt.new w zero32).on b2)
  have T0 := Lib.hid (HashAt.new (w.alloc (.cells (hc zero32).toArray 36)) zero32)
  rw [show (w.alloc (.cells (hc zero32).toArray 36)).heap.size = w.heap.size + 1 by simp] at T0
  have H := Lib.hid (h.on b0)
  have hpl := h.lt
  have B0 := Lib.hid b0
  have lz := hc_len zero32
  clear h b0 b1 b2
  go_enter Tryd.func68, Tryd.ntmps68
  go_wp2_with fail
  generalize ((w.alloc (.cells (hc zero32).toArray 36)).alloc (.cells (hc zero32).toArray 36)) = w0 at *
  refine (rdTake_bad (n := 32) H.out).mono ?_
  rintro e w2 ⟨rfl, rfl⟩
  have HF : Hid (DrF w2 p) := H
  have HC2 : Hid (Chg w2 w2 [p]) := Chg.refl _ _
  have R2 := Lib.hid (R0.out.chg HC2.out (by simp; omega))
  have T2 := Lib.hid (T0.out.chg HC2.out (by simp; omega))
  have ct := R2.out.there zero32_len
  have cr := T2.out.row zero32_len
  have hput := (R2.out.put zero32_len zero32_len).row zero32_len
  have HC : Hid (Chg w w2 [p]) := (Chg.below B0.out (Nat.le_refl _) [p]).trans HC2.out (fun x hx _ => hx)
  have HS : Hid (Chg w2 (w2.setCells w.heap.size 0 (hc zero32)) [w.heap.size]) := chg_setCells w.heap.size (hc zero32) 0 (Chg.refl _ _)
  go_wp2_with fail
  refine wp_loop_rounds 1 ?_
  rw [rounds_succ]
  go_wp2_with fail
  refine bodyPost_ret (v := .agg (hc zero32).toArray) (by simp [results, Tryd.results68, go_sem, hput]) rfl ⟨rfl, ?_, ?_⟩
  · obtain ⟨v, pos, f, h1, h2⟩ := HF.out
    exact ⟨v, pos, f, h1, by rw [setCells_other (by omega)]; exact h2⟩
  · exact HC.out.trans HS.out (fun x hx hl => by simp at hx; omega)
set_option maxHeartbeats 2000000 in
theorem rdHash_end {w : World} {p : Nat} {v : Value} {xs : List Int} {pos : Nat} (h : DrV w p v xs pos) (hf : xs.length < pos + 32) :
    Calls Tryd.prog 68 #[.pointer (some ⟨p, 0, none⟩)] w fun e w' => e = .returned (.agg (hc zero32).toArray) ∧ DrF w' p ∧ Chg w w' [p] := by
  have b1 : Below w.heap.size w (w.alloc (.cells (hc zero32).toArray 36)) := (Below.refl _ _).alloc (Nat.le_refl _) _
  have b2 : Below (w.alloc (.cells (hc zero32).toArray 36)).heap.size (w.alloc (.cells (hc zero32).toArray 36)) ((w.alloc (.cells (hc zero32).toArray 36)).alloc (.cells (hc zero32).toArray 36)) := (Below.refl _ _).alloc (Nat.le_refl _) _
  have b0 := b1.trans (b2.mono b1.size)
  have R0 := Lib.hid ((HashAt.new w zero32).on b2)
  have T0 := Lib.hid (HashAt.new (w.alloc (.cells (hc zero32).toArray 36)) zero32)
  rw [show (w.alloc (.cells (hc zero32).toArray 36)).heap.size = w.heap.size + 1 by simp] at T0
  have H := Lib.hid (h.on b0)
  have hpl := h.lt
  have B0 := Lib.hid b0
  have lz := hc_len zero32
  clear h b0 b1 b2
  go_enter Tryd.func68, Tryd.ntmps68
  go_wp2_with fail
  generalize ((w.alloc (.cells (hc zero32).toArray 36)).alloc (.cells (hc zero32).toArray 36)) = w0 at *
  refine (rdTake_end H.out (n := 32) (by omega) hf).mono ?_
  rintro e w2 ⟨rfl, hF, hC⟩
  have HF := Lib.hid hF
  have HC2 := Lib.hid hC
  have R2 := Lib.hid (R0.out.chg HC2.out (by simp; omega))
  have T2 := Lib.hid (T0.out.chg HC2.out (by simp; omega))
  have ct := R2.out.there zero32_len
  have cr := T2.out.row zero32_len
  have hput := (R2.out.put zero32_len zero32_len).row zero32_len
  have HC : Hid (Chg w w2 [p]) := (Chg.below B0.out (Nat.le_refl _) [p]).trans HC2.out (fun x hx _ => hx)
  have HS : Hid (Chg w2 (w2.setCells w.heap.size 0 (hc zero32)) [w.heap.size]) := chg_setCells w.heap.size (hc zero32) 0 (Chg.refl _ _)
  go_wp2_with fail
  refine wp_loop_rounds 1 ?_
  rw [rounds_succ]
  go_wp2_with fail
  refine bodyPost_ret (v := .agg (hc zero32).toArray) (by simp [results, Tryd.results68, go_sem, hput]) rfl ⟨rfl, ?_, ?_⟩
  · obtain ⟨v, pos, f, h1, h2⟩ := HF.out
    exact ⟨v, pos, f, h1, by rw [setCells_other (by omega)]; exact h2⟩
  · exact HC.out.trans HS.out (fun x hx hl => by simp at hx; omega)

theorem rdDone_bad {w : World} {p : Nat} (h : DrF w p) :
    Calls Tryd.prog 52 #[.pointer (some ⟨p, 0, none⟩)] w fun e w' => ∃ f : Int, f ≠ 0 ∧ e = .returned (.int .i64 f) ∧ w' = w := by
  obtain ⟨v, pos, f, h1, h2⟩ := h
  have c2 := (Joins.cell_of_block h2 2).trans (rfl : _ = some _)
  have d0 : (f == 0) = false := by simpa using h1
  have HN := Lib.hid h1
  clear h2 h1
  go_enter Tryd.func52, Tryd.ntmps52
  go_wp2_with fail
  go_ret
  exact ⟨f, HN.out, rfl, rfl⟩
theorem rdDone_left {w : World} {p : Nat} {v : Value} {xs : List Int} {pos : Nat} (h : DrV w p v xs pos) (hlt : pos < xs.length) :
    Calls Tryd.prog 52 #[.pointer (some ⟨p, 0, none⟩)] w fun e w' => ∃ m, e = .returned (.int .i64 21) ∧ w' = w.drewN m := by
  have H := Lib.hid h
  have hg : (0 : Int) < (xs.length : Int) - (pos : Int) := by omega
  have c2 := (Joins.cell_of_block h.blk 2).trans (rfl : _ = some _)
  clear h
  go_enter Tryd.func52, Tryd.ntmps52
  go_wp2_with fail
  refine (rdLeft_ok H.out).mono ?_
  rintro e w1 ⟨m, rfl, rfl⟩
  go_wp2_with fail
  go_ret
  exact ⟨m, rfl, rfl⟩
theorem rdDone_all {w : World} {p : Nat} {v : Value} {xs : List Int} (h : DrV w p v xs xs.length) :
    Calls Tryd.prog 52 #[.pointer (some ⟨p, 0, none⟩)] w fun e w' => ∃ m, e = .returned (.int .i64 0) ∧ w' = w.drewN m := by
  have H := Lib.hid h
  have c2 := (Joins.cell_of_block h.blk 2).trans (rfl : _ = some _)
  clear h
  go_enter Tryd.func52, Tryd.ntmps52
  go_wp2_with fail
  refine (rdLeft_ok H.out).mono ?_
  rintro e w1 ⟨m, rfl, rfl⟩
  have H1 := H.out.drewN m
  have c2 := (Joins.cell_of_block H1.blk 2).trans (rfl : _ = some _)
  clear H1
  rw [Int.sub_self]
  go_wp2_with fail
  go_ret
  exact ⟨m, rfl, rfl⟩
end Go.Proofs.YtebeacejlkiglaaDoor
namespace Go.Proofs.YtebeacejlkiglaaDoor
set_option maxRecDepth 100000
open Go.RowKit

/-- The slice v holds these hashes, and lies in no block of S. -/
def RdH (w : World) (v : Value) (hs : List (List Int)) (S : List Nat) : Prop := ∃ q c, v = .slice q hs.length c ∧ (hs = [] ∨ ∃ b off, q = some ⟨b, off, none⟩ ∧ b ∉ S ∧ ∀ i, i < hs.length → b < w.heap.size ∧ (hs.getD i []).length = 32 ∧ rowOf w b (off + i * 32) 32 = hc (hs.getD i []))
theorem RdH.at {w : World} {q : Option Addr} {n c : Nat} {hs : List (List Int)} {S : List Nat} (h : RdH w (.slice q n c) hs S) {i : Nat} (hi : i < hs.length) :
    ∃ b off, n = hs.length ∧ q = some ⟨b, off, none⟩ ∧ b ∉ S ∧ b < w.heap.size ∧ (hs.getD i []).length = 32 ∧ rowOf w b (off + i * 32) 32 = hc (hs.getD i []) := by
  obtain ⟨q', c', e, rfl | ⟨b, off, rfl, hb, hx⟩⟩ := h
  · simp at hi
  · simp only [Value.slice.injEq] at e
    exact ⟨b, off, e.2.1, e.1, hb, hx i hi⟩
theorem hashes_take {hs : List (List Int)} {i : Nat} (hi : i < hs.length) : (hs.take (i + 1)).flatten = (hs.take i).flatten ++ hs.getD i [] := by
  have e : hs.take (i + 1) = hs.take i ++ [hs.getD i []] := by
    rw [List.take_add_one]
    simp [List.getD, hi]
  rw [e, List.flatten_append]
  simp
theorem hashes_le (hs : List (List Int)) (i : Nat) : ((hs.take i).flatten).length ≤ hs.flatten.length := by
  have e : hs.flatten = (hs.take i).flatten ++ (hs.drop i).flatten := by
    rw [← List.flatten_append, List.take_append_drop]
  rw [e]; simp
theorem hash_rd {w : World} {b : Nat} {F : List Int} (h : HashAt w b F) (hF : F.length = 32) : Rd w (.slice (some ⟨b, 0, none⟩) 32 32) F := by
  refine ⟨some ⟨b, 0, none⟩, 32, by rw [hF], .inr ⟨b, 0, rfl, fun i hi => ?_⟩⟩
  rw [cell_of_row _ _ _ _ _ _ h, Nat.zero_add]
  simp [hc, List.getD, hi]

theorem box_hash {w : World} {F : List Int} (hF : F.length = 32) : (w.alloc (.cells (hc zero32).toArray 36)).there w.heap.size 0 32 ∧
    HashAt ((w.alloc (.cells (hc zero32).toArray 36)).setCells w.heap.size 0 (hc F)) w.heap.size F ∧ Below w.heap.size w ((w.alloc (.cells (hc zero32).toArray 36)).setCells w.heap.size 0 (hc F)) := by
  have R := HashAt.new w zero32
  refine ⟨fun j hj => ⟨?_, Joins.unfrozen_of_block R _⟩, ?_, below_setCells' _ (Nat.le_refl _) _ _ ((Below.refl _ _).alloc (Nat.le_refl _) _)⟩
  · rw [cell_of_row _ _ _ _ _ _ R]
    simp [hc_len, zero32_len, hj]
  · have := setCells_block (b := w.heap.size) (t := 36) (fr := (0, 0)) (hc F) (o := 0) (w := w.alloc (.cells (hc zero32).toArray 36)) (pre := []) (mid := hc zero32) (post := []) (by simp only [List.nil_append, List.append_nil]; exact R) rfl (by rw [hc_len, hc_len, hF, zero32_len])
    simpa only [HashAt, List.nil_append, List.append_nil] using this

set_option maxHeartbeats 4000000 in
theorem WHash_fits {w : World} {p : Nat} {v : Value} {xs : List Int} (h : WrV w p v xs) {a : Value} {hs : List (List Int)} (hH : RdH w a hs (p :: v.ownBlock.toList)) (hn : xs.length + hs.length * 32 ≤ 65536) (hl : xs.length + hs.flatten.length ≤ 65536) :
    Calls Tryd.prog 43 #[.pointer (some ⟨p, 0, none⟩), a] w fun e w' => e = .returned (.int .i64 0) ∧ WSt w p v w' (xs ++ hs.flatten) := by
  obtain ⟨i0, hi, hz0, hz1, hz2⟩ := info_parts Tryd.infoU8
  have H0 : Hid (WSt w p v w (xs ++ (hs.take 0).flatten)) := by
    show WSt w p v w _
    exact (WSt.start h).of_eq (by simp)
  obtain ⟨c0, c1, -⟩ := h.cells
  have hroom := Lib.hid (room_yes h (n := hs.length) (s := 32) (by omega) (by omega))
  obtain ⟨qv, kv, rfl⟩ := h.rd.len
  obtain ⟨q, c, rfl⟩ : ∃ q c, a = .slice q hs.length c := by obtain ⟨q, c, e, _⟩ := hH; exact ⟨q, c, e⟩
  have HN := Lib.hid hH
  have hn : hs.length ≤ 65536 := by omega
  clear h hH
  replace hi := Lib.hid hi
  replace hz0 := Lib.hid hz0
  replace hz1 := Lib.hid hz1
  replace hz2 := Lib.hid hz2
  go_enter Tryd.func43, Tryd.ntmps43
  go_wp2_with fail
  refine (hroom.out).mono ?_
  rintro e wx ⟨rfl, rfl⟩
  go_wp2_with fail
  obtain ⟨w0, rfl⟩ : ∃ w0 : World, w0 = wx := ⟨_, rfl⟩
  clear c0 c1 hroom
  go_loopw [6, 26] (fun _ iv wr => ∃ i : Nat, iv = .int .i64 i ∧ i ≤ hs.length ∧ Hid (WSt w0 p (.slice qv xs.length kv) wr (xs ++ (hs.take i).flatten))) (fun _ iv _ => hs.length - (intOf iv).toNat)
  case atStart => exact ⟨0, rfl, by omega, H0⟩
  case round =>
    clear H0
    obtain ⟨i, rfl, hil, hS⟩ := hrel
    by_cases hlt : i < hs.length
    · obtain ⟨q1, k1, h1, h2, h3⟩ := hS.out.own
      obtain ⟨b, off, -, rfl, hbS, hbl, hF, hrow⟩ := HN.out.at hlt
      have hb2 : b < wr.heap.size := Nat.lt_of_lt_of_le hbl h2.size
      have hc : rowOf wr b (off + i * 32) 32 = hc (hs.getD i []) := by
        rw [← hrow]
        unfold rowOf
        rw [h2.block b hbl hbS]
      have hfit := hashes_le hs (i + 1)
      have HB := Lib.hid (hashes_take hlt)
      generalize hys : xs ++ (hs.take i).flatten = ys at h1 h3 hS
      have hy32 : ys.length + 32 ≤ 65536 := by
        rw [← hys]
        rw [hashes_take hlt] at hfit
        simp only [List.length_append] at hfit ⊢
        omega
      have hc' : rowOf (wr.alloc (.cells (_root_.Go.Proofs.YtebeacejlkiglaaDoor.hc zero32).toArray 36)) b (off + i * 32) 32 = _root_.Go.Proofs.YtebeacejlkiglaaDoor.hc (hs.getD i []) := by
        rw [← hc]
        unfold rowOf
        rw [Below.heap_alloc _ _ _ hb2]
      clear hrow hfit hbS
      generalize hbb : hs.getD i [] = F at hc hc' hF HB
      have hlF := hc_len F
      have BX := box_hash (w := wr) hF
      obtain ⟨ct, RX, BW⟩ := BX
      have H1 := Lib.hid (h1.on BW)
      have H23 := Lib.hid (And.intro (h2.trans (Chg.below BW (Nat.le_refl _) []) (by simp)) h3)
      have RX := Lib.hid RX
      have hlt2 := (h1.on BW).lt
      clear h1 h2 h3 hS BW
      go_wp2_with fail
      generalize (wr.alloc (.cells (_root_.Go.Proofs.YtebeacejlkiglaaDoor.hc zero32).toArray 36)).setCells wr.heap.size 0 (_root_.Go.Proofs.YtebeacejlkiglaaDoor.hc F) = wz at H1 H23 RX hlt2 ⊢
      generalize wr.heap.size = bz at RX ⊢
      obtain ⟨-, c1, f1⟩ := H1.out.cells
      clear ct hc hc'
      refine wp_region_held_drew (S := fun _ => True) (by kernel_rfl) (trivial) (fun h0 => ?_)
      refine wpAnyH_take (i := 0) (v := ?_) (by rw [List.getElem?_toArray]; rfl) (by kernel_rfl) (by kernel_rfl) (by kernel_rfl) (by exact fun _ _ _ h => h) (Or.inl ⟨by rfl, ?_⟩) h0 ?_
      rotate_left
      · intro W hW
        go_simp
        all_goals with_reducible rfl
      try simp only [Act.put, List.setIfInBounds_toArray, List.set_cons_zero, List.set_cons_succ]
      refine wpAnyH_take (i := 1) (v := ?_) (by rw [List.getElem?_toArray]; rfl) (by kernel_rfl) (by kernel_rfl) (by kernel_rfl) (by exact fun _ _ _ h => h) (Or.inl ⟨by rfl, ?_⟩) h0 ?_
      rotate_left
      · intro W hW
        go_simp
        all_goals with_reducible rfl
      try simp only [Act.put, List.setIfInBounds_toArray, List.set_cons_zero, List.set_cons_succ]
      refine wpAnyH_take (i := 2) (v := ?_) (by rw [List.getElem?_toArray]; rfl) (by kernel_rfl) (by kernel_rfl) (by kernel_rfl) (by exact fun _ _ _ h => h) (Or.inl ⟨by rfl, ?_⟩) h0 ?_
      rotate_left
      · intro W hW
        go_simp
        all_goals with_reducible rfl
      try simp only [Act.put, List.setIfInBounds_toArray, List.set_cons_zero, List.set_cons_succ]
      refine wpAnyH_take (i := 3) (v := ?_) (by rw [List.getElem?_toArray]; rfl) (by kernel_rfl) (by kernel_rfl) (by kernel_rfl) (by exact fun _ _ _ h => h) (Or.inl ⟨by rfl, ?_⟩) h0 ?_
      rotate_left
      · intro W hW
        go_simp
        all_goals with_reducible rfl
      try simp only [Act.put, List.setIfInBounds_toArray, List.set_cons_zero, List.set_cons_succ]
      refine wpAnyH_take (i := 4) (v := ?_) (by rw [List.getElem?_toArray]; rfl) (by kernel_rfl) (by kernel_rfl) (by kernel_rfl) (by exact fun _ _ _ h => h) (Or.inl ⟨by rfl, ?_⟩) h0 ?_
      rotate_left
      · intro W hW
        go_simp
        all_goals with_reducible rfl
      try simp only [Act.put, List.setIfInBounds_toArray, List.set_cons_zero, List.set_cons_succ]
      refine wpAnyH_take (i := 6) (v := ?_) (by rw [List.getElem?_toArray]; rfl) (by kernel_rfl) (by kernel_rfl) (by kernel_rfl) (by exact fun _ _ _ h => h) (Or.inl ⟨by rfl, ?_⟩) h0 ?_
      rotate_left
      · intro W hW
        go_simp
        all_goals with_reducible rfl
      try simp only [Act.put, List.setIfInBounds_toArray, List.set_cons_zero, List.set_cons_succ]
      refine wpAnyH_ready (rs := [5]) (by kernel_rfl) (by simp) ?_
      refine AllReadyH.cons (by rw [List.getElem?_toArray]; rfl) (fun K hK => ?_) AllReadyH.nil
      rw [if_pos (by rfl)]
      go_wp2_with fail
      refine hK.out _ _ (trivial) (fun _ => ?_)
      clear hK K
      try simp only [Act.put, List.setIfInBounds_toArray, List.set_cons_zero, List.set_cons_succ]
      refine wpAnyH_ready (rs := [7]) (by kernel_rfl) (by simp) ?_
      refine AllReadyH.cons (by rw [List.getElem?_toArray]; rfl) (fun K hK => ?_) AllReadyH.nil
      rw [if_pos (by rfl)]
      refine wp_append_row _ _ rfl Tryd.underlying42 hi.out hz0.out hz1.out hz2.out rfl H1.out.drew.own (Rd.src (xs := F) Tryd.underlying42 ?rd) ?b1 ?b2 ?_
      case rd => exact (hash_rd RX.out hF).drew
      case b1 => unfold maxLen; omega
      case b2 => omega
      intro q2 k2 w2 own2 grow2 fr2
      have HNN := Lib.hid (WSt.step H1.out.drew H23.out.1.drew (by exact H23.out.2) rfl own2 grow2 fr2)
      have c2 : w2.cell? ⟨p, 1, none⟩ = some (.slice q1 ys.length k1) := by
        rw [World.cell?_of_block (grow2.block p hlt2 (fun e => H1.out.ne e.symm))]; exact c1
      have f2 : w2.frozen? ⟨p, 1, none⟩ = false := by
        rw [World.frozen?_of_block (grow2.block p hlt2 (fun e => H1.out.ne e.symm))]; exact f1
      clear own2 grow2 fr2 c1 f1
      refine hK.out _ _ (trivial) (fun _ => ?_)
      clear hK K
      try simp only [Act.put, List.setIfInBounds_toArray, List.set_cons_zero, List.set_cons_succ]
      refine wpAnyH_take (i := 8) (v := ?_) (by rw [List.getElem?_toArray]; rfl) (by kernel_rfl) (by kernel_rfl) (by kernel_rfl) (by exact fun _ _ _ h => h) (Or.inl ⟨by rfl, ?_⟩) h0 ?_
      rotate_left
      · intro W hW
        go_simp
        all_goals with_reducible rfl
      try simp only [Act.put, List.setIfInBounds_toArray, List.set_cons_zero, List.set_cons_succ]
      refine wpAnyH_take (i := 9) (v := ?_) (by rw [List.getElem?_toArray]; rfl) (by kernel_rfl) (by kernel_rfl) (by kernel_rfl) (by exact fun _ _ _ h => h) (Or.inl ⟨by rfl, ?_⟩) h0 ?_
      rotate_left
      · intro W hW
        go_simp
        all_goals with_reducible rfl
      try simp only [Act.put, List.setIfInBounds_toArray, List.set_cons_zero, List.set_cons_succ]
      refine wpAnyH_take (i := 10) (v := ?_) (by rw [List.getElem?_toArray]; rfl) (by kernel_rfl) (by kernel_rfl) (by kernel_rfl) (by exact fun _ _ _ h => h) (Or.inl ⟨by rfl, ?_⟩) h0 ?_
      rotate_left
      · intro W hW
        go_simp
        all_goals with_reducible rfl
      try simp only [Act.put, List.setIfInBounds_toArray, List.set_cons_zero, List.set_cons_succ]
      refine wpAnyH_ready (rs := [11]) (by kernel_rfl) (by simp) ?_
      refine AllReadyH.cons (by rw [List.getElem?_toArray]; rfl) (fun K hK => ?_) AllReadyH.nil
      rw [if_pos (by rfl)]
      go_wp2_with fail
      refine hK.out _ _ (trivial) (fun _ => ?_)
      clear hK K
      try simp only [Act.put, List.setIfInBounds_toArray, List.set_cons_zero, List.set_cons_succ]
      refine wpAnyH_done (by kernel_rfl) ?_ _
      go_wp2_with fail
      go_roundw
      case rel =>
        refine ⟨i + 1, by go_num, by omega, ?_⟩
        show WSt w0 p _ _ _
        rw [HB.out, ← List.append_assoc, hys]
        have := HNN.out
        rw [hF] at this
        exact this
      case measure => simp [intOf]; omega
    · obtain rfl : i = hs.length := by omega
      have hb := hS.out
      rw [List.take_length] at hb
      replace hS := Lib.hid hb
      clear hb
      go_wp2_with fail
      go_ret
      exact ⟨rfl, hS.out⟩
end Go.Proofs.YtebeacejlkiglaaDoor
namespace Go.Proofs.YtebeacejlkiglaaDoor
set_option maxRecDepth 100000
open Go.RowKit

/-- A proof's bytes. -/
def pfB (P C : Int) (Ss : List (List Int)) : List Int := be8 P ++ (be8 C ++ (be8 Ss.length ++ Ss.flatten))
theorem flat_len : ∀ {Ss : List (List Int)}, HsOk Ss → Ss.flatten.length = Ss.length * 32
  | [], _ => rfl
  | F :: Ss, h => by
    have h1 := flat_len (Ss := Ss) (fun G hG => h G (List.mem_cons_of_mem _ hG))
    have h2 := (h F (List.mem_cons_self ..)).1
    rw [List.flatten_cons, List.length_append, h1, h2, List.length_cons]
    omega
theorem pfB_len {P C : Int} {Ss : List (List Int)} (h : HsOk Ss) : (pfB P C Ss).length = 24 + Ss.length * 32 := by
  unfold pfB
  rw [List.length_append, List.length_append, List.length_append, be8_len, be8_len, be8_len, flat_len h]
  omega
theorem flat_bytes {Ss : List (List Int)} (h : HsOk Ss) : Bytes Ss.flatten := fun x hx => by
  obtain ⟨F, hF, hxF⟩ := List.mem_flatten.1 hx
  exact (h F hF).2 x hxF
theorem pfB_bytes {P C : Int} {Ss : List (List Int)} (h : HsOk Ss) : Bytes (pfB P C Ss) := fun x hx => by
  unfold pfB at hx
  rcases List.mem_append.1 hx with hx | hx
  · exact be8_bytes _ x hx
  rcases List.mem_append.1 hx with hx | hx
  · exact be8_bytes _ x hx
  rcases List.mem_append.1 hx with hx | hx
  · exact be8_bytes _ x hx
  · exact flat_bytes h x hx

set_option maxHeartbeats 4000000 in
theorem Put_no {w : World} {P C : Int} {q : Option Addr} {n k : Nat} (hn : n ≤ maxLen) (hok : okPf P C n = false) :
    Calls Tryd.prog 21 #[.agg #[.int .i64 P, .int .i64 C, .slice q n k]] w fun e w' => e = .returned (.tuple #[.slice none 0 0, .int .i64 21]) ∧ Below w.heap.size w w' := by
  have HP := Lib.hid (heap_alloc_new w (.cells #[.int .i64 P, .int .i64 C, .slice q n k] 28))
  have B0 := Lib.hid ((Below.refl w.heap.size w).alloc (Nat.le_refl _) (.cells #[.int .i64 P, .int .i64 C, .slice q n k] 28))
  have c0 := (Joins.cell_of_block HP.out 0).trans (rfl : _ = some _)
  have c1 := (Joins.cell_of_block HP.out 1).trans (rfl : _ = some _)
  have c2 := (Joins.cell_of_block HP.out 2).trans (rfl : _ = some _)
  have KR := Lib.hid (right_any (w := w.alloc (.cells #[.int .i64 P, .int .i64 C, .slice q n k] 28)) (P := P) (C := C) (q := q) (k := k) hn)
  rw [hok] at KR
  go_enter Tryd.func21, Tryd.ntmps21
  go_wp2_with fail
  refine KR.out.mono ?_
  rintro e w1 ⟨rfl, hb1⟩
  have B1 := Lib.hid (B0.out.trans (hb1.mono B0.out.size))
  clear hb1 KR c0 c1 c2 B0 HP
  go_wp2_with fail
  refine bodyPost_ret (v := .tuple #[.slice none 0 0, .int .i64 21]) (by simp [results, Tryd.results21, go_sem]) rfl ⟨rfl, B1.out⟩

set_option maxHeartbeats 4000000 in
theorem Put_yes {w : World} {p0 k0 : Nat} {q : Option Addr} {k : Nat} {Ss : List (List Int)} (hs : RdHs w q Ss) (ok : HsOk Ss) (hk0 : p0 < k0) (hk : k0 ≤ 65536) (hsd : Ss.length = sd 17 p0 k0) :
    Calls Tryd.prog 21 #[.agg #[.int .i64 (p0 : Int), .int .i64 (k0 : Int), .slice q Ss.length k]] w fun e w' => ∃ u, e = .returned (.tuple #[u, .int .i64 0]) ∧ NewRow w (pfB p0 k0 Ss) u w' := by
  have h17 : Ss.length ≤ 17 := by rw [hsd]; exact sd_le _ _ _
  have hok : okPf (p0 : Int) (k0 : Int) Ss.length = true := decide_eq_true (by rw [Int.toNat_natCast, Int.toNat_natCast]; exact ⟨by omega, by omega, by omega, hsd⟩)
  have HP := Lib.hid (heap_alloc_new w (.cells #[.int .i64 (p0 : Int), .int .i64 (k0 : Int), .slice q Ss.length k] 28))
  have B0 := Lib.hid ((Below.refl w.heap.size w).alloc (Nat.le_refl _) (.cells #[.int .i64 (p0 : Int), .int .i64 (k0 : Int), .slice q Ss.length k] 28))
  have c0 := (Joins.cell_of_block HP.out 0).trans (rfl : _ = some _)
  have c1 := (Joins.cell_of_block HP.out 1).trans (rfl : _ = some _)
  have c2 := (Joins.cell_of_block HP.out 2).trans (rfl : _ = some _)
  have KR := Lib.hid (right_any (w := w.alloc (.cells #[.int .i64 (p0 : Int), .int .i64 (k0 : Int), .slice q Ss.length k] 28)) (P := (p0 : Int)) (C := (k0 : Int)) (q := q) (n := Ss.length) (k := k) (by unfold maxLen; omega))
  rw [hok] at KR
  have HS := Lib.hid hs
  have HOK := Lib.hid ok
  have HSl : Hid (∀ i, i < Ss.length → (Ss.getD i []).length = 32) := fun i hi => (ok.get i hi).1
  clear hs ok hok hsd
  go_enter Tryd.func21, Tryd.ntmps21
  go_wp2_with fail
  refine KR.out.mono ?_
  rintro e w1 ⟨rfl, hb1⟩
  have HP1 := Lib.hid (blk_onB2 HP.out hb1)
  have B1 := Lib.hid (B0.out.trans (hb1.mono B0.out.size))
  clear hb1 KR c0 c1 c2 B0 HP
  go_wp2_with fail
  refine (NewWriter_any w1).mono ?_
  rintro e w2 ⟨rfl, rfl⟩
  have b2 : Below w1.heap.size w1 (w1.alloc (.cells #[.bool true, .slice none 0 0] 95)) := (Below.refl _ _).alloc (Nat.le_refl _) _
  have b3 : Below (w1.alloc (.cells #[.bool true, .slice none 0 0] 95)).heap.size (w1.alloc (.cells #[.bool true, .slice none 0 0] 95)) ((w1.alloc (.cells #[.bool true, .slice none 0 0] 95)).alloc (.cells #[.int .u64 (p0 : Int), .int .u64 (k0 : Int), .int .u64 (Ss.length : Int)] 69)) := (Below.refl _ _).alloc (Nat.le_refl _) _
  have hz : (w1.alloc (.cells #[.bool true, .slice none 0 0] 95)).heap.size = w1.heap.size + 1 := by simp
  have HP2 := Lib.hid (blk_onB2 HP1.out b2)
  have c0 := (Joins.cell_of_block HP2.out 0).trans (rfl : _ = some _)
  have c1 := (Joins.cell_of_block HP2.out 1).trans (rfl : _ = some _)
  have c2 := (Joins.cell_of_block HP2.out 2).trans (rfl : _ = some _)
  have HW := Lib.hid ((WrV.new w1).on b3)
  have HR : Hid (RdN ((w1.alloc (.cells #[.bool true, .slice none 0 0] 95)).alloc (.cells #[.int .u64 (p0 : Int), .int .u64 (k0 : Int), .int .u64 (Ss.length : Int)] 69)) (.slice (some ⟨w1.heap.size + 1, 0, none⟩) 3 3) [(p0 : Int), (k0 : Int), (Ss.length : Int)] (w1.heap.size :: (Value.slice none 0 0).ownBlock.toList)) := by
    refine ⟨_, 3, rfl, .inr ⟨w1.heap.size + 1, 0, rfl, by simp [Value.ownBlock], fun i hi => ?_⟩⟩
    have h3 := heap_alloc_new (w1.alloc (.cells #[.bool true, .slice none 0 0] 95)) (.cells #[.int .u64 (p0 : Int), .int .u64 (k0 : Int), .int .u64 (Ss.length : Int)] 69)
    rw [hz] at h3
    have e : i = 0 ∨ i = 1 ∨ i = 2 := by simp at hi; omega
    rcases e with rfl | rfl | rfl
    · exact (Joins.cell_of_block h3 0).trans rfl
    · exact (Joins.cell_of_block h3 1).trans rfl
    · exact (Joins.cell_of_block h3 2).trans rfl
  have HP3 := Lib.hid (blk_onB2 HP2.out b3)
  have b23 := b2.trans (b3.mono b2.size)
  have B3 := Lib.hid (B1.out.trans (b23.mono B1.out.size))
  have hsz : Hid (w.heap.size < w1.heap.size) := (Array.getElem?_eq_some_iff.1 HP1.out).1
  have u0 : IntKind.u64.wrap (p0 : Int) = (p0 : Int) := by rw [IntKind.wrap_u64]; omega
  have u1 : IntKind.u64.wrap (k0 : Int) = (k0 : Int) := by rw [IntKind.wrap_u64]; omega
  have u2 : IntKind.u64.wrap (Ss.length : Int) = (Ss.length : Int) := by rw [IntKind.wrap_u64]; omega
  clear b2 b3 b23 HP2 HP1 hz
  go_wp2_with fail
  refine (WUint_fits HW.out HR.out (by simp)).mono ?_
  rintro e w4 ⟨rfl, hS⟩
  obtain ⟨q4, k4, hW4, hC4, hF4⟩ := hS.own
  obtain ⟨XS, hXS⟩ : ∃ XS, ([] ++ nums [(p0 : Int), (k0 : Int), (Ss.length : Int)]) = XS := ⟨_, rfl⟩
  rw [hXS] at hW4 hF4
  have lXS : XS.length = 24 := by rw [← hXS]; simp [nums]
  have HXS : Hid (XS = be8 p0 ++ (be8 k0 ++ be8 Ss.length)) := by show _ = _; rw [← hXS]; simp [nums]
  have HW4 := Lib.hid hW4
  have B4 := Lib.hid (B3.out.trans (hC4.toBelow B3.out.size (fun g hg => by simp [Value.ownBlock] at hg; have := hsz.out; omega)))
  have HP4 : Hid (w4.heap[w.heap.size]? = some (.cells #[.int .i64 (p0 : Int), .int .i64 (k0 : Int), .slice q Ss.length k] 28 (0, 0))) := by
    show _ = _
    rw [hC4.block _ (Array.getElem?_eq_some_iff.1 HP3.out).1 (fun hm => by simp [Value.ownBlock] at hm; have := hsz.out; omega)]
    exact HP3.out
  have c2 := (Joins.cell_of_block HP4.out 2).trans (rfl : _ = some _)
  have HF4 : Hid (∀ g, (Value.slice q4 XS.length k4).ownBlock = some g → w.heap.size ≤ g) := fun g hg => by
    rcases hF4 with e | e
    · rw [e] at hg; simp [Value.ownBlock] at hg
    · have := e g hg; have := B3.out.size; omega
  have HH : Hid (RdH w4 (.slice q Ss.length k) Ss (w1.heap.size :: (Value.slice q4 XS.length k4).ownBlock.toList)) := by
    refine ⟨q, k, rfl, ?_⟩
    have h4 := HS.out.on HSl.out B4.out
    by_cases hne : Ss = []
    · exact .inl hne
    · obtain ⟨b, off, e, hx⟩ := h4.resolve_left hne
      have hb : b < w.heap.size := by
        obtain ⟨b', off', e', hx'⟩ := HS.out.resolve_left hne
        rw [e] at e'
        simp only [Option.some.injEq, Addr.mk.injEq] at e'
        obtain ⟨rfl, rfl, -⟩ := e'
        have hp : 0 < Ss.length := List.length_pos_iff.2 hne
        have h1 := hx' 0 hp
        have h2 : (rowOf w b (off + 0 * 32) 32).length = 32 := by rw [h1, hc_len, HSl.out 0 hp]
        unfold rowOf at h2
        cases hh : w.heap[b]? with
        | none => rw [hh] at h2; simp at h2
        | some x => exact (Array.getElem?_eq_some_iff.1 hh).1
      refine .inr ⟨b, off, e, fun hm => ?_, fun i hi => ⟨by have := B4.out.size; omega, HSl.out i hi, hx i hi⟩⟩
      rcases List.mem_cons.1 hm with rfl | hm
      · have := hsz.out; omega
      · have := HF4.out b (by simpa using hm); omega
  have hfl : Hid (Ss.flatten.length = Ss.length * 32) := flat_len HOK.out
  clear hS hW4 hC4 hF4 HW HR c0 c1 hXS HP3
  go_wp2_with fail
  refine (WHash_fits HW4.out HH.out (by rw [lXS]; omega) (by rw [lXS, hfl.out]; omega)).mono ?_
  rintro e w5 ⟨rfl, hS⟩
  obtain ⟨q5, k5, hW5, hC5, hF5⟩ := hS.own
  have HW5 := Lib.hid hW5
  have B5 := Lib.hid (B4.out.trans (hC5.toBelow B4.out.size (fun g hg => by
    rcases List.mem_cons.1 hg with rfl | hg
    · have := hsz.out; omega
    · exact HF4.out g (by simpa using hg))))
  clear hS hW5 hC5 hF5 HW4 HH c2 HP4 HF4
  go_wp2_with fail
  refine (WBytes_any HW5.out (by rw [List.length_append, lXS, hfl.out]; omega)).mono ?_
  rintro e w6 ⟨u, rfl, hN⟩
  have he : XS ++ Ss.flatten = pfB p0 k0 Ss := by rw [HXS.out]; unfold pfB; simp only [List.append_assoc]
  rw [he] at hN
  have HN : Hid (NewRow w (pfB p0 k0 Ss) u w6) := ⟨hN.1, hN.2.1, B5.out.trans (hN.2.2.1.mono B5.out.size), fun g hg => Nat.le_trans B5.out.size (hN.2.2.2 g hg)⟩
  clear hN he
  go_wp2_with fail
  refine bodyPost_ret (v := .tuple #[u, .int .i64 0]) (by simp [results, Tryd.results21, go_sem]) rfl ⟨u, rfl, HN.out⟩
end Go.Proofs.YtebeacejlkiglaaDoor
namespace Go.Proofs.YtebeacejlkiglaaDoor
set_option maxRecDepth 100000
open Go.RowKit

theorem rwk_hash {w : World} {b : Nat} {F : List Int} (hF : F.length = 32) (h : RwK .u8 w b 32 36 (fun j => F.getD j 0)) : HashAt w b F := by
  have := h.block
  have e : ((List.range 32).map fun i => Value.int .u8 (F.getD i 0)) = hc F := by
    apply List.ext_getElem?
    intro i
    by_cases hi : i < 32
    · simp [hc, List.getD, hi, hF]
    · rw [List.getElem?_eq_none (by simp; omega), List.getElem?_eq_none (by rw [hc_len]; omega)]
  rw [e] at this
  exact this
theorem hash_rwk {w : World} {b : Nat} {F : List Int} (hF : F.length = 32) (h : HashAt w b F) : RwK .u8 w b 32 36 (fun j => F.getD j 0) :=
  ⟨_, h, by simp [hc_len, hF], fun i hi => by simp [hc, List.getD, hF, hi]⟩

set_option maxHeartbeats 4000000 in
theorem rdHash_ok {w : World} {p : Nat} {v : Value} {xs : List Int} {pos : Nat} (h : DrV w p v xs pos) {ys : List Int} (hl : ys.length = 32) (hf : pos + 32 ≤ xs.length) (hy : (xs.drop pos).take 32 = ys) :
    Calls Tryd.prog 68 #[.pointer (some ⟨p, 0, none⟩)] w fun e w' => e = .returned (.agg (hc ys).toArray) ∧ DrV w' p v xs (pos + 32) ∧ Chg w w' [p] := by
  have b1 : Below w.heap.size w (w.alloc (.cells (hc zero32).toArray 36)) := (Below.refl _ _).alloc (Nat.le_refl _) _
  have b2 : Below (w.alloc (.cells (hc zero32).toArray 36)).heap.size (w.alloc (.cells (hc zero32).toArray 36)) ((w.alloc (.cells (hc zero32).toArray 36)).alloc (.cells (hc zero32).toArray 36)) := (Below.refl _ _).alloc (Nat.le_refl _) _
  have b0 := b1.trans (b2.mono b1.size)
  have R0 := Lib.hid ((HashAt.new w zero32).on b2)
  have T0 := Lib.hid (HashAt.new (w.alloc (.cells (hc zero32).toArray 36)) zero32)
  have hz : (w.alloc (.cells (hc zero32).toArray 36)).heap.size = w.heap.size + 1 := by simp
  rw [hz] at T0
  have H := Lib.hid (h.on b0)
  have hpl := h.lt
  have B0 := Lib.hid b0
  have HV : Hid (∀ g, v.ownBlock = some g → g < w.heap.size) := fun g hg => own_lt h.own hg
  have KT := Lib.hid (rdTake_ok H.out (n := 32) (by omega) (by omega) hf)
  rw [hy] at KT
  replace hl := Lib.hid hl
  clear h hy b0 b1 b2 hz
  go_enter Tryd.func68, Tryd.ntmps68
  go_wp2_with fail
  generalize ((w.alloc (.cells (hc zero32).toArray 36)).alloc (.cells (hc zero32).toArray 36)) = w0 at *
  refine KT.out.mono ?_
  rintro e w1 ⟨q, c, rfl, hR, hD, hC, hfq⟩
  have HD := Lib.hid hD
  have HCC : Hid (Chg w w1 [p]) := (Chg.below B0.out (Nat.le_refl _) [p]).trans hC (fun x hx _ => hx)
  have R1 := Lib.hid (R0.out.chg hC (by simp; omega))
  have T1 := Lib.hid (hash_rwk zero32_len (T0.out.chg hC (by simp; omega)))
  obtain ⟨q', c', e1, hR⟩ := hR
  simp only [Value.slice.injEq] at e1
  obtain ⟨rfl, -, rfl⟩ := e1
  obtain ⟨b, off, rfl, hcell⟩ := hR.resolve_left (fun e => by have := hl.out; rw [e] at this; simp at this)
  have HCe := Lib.hid hcell
  have hs0 : w.heap.size + 1 < w0.heap.size := T0.out.lt
  have hbn : b ≠ w.heap.size + 1 := fun e => by
    have := hfq _ rfl
    simp only at this
    omega
  have hs1 : Hid (w.heap.size + 1 < w1.heap.size) := T1.out.lt
  clear hcell hR hD hC KT R0 T0 hfq hs0
  have S0 : Hid (∃ f : Nat → Int, RwK .u8 w1 (w.heap.size + 1) 32 36 f ∧ (∀ j, j < 0 → f j = ys.getD j 0)) := ⟨_, T1.out, fun j hj => by omega⟩
  have C0 : Hid (Chg w1 w1 [w.heap.size + 1]) := Chg.refl _ _
  go_wp2_with fail
  go_loopw [5] (fun iv wr => ∃ k : Nat, iv = .int .i64 k ∧ k ≤ 32 ∧ Hid (∃ f : Nat → Int, RwK .u8 wr (w.heap.size + 1) 32 36 f ∧ (∀ j, j < k → f j = ys.getD j 0)) ∧ Hid (Chg w1 wr [w.heap.size + 1])) (fun iv _ => 32 - (intOf iv).toNat)
  case atStart => exact ⟨0, rfl, by omega, S0, C0⟩
  case round =>
    clear S0 C0
    obtain ⟨k, rfl, hk, hS, hC⟩ := hrel
    by_cases hlt : k < 32
    · have hne : b ≠ w.heap.size + 1 ∨ True := .inr trivial
      have hc1 : wr.cell? ⟨b, off + k, none⟩ = some (.int .u8 (ys.getD k 0)) := by
        rw [← HCe.out k (by rw [hl.out]; exact hlt)]
        exact World.cell?_of_block (hC.out.block b (lt_of_cell (HCe.out k (by rw [hl.out]; exact hlt))) (by simp only [List.mem_singleton]; exact hbn))
      obtain ⟨f, hW, hfj⟩ := hS.out
      have g0 := hW.cell k hlt
      have fr := hW.free k
      have HS2 : Hid (∃ f : Nat → Int, RwK .u8 (wr.setCell ⟨w.heap.size + 1, k, none⟩ (.int .u8 (ys.getD k 0))) (w.heap.size + 1) 32 36 f ∧ (∀ j, j < k + 1 → f j = ys.getD j 0)) := by
        refine ⟨_, hW.store hlt (ys.getD k 0), fun j hj => ?_⟩
        by_cases e : j = k
        · subst e; rw [updK_same]
        · rw [updK_ne _ _ e]; exact hfj j (by omega)
      have HC2 : Hid (Chg w1 (wr.setCell ⟨w.heap.size + 1, k, none⟩ (.int .u8 (ys.getD k 0))) [w.heap.size + 1]) := hC.out.setCell (.inl (by simp)) _
      generalize ys.getD k 0 = yk at *
      clear hW hfj hS hC
      go_wp2_with fail
      go_roundw
      case rel => exact ⟨k + 1, by go_num, by omega, HS2, HC2⟩
      case measure => simp [intOf]; omega
    · obtain rfl : k = 32 := by omega
      obtain ⟨f, hW, hfj⟩ := hS.out
      have TF := Lib.hid (rwk_hash hl.out (hW.same hfj))
      have cr := TF.out.row hl.out
      have RF := Lib.hid (R1.out.chg hC.out (by simp))
      have ct := RF.out.there zero32_len
      have lY := hl.out
      have lcY := hc_len ys
      have hput := (RF.out.put zero32_len hl.out).row hl.out
      have HS : Hid (Chg wr (wr.setCells w.heap.size 0 (hc ys)) [w.heap.size]) := chg_setCells w.heap.size (hc ys) 0 (Chg.refl _ _)
      have HDr : Hid (DrV wr p v xs (pos + 32)) := HD.out.chg hC.out (by simp; omega) (fun g hg hm => by have := HV.out g hg; simp at hm; omega)
      have HDF : Hid (DrV (wr.setCells w.heap.size 0 (hc ys)) p v xs (pos + 32)) := HDr.out.chg HS.out (by simp; omega) (fun g hg hm => by have := HV.out g hg; simp at hm; omega)
      have HCF : Hid (Chg w (wr.setCells w.heap.size 0 (hc ys)) [p]) := ((HCC.out.trans hC.out (fun x hx hl => by simp at hx; omega)).trans HS.out (fun x hx hl => by simp at hx; omega))
      clear hW hfj hS hC HDr HS
      go_wp2_with fail
      refine bodyPost_ret (v := .agg (hc ys).toArray) (by simp [results, Tryd.results68, go_sem, hput, lY]) rfl ⟨rfl, HDF.out, HCF.out⟩
end Go.Proofs.YtebeacejlkiglaaDoor
namespace Go.Proofs.YtebeacejlkiglaaDoor
set_option maxRecDepth 100000
open Go.RowKit

theorem be8_num {ys : List Int} (h : Bytes ys) (hl : ys.length = 8) : be8 (num ys) = ys := by
  rcases ys with _ | ⟨a, _ | ⟨b, _ | ⟨c, _ | ⟨d, _ | ⟨e, _ | ⟨f, _ | ⟨g, _ | ⟨k, _ | _⟩⟩⟩⟩⟩⟩⟩⟩ <;> simp at hl
  have ha := h a (by simp)
  have hb := h b (by simp)
  have hc := h c (by simp)
  have hd := h d (by simp)
  have he := h e (by simp)
  have hf := h f (by simp)
  have hg := h g (by simp)
  have hk := h k (by simp)
  clear h hl
  have e1 : num [a, b, c, d, e, f, g, k] = ((((((a * 256 + b) * 256 + c) * 256 + d) * 256 + e) * 256 + f) * 256 + g) * 256 + k := by simp [num]
  rw [e1]
  unfold be8
  congr 1
  · omega
  congr 1
  · omega
  congr 1
  · omega
  congr 1
  · omega
  congr 1
  · omega
  congr 1
  · omega
  congr 1
  · omega
  congr 1
  omega
/-- The hashes that stand in bytes, one behind the other. -/
def chunks (n : Nat) (xs : List Int) : List (List Int) := (List.range n).map fun i => (xs.drop (32 * i)).take 32
theorem chunks_succ (n : Nat) (xs : List Int) : chunks (n + 1) xs = chunks n xs ++ [(xs.drop (32 * n)).take 32] := by simp [chunks, List.range_succ]
theorem chunks_len (n : Nat) (xs : List Int) : (chunks n xs).length = n := by simp [chunks]
theorem chunks_flat : ∀ (n : Nat) (xs : List Int), (chunks n xs).flatten = xs.take (32 * n)
  | 0, xs => by simp [chunks]
  | n + 1, xs => by
    rw [chunks_succ, List.flatten_append, chunks_flat n xs, List.flatten_singleton]
    rw [show 32 * (n + 1) = 32 * n + 32 by omega, List.take_add]
theorem chunks_ok {n : Nat} {xs : List Int} (hb : Bytes xs) (hl : 32 * n ≤ xs.length) : HsOk (chunks n xs) := fun F hF => by
  obtain ⟨i, hi, rfl⟩ := List.mem_map.1 hF
  have hi' := List.mem_range.1 hi
  exact ⟨by rw [List.length_take, List.length_drop]; omega, fun x hx => hb x (List.mem_of_mem_drop (List.mem_of_mem_take hx))⟩
theorem flat_drop : ∀ {Ss : List (List Int)}, HsOk Ss → ∀ i, i < Ss.length → (Ss.flatten.drop (32 * i)).take 32 = Ss.getD i []
  | [], _, i, hi => by simp at hi
  | F :: Ss, h, i, hi => by
    have h2 := (h F (List.mem_cons_self ..)).1
    rw [List.flatten_cons]
    cases i with
    | zero => rw [Nat.mul_zero, List.drop_zero]; exact List.take_left' h2
    | succ i =>
      rw [List.drop_append, h2, List.drop_eq_nil_of_le (by omega), List.nil_append, show 32 * (i + 1) - 32 = 32 * i by omega]
      exact flat_drop (fun G hG => h G (List.mem_cons_of_mem _ hG)) i (by simpa using hi)
theorem flat_chunks {Ss : List (List Int)} (h : HsOk Ss) : chunks Ss.length Ss.flatten = Ss := by
  apply List.ext_getElem (chunks_len _ _)
  intro i h1 h2
  have e := flat_drop h i h2
  have e2 : Ss.getD i [] = Ss[i] := by simp [List.getD, h2]
  rw [e2] at e
  simpa [chunks] using e
theorem pfB_0 (P C : Int) (Ss : List (List Int)) : ((pfB P C Ss).drop 0).take 8 = be8 P := by
  rw [List.drop_zero]; exact List.take_left' (be8_len P)
theorem pfB_8 (P C : Int) (Ss : List (List Int)) : ((pfB P C Ss).drop 8).take 8 = be8 C := by
  unfold pfB
  rw [List.drop_left' (be8_len P)]
  exact List.take_left' (be8_len C)
theorem pfB_16 (P C : Int) (Ss : List (List Int)) : ((pfB P C Ss).drop 16).take 8 = be8 Ss.length := by
  unfold pfB
  rw [show 16 = 8 + 8 from rfl, ← List.drop_drop, List.drop_left' (be8_len P), List.drop_left' (be8_len C)]
  exact List.take_left' (be8_len _)
theorem pfB_24 (P C : Int) (Ss : List (List Int)) : (pfB P C Ss).drop 24 = Ss.flatten := by
  unfold pfB
  rw [show 24 = 8 + (8 + 8) from rfl, ← List.drop_drop, ← List.drop_drop, List.drop_left' (be8_len P), List.drop_left' (be8_len C)]
  exact List.drop_left' (be8_len _)
/-- Bytes that are as long as they tell are a proof's. -/
theorem pfB_of {xs : List Int} (hb : Bytes xs) {n : Nat} (hl : xs.length = 24 + 32 * n) (hn : num ((xs.drop 16).take 8) = n) :
    xs = pfB (num ((xs.drop 0).take 8)) (num ((xs.drop 8).take 8)) (chunks n (xs.drop 24)) := by
  have sub : ∀ k m, Bytes ((xs.drop k).take m) := fun k m x hx => hb x (List.mem_of_mem_drop (List.mem_of_mem_take hx))
  unfold pfB
  rw [be8_num (sub 0 8) (by simp; omega), be8_num (sub 8 8) (by simp; omega), chunks_len, ← hn, be8_num (sub 16 8) (by simp; omega), chunks_flat]
  rw [List.take_of_length_le (l := xs.drop 24) (by simp; omega), List.drop_zero]
  have e3 : (xs.drop 16).take 8 ++ xs.drop 24 = xs.drop 16 := by
    rw [show xs.drop 24 = (xs.drop 16).drop 8 by rw [List.drop_drop]]; exact List.take_append_drop 8 _
  have e2 : (xs.drop 8).take 8 ++ xs.drop 16 = xs.drop 8 := by
    rw [show xs.drop 16 = (xs.drop 8).drop 8 by rw [List.drop_drop]]; exact List.take_append_drop 8 _
  rw [e3, e2]
  exact (List.take_append_drop 8 xs).symm
/-- A right proof has sixteen sides at most. -/
theorem sd_16 : ∀ (f p c : Nat) (k : Nat), c ≤ 2 ^ k → sd f p c ≤ k
  | 0, _, _, _, _ => Nat.zero_le _
  | f + 1, p, c, k, h => by
    unfold sd
    by_cases h1 : c ≤ 1
    · rw [if_pos h1]; exact Nat.zero_le _
    · rw [if_neg h1]
      cases k with
      | zero => simp at h; omega
      | succ k =>
        rw [Nat.pow_succ] at h
        have := sd_16 f (p / 2) ((c + 1) / 2) k (by omega)
        split <;> omega
/-- What is told, or not. -/
def Told (xs : List Int) (p c : Nat) (Ss : List (List Int)) : Prop := HsOk Ss ∧ okPf (p : Int) (c : Int) Ss.length = true ∧ xs = pfB p c Ss
theorem Told.bounds {xs : List Int} {p c : Nat} {Ss : List (List Int)} (h : Told xs p c Ss) : p < c ∧ c ≤ 65536 ∧ Ss.length ≤ 16 ∧ Ss.length = sd 17 p c := by
  obtain ⟨h1, h2, h3, h4⟩ := of_decide_eq_true h.2.1
  rw [Int.toNat_natCast, Int.toNat_natCast] at h4
  refine ⟨by omega, by omega, ?_, h4⟩
  rw [h4]
  exact sd_16 17 p c 16 (by omega)
theorem Told.nums {xs : List Int} {p c : Nat} {Ss : List (List Int)} (h : Told xs p c Ss) : xs.length = 24 + 32 * Ss.length ∧ num ((xs.drop 0).take 8) = p ∧ num ((xs.drop 8).take 8) = c ∧ num ((xs.drop 16).take 8) = Ss.length ∧ chunks Ss.length (xs.drop 24) = Ss := by
  obtain ⟨b1, b2, b3, -⟩ := h.bounds
  obtain ⟨ok, -, rfl⟩ := h
  refine ⟨by rw [pfB_len ok]; omega, ?_, ?_, ?_, ?_⟩
  · rw [pfB_0, num_be8 (by omega) (by omega)]
  · rw [pfB_8, num_be8 (by omega) (by omega)]
  · rw [pfB_16, num_be8 (by omega) (by omega)]
  · rw [pfB_24, flat_chunks ok]
theorem Told.one {xs : List Int} {p c p' c' : Nat} {Ss Ss' : List (List Int)} (h : Told xs p c Ss) (h' : Told xs p' c' Ss') : p = p' ∧ c = c' ∧ Ss = Ss' := by
  obtain ⟨_, a1, a2, a3, a4⟩ := h.nums
  obtain ⟨_, b1, b2, b3, b4⟩ := h'.nums
  have e3 : Ss.length = Ss'.length := by omega
  exact ⟨by omega, by omega, by rw [← a4, ← b4, e3]⟩
end Go.Proofs.YtebeacejlkiglaaDoor
