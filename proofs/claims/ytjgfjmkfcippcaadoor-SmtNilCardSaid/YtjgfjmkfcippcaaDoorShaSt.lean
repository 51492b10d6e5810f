/-
  What stands in memory within digest.Sum, plain.
-/
import Derived.Test.YtjgfjmkfcippcaaDoorShaEnd
import Derived.Test.YtjgfjmkfcippcaaDoorShaMix
import Derived.Test.YtjgfjmkfcippcaaDoorHash
namespace Go.Proofs.YtjgfjmkfcippcaaDoor
open Go.RowKit
set_option maxRecDepth 100000

/-- The slice v reads as the bytes xs, and has room for them. -/
def RdC (w : World) (v : Value) (xs : List Int) : Prop := ∃ q c, v = .slice q xs.length c ∧ xs.length ≤ c ∧ (xs = [] ∨ ∃ b off, q = some ⟨b, off, none⟩ ∧ ∀ i, i < xs.length → w.cell? ⟨b, off + i, none⟩ = some (.int .u8 (xs.getD i 0)))
theorem RdC.rd {w : World} {v : Value} {xs : List Int} (h : RdC w v xs) : Rd w v xs := by
  obtain ⟨q, c, e, _, h⟩ := h
  exact ⟨q, c, e, h⟩

/-- What digest.Sum reads: the table of the rounds. -/
def Tbl (w : World) : Prop := ∀ i, i < 64 → w.cell? ⟨1, i, none⟩ = some (.int .u32 (rt i))
theorem Tbl.pos {w : World} (h : Tbl w) : 1 < w.heap.size := World.block_lt_of_cell? w ⟨1, 0, none⟩ (h 0 (by omega))
theorem Tbl.on {w w' : World} {B : Nat} (h : Tbl w) (hb : Below B w w') (hB : 1 < B) : Tbl w' := fun i hi => by
  rw [World.cell?_of_block (w := w) (hb.block 1 hB)]; exact h i hi
theorem Tbl.chg {w w' : World} {S : List Nat} (h : Tbl w) (hc : Chg w w' S) (hS : 1 ∉ S) : Tbl w' := fun i hi => by
  rw [World.cell?_of_block (w := w) (hc.block 1 h.pos hS)]; exact h i hi

structure SmSt (w wr : World) (S : St8) (F : Nat → Int) : Prop where
  below : Below w.heap.size w wr
  rr : HashAt wr w.heap.size zero32
  rs : RwK .u32 wr (w.heap.size + 1) 8 148 (fun i => S.lst.getD i 0)
  rt : RwK .u8 wr (w.heap.size + 1 + 1) 128 149 F
theorem SmSt.on {w wr w1 : World} {S : St8} {F : Nat → Int} (h : SmSt w wr S F) (hb : Below wr.heap.size wr w1) : SmSt w w1 S F :=
  ⟨h.below.trans (hb.mono h.below.size), h.rr.on hb, h.rs.on hb, h.rt.on hb⟩
theorem HashAt.other {w : World} {b : Nat} {F : List Int} (h : HashAt w b F) {a : Addr} (ha : b ≠ a.block) (v : Value) : HashAt (w.setCell a v) b F := by
  unfold HashAt
  rw [Below.heap_setCell _ _ _ _ ha]; exact h
theorem HashAt.chg {w w' : World} {b : Nat} {F : List Int} {S : List Nat} (h : HashAt w b F) (hc : Chg w w' S) (hS : b ∉ S) : HashAt w' b F := by
  unfold HashAt
  rw [hc.block b h.lt hS]; exact h
theorem SmSt.put {w wr : World} {S : St8} {F : Nat → Int} (h : SmSt w wr S F) (T : St8) :
    SmSt w ((((((((wr.setCell ⟨w.heap.size + 1, 0, none⟩ (.int .u32 T.a)).setCell ⟨w.heap.size + 1, 1, none⟩ (.int .u32 T.b)).setCell ⟨w.heap.size + 1, 2, none⟩ (.int .u32 T.c)).setCell ⟨w.heap.size + 1, 3, none⟩ (.int .u32 T.d)).setCell ⟨w.heap.size + 1, 4, none⟩ (.int .u32 T.e)).setCell ⟨w.heap.size + 1, 5, none⟩ (.int .u32 T.f)).setCell ⟨w.heap.size + 1, 6, none⟩ (.int .u32 T.g)).setCell ⟨w.heap.size + 1, 7, none⟩ (.int .u32 T.h)) T F := by
  have hb := h.below
  have hr := h.rr
  have ht := h.rt
  refine ⟨?_, ?_, ?_, ?_⟩
  · repeat (first | with_reducible exact hb | with_reducible refine Below.setCell ?_ (by simp) _)
  · repeat (first | with_reducible exact hr | with_reducible refine HashAt.other ?_ (by simp) _)
  · refine ((((((((h.rs.store (j := 0) (by omega) T.a).store (j := 1) (by omega) T.b).store (j := 2) (by omega) T.c).store (j := 3) (by omega) T.d).store (j := 4) (by omega) T.e).store (j := 5) (by omega) T.f).store (j := 6) (by omega) T.g).store (j := 7) (by omega) T.h).same ?_
    intro i hi
    have e : i = 0 ∨ i = 1 ∨ i = 2 ∨ i = 3 ∨ i = 4 ∨ i = 5 ∨ i = 6 ∨ i = 7 := by omega
    rcases e with rfl | rfl | rfl | rfl | rfl | rfl | rfl | rfl <;> simp [updK, St8.lst]
  · repeat (first | with_reducible exact ht | with_reducible refine RwK.other ?_ (by simp) _)
theorem SmSt.tab {w wr : World} {S : St8} {F : Nat → Int} (h : SmSt w wr S F) (hT : Tbl w) : Tbl wr := hT.on h.below hT.pos
theorem SmSt.old {w wr : World} {S : St8} {F : Nat → Int} (h : SmSt w wr S F) {p : Addr} {v : Value} (hc : w.cell? p = some v) : wr.cell? p = some v := by
  rw [h.below.cell (World.block_lt_of_cell? w p hc)]; exact hc

theorem HashAt.there {w : World} {b : Nat} {G : List Int} (h : HashAt w b G) (hG : G.length = 32) : w.there b 0 32 := fun j hj => by
  refine ⟨?_, Joins.unfrozen_of_block h _⟩
  rw [cell_of_row _ _ _ _ _ _ h]
  simp [hc_len, hG, hj]
theorem HashAt.put {w : World} {b : Nat} {G : List Int} (h : HashAt w b G) (hG : G.length = 32) {F : List Int} (hF : F.length = 32) : HashAt (w.setCells b 0 (hc F)) b F := by
  have := setCells_block (b := b) (t := 23) (fr := (0, 0)) (hc F) (o := 0) (w := w) (pre := []) (mid := hc G) (post := []) (by simp only [List.nil_append, List.append_nil]; exact h) rfl (by rw [hc_len, hc_len, hF, hG])
  simpa only [HashAt, List.nil_append, List.append_nil] using this
/-- The digest's bytes, laid word by word. -/
def outF (S : St8) : Nat → Int := put4 (put4 (put4 (put4 (put4 (put4 (put4 (put4 (fun i => zero32.getD i 0) 0 S.a) 4 S.b) 8 S.c) 12 S.d) 16 S.e) 20 S.f) 24 S.g) 28 S.h
theorem outF_row (S : St8) : ((List.range 32).map fun i => Value.int .u8 (outF S i)) = hc S.out := by rfl
theorem RwK.hash {w : World} {b : Nat} {S : St8} (h : RwK .u8 w b 32 23 (outF S)) : HashAt w b S.out := by
  have := h.block
  rw [outF_row] at this
  exact this
/-- Where the loop over the blocks stands. -/
def Inv (xs : List Int) (b off : Nat) (w : World) (e : Bool) (i n : Nat) (q : Option Addr) (wr : World) : Prop :=
  ∃ S F, SmSt w wr S F ∧
    (e = false → xs.length = 64 * i + n ∧ (n = 0 ∨ q = some ⟨b, off + 64 * i, none⟩) ∧ S = shaSt xs i ∧ F = fun _ => 0) ∧
    (e = true → 64 * (if 64 < xs.length % 64 + 9 then 2 else 1) = 64 * i + n ∧ (n = 0 ∨ q = some ⟨w.heap.size + 1 + 1, 64 * i, none⟩) ∧ S = shaSt xs (xs.length / 64 + i) ∧ F = endF (xs.drop (64 * (xs.length / 64))) xs.length (64 * (if 64 < xs.length % 64 + 9 then 2 else 1)))

theorem Inv.block {xs : List Int} {b off : Nat} {w wr : World} {e : Bool} {i n : Nat} {q : Option Addr} (h : Inv xs b off w e i n q wr) (hn : 64 ≤ n) (hx : Bytes xs) (hc : ∀ i, i < xs.length → w.cell? ⟨b, off + i, none⟩ = some (.int .u8 (xs.getD i 0))) :
    ∃ bb oo Bf S F, q = some ⟨bb, oo, none⟩ ∧ (∀ j, j < 64 → wr.cell? ⟨bb, oo + j, none⟩ = some (.int .u8 (Bf j))) ∧ (∀ j, j < 64 → 0 ≤ Bf j ∧ Bf j < 256) ∧ SmSt w wr S F ∧
      (∀ w' q', SmSt w w' (S.mix Bf) F → (n = 64 ∨ q' = some ⟨bb, oo + 64, none⟩) → Inv xs b off w e (i + 1) (n - 64) q' w') := by
  obtain ⟨S, F, hm, hf, ht⟩ := h
  cases e with
  | false =>
    obtain ⟨h1, h2, rfl, rfl⟩ := hf rfl
    have h2 : q = some ⟨b, off + 64 * i, none⟩ := h2.resolve_left (by omega)
    refine ⟨b, off + 64 * i, blkF xs i, _, _, h2, fun j hj => ?_, fun j _ => padF_bytes hx _, hm, fun w' q' hm' hq' => ⟨_, _, hm', fun _ => ⟨by omega, ?_, rfl, rfl⟩, fun e => Bool.noConfusion e⟩⟩
    · have := hc (64 * i + j) (by omega)
      rw [Nat.add_assoc, blkF, padF_low (by omega)]
      exact hm.old this
    · rcases hq' with e | e
      · left; omega
      · right; rw [e, show off + 64 * i + 64 = off + 64 * (i + 1) by omega]
  | true =>
    obtain ⟨h1, h2, rfl, rfl⟩ := ht rfl
    have h2 : q = some ⟨w.heap.size + 1 + 1, 64 * i, none⟩ := h2.resolve_left (by omega)
    have h128 : 64 * (if 64 < xs.length % 64 + 9 then 2 else 1) ≤ 128 := by split <;> omega
    refine ⟨w.heap.size + 1 + 1, 64 * i, blkF xs (xs.length / 64 + i), _, _, h2, fun j hj => ?_, fun j _ => padF_bytes hx _, hm, fun w' q' hm' hq' => ⟨_, _, hm', fun e => Bool.noConfusion e, fun _ => ⟨by omega, ?_, rfl, rfl⟩⟩⟩
    · rw [hm.rt.cell (64 * i + j) (by omega), endF_pad rfl rfl rfl (by omega), blkF, show 64 * (xs.length / 64) + (64 * i + j) = 64 * (xs.length / 64 + i) + j by omega]
    · rcases hq' with e | e
      · left; omega
      · right; rw [e, show 64 * i + 64 = 64 * (i + 1) by omega]

/-- Where the whole blocks are through. -/
theorem Inv.rest {xs : List Int} {b off : Nat} {w wr : World} {i n k : Nat} {q : Option Addr} (h : Inv xs b off w false i n q wr) (hn : n < 64) (hc : ∀ i, i < xs.length → w.cell? ⟨b, off + i, none⟩ = some (.int .u8 (xs.getD i 0))) :
    i = xs.length / 64 ∧ n = (xs.drop (64 * (xs.length / 64))).length ∧ n = xs.length % 64 ∧ SmSt w wr (shaSt xs i) (fun _ => 0) ∧ Rd wr (.slice q n k) (xs.drop (64 * (xs.length / 64))) := by
  obtain ⟨S, F, hm, hf, ht⟩ := h
  obtain ⟨h1, h2, rfl, rfl⟩ := hf rfl
  have hi : i = xs.length / 64 := by omega
  have hl : n = (xs.drop (64 * (xs.length / 64))).length := by simp; omega
  refine ⟨hi, hl, by omega, hm, q, k, by rw [← hl], ?_⟩
  rcases h2 with h2 | h2
  · left; exact List.eq_nil_of_length_eq_zero (by omega)
  · right
    refine ⟨b, off + 64 * i, h2, fun j hj => ?_⟩
    have := hc (64 * i + j) (by omega)
    rw [Nat.add_assoc, hm.old this]
    simp [List.getD, hi]
/-- Where the last blocks are laid. -/
theorem Inv.tail {xs : List Int} {b off : Nat} {w w' : World} (h : SmSt w w' (shaSt xs (xs.length / 64)) (endF (xs.drop (64 * (xs.length / 64))) xs.length (64 * (if 64 < xs.length % 64 + 9 then 2 else 1)))) {n : Nat} (hn : n = 64 * (if 64 < xs.length % 64 + 9 then 2 else 1)) :
    Inv xs b off w true 0 n (some ⟨w.heap.size + 1 + 1, 0, none⟩) w' :=
  by
  refine ⟨_, _, h, fun e => Bool.noConfusion e, fun _ => ⟨by omega, .inr (by simp), by simp, rfl⟩⟩
theorem Inv.done {xs : List Int} {b off : Nat} {w wr : World} {i n : Nat} {q : Option Addr} (h : Inv xs b off w true i n q wr) (hn : n < 64) : ∃ F, SmSt w wr (shaSt xs (nbk xs.length)) F := by
  obtain ⟨S, F, hm, hf, ht⟩ := h
  obtain ⟨h1, -, rfl, rfl⟩ := ht rfl
  refine ⟨_, (?_ : SmSt w wr (shaSt xs (nbk xs.length)) (endF (xs.drop (64 * (xs.length / 64))) xs.length (64 * (if 64 < xs.length % 64 + 9 then 2 else 1))))⟩
  have : xs.length / 64 + i = nbk xs.length := by
    unfold nbk
    split at h1 <;> split <;> omega
  rw [← this]
  exact hm
theorem SmSt.chgT {w wr w' : World} {S : St8} {F G : Nat → Int} (h : SmSt w wr S F) (hG : RwK .u8 w' (w.heap.size + 1 + 1) 128 149 G) (hc : Chg wr w' [w.heap.size + 1 + 1]) : SmSt w w' S G :=
  ⟨h.below.trans (hc.toBelow (B := w.heap.size) h.below.size (by intro k hk; simp at hk; omega)), h.rr.chg hc (by simp; omega), h.rs.chg hc (by simp), hG⟩
end Go.Proofs.YtjgfjmkfcippcaaDoor
