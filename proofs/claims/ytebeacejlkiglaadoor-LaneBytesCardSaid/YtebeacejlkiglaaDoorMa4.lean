/-
  What stands in memory within digest.Sum, plain.; Frames, plain.; The walk of digest.Frame.; The walks of package codec: a writer that was made, and what is written.; The walks of package codec: NewWriter, Bytes, Blob.
-/
import Derived.Deep.RegionHeld3
import Derived.BigQuiet
import Derived.Deep.QuietTactic
import Derived.StillTailTactics
import Derived.Test.YtebeacejlkiglaaDoorMa3
namespace Go.Proofs.YtebeacejlkiglaaDoor
open Go.RowKit
set_option maxRecDepth 100000

/-- The slice v reads as the bytes xs, and has room for them. -/
def RdC (w : World) (v : Value) (xs : List Int) : Prop := ∃ q c, v = .slice q xs.length c ∧ xs.length ≤ c ∧ (xs = [] ∨ ∃ b off, q = some ⟨b, off, none⟩ ∧ ∀ i, i < xs.length → w.cell? ⟨b, off + i, none⟩ = some (.int .u8 (xs.getD i 0)))
theorem RdC.rd {w : World} {v : Value} {xs : List Int} (h : RdC w v xs) : Rd w v xs := by
  obtain ⟨q, c, e, _, h⟩ := h
  exact ⟨q, c, e, h⟩

/-- What digest.Sum reads: the table of the rounds. -/
def Tbl (w : World) : Prop := ∀ i, i < 64 → w.cell? ⟨0, i, none⟩ = some (.int .u32 (rt i))
theorem Tbl.pos {w : World} (h : Tbl w) : 0 < w.heap.size := World.block_lt_of_cell? w ⟨0, 0, none⟩ (h 0 (by omega))
theorem Tbl.on {w w' : World} {B : Nat} (h : Tbl w) (hb : Below B w w') (hB : 0 < B) : Tbl w' := fun i hi => by
  rw [World.cell?_of_block (w := w) (hb.block 0 hB)]; exact h i hi
theorem Tbl.chg {w w' : World} {S : List Nat} (h : Tbl w) (hc : Chg w w' S) (hS : 0 ∉ S) : Tbl w' := fun i hi => by
  rw [World.cell?_of_block (w := w) (hc.block 0 h.pos hS)]; exact h i hi

structure SmSt (w wr : World) (S : St8) (F : Nat → Int) : Prop where
  below : Below w.heap.size w wr
  rr : HashAt wr w.heap.size zero32
  rs : RwK .u32 wr (w.heap.size + 1) 8 111 (fun i => S.lst.getD i 0)
  rt : RwK .u8 wr (w.heap.size + 1 + 1) 128 123 F
theorem SmSt.on {w wr w1 : World} {S : St8} {F : Nat → Int} (h : SmSt w wr S F) (hb : Below wr.heap.size wr w1) : SmSt w w1 S F :=
  ⟨h.below.trans (hb.mono h.below.size), h.rr.on hb, h.rs.on hb, h.rt.on hb⟩
theorem HashAt.other {w : World} {b : Nat} {F : List Int} (h : HashAt w b F) {a : Addr} (ha : b ≠ a.block) (v : Value) : HashAt (w.setCell a v) b F := by
  unfold HashAt
  rw [Below.heap_setCell _ _ _ _ ha]; exact h
theorem HashAt.chg {w w' : World} {b : Nat} {F : List Int} {S : List Nat} (h : HashAt w b F) (hc : Chg w w' S) (hS : b ∉ S) : HashAt w' b F := by
  unfold HashAt
  rw [hc.block b h.lt hS]; exact h
theorem SmSt.put {w wr : World} {S : St8} {F : Nat → Int} (h : SmSt w wr S F) (T : St8) :
    SmSt w ((((((((wr.setCell ⟨w.heap.size + 1, 0, none⟩ (.int .u32 T.a)).setCell ⟨w.heap.size + 1, 1, none⟩ (.int .u32 T.b)).setCell ⟨w.heap.size + 1, 2, none⟩ (.int .u32 T.c)).setCell ⟨w.heap.size + 1, 3, none⟩ (.int .u32 T.d)).setCell ⟨w.heap.size + 1, 4, none⟩ (.int .u32 T.e)).setCell ⟨w.heap.size + 1, 5, none⟩ (.int .u32 T.f)).setCell ⟨w.heap.size + 1, 6, none⟩ (.int .u32 T.g)).setCell ⟨w.heap.size + 1, 7, none⟩ (.int .u32 T.h)) T F := by
  have hb := h.below
  have hr := h.rr
  have ht := h.rt
  refine ⟨?_, ?_, ?_, ?_⟩
  · repeat (first | with_reducible exact hb | with_reducible refine Below.setCell ?_ (by simp) _)
  · repeat (first | with_reducible exact hr | with_reducible refine HashAt.other ?_ (by simp) _)
  · refine ((((((((h.rs.store (j := 0) (by omega) T.a).store (j := 1) (by omega) T.b).store (j := 2) (by omega) T.c).store (j := 3) (by omega) T.d).store (j := 4) (by omega) T.e).store (j := 5) (by omega) T.f).store (j := 6) (by omega) T.g).store (j := 7) (by omega) T.h).same ?_
    intro i hi
    have e : i = 0 ∨ i = 1 ∨ i = 2 ∨ i = 3 ∨ i = 4 ∨ i = 5 ∨ i = 6 ∨ i = 7 := by omega
    rcases e with rfl | rfl | rfl | rfl | rfl | rfl | rfl | rfl <;> simp [updK, St8.lst]
  · repeat (first | with_reducible exact ht | with_reducible refine RwK.other ?_ (by simp) _)
theorem SmSt.tab {w wr : World} {S : St8} {F : Nat → Int} (h : SmSt w wr S F) (hT : Tbl w) : Tbl wr := hT.on h.below hT.pos
theorem SmSt.old {w wr : World} {S : St8} {F : Nat → Int} (h : SmSt w wr S F) {p : Addr} {v : Value} (hc : w.cell? p = some v) : wr.cell? p = some v := by
  rw [h.below.cell (World.block_lt_of_cell? w p hc)]; exact hc

theorem HashAt.there {w : World} {b : Nat} {G : List Int} (h : HashAt w b G) (hG : G.length = 32) : w.there b 0 32 := fun j hj => by
  refine ⟨?_, Joins.unfrozen_of_block h _⟩
  rw [cell_of_row _ _ _ _ _ _ h]
  simp [hc_len, hG, hj]
theorem HashAt.put {w : World} {b : Nat} {G : List Int} (h : HashAt w b G) (hG : G.length = 32) {F : List Int} (hF : F.length = 32) : HashAt (w.setCells b 0 (hc F)) b F := by
  have := setCells_block (b := b) (t := 36) (fr := (0, 0)) (hc F) (o := 0) (w := w) (pre := []) (mid := hc G) (post := []) (by simp only [List.nil_append, List.append_nil]; exact h) rfl (by rw [hc_len, hc_len, hF, hG])
  simpa only [HashAt, List.nil_append, List.append_nil] using this
/-- The digest's bytes, laid word by word. -/
def outF (S : St8) : Nat → Int := put4 (put4 (put4 (put4 (put4 (put4 (put4 (put4 (fun i => zero32.getD i 0) 0 S.a) 4 S.b) 8 S.c) 12 S.d) 16 S.e) 20 S.f) 24 S.g) 28 S.h
theorem outF_row (S : St8) : ((List.range 32).map fun i => Value.int .u8 (outF S i)) = hc S.out := by rfl
theorem RwK.hash {w : World} {b : Nat} {S : St8} (h : RwK .u8 w b 32 36 (outF S)) : HashAt w b S.out := by
  have := h.block
  rw [outF_row] at this
  exact this
/-- Where the loop over the blocks stands. -/
def Inv (xs : List Int) (b off : Nat) (w : World) (e : Bool) (i n : Nat) (q : Option Addr) (wr : World) : Prop :=
  ∃ S F, SmSt w wr S F ∧
    (e = false → xs.length = 64 * i + n ∧ (n = 0 ∨ q = some ⟨b, off + 64 * i, none⟩) ∧ S = shaSt xs i ∧ F = fun _ => 0) ∧
    (e = true → 64 * (if 64 < xs.length % 64 + 9 then 2 else 1) = 64 * i + n ∧ (n = 0 ∨ q = some ⟨w.heap.size + 1 + 1, 64 * i, none⟩) ∧ S = shaSt xs (xs.length / 64 + i) ∧ F = endF (xs.drop (64 * (xs.length / 64))) xs.length (64 * (if 64 < xs.length % 64 + 9 then 2 else 1)))

theorem Inv.block {xs : List Int} {b off : Nat} {w wr : World} {e : Bool} {i n : Nat} {q : Option Addr} (h : Inv xs b off w e i n q wr) (hn : 64 ≤ n) (hx : Bytes xs) (hc : ∀ i, i < xs.length → w.cell? ⟨b, off + i, none⟩ = some (.int .u8 (xs.getD i 0))) :
    ∃ bb oo Bf S F, q = some ⟨bb, oo, none⟩ ∧ (∀ j, j < 64 → wr.cell? ⟨bb, oo + j, none⟩ = some (.int .u8 (Bf j))) ∧ (∀ j, j < 64 → 0 ≤ Bf j ∧ Bf j < 256) ∧ SmSt w wr S F ∧
      (∀ w' q', SmSt w w' (S.mix Bf) F → (n = 64 ∨ q' = some ⟨bb, oo + 64, none⟩) → Inv xs b off w e (i + 1) (n - 64) q' w') := by
  obtain ⟨S, F, hm, hf, ht⟩ := h
  cases e with
  | false =>
    obtain ⟨h1, h2, rfl, rfl⟩ := hf rfl
    have h2 : q = some ⟨b, off + 64 * i, none⟩ := h2.resolve_left (by omega)
    refine ⟨b, off + 64 * i, blkF xs i, _, _, h2, fun j hj => ?_, fun j _ => padF_bytes hx _, hm, fun w' q' hm' hq' => ⟨_, _, hm', fun _ => ⟨by omega, ?_, rfl, rfl⟩, fun e => Bool.noConfusion e⟩⟩
    · have := hc (64 * i + j) (by omega)
      rw [Nat.add_assoc, blkF, padF_low (by omega)]
      exact hm.old this
    · rcases hq' with e | e
      · left; omega
      · right; rw [e, show off + 64 * i + 64 = off + 64 * (i + 1) by omega]
  | true =>
    obtain ⟨h1, h2, rfl, rfl⟩ := ht rfl
    have h2 : q = some ⟨w.heap.size + 1 + 1, 64 * i, none⟩ := h2.resolve_left (by omega)
    have h128 : 64 * (if 64 < xs.length % 64 + 9 then 2 else 1) ≤ 128 := by split <;> omega
    refine ⟨w.heap.size + 1 + 1, 64 * i, blkF xs (xs.length / 64 + i), _, _, h2, fun j hj => ?_, fun j _ => padF_bytes hx _, hm, fun w' q' hm' hq' => ⟨_, _, hm', fun e => Bool.noConfusion e, fun _ => ⟨by omega, ?_, rfl, rfl⟩⟩⟩
    · rw [hm.rt.cell (64 * i + j) (by omega), endF_pad rfl rfl rfl (by omega), blkF, show 64 * (xs.length / 64) + (64 * i + j) = 64 * (xs.length / 64 + i) + j by omega]
    · rcases hq' with e | e
      · left; omega
      · right; rw [e, show 64 * i + 64 = 64 * (i + 1) by omega]

/-- Where the whole blocks are through. -/
theorem Inv.rest {xs : List Int} {b off : Nat} {w wr : World} {i n k : Nat} {q : Option Addr} (h : Inv xs b off w false i n q wr) (hn : n < 64) (hc : ∀ i, i < xs.length → w.cell? ⟨b, off + i, none⟩ = some (.int .u8 (xs.getD i 0))) :
    i = xs.length / 64 ∧ n = (xs.drop (64 * (xs.length / 64))).length ∧ n = xs.length % 64 ∧ SmSt w wr (shaSt xs i) (fun _ => 0) ∧ Rd wr (.slice q n k) (xs.drop (64 * (xs.length / 64))) := by
  obtain ⟨S, F, hm, hf, ht⟩ := h
  obtain ⟨h1, h2, rfl, rfl⟩ := hf rfl
  have hi : i = xs.length / 64 := by omega
  have hl : n = (xs.drop (64 * (xs.length / 64))).length := by simp; omega
  refine ⟨hi, hl, by omega, hm, q, k, by rw [← hl], ?_⟩
  rcases h2 with h2 | h2
  · left; exact List.eq_nil_of_length_eq_zero (by omega)
  · right
    refine ⟨b, off + 64 * i, h2, fun j hj => ?_⟩
    have := hc (64 * i + j) (by omega)
    rw [Nat.add_assoc, hm.old this]
    simp [List.getD, hi]
/-- Where the last blocks are laid. -/
theorem Inv.tail {xs : List Int} {b off : Nat} {w w' : World} (h : SmSt w w' (shaSt xs (xs.length / 64)) (endF (xs.drop (64 * (xs.length / 64))) xs.length (64 * (if 64 < xs.length % 64 + 9 then 2 else 1)))) {n : Nat} (hn : n = 64 * (if 64 < xs.length % 64 + 9 then 2 else 1)) :
    Inv xs b off w true 0 n (some ⟨w.heap.size + 1 + 1, 0, none⟩) w' :=
  by
  refine ⟨_, _, h, fun e => Bool.noConfusion e, fun _ => ⟨by omega, .inr (by simp), by simp, rfl⟩⟩
theorem Inv.done {xs : List Int} {b off : Nat} {w wr : World} {i n : Nat} {q : Option Addr} (h : Inv xs b off w true i n q wr) (hn : n < 64) : ∃ F, SmSt w wr (shaSt xs (nbk xs.length)) F := by
  obtain ⟨S, F, hm, hf, ht⟩ := h
  obtain ⟨h1, -, rfl, rfl⟩ := ht rfl
  refine ⟨_, (?_ : SmSt w wr (shaSt xs (nbk xs.length)) (endF (xs.drop (64 * (xs.length / 64))) xs.length (64 * (if 64 < xs.length % 64 + 9 then 2 else 1))))⟩
  have : xs.length / 64 + i = nbk xs.length := by
    unfold nbk
    split at h1 <;> split <;> omega
  rw [← this]
  exact hm
theorem SmSt.chgT {w wr w' : World} {S : St8} {F G : Nat → Int} (h : SmSt w wr S F) (hG : RwK .u8 w' (w.heap.size + 1 + 1) 128 123 G) (hc : Chg wr w' [w.heap.size + 1 + 1]) : SmSt w w' S G :=
  ⟨h.below.trans (hc.toBelow (B := w.heap.size) h.below.size (by intro k hk; simp at hk; omega)), h.rr.chg hc (by simp; omega), h.rs.chg hc (by simp), hG⟩
end Go.Proofs.YtebeacejlkiglaaDoor
namespace Go.Proofs.YtebeacejlkiglaaDoor
open Go.RowKit
set_option maxRecDepth 100000

/-- A frame: of a tag that is not too long, and parts. -/
def frm (t : List Int) (L : List (List Int)) : List Int := ((t.length : Int) :: t) ++ blobs L
theorem frm_len (t : List Int) (L : List (List Int)) : (frm t L).length = 1 + t.length + (blobs L).length := by simp [frm]; omega
theorem blobs_split {L : List (List Int)} {i : Nat} (hi : i < L.length) : blobs L = blobs (L.take i) ++ (be8 (L.getD i []).length ++ (L.getD i [] ++ blobs (L.drop (i + 1)))) := by
  have e : L = L.take i ++ (L.getD i [] :: L.drop (i + 1)) := by
    conv => lhs; rw [← List.take_append_drop i L]
    rw [List.drop_eq_getElem_cons hi]
    simp [List.getD, hi]
  conv => lhs; rw [e, blobs, List.flatMap_append, List.flatMap_cons]
  simp only [blobs, List.append_assoc]
theorem getD_app_right {xs ys : List Int} {k : Nat} : (xs ++ ys).getD (xs.length + k) 0 = ys.getD k 0 := by
  simp only [List.getD_eq_getElem?_getD]
  rw [List.getElem?_append_right (by omega), Nat.add_sub_cancel_left]
theorem getD_app_left {xs ys : List Int} {k : Nat} (h : k < xs.length) : (xs ++ ys).getD k 0 = xs.getD k 0 := by
  simp [List.getD, List.getElem?_append_left h]
/-- How far a frame is written behind i parts. -/
def frmAt (t : List Int) (L : List (List Int)) (i : Nat) : Nat := 1 + t.length + (blobs (L.take i)).length
theorem frmAt_succ (t : List Int) {L : List (List Int)} {i : Nat} (hi : i < L.length) : frmAt t L (i + 1) = frmAt t L i + 8 + (L.getD i []).length := by
  unfold frmAt; rw [blobs_len hi]; omega
theorem frmAt_le (t : List Int) (L : List (List Int)) (i : Nat) : frmAt t L i ≤ (frm t L).length := by
  unfold frmAt; rw [frm_len]; have := blobs_le L i; omega
theorem frmAt_end (t : List Int) (L : List (List Int)) : frmAt t L L.length = (frm t L).length := by
  unfold frmAt; rw [frm_len, List.take_length]
theorem frm_get (t : List Int) {L : List (List Int)} {i : Nat} (hi : i < L.length) (k : Nat) : (frm t L).getD (frmAt t L i + k) 0 = (be8 (L.getD i []).length ++ (L.getD i [] ++ blobs (L.drop (i + 1)))).getD k 0 := by
  have e : frm t L = (((t.length : Int) :: t) ++ blobs (L.take i)) ++ (be8 (L.getD i []).length ++ (L.getD i [] ++ blobs (L.drop (i + 1)))) := by
    rw [frm, blobs_split hi, List.append_assoc]
  have hl : frmAt t L i = (((t.length : Int) :: t) ++ blobs (L.take i)).length := by unfold frmAt; simp; omega
  rw [e, hl, getD_app_right]
theorem frm_step (t : List Int) {L : List (List Int)} {i : Nat} (hi : i < L.length) {f : Nat → Int} (hf : ∀ j, j < frmAt t L i → f j = (frm t L).getD j 0) {j : Nat} (hj : j < frmAt t L (i + 1)) :
    cpf (put8 f (frmAt t L i) ((L.getD i []).length : Int)) (frmAt t L i + 8) (L.getD i []) j = (frm t L).getD j 0 := by
  rw [frmAt_succ t hi] at hj
  by_cases h1 : j < frmAt t L i
  · rw [cpf_out (by omega), put8_out _ (by omega)]; exact hf j h1
  · obtain ⟨k, rfl⟩ : ∃ k, j = frmAt t L i + k := ⟨j - frmAt t L i, by omega⟩
    rw [frm_get t hi]
    by_cases h8 : k < 8
    · rw [cpf_out (by omega), put8_in _ _ _ h8, getD_app_left (by simpa using h8)]
    · rw [cpf_in (by omega) (by omega)]
      obtain ⟨m, rfl⟩ : ∃ m, k = 8 + m := ⟨k - 8, by omega⟩
      have := getD_app_right (xs := be8 ((L.getD i []).length : Int)) (ys := L.getD i [] ++ blobs (L.drop (i + 1))) (k := m)
      rw [be8_len] at this
      rw [this, getD_app_left (by omega)]
      congr 1
      omega
theorem frm_start (t : List Int) (L : List (List Int)) (f : Nat → Int) {j : Nat} (hj : j < frmAt t L 0) : cpf (updK f 0 (t.length : Int)) 1 t j = (frm t L).getD j 0 := by
  have hl : frmAt t L 0 = 1 + t.length := by simp [frmAt, blobs]
  have e : (frm t L).getD j 0 = ((t.length : Int) :: t).getD j 0 := getD_app_left (by simp; omega)
  rw [e]
  by_cases h0 : j = 0
  · subst h0; rw [cpf_out (by omega), updK_same]; rfl
  · rw [cpf_in (by omega) (by omega)]
    obtain ⟨m, rfl⟩ : ∃ m, j = m + 1 := ⟨j - 1, by omega⟩
    rfl
theorem frm_bytes {t : List Int} {L : List (List Int)} (ht : Bytes t) (h255 : t.length ≤ 255) (hL : ∀ b ∈ L, Bytes b) : Bytes (frm t L) := by
  refine Bytes.append ?_ ?_
  · intro x hx
    rcases List.mem_cons.1 hx with rfl | hx
    · omega
    · exact ht x hx
  · intro x hx
    obtain ⟨b, hb, hx⟩ := List.mem_flatMap.1 hx
    rcases List.mem_append.1 hx with hx | hx
    · exact be8_bytes _ x hx
    · exact hL b hb x hx
end Go.Proofs.YtebeacejlkiglaaDoor
namespace Go.Proofs.YtebeacejlkiglaaDoor
open Go.RowKit
set_option maxRecDepth 100000

theorem Tryd.infoU8 : (Tryd.prog.info? 5).map (fun i => (i.zero, i.size, i.bytes)) = some (some (.int .u8 0), 1, 1) := by kernel_rfl

/-- A tag, as far as it counts. -/
def cut255 (s : ByteArray) : ByteArray := if s.size ≤ 255 then s else s.extract 0 255
theorem cut_small {s : ByteArray} (h : s.size ≤ 255) : cut255 s = s := if_pos h
theorem cut_size (s : ByteArray) : (cut255 s).size ≤ 255 := by
  unfold cut255
  split
  · assumption
  · simp [ByteArray.size_extract]; omega

set_option maxHeartbeats 4000000 in
theorem Frame_cut {w : World} {s t : ByteArray} {v : Value} {L : List (List Int)} (hL : RdL w v L []) (hs : s.size ≤ maxLen) (hst : cut255 s = t) (hn : (frm (sn t) L).length ≤ 140737488355328) :
    Calls Tryd.prog 74 #[.string s, v] w fun e w' => e = .returned (.slice (some ⟨w.heap.size, 0, none⟩) (frm (sn t) L).length (frm (sn t) L).length) ∧
      RwK .u8 w' w.heap.size (frm (sn t) L).length 5 (fun i => (frm (sn t) L).getD i 0) ∧ Below w.heap.size w w' := by
  have h255 : t.size ≤ 255 := by rw [← hst]; exact cut_size s
  unfold maxLen at hs
  have hcut : (s.size ≤ 255 ∧ s = t) ∨ (255 < s.size ∧ s.extract 0 255 = t) := by
    by_cases h : s.size ≤ 255
    · exact .inl ⟨h, by rw [← hst]; exact (if_pos h).symm⟩
    · exact .inr ⟨by omega, by rw [← hst]; exact (if_neg h).symm⟩
  clear hst
  obtain ⟨q, c, rfl⟩ : ∃ q c, v = .slice q L.length c := by obtain ⟨q, c, e, _⟩ := hL; exact ⟨q, c, e⟩
  obtain ⟨i0, hi, hz0, hz1, hz2⟩ := info_parts Tryd.infoU8
  have HL := Lib.hid hL
  replace hi := Lib.hid hi
  replace hz0 := Lib.hid hz0
  replace hz1 := Lib.hid hz1
  replace hz2 := Lib.hid hz2
  have hsl := sn_len t
  have hmany := blobs_many L
  have hfl := frm_len (sn t) L
  have hLn : L.length ≤ 140737488355328 := by omega
  have hbl : (blobs L).length ≤ 140737488355328 := by omega
  obtain ⟨N, hN⟩ : ∃ N, (frm (sn t) L).length = N := ⟨_, rfl⟩
  have HN : Hid (1 + t.size + (blobs L).length = N) := by rw [← hN]; show _ = _; omega
  have HNf := Lib.hid hN
  have HSL := Lib.hid hsl
  have hNle : N ≤ 140737488355328 := by omega
  have hN0 : 1 + t.size ≤ N := by omega
  rw [hN] at hn ⊢
  clear hL hsl hmany hfl hn hN
  go_enter Tryd.func74, Tryd.ntmps74
  rcases hcut with ⟨hc1, hc2⟩ | ⟨hc1, hc2⟩
  · have hmin : min (s.size : Int) 255 = s.size := by omega
    obtain hc3 := hc2.symm
    subst hc3
    go_wp2_with fail
    clear hmin hc1
    go_loopw [5, 22] (fun nv iv wr => ∃ i : Nat, iv = .int .i64 i ∧ i ≤ L.length ∧ nv = .int .i64 (1 + (t.size : Int) + ((blobs (L.take i)).length : Int)) ∧ wr = w) (fun _ iv _ => L.length - (intOf iv).toNat)
    case atStart => exact ⟨0, rfl, by omega, by simp [blobs], rfl⟩
    case round =>
      obtain ⟨i, rfl, hil, rfl, rfl⟩ := hrel
      have hbi := blobs_le L i
      by_cases hlt : i < L.length
      · obtain ⟨b, off, r, m, k, -, rfl, -, hc, rfl, -, -⟩ := HL.out.at hlt
        have hbs := blobs_len hlt
        have hbl2 := blobs_le L (i + 1)
        have HE := Lib.hid hbs
        have g1 : ((blobs (L.take i)).length : Int) + 8 + ((L.getD i []).length : Int) ≤ 140737488355328 := by omega
        clear hbs hbl2
        generalize hbb : (L.getD i []).length = lb at hc g1 HE ⊢
        go_wp2_with fail
        go_roundw
        case rel => exact ⟨i + 1, by go_num, by omega, by rw [HE.out]; congr 1; omega, trivial⟩
        case measure => simp [intOf]; omega
      · obtain rfl : i = L.length := by omega
        rw [List.take_length]
        have hNN : (1 + (t.size : Int) + ((blobs L).length : Int)) = (N : Int) := by have := HN.out; omega
        rw [hNN]
        clear hlt hNN hbi hil
        go_wp2_with (refine wpList_make_full _ rfl _ _ _ rfl 0 _ _ _ _ Tryd.underlying42 hi.out hz0.out hz1.out _ _ _ _ N rfl rfl rfl rfl ?b1 ?b2 ?b3 ?_)
        case b1 => rw [hz2.out]; omega
        case b2 => unfold maxLen; omega
        case b3 => omega
        intro w1 own1 grow1
        have hr1 : RwK .u8 w1 wr.heap.size N 5 (fun _ => 0) := rw_of_made own1
        have hk1 : Chg wr w1 [] := Chg.grown grow1 (by simp)
        have hzz : wr.heap.size < w1.heap.size := hr1.lt
        have c0 := hr1.cell 0 (by omega)
        have f0 := hr1.free 0
        have R1 := Lib.hid (hr1.store (j := 0) (by omega) (t.size : Int))
        have K1 := Lib.hid (((hk1.mono (T := [wr.heap.size]) (by simp)).setCell (p := ⟨wr.heap.size, 0, none⟩) (.inl (by simp)) (.int .u8 (t.size : Int))))
        clear own1 grow1 hr1 hk1
        by_cases hN1 : N = 1
        · subst hN1
          have hL0 : L = [] := by have := blobs_many L; have := HN.out; exact List.eq_nil_of_length_eq_zero (by omega)
          subst hL0
          go_wp2_with (with_reducible refine wpList_copy_str rfl _ _ _ _ rfl 5 Tryd.underlying42 Tryd.size_u8 _ _ _ t rfl rfl R1.out 1 (by omega) (by intro h; first | rfl | omega) (by omega) ?_)
          intro w2 h2 k2
          have HR2 := Lib.hid h2
          have K2 := Lib.hid (K1.out.trans k2 (fun _ h _ => h))
          clear h2 k2 c0 f0 K1 R1
          go_wp2_with fail
          refine wp_loop_rounds 1 ?_
          rw [rounds_succ]
          go_wp2_with fail
          go_ret
          refine ⟨rfl, HR2.out.same (fun j hj => ?_), K2.out.toBelow (Nat.le_refl _) (by intro k hk; simp at hk; omega)⟩
          have := frm_start (sn t) [] (fun _ => 0) (j := j) (by unfold frmAt; omega)
          rw [HSL.out] at this
          exact this
        · go_wp2_with (with_reducible refine wpList_copy_str rfl _ _ _ _ rfl 5 Tryd.underlying42 Tryd.size_u8 _ _ _ t rfl rfl R1.out 1 (by omega) (by intro h; first | rfl | omega) (by omega) ?_)
          intro w2 h2 k2
          have HI : Hid (RwK .u8 w2 wr.heap.size N 5 (cpf (updK (fun _ => 0) 0 (t.size : Int)) 1 (sn t)) ∧ Below wr.heap.size wr w2 ∧ ∀ j, j < frmAt (sn t) L 0 → cpf (updK (fun _ => 0) 0 (t.size : Int)) 1 (sn t) j = (frm (sn t) L).getD j 0) :=
            ⟨h2, (K1.out.trans k2 (fun _ h _ => h)).toBelow (Nat.le_refl _) (by intro k hk; simp at hk; omega), fun j hj => by have := frm_start (sn t) L (fun _ => 0) hj; rw [HSL.out] at this; exact this⟩
          clear h2 k2 c0 f0 K1 R1
          obtain ⟨w0, rfl⟩ : ∃ w0 : World, w0 = wr := ⟨_, rfl⟩
          go_wp2_with fail
          go_loopw [9, 46] (fun av iv wr => ∃ (i : Nat) (f : Nat → Int), iv = .int .i64 i ∧ i ≤ L.length ∧ av = .int .i64 (1 + (t.size : Int) + ((blobs (L.take i)).length : Int)) ∧ Hid (RwK .u8 wr w0.heap.size N 5 f ∧ Below w0.heap.size w0 wr ∧ ∀ j, j < frmAt (sn t) L i → f j = (frm (sn t) L).getD j 0)) (fun _ iv _ => L.length - (intOf iv).toNat)
          case atStart => exact ⟨0, _, rfl, by omega, by simp [blobs], HI⟩
          case round =>
            clear HI
            obtain ⟨i, f, rfl, hil, rfl, hS⟩ := hrel
            by_cases hlt : i < L.length
            · obtain ⟨b, off, r, m, k, -, rfl, -, hcw, rfl, hrd, -⟩ := HL.out.at hlt
              have hc : wr.cell? ⟨b, off + i, none⟩ = some (.slice r (L.getD i []).length k) := by
                rw [World.cell?_of_block (w := w0) (hS.out.2.1.block b (lt_of_cell hcw))]; exact hcw
              have HRD := Lib.hid hrd
              have HSt := Lib.hid (fun j hj => frm_step (sn t) hlt hS.out.2.2 (j := j) hj)
              have R := Lib.hid hS.out.1
              have B := Lib.hid hS.out.2.1
              have HA : Hid (frmAt (sn t) L i = 1 + t.size + (blobs (L.take i)).length) := by show _ = _; unfold frmAt; rw [HSL.out]
              have hfit : 1 + t.size + (blobs (L.take i)).length + 8 + (L.getD i []).length ≤ N := by
                have e1 := frmAt_succ (sn t) hlt
                have e2 := frmAt_le (sn t) L (i + 1)
                rw [HNf.out] at e2
                have := HA.out
                omega
              rw [HA.out] at HSt
              have HE := Lib.hid (blobs_len hlt)
              clear hS hcw hrd
              obtain ⟨a, ha⟩ : ∃ a : Nat, 1 + t.size + (blobs (L.take i)).length = a := ⟨_, rfl⟩
              have ha' : (1 + (t.size : Int) + ((blobs (L.take i)).length : Int)) = (a : Int) := by omega
              rw [ha]at HSt hfit
              rw [ha']
              have HAA := Lib.hid ha
              clear ha ha'
              generalize hbb : L.getD i [] = bb at *
              clear hbb
              go_wp2_with fail
              refine (put64_any R.out (off := a) (len := N - a) (cap := N - a) (by omega) (Nat.le_refl _) (by omega) _).mono ?_
              rintro e w3 ⟨rfl, h3, k3⟩
              have R3 := Lib.hid h3
              have hB3 := B.out.trans ((k3.toBelow (B := w0.heap.size) B.out.size (by intro k hk; simp at hk; omega)))
              have B3 := Lib.hid hB3
              have hP : Hid (0 < bb.length → ∃ ad, r = some ad ∧ ∀ j, j < bb.length → w3.cell? (ad.add j) = some (.int .u8 (bb.getD j 0))) := by
                intro h0
                obtain ⟨q', c', e, rfl | ⟨b', o', rfl, hcc⟩⟩ := HRD.out.on hB3
                · simp at h0
                · simp only [Value.slice.injEq] at e
                  exact ⟨_, e.1, fun j hj => by rw [addr_add]; exact hcc j hj⟩
              have HN3 := Lib.hid (R3.out.lt)
              clear h3 k3 hB3 hc HRD R B
              by_cases haN : a + 8 = N
              all_goals
                go_wp2_with (with_reducible refine wpList_copy_rw rfl _ _ _ _ rfl 5 Tryd.underlying42 Tryd.size_u8 _ _ _ _ _ _ rfl rfl R3.out (a + 8) bb (Nat.min_eq_left (by omega)).symm (fun h0 => ⟨by first | rfl | omega, hP.out h0⟩) (by omega) ?_)
                intro w4 h4 k4
                have HN4 : Hid (RwK .u8 w4 w0.heap.size N 5 (cpf (put8 f a (bb.length : Int)) (a + 8) bb) ∧ Below w0.heap.size w0 w4 ∧ ∀ j, j < frmAt (sn t) L (i + 1) → cpf (put8 f a (bb.length : Int)) (a + 8) bb j = (frm (sn t) L).getD j 0) :=
                  ⟨by first | exact h4 | (rw [haN]; exact h4), B3.out.trans (k4.toBelow (B := w0.heap.size) B3.out.size (by intro k hk; simp at hk; omega)), HSt.out⟩
                clear h4 k4 hP
                go_wp2_with fail
                go_roundw
                case rel => exact ⟨i + 1, _, by go_num, by omega, by rw [HE.out]; have := HAA.out; congr 1; omega, HN4⟩
                case measure => simp [intOf]; omega
            · obtain rfl : i = L.length := by omega
              have HR := Lib.hid hS
              clear hS
              go_wp2_with fail
              go_ret
              refine ⟨rfl, HR.out.out.1.same (fun j hj => HR.out.out.2.2 j (by rw [frmAt_end, HNf.out]; exact hj)), HR.out.out.2.1⟩
  · have hmin : min (s.size : Int) 255 = 255 := by omega
    have hsz255 : (255 : Int) ≤ (s.size : Int) := by omega
    go_wp2_with fail
    clear hmin hc1 hc2 hsz255
    go_loopw [5, 22] (fun nv iv wr => ∃ i : Nat, iv = .int .i64 i ∧ i ≤ L.length ∧ nv = .int .i64 (1 + (t.size : Int) + ((blobs (L.take i)).length : Int)) ∧ wr = w) (fun _ iv _ => L.length - (intOf iv).toNat)
    case atStart => exact ⟨0, rfl, by omega, by simp [blobs], rfl⟩
    case round =>
      obtain ⟨i, rfl, hil, rfl, rfl⟩ := hrel
      have hbi := blobs_le L i
      by_cases hlt : i < L.length
      · obtain ⟨b, off, r, m, k, -, rfl, -, hc, rfl, -, -⟩ := HL.out.at hlt
        have hbs := blobs_len hlt
        have hbl2 := blobs_le L (i + 1)
        have HE := Lib.hid hbs
        have g1 : ((blobs (L.take i)).length : Int) + 8 + ((L.getD i []).length : Int) ≤ 140737488355328 := by omega
        clear hbs hbl2
        generalize hbb : (L.getD i []).length = lb at hc g1 HE ⊢
        go_wp2_with fail
        go_roundw
        case rel => exact ⟨i + 1, by go_num, by omega, by rw [HE.out]; congr 1; omega, trivial⟩
        case measure => simp [intOf]; omega
      · obtain rfl : i = L.length := by omega
        rw [List.take_length]
        have hNN : (1 + (t.size : Int) + ((blobs L).length : Int)) = (N : Int) := by have := HN.out; omega
        rw [hNN]
        clear hlt hNN hbi hil
        go_wp2_with (refine wpList_make_full _ rfl _ _ _ rfl 0 _ _ _ _ Tryd.underlying42 hi.out hz0.out hz1.out _ _ _ _ N rfl rfl rfl rfl ?b1 ?b2 ?b3 ?_)
        case b1 => rw [hz2.out]; omega
        case b2 => unfold maxLen; omega
        case b3 => omega
        intro w1 own1 grow1
        have hr1 : RwK .u8 w1 wr.heap.size N 5 (fun _ => 0) := rw_of_made own1
        have hk1 : Chg wr w1 [] := Chg.grown grow1 (by simp)
        have hzz : wr.heap.size < w1.heap.size := hr1.lt
        have c0 := hr1.cell 0 (by omega)
        have f0 := hr1.free 0
        have R1 := Lib.hid (hr1.store (j := 0) (by omega) (t.size : Int))
        have K1 := Lib.hid (((hk1.mono (T := [wr.heap.size]) (by simp)).setCell (p := ⟨wr.heap.size, 0, none⟩) (.inl (by simp)) (.int .u8 (t.size : Int))))
        clear own1 grow1 hr1 hk1
        by_cases hN1 : N = 1
        · subst hN1
          have hL0 : L = [] := by have := blobs_many L; have := HN.out; exact List.eq_nil_of_length_eq_zero (by omega)
          subst hL0
          go_wp2_with (with_reducible refine wpList_copy_str rfl _ _ _ _ rfl 5 Tryd.underlying42 Tryd.size_u8 _ _ _ t rfl rfl R1.out 1 (by omega) (by intro h; first | rfl | omega) (by omega) ?_)
          intro w2 h2 k2
          have HR2 := Lib.hid h2
          have K2 := Lib.hid (K1.out.trans k2 (fun _ h _ => h))
          clear h2 k2 c0 f0 K1 R1
          go_wp2_with fail
          refine wp_loop_rounds 1 ?_
          rw [rounds_succ]
          go_wp2_with fail
          go_ret
          refine ⟨rfl, HR2.out.same (fun j hj => ?_), K2.out.toBelow (Nat.le_refl _) (by intro k hk; simp at hk; omega)⟩
          have := frm_start (sn t) [] (fun _ => 0) (j := j) (by unfold frmAt; omega)
          rw [HSL.out] at this
          exact this
        · go_wp2_with (with_reducible refine wpList_copy_str rfl _ _ _ _ rfl 5 Tryd.underlying42 Tryd.size_u8 _ _ _ t rfl rfl R1.out 1 (by omega) (by intro h; first | rfl | omega) (by omega) ?_)
          intro w2 h2 k2
          have HI : Hid (RwK .u8 w2 wr.heap.size N 5 (cpf (updK (fun _ => 0) 0 (t.size : Int)) 1 (sn t)) ∧ Below wr.heap.size wr w2 ∧ ∀ j, j < frmAt (sn t) L 0 → cpf (updK (fun _ => 0) 0 (t.size : Int)) 1 (sn t) j = (frm (sn t) L).getD j 0) :=
            ⟨h2, (K1.out.trans k2 (fun _ h _ => h)).toBelow (Nat.le_refl _) (by intro k hk; simp at hk; omega), fun j hj => by have := frm_start (sn t) L (fun _ => 0) hj; rw [HSL.out] at this; exact this⟩
          clear h2 k2 c0 f0 K1 R1
          obtain ⟨w0, rfl⟩ : ∃ w0 : World, w0 = wr := ⟨_, rfl⟩
          go_wp2_with fail
          go_loopw [9, 46] (fun av iv wr => ∃ (i : Nat) (f : Nat → Int), iv = .int .i64 i ∧ i ≤ L.length ∧ av = .int .i64 (1 + (t.size : Int) + ((blobs (L.take i)).length : Int)) ∧ Hid (RwK .u8 wr w0.heap.size N 5 f ∧ Below w0.heap.size w0 wr ∧ ∀ j, j < frmAt (sn t) L i → f j = (frm (sn t) L).getD j 0)) (fun _ iv _ => L.length - (intOf iv).toNat)
          case atStart => exact ⟨0, _, rfl, by omega, by simp [blobs], HI⟩
          case round =>
            clear HI
            obtain ⟨i, f, rfl, hil, rfl, hS⟩ := hrel
            by_cases hlt : i < L.length
            · obtain ⟨b, off, r, m, k, -, rfl, -, hcw, rfl, hrd, -⟩ := HL.out.at hlt
              have hc : wr.cell? ⟨b, off + i, none⟩ = some (.slice r (L.getD i []).length k) := by
                rw [World.cell?_of_block (w := w0) (hS.out.2.1.block b (lt_of_cell hcw))]; exact hcw
              have HRD := Lib.hid hrd
              have HSt := Lib.hid (fun j hj => frm_step (sn t) hlt hS.out.2.2 (j := j) hj)
              have R := Lib.hid hS.out.1
              have B := Lib.hid hS.out.2.1
              have HA : Hid (frmAt (sn t) L i = 1 + t.size + (blobs (L.take i)).length) := by show _ = _; unfold frmAt; rw [HSL.out]
              have hfit : 1 + t.size + (blobs (L.take i)).length + 8 + (L.getD i []).length ≤ N := by
                have e1 := frmAt_succ (sn t) hlt
                have e2 := frmAt_le (sn t) L (i + 1)
                rw [HNf.out] at e2
                have := HA.out
                omega
              rw [HA.out] at HSt
              have HE := Lib.hid (blobs_len hlt)
              clear hS hcw hrd
              obtain ⟨a, ha⟩ : ∃ a : Nat, 1 + t.size + (blobs (L.take i)).length = a := ⟨_, rfl⟩
              have ha' : (1 + (t.size : Int) + ((blobs (L.take i)).length : Int)) = (a : Int) := by omega
              rw [ha]at HSt hfit
              rw [ha']
              have HAA := Lib.hid ha
              clear ha ha'
              generalize hbb : L.getD i [] = bb at *
              clear hbb
              go_wp2_with fail
              refine (put64_any R.out (off := a) (len := N - a) (cap := N - a) (by omega) (Nat.le_refl _) (by omega) _).mono ?_
              rintro e w3 ⟨rfl, h3, k3⟩
              have R3 := Lib.hid h3
              have hB3 := B.out.trans ((k3.toBelow (B := w0.heap.size) B.out.size (by intro k hk; simp at hk; omega)))
              have B3 := Lib.hid hB3
              have hP : Hid (0 < bb.length → ∃ ad, r = some ad ∧ ∀ j, j < bb.length → w3.cell? (ad.add j) = some (.int .u8 (bb.getD j 0))) := by
                intro h0
                obtain ⟨q', c', e, rfl | ⟨b', o', rfl, hcc⟩⟩ := HRD.out.on hB3
                · simp at h0
                · simp only [Value.slice.injEq] at e
                  exact ⟨_, e.1, fun j hj => by rw [addr_add]; exact hcc j hj⟩
              have HN3 := Lib.hid (R3.out.lt)
              clear h3 k3 hB3 hc HRD R B
              by_cases haN : a + 8 = N
              all_goals
                go_wp2_with (with_reducible refine wpList_copy_rw rfl _ _ _ _ rfl 5 Tryd.underlying42 Tryd.size_u8 _ _ _ _ _ _ rfl rfl R3.out (a + 8) bb (Nat.min_eq_left (by omega)).symm (fun h0 => ⟨by first | rfl | omega, hP.out h0⟩) (by omega) ?_)
                intro w4 h4 k4
                have HN4 : Hid (RwK .u8 w4 w0.heap.size N 5 (cpf (put8 f a (bb.length : Int)) (a + 8) bb) ∧ Below w0.heap.size w0 w4 ∧ ∀ j, j < frmAt (sn t) L (i + 1) → cpf (put8 f a (bb.length : Int)) (a + 8) bb j = (frm (sn t) L).getD j 0) :=
                  ⟨by first | exact h4 | (rw [haN]; exact h4), B3.out.trans (k4.toBelow (B := w0.heap.size) B3.out.size (by intro k hk; simp at hk; omega)), HSt.out⟩
                clear h4 k4 hP
                go_wp2_with fail
                go_roundw
                case rel => exact ⟨i + 1, _, by go_num, by omega, by rw [HE.out]; have := HAA.out; congr 1; omega, HN4⟩
                case measure => simp [intOf]; omega
            · obtain rfl : i = L.length := by omega
              have HR := Lib.hid hS
              clear hS
              go_wp2_with fail
              go_ret
              refine ⟨rfl, HR.out.out.1.same (fun j hj => HR.out.out.2.2 j (by rw [frmAt_end, HNf.out]; exact hj)), HR.out.out.2.1⟩
theorem Frame_any {w : World} {s : ByteArray} {v : Value} {L : List (List Int)} (hL : RdL w v L []) (h255 : s.size ≤ 255) (hn : (frm (sn s) L).length ≤ 140737488355328) :
    Calls Tryd.prog 74 #[.string s, v] w fun e w' => e = .returned (.slice (some ⟨w.heap.size, 0, none⟩) (frm (sn s) L).length (frm (sn s) L).length) ∧
      RwK .u8 w' w.heap.size (frm (sn s) L).length 5 (fun i => (frm (sn s) L).getD i 0) ∧ Below w.heap.size w w' :=
  Frame_cut hL (by unfold maxLen; omega) (cut_small h255) hn
end Go.Proofs.YtebeacejlkiglaaDoor
namespace Go.Proofs.YtebeacejlkiglaaDoor
set_option maxRecDepth 100000
open Go.RowKit

/-- Block p holds a Writer that was made; v is its slice, of the bytes xs. -/
structure WrV (w : World) (p : Nat) (v : Value) (xs : List Int) : Prop where
  blk : w.heap[p]? = some (.cells #[.bool true, v] 95 (0, 0))
  own : w.ownsRow 0 5 1 v xs.length (bc xs)
section
variable {w w' : World} {p : Nat} {v : Value} {xs : List Int}
theorem WrV.lt (h : WrV w p v xs) : p < w.heap.size := (Array.getElem?_eq_some_iff.1 h.blk).1
theorem WrV.ne (h : WrV w p v xs) : v.ownBlock ≠ some p := by
  rcases h.own.2 with ⟨rfl, _⟩ | ⟨g, cap, cur, rfl, _, hg, _⟩
  · simp [Value.ownBlock]
  · intro e
    obtain rfl : g = p := by simpa [Value.ownBlock] using e
    rw [h.blk] at hg
    simp at hg
theorem WrV.chg {S : List Nat} (h : WrV w p v xs) (hc : Chg w w' S) (hp : p ∉ S) (hv : ∀ g, v.ownBlock = some g → g ∉ S) : WrV w' p v xs := by
  refine ⟨by rw [hc.block p h.lt hp]; exact h.blk, h.own.1, ?_⟩
  rcases h.own.2 with hn | ⟨g, cap, cur, rfl, hb, hg, r⟩
  · exact .inl hn
  · exact .inr ⟨g, cap, cur, rfl, hb, by rw [hc.block g (Array.getElem?_eq_some_iff.1 hg).1 (hv g rfl)]; exact hg, r⟩
theorem WrV.on (h : WrV w p v xs) (hb : Below w.heap.size w w') : WrV w' p v xs := h.chg (S := []) (Chg.below hb (Nat.le_refl _) []) (by simp) (fun _ _ => by simp)
theorem WrV.alloc (h : WrV w p v xs) (o : Obj) : WrV (w.alloc o) p v xs := h.on ((Below.refl _ _).alloc (Nat.le_refl _) o)
theorem WrV.drew (h : WrV w p v xs) : WrV w.drew p v xs := ⟨h.blk, h.own⟩
theorem WrV.cells (h : WrV w p v xs) : w.cell? ⟨p, 0, none⟩ = some (.bool true) ∧ w.cell? ⟨p, 1, none⟩ = some v ∧ w.frozen? ⟨p, 1, none⟩ = false :=
  ⟨by rw [Joins.cell_of_block h.blk]; rfl, by rw [Joins.cell_of_block h.blk]; rfl, Joins.unfrozen_of_block h.blk 1⟩
theorem WrV.rd (h : WrV w p v xs) : Rd w v xs := rd_of_row h.own
end

/-- A Writer behind some writing: of what there was in w its own block and its row alone may have changed. -/
def WSt (w : World) (p : Nat) (v : Value) (wr : World) (xs : List Int) : Prop :=
  ∃ v', WrV wr p v' xs ∧ Chg w wr (p :: v.ownBlock.toList) ∧ (v'.ownBlock = v.ownBlock ∨ ∀ g, v'.ownBlock = some g → w.heap.size ≤ g)
section
variable {w wr w1 : World} {p : Nat} {v v' v'' : Value} {xs ys : List Int}
theorem WSt.start (h : WrV w p v xs) : WSt w p v w xs := ⟨v, h, Chg.refl w _, .inl rfl⟩
theorem WSt.trans {a b c : World} {zs : List Int} (h : WSt a p v b ys) (k : ∀ u, WrV b p u ys → WSt b p u c zs) : WSt a p v c zs := by
  obtain ⟨v', h1, h2, h3⟩ := h
  obtain ⟨v'', k1, k2, k3⟩ := k v' h1
  refine ⟨v'', k1, h2.trans k2 ?_, ?_⟩
  · intro x hx hl
    rcases List.mem_cons.1 hx with rfl | hx
    · simp
    · rcases h3 with e | e
      · rw [e] at hx; exact List.mem_cons.2 (.inr hx)
      · have := e x (by simpa using hx); omega
  · rcases k3 with e | e
    · rw [e]
      rcases h3 with e' | e'
      · exact .inl e'
      · exact .inr e'
    · exact .inr fun g hg => Nat.le_trans h2.size (e g hg)
/-- Behind an append, and the store of the longer slice. -/
theorem WSt.step (h : WrV wr p v' xs) (hc : Chg w wr (p :: v.ownBlock.toList)) (hf : v'.ownBlock = v.ownBlock ∨ ∀ g, v'.ownBlock = some g → w.heap.size ≤ g)
    {m : Nat} (hm : ys.length = m) (own : w1.ownsRow 0 5 1 v'' (xs.length + m) (bc xs ++ bc ys)) (hg : wr.grownBy w1 v'.ownBlock) (hv : v''.ownBlock = v'.ownBlock ∨ v''.ownBlock = some wr.heap.size) :
    WSt w p v (w1.setCell ⟨p, 1, none⟩ v'') (xs ++ ys) := by
  subst hm
  have hp : p < w1.heap.size := Nat.lt_of_lt_of_le h.lt hg.size
  have hblk : w1.heap[p]? = some (.cells #[.bool true, v'] 95 (0, 0)) := by
    rw [hg.block p h.lt (fun e => h.ne e.symm)]; exact h.blk
  have hnp : v''.ownBlock ≠ some p := by
    rcases hv with e | e
    · rw [e]; exact h.ne
    · rw [e]; intro e'; have := h.lt; simp at e'; omega
  refine ⟨v'', ⟨?_, ?_⟩, ?_, ?_⟩
  · rw [Joins.block_setCell (i := 1) hblk v'']; rfl
  · rw [List.length_append, bc_append]
    refine ⟨own.1, ?_⟩
    rcases own.2 with hn | ⟨g, cap, cur, rfl, hb, hgg, r⟩
    · exact .inl hn
    · exact .inr ⟨g, cap, cur, rfl, hb, by rw [Below.heap_setCell _ _ _ _ (fun e => hnp (by simp only [Value.ownBlock]; rw [show g = p from e]))]; exact hgg, r⟩
  · refine (hc.trans (T := v'.ownBlock.toList) (Chg.grown hg (fun k hk => by simp [hk])) ?_).setCell (.inl (by simp)) v''
    intro x hx hl
    rcases hf with e | e
    · rw [e] at hx; exact List.mem_cons.2 (.inr hx)
    · have := e x (by simpa using hx); omega
  · rcases hv with e | e
    · rw [e]; exact hf
    · refine .inr fun g hg' => ?_
      rw [e] at hg'
      have := hc.size
      simp at hg'
      omega
end

theorem be8_get (n : Int) {k : Nat} (hk : k < 8) : (be8 n).take (k + 1) = (be8 n).take k ++ [n / 2 ^ (56 - 8 * k) % 256] := by
  have e : k = 0 ∨ k = 1 ∨ k = 2 ∨ k = 3 ∨ k = 4 ∨ k = 5 ∨ k = 6 ∨ k = 7 := by omega
  rcases e with rfl | rfl | rfl | rfl | rfl | rfl | rfl | rfl <;> simp [be8]

set_option maxHeartbeats 2000000 in
theorem putUint_any {w : World} {p : Nat} {v : Value} {xs : List Int} (h : WrV w p v xs) (hl : xs.length ≤ 65536) (n : Int) :
    Calls Tryd.prog 62 #[.pointer (some ⟨p, 0, none⟩), .int .u64 n] w fun e w' => e = .returned (.tuple #[]) ∧ WSt w p v w' (xs ++ be8 n) := by
  obtain ⟨i0, hi, hz0, hz1, hz2⟩ := info_parts Tryd.infoU8
  have H0 : Hid (WSt w p v w (xs ++ (be8 n).take 0)) := by
    show WSt w p v w _
    simpa using WSt.start h
  clear h
  replace hi := Lib.hid hi
  replace hz0 := Lib.hid hz0
  replace hz1 := Lib.hid hz1
  replace hz2 := Lib.hid hz2
  go_enter Tryd.func62, Tryd.ntmps62
  go_wp2_with fail
  go_loopw [4] (fun sv wr => ∃ k : Nat, sv = .int .i64 (56 - 8 * (k : Int)) ∧ k ≤ 8 ∧ Hid (WSt w p v wr (xs ++ (be8 n).take k))) (fun sv _ => (intOf sv + 8).toNat)
  case atStart => exact ⟨0, by simp, by omega, H0⟩
  case round =>
    clear H0
    obtain ⟨k, rfl, hk, hS⟩ := hrel
    by_cases hlt : k < 8
    · have hd : (0 : Int) ≤ 56 - 8 * (k : Int) := by omega
      obtain ⟨v', h1, h2, h3⟩ := hS.out
      have H1 := Lib.hid h1
      have H2 := Lib.hid (And.intro h2 h3)
      clear h2 h3 hS h1
      obtain ⟨-, c1, f1⟩ := H1.out.cells
      have hpl := H1.out.lt
      go_wp2_with fail
      refine wp_region_held_drew (S := fun _ => True) (by kernel_rfl) (trivial) (fun h0 => ?_)
      refine wpAnyH_take (i := 0) (v := ?_) (by rw [List.getElem?_toArray]; rfl) (by kernel_rfl) (by kernel_rfl) (by kernel_rfl) (by exact fun _ _ _ h => h) (Or.inl ⟨by rfl, ?_⟩) h0 ?_
      rotate_left
      · intro W hW
        go_simp
        all_goals with_reducible rfl
      try simp only [Act.put, List.setIfInBounds_toArray, List.set_cons_zero, List.set_cons_succ]
      refine wpAnyH_take (i := 1) (v := ?_) (by rw [List.getElem?_toArray]; rfl) (by kernel_rfl) (by kernel_rfl) (by kernel_rfl) (by exact fun _ _ _ h => h) (Or.inl ⟨by rfl, ?_⟩) h0 ?_
      rotate_left
      · intro W hW
        go_simp
        all_goals with_reducible rfl
      try simp only [Act.put, List.setIfInBounds_toArray, List.set_cons_zero, List.set_cons_succ]
      refine wpAnyH_take (i := 2) (v := ?_) (by rw [List.getElem?_toArray]; rfl) (by kernel_rfl) (by kernel_rfl) (by kernel_rfl) (by exact fun _ _ _ h => h) (Or.inl ⟨by rfl, ?_⟩) h0 ?_
      rotate_left
      · intro W hW
        go_simp
        all_goals with_reducible rfl
      try simp only [Act.put, List.setIfInBounds_toArray, List.set_cons_zero, List.set_cons_succ]
      refine wpAnyH_take (i := 3) (v := ?_) (by rw [List.getElem?_toArray]; rfl) (by kernel_rfl) (by kernel_rfl) (by kernel_rfl) (by exact fun _ _ _ h => h) (Or.inl ⟨by rfl, ?_⟩) h0 ?_
      rotate_left
      · intro W hW
        go_simp
        all_goals with_reducible rfl
      try simp only [Act.put, List.setIfInBounds_toArray, List.set_cons_zero, List.set_cons_succ]
      refine wpAnyH_take (i := 5) (v := ?_) (by rw [List.getElem?_toArray]; rfl) (by kernel_rfl) (by kernel_rfl) (by kernel_rfl) (by exact fun _ _ _ h => h) (Or.inl ⟨by rfl, ?_⟩) h0 ?_
      rotate_left
      · intro W hW
        go_simp
        all_goals with_reducible rfl
      try simp only [Act.put, List.setIfInBounds_toArray, List.set_cons_zero, List.set_cons_succ]
      refine wpAnyH_take (i := 6) (v := ?_) (by rw [List.getElem?_toArray]; rfl) (by kernel_rfl) (by kernel_rfl) (by kernel_rfl) (by exact fun _ _ _ h => h) (Or.inl ⟨by rfl, ?_⟩) h0 ?_
      rotate_left
      · intro W hW
        go_simp
        all_goals with_reducible rfl
      try simp only [Act.put, List.setIfInBounds_toArray, List.set_cons_zero, List.set_cons_succ]
      refine wpAnyH_take (i := 7) (v := ?_) (by rw [List.getElem?_toArray]; rfl) (by kernel_rfl) (by kernel_rfl) (by kernel_rfl) (by exact fun _ _ _ h => h) (Or.inl ⟨by rfl, ?_⟩) h0 ?_
      rotate_left
      · intro W hW
        go_simp
        all_goals with_reducible rfl
      try simp only [Act.put, List.setIfInBounds_toArray, List.set_cons_zero, List.set_cons_succ]
      refine wpAnyH_take (i := 8) (v := ?_) (by rw [List.getElem?_toArray]; rfl) (by kernel_rfl) (by kernel_rfl) (by kernel_rfl) (by exact fun _ _ _ h => h) (Or.inl ⟨by rfl, ?_⟩) h0 ?_
      rotate_left
      · intro W hW
        go_simp
        all_goals with_reducible rfl
      try simp only [Act.put, List.setIfInBounds_toArray, List.set_cons_zero, List.set_cons_succ]
      refine wpAnyH_ready (rs := [4, 9]) (by kernel_rfl) (by simp) ?_
      refine AllReadyH.cons (by rw [List.getElem?_toArray]; rfl) (fun K hK => ?_) (AllReadyH.cons (by rw [List.getElem?_toArray]; rfl) (fun K hK => ?_) AllReadyH.nil)
      · rw [if_pos (by rfl)]
        go_wp2_with fail
        refine hK.out _ _ (trivial) (fun _ => ?_)
        clear hK K
        try simp only [Act.put, List.setIfInBounds_toArray, List.set_cons_zero, List.set_cons_succ]
        refine wpAnyH_ready (rs := [9]) (by kernel_rfl) (by simp) ?_
        refine AllReadyH.cons (by rw [List.getElem?_toArray]; rfl) (fun K hK => ?_) AllReadyH.nil
        rw [if_pos (by rfl)]
        go_wp2_with fail
        refine hK.out _ _ (trivial) (fun _ => ?_)
        clear hK K
        try simp only [Act.put, List.setIfInBounds_toArray, List.set_cons_zero, List.set_cons_succ]
        refine wpAnyH_ready (rs := [10]) (by kernel_rfl) (by simp) ?_
        refine AllReadyH.cons (by rw [List.getElem?_toArray]; rfl) (fun K hK => ?_) AllReadyH.nil
        rw [if_pos (by rfl)]
        refine wp_append_row _ _ rfl Tryd.underlying42 hi.out hz0.out hz1.out hz2.out rfl (H1.out.alloc _).drew.own (Rd.src (xs := [n / 2 ^ (56 - 8 * k) % 256]) Tryd.underlying42 ?rd) ?b1 ?b2 ?_
        case rd => exact ⟨_, 1, rfl, .inr ⟨wr.heap.size, 0, rfl, fun j hj => by obtain rfl : j = 0 := (by simpa using hj); exact (Joins.cell_of_block (heap_alloc_new wr _) 0).trans rfl⟩⟩
        case b1 => simp; unfold maxLen; omega
        case b2 => simp; omega
        intro q2 k2 w2 own2 grow2 fr2
        have HN := Lib.hid (WSt.step (H1.out.alloc _).drew (H2.out.1.alloc _).drew (by exact H2.out.2) rfl own2 grow2 fr2)
        have c2 : w2.cell? ⟨p, 1, none⟩ = some v' := by
          rw [World.cell?_of_block (grow2.block p (by simp; omega) (fun e => H1.out.ne e.symm))]; exact (H1.out.alloc _).drew.cells.2.1
        have f2 : w2.frozen? ⟨p, 1, none⟩ = false := by
          rw [World.frozen?_of_block (grow2.block p (by simp; omega) (fun e => H1.out.ne e.symm))]; exact (H1.out.alloc _).drew.cells.2.2
        clear own2 grow2 fr2 c1 f1
        refine hK.out _ _ (trivial) (fun _ => ?_)
        clear hK K
        try simp only [Act.put, List.setIfInBounds_toArray, List.set_cons_zero, List.set_cons_succ]
        refine wpAnyH_take (i := 11) (v := ?_) (by rw [List.getElem?_toArray]; rfl) (by kernel_rfl) (by kernel_rfl) (by kernel_rfl) (by exact fun _ _ _ h => h) (Or.inl ⟨by rfl, ?_⟩) h0 ?_
        rotate_left
        · intro W hW
          go_simp
          all_goals with_reducible rfl
        try simp only [Act.put, List.setIfInBounds_toArray, List.set_cons_zero, List.set_cons_succ]
        refine wpAnyH_take (i := 12) (v := ?_) (by rw [List.getElem?_toArray]; rfl) (by kernel_rfl) (by kernel_rfl) (by kernel_rfl) (by exact fun _ _ _ h => h) (Or.inl ⟨by rfl, ?_⟩) h0 ?_
        rotate_left
        · intro W hW
          go_simp
          all_goals with_reducible rfl
        try simp only [Act.put, List.setIfInBounds_toArray, List.set_cons_zero, List.set_cons_succ]
        refine wpAnyH_ready (rs := [13]) (by kernel_rfl) (by simp) ?_
        refine AllReadyH.cons (by rw [List.getElem?_toArray]; rfl) (fun K hK => ?_) AllReadyH.nil
        rw [if_pos (by rfl)]
        go_wp2_with fail
        refine hK.out _ _ (trivial) (fun _ => ?_)
        clear hK K
        try simp only [Act.put, List.setIfInBounds_toArray, List.set_cons_zero, List.set_cons_succ]
        refine wpAnyH_done (by kernel_rfl) ?_ _
        go_wp2_with fail
        go_roundw
        case rel =>
          refine ⟨k + 1, by go_num, by omega, ?_⟩
          show WSt w p v _ _
          rw [be8_get n hlt, ← List.append_assoc]
          have L : (xs ++ List.take k (be8 n)).length + [n / 2 ^ (56 - 8 * k) % 256].length = xs.length + k + 1 := by simp; omega
          have := HN.out
          rw [L] at this
          exact this
        case measure => simp [intOf]; omega
      · rw [if_pos (by rfl)]
        go_wp2_with fail
        refine hK.out _ _ (trivial) (fun _ => ?_)
        clear hK K
        try simp only [Act.put, List.setIfInBounds_toArray, List.set_cons_zero, List.set_cons_succ]
        refine wpAnyH_ready (rs := [4]) (by kernel_rfl) (by simp) ?_
        refine AllReadyH.cons (by rw [List.getElem?_toArray]; rfl) (fun K hK => ?_) AllReadyH.nil
        rw [if_pos (by rfl)]
        go_wp2_with fail
        refine hK.out _ _ (trivial) (fun _ => ?_)
        clear hK K
        try simp only [Act.put, List.setIfInBounds_toArray, List.set_cons_zero, List.set_cons_succ]
        refine wpAnyH_ready (rs := [10]) (by kernel_rfl) (by simp) ?_
        refine AllReadyH.cons (by rw [List.getElem?_toArray]; rfl) (fun K hK => ?_) AllReadyH.nil
        rw [if_pos (by rfl)]
        refine wp_append_row _ _ rfl Tryd.underlying42 hi.out hz0.out hz1.out hz2.out rfl (H1.out.alloc _).drew.own (Rd.src (xs := [n / 2 ^ (56 - 8 * k) % 256]) Tryd.underlying42 ?rd) ?b1 ?b2 ?_
        case rd => exact ⟨_, 1, rfl, .inr ⟨wr.heap.size, 0, rfl, fun j hj => by obtain rfl : j = 0 := (by simpa using hj); exact (Joins.cell_of_block (heap_alloc_new wr _) 0).trans rfl⟩⟩
        case b1 => simp; unfold maxLen; omega
        case b2 => simp; omega
        intro q2 k2 w2 own2 grow2 fr2
        have HN := Lib.hid (WSt.step (H1.out.alloc _).drew (H2.out.1.alloc _).drew (by exact H2.out.2) rfl own2 grow2 fr2)
        have c2 : w2.cell? ⟨p, 1, none⟩ = some v' := by
          rw [World.cell?_of_block (grow2.block p (by simp; omega) (fun e => H1.out.ne e.symm))]; exact (H1.out.alloc _).drew.cells.2.1
        have f2 : w2.frozen? ⟨p, 1, none⟩ = false := by
          rw [World.frozen?_of_block (grow2.block p (by simp; omega) (fun e => H1.out.ne e.symm))]; exact (H1.out.alloc _).drew.cells.2.2
        clear own2 grow2 fr2 c1 f1
        refine hK.out _ _ (trivial) (fun _ => ?_)
        clear hK K
        try simp only [Act.put, List.setIfInBounds_toArray, List.set_cons_zero, List.set_cons_succ]
        refine wpAnyH_take (i := 11) (v := ?_) (by rw [List.getElem?_toArray]; rfl) (by kernel_rfl) (by kernel_rfl) (by kernel_rfl) (by exact fun _ _ _ h => h) (Or.inl ⟨by rfl, ?_⟩) h0 ?_
        rotate_left
        · intro W hW
          go_simp
          all_goals with_reducible rfl
        try simp only [Act.put, List.setIfInBounds_toArray, List.set_cons_zero, List.set_cons_succ]
        refine wpAnyH_take (i := 12) (v := ?_) (by rw [List.getElem?_toArray]; rfl) (by kernel_rfl) (by kernel_rfl) (by kernel_rfl) (by exact fun _ _ _ h => h) (Or.inl ⟨by rfl, ?_⟩) h0 ?_
        rotate_left
        · intro W hW
          go_simp
          all_goals with_reducible rfl
        try simp only [Act.put, List.setIfInBounds_toArray, List.set_cons_zero, List.set_cons_succ]
        refine wpAnyH_ready (rs := [13]) (by kernel_rfl) (by simp) ?_
        refine AllReadyH.cons (by rw [List.getElem?_toArray]; rfl) (fun K hK => ?_) AllReadyH.nil
        rw [if_pos (by rfl)]
        go_wp2_with fail
        refine hK.out _ _ (trivial) (fun _ => ?_)
        clear hK K
        try simp only [Act.put, List.setIfInBounds_toArray, List.set_cons_zero, List.set_cons_succ]
        refine wpAnyH_done (by kernel_rfl) ?_ _
        go_wp2_with fail
        go_roundw
        case rel =>
          refine ⟨k + 1, by go_num, by omega, ?_⟩
          show WSt w p v _ _
          rw [be8_get n hlt, ← List.append_assoc]
          have L : (xs ++ List.take k (be8 n)).length + [n / 2 ^ (56 - 8 * k) % 256].length = xs.length + k + 1 := by simp; omega
          have := HN.out
          rw [L] at this
          exact this
        case measure => simp [intOf]; omega
    · obtain rfl : k = 8 := by omega
      have hb := hS.out
      rw [show (be8 n).take 8 = be8 n from rfl] at hb
      replace hS := Lib.hid hb
      clear hb
      go_wp2_with fail
      go_end0
      exact ⟨rfl, hS.out⟩
end Go.Proofs.YtebeacejlkiglaaDoor
namespace Go.Proofs.YtebeacejlkiglaaDoor
set_option maxRecDepth 100000
open Go.RowKit

theorem NewWriter_any (w : World) : Calls Tryd.prog 41 #[] w fun e w' => e = .returned (.pointer (some ⟨w.heap.size, 0, none⟩)) ∧ w' = w.alloc (.cells #[.bool true, .slice none 0 0] 95) := by
  go_enter Tryd.func41, Tryd.ntmps41
  go_wp2_with fail
  go_ret
  exact ⟨rfl, rfl⟩
theorem WrV.new (w : World) : WrV (w.alloc (.cells #[.bool true, .slice none 0 0] 95)) w.heap.size (.slice none 0 0) [] :=
  ⟨heap_alloc_new w _, World.ownsRow_nil _ 0 _ 1⟩

/-- A new slice of the bytes xs, in memory of its own. -/
def NewRow (w : World) (xs : List Int) (v : Value) (w' : World) : Prop :=
  (∃ q c, v = .slice q xs.length c) ∧ w'.ownsRow 0 5 1 v xs.length (bc xs) ∧ Below w.heap.size w w' ∧ ∀ k, v.ownBlock = some k → w.heap.size ≤ k
theorem NewRow.rd {w w' : World} {xs : List Int} {v : Value} (h : NewRow w xs v w') : Rd w' v xs := rd_of_row h.2.1

set_option maxHeartbeats 1000000 in
theorem WBytes_any {w : World} {p : Nat} {v : Value} {xs : List Int} (h : WrV w p v xs) (hl : xs.length ≤ 65536) :
    Calls Tryd.prog 44 #[.pointer (some ⟨p, 0, none⟩)] w fun e w' => ∃ u, e = .returned u ∧ NewRow w xs u w' := by
  obtain ⟨i0, hi, hz0, hz1, hz2⟩ := info_parts Tryd.infoU8
  obtain ⟨qv, kv, rfl⟩ := h.rd.len
  obtain ⟨c0, c1, -⟩ := h.cells
  have hs := Lib.hid (h.rd.src (P := Tryd.prog) Tryd.underlying42)
  clear h
  replace hi := Lib.hid hi
  replace hz0 := Lib.hid hz0
  replace hz1 := Lib.hid hz1
  replace hz2 := Lib.hid hz2
  go_enter Tryd.func44, Tryd.ntmps44
  go_wp2_with (at_builtin; refine wpList_append_row rfl _ _ rfl Tryd.underlying42 hi.out hz0.out hz1.out hz2.out rfl (World.ownsRow_nil w 0 _ 1) hs.out ?b1 ?b2 ?_)
  case b1 => unfold maxLen; omega
  case b2 => omega
  intro q2 k2 w2 own2 grow2 fr2
  try simp only [Nat.zero_add, List.nil_append] at own2
  try simp only [Nat.zero_add, List.nil_append] at fr2
  try simp only [Nat.zero_add]
  have H2 := Lib.hid own2
  have HB := Lib.hid ((Below.refl w.heap.size w).grown grow2 (Nat.le_refl _) (by intro k hk; simp [Value.ownBlock] at hk))
  have HF : Hid (∀ k, (Value.slice q2 xs.length k2).ownBlock = some k → w.heap.size ≤ k) := fun k hk => by
    rcases fr2 with e | e
    · rw [e] at hk; simp [Value.ownBlock] at hk
    · rw [e] at hk; simp at hk; omega
  clear own2 grow2 fr2 c0 c1 hs
  go_wp2_with fail
  go_ret
  exact ⟨_, rfl, ⟨_, _, rfl⟩, H2.out, HB.out, HF.out⟩

/-! ### Lists of slices -/
theorem WSt.of_eq {w wr : World} {p : Nat} {v : Value} {xs ys : List Int} (h : WSt w p v wr xs) (e : xs = ys) : WSt w p v wr ys := e ▸ h
theorem WSt.own {w wr : World} {p : Nat} {v : Value} {xs : List Int} (h : WSt w p v wr xs) : ∃ q c, WrV wr p (.slice q xs.length c) xs ∧ Chg w wr (p :: v.ownBlock.toList) ∧ ((Value.slice q xs.length c).ownBlock = v.ownBlock ∨ ∀ g, (Value.slice q xs.length c).ownBlock = some g → w.heap.size ≤ g) := by
  obtain ⟨v', h1, h2, h3⟩ := h
  obtain ⟨q, c, rfl⟩ := h1.rd.len
  exact ⟨q, c, h1, h2, h3⟩
end Go.Proofs.YtebeacejlkiglaaDoor
