/-
  The document's reader.; The document's reader: numbers, counts, its end.
-/
import Derived.Test.YtonjkhhihiigfaaDv4
namespace Go.Proofs.Ytonjkhhihiigfaa
set_option maxRecDepth 100000
open Go.RowKit

theorem blk_onB2 {w w' : World} {b : Nat} {x : Obj} (h : w.heap[b]? = some x) (hb : Below w.heap.size w w') : w'.heap[b]? = some x := by
  rw [hb.block b (Array.getElem?_eq_some_iff.1 h).1]; exact h
structure DrV (w : World) (p : Nat) (v : Value) (xs : List Int) (pos : Nat) : Prop where
  blk : w.heap[p]? = some (.cells #[v, .int .i64 pos, .int .i64 0] 94 (0, 0))
  own : w.ownsRow 0 5 1 v xs.length (bc xs)
  le : pos ≤ xs.length
  len : xs.length ≤ 140737488355328
section
variable {w w' : World} {p : Nat} {v : Value} {xs : List Int} {pos : Nat}
theorem DrV.lt (h : DrV w p v xs pos) : p < w.heap.size := (Array.getElem?_eq_some_iff.1 h.blk).1
theorem DrV.ne (h : DrV w p v xs pos) : v.ownBlock ≠ some p := own_ne h.own h.blk (by decide)
theorem DrV.chg {S : List Nat} (h : DrV w p v xs pos) (hc : Chg w w' S) (hp : p ∉ S) (hv : ∀ g, v.ownBlock = some g → g ∉ S) : DrV w' p v xs pos :=
  ⟨by rw [hc.block p h.lt hp]; exact h.blk, own_chg h.own hc hv, h.le, h.len⟩
theorem DrV.on (h : DrV w p v xs pos) (hb : Below w.heap.size w w') : DrV w' p v xs pos := h.chg (S := []) (Chg.below hb (Nat.le_refl _) []) (by simp) (fun _ _ => by simp)
theorem DrV.drewN (h : DrV w p v xs pos) (m : Nat) : DrV (w.drewN m) p v xs pos := ⟨h.blk, h.own, h.le, h.len⟩
theorem DrV.pass (h : DrV w p v xs pos) {q : Nat} (hq : q ≤ xs.length) : DrV (w.setCell ⟨p, 1, none⟩ (.int .i64 q)) p v xs q := by
  refine ⟨by rw [Joins.block_setCell (i := 1) h.blk]; rfl, own_chg h.own ((Chg.refl w [p]).setCell (.inl (by simp)) _) (fun g hg => ?_), hq, h.len⟩
  intro hm
  obtain rfl := List.mem_singleton.1 hm
  exact h.ne hg
end
def DrF (w : World) (p : Nat) : Prop := ∃ (v : Value) (pos : Int) (f : Int), f ≠ 0 ∧ w.heap[p]? = some (.cells #[v, .int .i64 pos, .int .i64 f] 94 (0, 0))
theorem DrF.on {w w' : World} {p : Nat} (h : DrF w p) (hb : Below w.heap.size w w') : DrF w' p := by
  obtain ⟨v, pos, f, h1, h2⟩ := h
  exact ⟨v, pos, f, h1, by rw [hb.block p (Array.getElem?_eq_some_iff.1 h2).1]; exact h2⟩
theorem DrF.lt {w : World} {p : Nat} (h : DrF w p) : p < w.heap.size := by
  obtain ⟨v, pos, f, h1, h2⟩ := h
  exact (Array.getElem?_eq_some_iff.1 h2).1

set_option maxHeartbeats 1000000 in
theorem rdNew_any {w : World} {a : Value} {xs : List Int} (h : Rd w a xs) (hl : xs.length ≤ 140737488355328) :
    Calls Try.prog 33 #[a] w fun e w' => ∃ p v, e = .returned (.pointer (some ⟨p, 0, none⟩)) ∧ DrV w' p v xs 0 ∧ w.heap.size ≤ p ∧ Below w.heap.size w w' ∧ ∀ k, v.ownBlock = some k → w.heap.size ≤ k := by
  obtain ⟨i0, hi, hz0, hz1, hz2⟩ := info_parts Try.infoU8
  obtain ⟨qv, kv, rfl⟩ := h.len
  have b1 : Below w.heap.size w (w.alloc (.cells #[] 5)) := (Below.refl _ _).alloc (Nat.le_refl _) _
  have hs := Lib.hid ((h.on b1).src (P := Try.prog) Try.underlying50)
  have E1 := own_empty w 5 1
  clear h
  replace hi := Lib.hid hi
  replace hz0 := Lib.hid hz0
  replace hz1 := Lib.hid hz1
  replace hz2 := Lib.hid hz2
  go_enter Try.func33, Try.ntmps33
  go_wp2_with (at_builtin; refine wpList_append_row rfl _ _ rfl Try.underlying50 hi.out hz0.out hz1.out hz2.out rfl E1 hs.out ?b1 ?b2 ?_)
  case b1 => unfold maxLen; omega
  case b2 => omega
  intro q2 k2 w2 own2 grow2 fr2
  try simp only [Nat.zero_add, List.nil_append] at own2
  try simp only [Nat.zero_add, List.nil_append] at fr2
  try simp only [Nat.zero_add]
  have H2 := Lib.hid own2
  have HB := Lib.hid (b1.grown grow2 b1.size (by intro k hk; simp [Value.ownBlock] at hk; omega))
  have HF : Hid (∀ k, (Value.slice q2 xs.length k2).ownBlock = some k → w.heap.size ≤ k) := fun k hk => by
    rcases fr2 with e | e
    · rw [e] at hk; simp [Value.ownBlock] at hk; omega
    · rw [e] at hk; simp at hk; omega
  clear own2 grow2 fr2 hs E1 b1
  have hz := HB.out.size
  go_wp2_with fail
  go_ret
  exact ⟨_, _, rfl, ⟨heap_alloc_new w2 _, own_chg H2.out (Chg.below ((Below.refl _ _).alloc (Nat.le_refl _) _) (Nat.le_refl _) []) (fun _ _ => by simp), by omega, hl⟩, hz, HB.out.alloc hz _, HF.out⟩

theorem rdLeft_ok {w : World} {p : Nat} {v : Value} {xs : List Int} {pos : Nat} (h : DrV w p v xs pos) :
    Calls Try.prog 50 #[.pointer (some ⟨p, 0, none⟩)] w fun e w' => ∃ m, e = .returned (.int .i64 ((xs.length : Int) - (pos : Int))) ∧ w' = w.drewN m := by
  have hlen := h.len
  have hle := h.le
  obtain ⟨qv, kv, rfl⟩ := (rd_of_row h.own).len
  have c0 := (Joins.cell_of_block h.blk 0).trans (rfl : _ = some _)
  have c1 := (Joins.cell_of_block h.blk 1).trans (rfl : _ = some _)
  clear h
  go_enter Try.func50, Try.ntmps50
  go_wp2_with fail
  go_quiet (fail)
  go_wp2_with fail
  go_ret
  exact ⟨_, rfl, rfl⟩

theorem rdTake_bad {w : World} {p : Nat} {n : Int} (h : DrF w p) :
    Calls Try.prog 47 #[.pointer (some ⟨p, 0, none⟩), .int .i64 n] w fun e w' => e = .returned (.slice none 0 0) ∧ w' = w := by
  obtain ⟨v, pos, f, h1, h2⟩ := h
  have c2 := (Joins.cell_of_block h2 2).trans (rfl : _ = some _)
  have d0 : (f == 0) = false := by simpa using h1
  clear h2 h1
  go_enter Try.func47, Try.ntmps47
  go_wp2_with fail
  go_ret
  exact ⟨rfl, rfl⟩
set_option maxHeartbeats 1000000 in
theorem rdTake_end {w : World} {p : Nat} {v : Value} {xs : List Int} {pos n : Nat} (h : DrV w p v xs pos) (_hn : n ≤ 1000000) (hf : xs.length < pos + n) :
    Calls Try.prog 47 #[.pointer (some ⟨p, 0, none⟩), .int .i64 n] w fun e w' => e = .returned (.slice none 0 0) ∧ DrF w' p ∧ Chg w w' [p] := by
  have H := Lib.hid h
  have hlen := h.len
  have hle := h.le
  have hg : (xs.length : Int) - (pos : Int) < (n : Int) := by omega
  have c2 := (Joins.cell_of_block h.blk 2).trans (rfl : _ = some _)
  clear h
  go_enter Try.func47, Try.ntmps47
  go_wp2_with fail
  refine (rdLeft_ok H.out).mono ?_
  rintro e w1 ⟨m, rfl, rfl⟩
  have H1 := H.out.drewN m
  have c2 := (Joins.cell_of_block H1.blk 2).trans (rfl : _ = some _)
  have f2 := Joins.unfrozen_of_block H1.blk 2
  have HF : Hid (DrF ((w.drewN m).setCell ⟨p, 2, none⟩ (.int .i64 20)) p) := ⟨v, pos, 20, by decide, by rw [Joins.block_setCell (i := 2) H1.blk]; rfl⟩
  have HC : Hid (Chg w ((w.drewN m).setCell ⟨p, 2, none⟩ (.int .i64 20)) [p]) := (show Chg w (w.drewN m) [p] from ⟨rfl, rfl, rfl, Nat.le_refl _, fun _ _ _ => rfl⟩).setCell (.inl (by simp)) _
  clear H1
  go_wp2_with fail
  go_ret
  exact ⟨rfl, HF.out, HC.out⟩
set_option maxHeartbeats 4000000 in
theorem rdTake_ok {w : World} {p : Nat} {v : Value} {xs : List Int} {pos n : Nat} (h : DrV w p v xs pos) (hn0 : 0 < n) (hn : n ≤ 64) (hf : pos + n ≤ xs.length) :
    Calls Try.prog 47 #[.pointer (some ⟨p, 0, none⟩), .int .i64 n] w fun e w' => ∃ q c, e = .returned (.slice q n c) ∧ Rd w' (.slice q n c) ((xs.drop pos).take n) ∧ DrV w' p v xs (pos + n) ∧ Chg w w' [p] ∧ ∀ a, q = some a → w.heap.size ≤ a.block := by
  obtain ⟨i0, hi, hz0, hz1, hz2⟩ := info_parts Try.infoU8
  replace hi := Lib.hid hi
  replace hz0 := Lib.hid hz0
  replace hz1 := Lib.hid hz1
  replace hz2 := Lib.hid hz2
  have hlen := h.len
  have hpl := h.lt
  rcases h.own.2 with ⟨rfl, h0⟩ | ⟨g, cap, cur, rfl, _, hg, hcap, hcm, hcs, htake⟩
  · omega
  have H := Lib.hid h
  have lT : ((xs.drop pos).take n).length = n := by simp; omega
  have c2 := (Joins.cell_of_block h.blk 2).trans (rfl : _ = some _)
  have hle : ¬ (xs.length : Int) - (pos : Int) < (n : Int) := by omega
  unfold maxLen at hcm
  have hne : ¬ cap = pos := by omega
  clear h hg hcs htake
  go_enter Try.func47, Try.ntmps47
  go_wp2_with fail
  refine (rdLeft_ok H.out).mono ?_
  rintro e w0 ⟨m, rfl, rfl⟩
  have H1 := Lib.hid (H.out.drewN m)
  have c1 := (Joins.cell_of_block H1.out.blk 1).trans (rfl : _ = some _)
  have c2 := (Joins.cell_of_block H1.out.blk 2).trans (rfl : _ = some _)
  have f1 := Joins.unfrozen_of_block H1.out.blk 1
  have D1 : Hid (DrV ((w.drewN m).setCell ⟨p, 1, none⟩ (.int .i64 ((pos : Int) + (n : Int)))) p (.slice (some ⟨g, 0, none⟩) xs.length cap) xs (pos + n)) := by
    have := H1.out.pass (q := pos + n) hf
    rw [show ((pos + n : Nat) : Int) = (pos : Int) + (n : Int) by push_cast; rfl] at this
    exact this
  have C1 : Hid (Chg w ((w.drewN m).setCell ⟨p, 1, none⟩ (.int .i64 ((pos : Int) + (n : Int)))) [p]) := (show Chg w (w.drewN m) [p] from ⟨rfl, rfl, rfl, Nat.le_refl _, fun _ _ _ => rfl⟩).setCell (.inl (by simp)) _
  clear H
  go_wp2_with fail
  clear c1 c2 f1 H1
  generalize hw1 : (w.drewN m).setCell ⟨p, 1, none⟩ (.int .i64 ((pos : Int) + (n : Int))) = w1 at *
  clear hw1
  have HP1 : Hid (w1.heap[p]? = some (.cells #[.slice (some ⟨g, 0, none⟩) xs.length cap, .int .i64 ((pos : Int) + (n : Int)), .int .i64 0] 94 (0, 0))) := by
    have := D1.out.blk
    rw [show ((pos + n : Nat) : Int) = (pos : Int) + (n : Int) by push_cast; rfl] at this
    exact this
  have HRD : Hid (Rd w1 (.slice (some ⟨g, pos, none⟩) n (cap - pos)) ((xs.drop pos).take n)) := by
    refine ⟨_, cap - pos, by rw [lT], .inr ⟨g, pos, rfl, fun i hi => ?_⟩⟩
    rw [lT] at hi
    have := D1.out.own.cells (g := g) rfl (pos + i) (.int .u8 (xs.getD (pos + i) 0)) (by simp [bc, List.getD, show pos + i < xs.length by omega])
    rw [addr_add, Nat.zero_add] at this
    rw [this]
    simp [List.getD, hi]
  have k1 : IntKind.i64.wrap ((pos : Int) + (n : Int) - (n : Int)) = (pos : Int) := by rw [Int.add_sub_cancel]; exact IntWalk.i64_in _ (by omega)
  have k2 : IntKind.i64.wrap (pos : Int) = (pos : Int) := IntWalk.i64_in _ (by omega)
  have j5 : (0 : Int) ≤ (pos : Int) + (n : Int) := by omega
  have j0 : (0 : Int) ≤ (pos : Int) := by omega
  have j1 : (pos : Int) ≤ (pos : Int) + (n : Int) := by omega
  have j2 : (pos : Int) + (n : Int) ≤ (cap : Int) := by omega
  have j3 : ((pos : Int) + (n : Int)).toNat = pos + n := by omega
  have j4 : pos + n - pos = n := by omega
  refine wp_region_held_drew (S := fun W => W.heap[p]? = some (.cells #[.slice (some ⟨g, 0, none⟩) xs.length cap, .int .i64 ((pos : Int) + (n : Int)), .int .i64 0] 94 (0, 0))) (by kernel_rfl) (HP1.out) (fun h0 => ?_)
  refine wpAnyH_take (i := 1) (v := ?_) (by rw [List.getElem?_toArray]; rfl) (by kernel_rfl) (by kernel_rfl) (by kernel_rfl) (by exact fun _ _ _ h => h) (Or.inl ⟨by rfl, ?_⟩) h0 ?_
  rotate_left
  · intro W hW
    go_simp
    all_goals with_reducible rfl
  try simp only [Act.put, List.setIfInBounds_toArray, List.set_cons_zero, List.set_cons_succ]
  refine wpAnyH_take (i := 2) (v := ?_) (by rw [List.getElem?_toArray]; rfl) (by kernel_rfl) (by kernel_rfl) (by kernel_rfl) (by exact fun _ _ _ h => h) (Or.inl ⟨by rfl, ?_⟩) h0 ?_
  rotate_left
  · intro W hW
    go_simp
    all_goals with_reducible rfl
  try simp only [Act.put, List.setIfInBounds_toArray, List.set_cons_zero, List.set_cons_succ]
  refine wpAnyH_take (i := 3) (v := ?_) (by rw [List.getElem?_toArray]; rfl) (by kernel_rfl) (by kernel_rfl) (by kernel_rfl) (by exact fun _ _ _ h => h) (Or.inl ⟨by rfl, ?_⟩) h0 ?_
  rotate_left
  · intro W hW
    go_simp
    all_goals with_reducible rfl
  try simp only [Act.put, List.setIfInBounds_toArray, List.set_cons_zero, List.set_cons_succ]
  refine wpAnyH_take (i := 4) (v := ?_) (by rw [List.getElem?_toArray]; rfl) (by kernel_rfl) (by kernel_rfl) (by kernel_rfl) (by exact fun _ _ _ h => h) (Or.inl ⟨by rfl, ?_⟩) h0 ?_
  rotate_left
  · intro W hW
    have cc := (Joins.cell_of_block hW 0).trans (rfl : _ = some _)
    go_simp
    all_goals with_reducible rfl
  try simp only [Act.put, List.setIfInBounds_toArray, List.set_cons_zero, List.set_cons_succ]
  refine wpAnyH_take (i := 5) (v := ?_) (by rw [List.getElem?_toArray]; rfl) (by kernel_rfl) (by kernel_rfl) (by kernel_rfl) (by exact fun _ _ _ h => h) (Or.inl ⟨by rfl, ?_⟩) h0 ?_
  rotate_left
  · intro W hW
    go_simp
    all_goals with_reducible rfl
  try simp only [Act.put, List.setIfInBounds_toArray, List.set_cons_zero, List.set_cons_succ]
  refine wpAnyH_take (i := 6) (v := ?_) (by rw [List.getElem?_toArray]; rfl) (by kernel_rfl) (by kernel_rfl) (by kernel_rfl) (by exact fun _ _ _ h => h) (Or.inl ⟨by rfl, ?_⟩) h0 ?_
  rotate_left
  · intro W hW
    go_simp
    all_goals with_reducible rfl
  try simp only [Act.put, List.setIfInBounds_toArray, List.set_cons_zero, List.set_cons_succ]
  refine wpAnyH_take (i := 7) (v := ?_) (by rw [List.getElem?_toArray]; rfl) (by kernel_rfl) (by kernel_rfl) (by kernel_rfl) (by exact fun _ _ _ h => h) (Or.inl ⟨by rfl, ?_⟩) h0 ?_
  rotate_left
  · intro W hW
    go_simp
    all_goals with_reducible rfl
  try simp only [Act.put, List.setIfInBounds_toArray, List.set_cons_zero, List.set_cons_succ]
  refine wpAnyH_take (i := 8) (v := ?_) (by rw [List.getElem?_toArray]; rfl) (by kernel_rfl) (by kernel_rfl) (by kernel_rfl) (by exact fun _ _ _ h => h) (Or.inl ⟨by rfl, ?_⟩) h0 ?_
  rotate_left
  · intro W hW
    have cc := (Joins.cell_of_block hW 1).trans (rfl : _ = some _)
    go_simp
    all_goals with_reducible rfl
  try simp only [Act.put, List.setIfInBounds_toArray, List.set_cons_zero, List.set_cons_succ]
  refine wpAnyH_take (i := 9) (v := ?_) (by rw [List.getElem?_toArray]; rfl) (by kernel_rfl) (by kernel_rfl) (by kernel_rfl) (by exact fun _ _ _ h => h) (Or.inl ⟨by rfl, ?_⟩) h0 ?_
  rotate_left
  · intro W hW
    go_simp
    all_goals with_reducible rfl
  try simp only [Act.put, List.setIfInBounds_toArray, List.set_cons_zero, List.set_cons_succ]
  refine wpAnyH_take (i := 10) (v := ?_) (by rw [List.getElem?_toArray]; rfl) (by kernel_rfl) (by kernel_rfl) (by kernel_rfl) (by exact fun _ _ _ h => h) (Or.inl ⟨by rfl, ?_⟩) h0 ?_
  rotate_left
  · intro W hW
    go_simp
    all_goals with_reducible rfl
  try simp only [Act.put, List.setIfInBounds_toArray, List.set_cons_zero, List.set_cons_succ]
  refine wpAnyH_take (i := 11) (v := ?_) (by rw [List.getElem?_toArray]; rfl) (by kernel_rfl) (by kernel_rfl) (by kernel_rfl) (by exact fun _ _ _ h => h) (Or.inl ⟨by rfl, ?_⟩) h0 ?_
  rotate_left
  · intro W hW
    go_simp
    all_goals with_reducible rfl
  try simp only [Act.put, List.setIfInBounds_toArray, List.set_cons_zero, List.set_cons_succ]
  refine wpAnyH_take (i := 12) (v := ?_) (by rw [List.getElem?_toArray]; rfl) (by kernel_rfl) (by kernel_rfl) (by kernel_rfl) (by exact fun _ _ _ h => h) (Or.inl ⟨by rfl, ?_⟩) h0 ?_
  rotate_left
  · intro W hW
    go_simp
    all_goals with_reducible rfl
  try simp only [Act.put, List.setIfInBounds_toArray, List.set_cons_zero, List.set_cons_succ]
  refine wpAnyH_take (i := 13) (v := ?_) (by rw [List.getElem?_toArray]; rfl) (by kernel_rfl) (by kernel_rfl) (by kernel_rfl) (by exact fun _ _ _ h => h) (Or.inl ⟨by rfl, ?_⟩) h0 ?_
  rotate_left
  · intro W hW
    go_simp
    all_goals with_reducible rfl
  try simp only [Act.put, List.setIfInBounds_toArray, List.set_cons_zero, List.set_cons_succ]
  refine wpAnyH_take (i := 14) (v := ?_) (by rw [List.getElem?_toArray]; rfl) (by kernel_rfl) (by kernel_rfl) (by kernel_rfl) (by exact fun _ _ _ h => h) (Or.inl ⟨by rfl, ?_⟩) h0 ?_
  rotate_left
  · intro W hW
    have cc := (Joins.cell_of_block hW 1).trans (rfl : _ = some _)
    go_simp
    all_goals with_reducible rfl
  try simp only [Act.put, List.setIfInBounds_toArray, List.set_cons_zero, List.set_cons_succ]
  refine wpAnyH_take (i := 15) (v := ?_) (by rw [List.getElem?_toArray]; rfl) (by kernel_rfl) (by kernel_rfl) (by kernel_rfl) (by exact fun _ _ _ h => h) (Or.inl ⟨by rfl, ?_⟩) h0 ?_
  rotate_left
  · intro W hW
    go_simp
    all_goals with_reducible rfl
  try simp only [Act.put, List.setIfInBounds_toArray, List.set_cons_zero, List.set_cons_succ]
  refine wpAnyH_ready (rs := [0]) (by kernel_rfl) (by simp) ?_
  refine AllReadyH.cons (by rw [List.getElem?_toArray]; rfl) (fun K hK => ?_) AllReadyH.nil
  rw [if_pos (by rfl)]
  have b3 : Below w1.heap.size w1 (w1.alloc (.cells #[] 5)) := (Below.refl _ _).alloc (Nat.le_refl _) _
  have D3 := Lib.hid (D1.out.on b3)
  have B3 := Lib.hid b3
  have E3 := Lib.hid (own_empty w1 5 1)
  have P3 : Hid ((w1.alloc (.cells #[] 5)).heap[p]? = some (.cells #[.slice (some ⟨g, 0, none⟩) xs.length cap, .int .i64 ((pos : Int) + (n : Int)), .int .i64 0] 94 (0, 0))) := Lib.hid (blk_onB2 HP1.out b3)
  have V3 : Hid (Rd (w1.alloc (.cells #[] 5)) (.slice (some ⟨g, pos, none⟩) n (cap - pos)) ((xs.drop pos).take n)) := HRD.out.on b3
  clear b3
  go_wp2_with fail
  refine hK.out _ _ (P3.out) (fun h3 => ?_)
  clear hK K
  try simp only [Act.put, List.setIfInBounds_toArray, List.set_cons_zero, List.set_cons_succ]
  generalize hw3 : (w1.alloc (.cells #[] 5)) = w3 at *
  clear hw3
  refine wpAnyH_ready (rs := [16]) (by kernel_rfl) (by simp) ?_
  refine AllReadyH.cons (by rw [List.getElem?_toArray]; rfl) (fun K hK => ?_) AllReadyH.nil
  rw [if_pos (by rfl)]
  refine wp_append_row _ _ rfl Try.underlying50 hi.out hz0.out hz1.out hz2.out rfl (show w3.drew.ownsRow 0 _ 1 (.slice (some ⟨w1.heap.size, 0, none⟩) 0 0) 0 [] from E3.out) ((show Rd w3.drew (.slice (some ⟨g, pos, none⟩) n (cap - pos)) ((xs.drop pos).take n) from V3.out).src (P := Try.prog) Try.underlying50) (by rw [lT]; unfold maxLen; omega) (by rw [lT]; omega) ?_
  intro q6 k6 w6 own6' grow6' fr6'
  have grow6 : w3.drew.grownBy w6 (Value.slice (some ⟨w1.heap.size, 0, none⟩) 0 0).ownBlock := grow6'
  have own6 : w6.ownsRow 0 5 1 (.slice q6 n k6) n (bc ((xs.drop pos).take n)) := by have := own6'; simp only [lT, Nat.zero_add, List.nil_append] at this; exact this
  have G6 : Hid (Below w1.heap.size w1 w6) := B3.out.drew.grown grow6 B3.out.drew.size (fun j hj => by simp [Value.ownBlock] at hj; omega)
  have D6 := Lib.hid (D1.out.on G6.out)
  have P6 : Hid (w6.heap[p]? = some (.cells #[.slice (some ⟨g, 0, none⟩) xs.length cap, .int .i64 ((pos : Int) + (n : Int)), .int .i64 0] 94 (0, 0))) := Lib.hid (blk_onB2 HP1.out G6.out)
  have R6 := Lib.hid (rd_of_row own6)
  have F6 : Hid (∀ a, q6 = some a → w1.heap.size ≤ a.block) := fun a ha => by
    subst ha
    rcases fr6' with e | e
    · have e' : (Value.slice (some a) (0 + ((xs.drop pos).take n).length) k6).ownBlock = (Value.slice (some ⟨w1.heap.size, 0, none⟩) 0 0).ownBlock := e
      simp [Value.ownBlock] at e'; omega
    · have e' : (Value.slice (some a) (0 + ((xs.drop pos).take n).length) k6).ownBlock = some w3.drew.heap.size := e
      have := B3.out.drew.size
      simp [Value.ownBlock] at e' this; omega
  simp only [lT, Nat.zero_add]
  clear own6' grow6' fr6' own6 grow6
  refine hK.out _ _ (P6.out) (fun h6 => ?_)
  clear hK K
  try simp only [Act.put, List.setIfInBounds_toArray, List.set_cons_zero, List.set_cons_succ]
  refine wpAnyH_take (i := 17) (v := ?_) (by rw [List.getElem?_toArray]; rfl) (by kernel_rfl) (by kernel_rfl) (by kernel_rfl) (by exact fun _ _ _ h => h) (Or.inl ⟨by rfl, ?_⟩) h6 ?_
  rotate_left
  · intro W hW
    go_simp
    all_goals with_reducible rfl
  try simp only [Act.put, List.setIfInBounds_toArray, List.set_cons_zero, List.set_cons_succ]
  refine wpAnyH_done (by kernel_rfl) ?_ _
  go_wp2_with fail
  go_ret
  exact ⟨q6, k6, rfl, R6.out, D6.out, C1.out.trans (Chg.below G6.out (Nat.le_refl _) [p]) (fun x hx _ => hx), fun a ha => Nat.le_trans C1.out.size (F6.out a ha)⟩
set_option maxHeartbeats 4000000 in
theorem rdTake_any {w : World} {p : Nat} {v : Value} {xs : List Int} {pos n : Nat} (h : DrV w p v xs pos) (hx0 : 0 < xs.length) (hn : n ≤ 1000000) (hf : pos + n ≤ xs.length) :
    Calls Try.prog 47 #[.pointer (some ⟨p, 0, none⟩), .int .i64 n] w fun e w' => ∃ q c, e = .returned (.slice q n c) ∧ Rd w' (.slice q n c) ((xs.drop pos).take n) ∧ DrV w' p v xs (pos + n) ∧ Chg w w' [p] ∧ ∀ a, q = some a → w.heap.size ≤ a.block := by
  obtain ⟨i0, hi, hz0, hz1, hz2⟩ := info_parts Try.infoU8
  replace hi := Lib.hid hi
  replace hz0 := Lib.hid hz0
  replace hz1 := Lib.hid hz1
  replace hz2 := Lib.hid hz2
  have hlen := h.len
  have hpl := h.lt
  rcases h.own.2 with ⟨rfl, h0⟩ | ⟨g, cap, cur, rfl, _, hg, hcap, hcm, hcs, htake⟩
  · omega
  have H := Lib.hid h
  have lT : ((xs.drop pos).take n).length = n := by simp; omega
  have c2 := (Joins.cell_of_block h.blk 2).trans (rfl : _ = some _)
  have hle : ¬ (xs.length : Int) - (pos : Int) < (n : Int) := by omega
  unfold maxLen at hcm
  by_cases hne : cap = pos
  rotate_left
  · clear h hg hcs htake
    go_enter Try.func47, Try.ntmps47
    go_wp2_with fail
    refine (rdLeft_ok H.out).mono ?_
    rintro e w0 ⟨m, rfl, rfl⟩
    have H1 := Lib.hid (H.out.drewN m)
    have c1 := (Joins.cell_of_block H1.out.blk 1).trans (rfl : _ = some _)
    have c2 := (Joins.cell_of_block H1.out.blk 2).trans (rfl : _ = some _)
    have f1 := Joins.unfrozen_of_block H1.out.blk 1
    have D1 : Hid (DrV ((w.drewN m).setCell ⟨p, 1, none⟩ (.int .i64 ((pos : Int) + (n : Int)))) p (.slice (some ⟨g, 0, none⟩) xs.length cap) xs (pos + n)) := by
      have := H1.out.pass (q := pos + n) hf
      rw [show ((pos + n : Nat) : Int) = (pos : Int) + (n : Int) by push_cast; rfl] at this
      exact this
    have C1 : Hid (Chg w ((w.drewN m).setCell ⟨p, 1, none⟩ (.int .i64 ((pos : Int) + (n : Int)))) [p]) := (show Chg w (w.drewN m) [p] from ⟨rfl, rfl, rfl, Nat.le_refl _, fun _ _ _ => rfl⟩).setCell (.inl (by simp)) _
    clear H
    go_wp2_with fail
    clear c1 c2 f1 H1
    generalize hw1 : (w.drewN m).setCell ⟨p, 1, none⟩ (.int .i64 ((pos : Int) + (n : Int))) = w1 at *
    clear hw1
    have HP1 : Hid (w1.heap[p]? = some (.cells #[.slice (some ⟨g, 0, none⟩) xs.length cap, .int .i64 ((pos : Int) + (n : Int)), .int .i64 0] 94 (0, 0))) := by
      have := D1.out.blk
      rw [show ((pos + n : Nat) : Int) = (pos : Int) + (n : Int) by push_cast; rfl] at this
      exact this
    have HRD : Hid (Rd w1 (.slice (some ⟨g, pos, none⟩) n (cap - pos)) ((xs.drop pos).take n)) := by
      refine ⟨_, cap - pos, by rw [lT], .inr ⟨g, pos, rfl, fun i hi => ?_⟩⟩
      rw [lT] at hi
      have := D1.out.own.cells (g := g) rfl (pos + i) (.int .u8 (xs.getD (pos + i) 0)) (by simp [bc, List.getD, show pos + i < xs.length by omega])
      rw [addr_add, Nat.zero_add] at this
      rw [this]
      simp [List.getD, hi]
    have k1 : IntKind.i64.wrap ((pos : Int) + (n : Int) - (n : Int)) = (pos : Int) := by rw [Int.add_sub_cancel]; exact IntWalk.i64_in _ (by omega)
    have k2 : IntKind.i64.wrap (pos : Int) = (pos : Int) := IntWalk.i64_in _ (by omega)
    have j5 : (0 : Int) ≤ (pos : Int) + (n : Int) := by omega
    have j0 : (0 : Int) ≤ (pos : Int) := by omega
    have j1 : (pos : Int) ≤ (pos : Int) + (n : Int) := by omega
    have j2 : (pos : Int) + (n : Int) ≤ (cap : Int) := by omega
    have j3 : ((pos : Int) + (n : Int)).toNat = pos + n := by omega
    have j4 : pos + n - pos = n := by omega
    refine wp_region_held_drew (S := fun W => W.heap[p]? = some (.cells #[.slice (some ⟨g, 0, none⟩) xs.length cap, .int .i64 ((pos : Int) + (n : Int)), .int .i64 0] 94 (0, 0))) (by kernel_rfl) (HP1.out) (fun h0 => ?_)
    refine wpAnyH_take (i := 1) (v := ?_) (by rw [List.getElem?_toArray]; rfl) (by kernel_rfl) (by kernel_rfl) (by kernel_rfl) (by exact fun _ _ _ h => h) (Or.inl ⟨by rfl, ?_⟩) h0 ?_
    rotate_left
    · intro W hW
      go_simp
      all_goals with_reducible rfl
    try simp only [Act.put, List.setIfInBounds_toArray, List.set_cons_zero, List.set_cons_succ]
    refine wpAnyH_take (i := 2) (v := ?_) (by rw [List.getElem?_toArray]; rfl) (by kernel_rfl) (by kernel_rfl) (by kernel_rfl) (by exact fun _ _ _ h => h) (Or.inl ⟨by rfl, ?_⟩) h0 ?_
    rotate_left
    · intro W hW
      go_simp
      all_goals with_reducible rfl
    try simp only [Act.put, List.setIfInBounds_toArray, List.set_cons_zero, List.set_cons_succ]
    refine wpAnyH_take (i := 3) (v := ?_) (by rw [List.getElem?_toArray]; rfl) (by kernel_rfl) (by kernel_rfl) (by kernel_rfl) (by exact fun _ _ _ h => h) (Or.inl ⟨by rfl, ?_⟩) h0 ?_
    rotate_left
    · intro W hW
      go_simp
      all_goals with_reducible rfl
    try simp only [Act.put, List.setIfInBounds_toArray, List.set_cons_zero, List.set_cons_succ]
    refine wpAnyH_take (i := 4) (v := ?_) (by rw [List.getElem?_toArray]; rfl) (by kernel_rfl) (by kernel_rfl) (by kernel_rfl) (by exact fun _ _ _ h => h) (Or.inl ⟨by rfl, ?_⟩) h0 ?_
    rotate_left
    · intro W hW
      have cc := (Joins.cell_of_block hW 0).trans (rfl : _ = some _)
      go_simp
      all_goals with_reducible rfl
    try simp only [Act.put, List.setIfInBounds_toArray, List.set_cons_zero, List.set_cons_succ]
    refine wpAnyH_take (i := 5) (v := ?_) (by rw [List.getElem?_toArray]; rfl) (by kernel_rfl) (by kernel_rfl) (by kernel_rfl) (by exact fun _ _ _ h => h) (Or.inl ⟨by rfl, ?_⟩) h0 ?_
    rotate_left
    · intro W hW
      go_simp
      all_goals with_reducible rfl
    try simp only [Act.put, List.setIfInBounds_toArray, List.set_cons_zero, List.set_cons_succ]
    refine wpAnyH_take (i := 6) (v := ?_) (by rw [List.getElem?_toArray]; rfl) (by kernel_rfl) (by kernel_rfl) (by kernel_rfl) (by exact fun _ _ _ h => h) (Or.inl ⟨by rfl, ?_⟩) h0 ?_
    rotate_left
    · intro W hW
      go_simp
      all_goals with_reducible rfl
    try simp only [Act.put, List.setIfInBounds_toArray, List.set_cons_zero, List.set_cons_succ]
    refine wpAnyH_take (i := 7) (v := ?_) (by rw [List.getElem?_toArray]; rfl) (by kernel_rfl) (by kernel_rfl) (by kernel_rfl) (by exact fun _ _ _ h => h) (Or.inl ⟨by rfl, ?_⟩) h0 ?_
    rotate_left
    · intro W hW
      go_simp
      all_goals with_reducible rfl
    try simp only [Act.put, List.setIfInBounds_toArray, List.set_cons_zero, List.set_cons_succ]
    refine wpAnyH_take (i := 8) (v := ?_) (by rw [List.getElem?_toArray]; rfl) (by kernel_rfl) (by kernel_rfl) (by kernel_rfl) (by exact fun _ _ _ h => h) (Or.inl ⟨by rfl, ?_⟩) h0 ?_
    rotate_left
    · intro W hW
      have cc := (Joins.cell_of_block hW 1).trans (rfl : _ = some _)
      go_simp
      all_goals with_reducible rfl
    try simp only [Act.put, List.setIfInBounds_toArray, List.set_cons_zero, List.set_cons_succ]
    refine wpAnyH_take (i := 9) (v := ?_) (by rw [List.getElem?_toArray]; rfl) (by kernel_rfl) (by kernel_rfl) (by kernel_rfl) (by exact fun _ _ _ h => h) (Or.inl ⟨by rfl, ?_⟩) h0 ?_
    rotate_left
    · intro W hW
      go_simp
      all_goals with_reducible rfl
    try simp only [Act.put, List.setIfInBounds_toArray, List.set_cons_zero, List.set_cons_succ]
    refine wpAnyH_take (i := 10) (v := ?_) (by rw [List.getElem?_toArray]; rfl) (by kernel_rfl) (by kernel_rfl) (by kernel_rfl) (by exact fun _ _ _ h => h) (Or.inl ⟨by rfl, ?_⟩) h0 ?_
    rotate_left
    · intro W hW
      go_simp
      all_goals with_reducible rfl
    try simp only [Act.put, List.setIfInBounds_toArray, List.set_cons_zero, List.set_cons_succ]
    refine wpAnyH_take (i := 11) (v := ?_) (by rw [List.getElem?_toArray]; rfl) (by kernel_rfl) (by kernel_rfl) (by kernel_rfl) (by exact fun _ _ _ h => h) (Or.inl ⟨by rfl, ?_⟩) h0 ?_
    rotate_left
    · intro W hW
      go_simp
      all_goals with_reducible rfl
    try simp only [Act.put, List.setIfInBounds_toArray, List.set_cons_zero, List.set_cons_succ]
    refine wpAnyH_take (i := 12) (v := ?_) (by rw [List.getElem?_toArray]; rfl) (by kernel_rfl) (by kernel_rfl) (by kernel_rfl) (by exact fun _ _ _ h => h) (Or.inl ⟨by rfl, ?_⟩) h0 ?_
    rotate_left
    · intro W hW
      go_simp
      all_goals with_reducible rfl
    try simp only [Act.put, List.setIfInBounds_toArray, List.set_cons_zero, List.set_cons_succ]
    refine wpAnyH_take (i := 13) (v := ?_) (by rw [List.getElem?_toArray]; rfl) (by kernel_rfl) (by kernel_rfl) (by kernel_rfl) (by exact fun _ _ _ h => h) (Or.inl ⟨by rfl, ?_⟩) h0 ?_
    rotate_left
    · intro W hW
      go_simp
      all_goals with_reducible rfl
    try simp only [Act.put, List.setIfInBounds_toArray, List.set_cons_zero, List.set_cons_succ]
    refine wpAnyH_take (i := 14) (v := ?_) (by rw [List.getElem?_toArray]; rfl) (by kernel_rfl) (by kernel_rfl) (by kernel_rfl) (by exact fun _ _ _ h => h) (Or.inl ⟨by rfl, ?_⟩) h0 ?_
    rotate_left
    · intro W hW
      have cc := (Joins.cell_of_block hW 1).trans (rfl : _ = some _)
      go_simp
      all_goals with_reducible rfl
    try simp only [Act.put, List.setIfInBounds_toArray, List.set_cons_zero, List.set_cons_succ]
    refine wpAnyH_take (i := 15) (v := ?_) (by rw [List.getElem?_toArray]; rfl) (by kernel_rfl) (by kernel_rfl) (by kernel_rfl) (by exact fun _ _ _ h => h) (Or.inl ⟨by rfl, ?_⟩) h0 ?_
    rotate_left
    · intro W hW
      go_simp
      all_goals with_reducible rfl
    try simp only [Act.put, List.setIfInBounds_toArray, List.set_cons_zero, List.set_cons_succ]
    refine wpAnyH_ready (rs := [0]) (by kernel_rfl) (by simp) ?_
    refine AllReadyH.cons (by rw [List.getElem?_toArray]; rfl) (fun K hK => ?_) AllReadyH.nil
    rw [if_pos (by rfl)]
    have b3 : Below w1.heap.size w1 (w1.alloc (.cells #[] 5)) := (Below.refl _ _).alloc (Nat.le_refl _) _
    have D3 := Lib.hid (D1.out.on b3)
    have B3 := Lib.hid b3
    have E3 := Lib.hid (own_empty w1 5 1)
    have P3 : Hid ((w1.alloc (.cells #[] 5)).heap[p]? = some (.cells #[.slice (some ⟨g, 0, none⟩) xs.length cap, .int .i64 ((pos : Int) + (n : Int)), .int .i64 0] 94 (0, 0))) := Lib.hid (blk_onB2 HP1.out b3)
    have V3 : Hid (Rd (w1.alloc (.cells #[] 5)) (.slice (some ⟨g, pos, none⟩) n (cap - pos)) ((xs.drop pos).take n)) := HRD.out.on b3
    clear b3
    go_wp2_with fail
    refine hK.out _ _ (P3.out) (fun h3 => ?_)
    clear hK K
    try simp only [Act.put, List.setIfInBounds_toArray, List.set_cons_zero, List.set_cons_succ]
    generalize hw3 : (w1.alloc (.cells #[] 5)) = w3 at *
    clear hw3
    refine wpAnyH_ready (rs := [16]) (by kernel_rfl) (by simp) ?_
    refine AllReadyH.cons (by rw [List.getElem?_toArray]; rfl) (fun K hK => ?_) AllReadyH.nil
    rw [if_pos (by rfl)]
    refine wp_append_row _ _ rfl Try.underlying50 hi.out hz0.out hz1.out hz2.out rfl (show w3.drew.ownsRow 0 _ 1 (.slice (some ⟨w1.heap.size, 0, none⟩) 0 0) 0 [] from E3.out) ((show Rd w3.drew (.slice (some ⟨g, pos, none⟩) n (cap - pos)) ((xs.drop pos).take n) from V3.out).src (P := Try.prog) Try.underlying50) (by rw [lT]; unfold maxLen; omega) (by rw [lT]; omega) ?_
    intro q6 k6 w6 own6' grow6' fr6'
    have grow6 : w3.drew.grownBy w6 (Value.slice (some ⟨w1.heap.size, 0, none⟩) 0 0).ownBlock := grow6'
    have own6 : w6.ownsRow 0 5 1 (.slice q6 n k6) n (bc ((xs.drop pos).take n)) := by have := own6'; simp only [lT, Nat.zero_add, List.nil_append] at this; exact this
    have G6 : Hid (Below w1.heap.size w1 w6) := B3.out.drew.grown grow6 B3.out.drew.size (fun j hj => by simp [Value.ownBlock] at hj; omega)
    have D6 := Lib.hid (D1.out.on G6.out)
    have P6 : Hid (w6.heap[p]? = some (.cells #[.slice (some ⟨g, 0, none⟩) xs.length cap, .int .i64 ((pos : Int) + (n : Int)), .int .i64 0] 94 (0, 0))) := Lib.hid (blk_onB2 HP1.out G6.out)
    have R6 := Lib.hid (rd_of_row own6)
    have F6 : Hid (∀ a, q6 = some a → w1.heap.size ≤ a.block) := fun a ha => by
      subst ha
      rcases fr6' with e | e
      · have e' : (Value.slice (some a) (0 + ((xs.drop pos).take n).length) k6).ownBlock = (Value.slice (some ⟨w1.heap.size, 0, none⟩) 0 0).ownBlock := e
        simp [Value.ownBlock] at e'; omega
      · have e' : (Value.slice (some a) (0 + ((xs.drop pos).take n).length) k6).ownBlock = some w3.drew.heap.size := e
        have := B3.out.drew.size
        simp [Value.ownBlock] at e' this; omega
    simp only [lT, Nat.zero_add]
    clear own6' grow6' fr6' own6 grow6
    refine hK.out _ _ (P6.out) (fun h6 => ?_)
    clear hK K
    try simp only [Act.put, List.setIfInBounds_toArray, List.set_cons_zero, List.set_cons_succ]
    refine wpAnyH_take (i := 17) (v := ?_) (by rw [List.getElem?_toArray]; rfl) (by kernel_rfl) (by kernel_rfl) (by kernel_rfl) (by exact fun _ _ _ h => h) (Or.inl ⟨by rfl, ?_⟩) h6 ?_
    rotate_left
    · intro W hW
      go_simp
      all_goals with_reducible rfl
    try simp only [Act.put, List.setIfInBounds_toArray, List.set_cons_zero, List.set_cons_succ]
    refine wpAnyH_done (by kernel_rfl) ?_ _
    go_wp2_with fail
    go_ret
    exact ⟨q6, k6, rfl, R6.out, D6.out, C1.out.trans (Chg.below G6.out (Nat.le_refl _) [p]) (fun x hx _ => hx), fun a ha => Nat.le_trans C1.out.size (F6.out a ha)⟩
  · have HN00 : Hid (n = 0) := by show n = 0; omega
    obtain rfl : pos = cap := hne.symm
    clear h hg hcs htake
    go_enter Try.func47, Try.ntmps47
    go_wp2_with fail
    refine (rdLeft_ok H.out).mono ?_
    rintro e w0 ⟨m, rfl, rfl⟩
    have H1 := Lib.hid (H.out.drewN m)
    have c1 := (Joins.cell_of_block H1.out.blk 1).trans (rfl : _ = some _)
    have c2 := (Joins.cell_of_block H1.out.blk 2).trans (rfl : _ = some _)
    have f1 := Joins.unfrozen_of_block H1.out.blk 1
    have D1 : Hid (DrV ((w.drewN m).setCell ⟨p, 1, none⟩ (.int .i64 ((pos : Int) + (n : Int)))) p (.slice (some ⟨g, 0, none⟩) xs.length pos) xs (pos + n)) := by
      have := H1.out.pass (q := pos + n) hf
      rw [show ((pos + n : Nat) : Int) = (pos : Int) + (n : Int) by push_cast; rfl] at this
      exact this
    have C1 : Hid (Chg w ((w.drewN m).setCell ⟨p, 1, none⟩ (.int .i64 ((pos : Int) + (n : Int)))) [p]) := (show Chg w (w.drewN m) [p] from ⟨rfl, rfl, rfl, Nat.le_refl _, fun _ _ _ => rfl⟩).setCell (.inl (by simp)) _
    clear H
    go_wp2_with fail
    clear c1 c2 f1 H1
    generalize hw1 : (w.drewN m).setCell ⟨p, 1, none⟩ (.int .i64 ((pos : Int) + (n : Int))) = w1 at *
    clear hw1
    have HP1 : Hid (w1.heap[p]? = some (.cells #[.slice (some ⟨g, 0, none⟩) xs.length pos, .int .i64 ((pos : Int) + (n : Int)), .int .i64 0] 94 (0, 0))) := by
      have := D1.out.blk
      rw [show ((pos + n : Nat) : Int) = (pos : Int) + (n : Int) by push_cast; rfl] at this
      exact this
    have HRD : Hid (Rd w1 (.slice (some ⟨g, 0, none⟩) n (0)) ((xs.drop pos).take n)) := by
      refine ⟨_, 0, by rw [lT], .inr ⟨g, 0, rfl, fun i hi => ?_⟩⟩
      rw [lT] at hi
      have := HN00.out
      omega
    have k1 : IntKind.i64.wrap ((pos : Int) + (n : Int) - (n : Int)) = (pos : Int) := by rw [Int.add_sub_cancel]; exact IntWalk.i64_in _ (by omega)
    have k2 : IntKind.i64.wrap (pos : Int) = (pos : Int) := IntWalk.i64_in _ (by omega)
    have j5 : (0 : Int) ≤ (pos : Int) + (n : Int) := by omega
    have j0 : (0 : Int) ≤ (pos : Int) := by omega
    have j1 : (pos : Int) ≤ (pos : Int) + (n : Int) := by omega
    have j2 : (pos : Int) + (n : Int) ≤ (pos : Int) := by omega
    have j3 : ((pos : Int) + (n : Int)).toNat = pos + n := by omega
    have j4 : pos + n - pos = n := by omega
    refine wp_region_held_drew (S := fun W => W.heap[p]? = some (.cells #[.slice (some ⟨g, 0, none⟩) xs.length pos, .int .i64 ((pos : Int) + (n : Int)), .int .i64 0] 94 (0, 0))) (by kernel_rfl) (HP1.out) (fun h0 => ?_)
    refine wpAnyH_take (i := 1) (v := ?_) (by rw [List.getElem?_toArray]; rfl) (by kernel_rfl) (by kernel_rfl) (by kernel_rfl) (by exact fun _ _ _ h => h) (Or.inl ⟨by rfl, ?_⟩) h0 ?_
    rotate_left
    · intro W hW
      go_simp
      all_goals with_reducible rfl
    try simp only [Act.put, List.setIfInBounds_toArray, List.set_cons_zero, List.set_cons_succ]
    refine wpAnyH_take (i := 2) (v := ?_) (by rw [List.getElem?_toArray]; rfl) (by kernel_rfl) (by kernel_rfl) (by kernel_rfl) (by exact fun _ _ _ h => h) (Or.inl ⟨by rfl, ?_⟩) h0 ?_
    rotate_left
    · intro W hW
      go_simp
      all_goals with_reducible rfl
    try simp only [Act.put, List.setIfInBounds_toArray, List.set_cons_zero, List.set_cons_succ]
    refine wpAnyH_take (i := 3) (v := ?_) (by rw [List.getElem?_toArray]; rfl) (by kernel_rfl) (by kernel_rfl) (by kernel_rfl) (by exact fun _ _ _ h => h) (Or.inl ⟨by rfl, ?_⟩) h0 ?_
    rotate_left
    · intro W hW
      go_simp
      all_goals with_reducible rfl
    try simp only [Act.put, List.setIfInBounds_toArray, List.set_cons_zero, List.set_cons_succ]
    refine wpAnyH_take (i := 4) (v := ?_) (by rw [List.getElem?_toArray]; rfl) (by kernel_rfl) (by kernel_rfl) (by kernel_rfl) (by exact fun _ _ _ h => h) (Or.inl ⟨by rfl, ?_⟩) h0 ?_
    rotate_left
    · intro W hW
      have cc := (Joins.cell_of_block hW 0).trans (rfl : _ = some _)
      go_simp
      all_goals with_reducible rfl
    try simp only [Act.put, List.setIfInBounds_toArray, List.set_cons_zero, List.set_cons_succ]
    refine wpAnyH_take (i := 5) (v := ?_) (by rw [List.getElem?_toArray]; rfl) (by kernel_rfl) (by kernel_rfl) (by kernel_rfl) (by exact fun _ _ _ h => h) (Or.inl ⟨by rfl, ?_⟩) h0 ?_
    rotate_left
    · intro W hW
      go_simp
      all_goals with_reducible rfl
    try simp only [Act.put, List.setIfInBounds_toArray, List.set_cons_zero, List.set_cons_succ]
    refine wpAnyH_take (i := 6) (v := ?_) (by rw [List.getElem?_toArray]; rfl) (by kernel_rfl) (by kernel_rfl) (by kernel_rfl) (by exact fun _ _ _ h => h) (Or.inl ⟨by rfl, ?_⟩) h0 ?_
    rotate_left
    · intro W hW
      go_simp
      all_goals with_reducible rfl
    try simp only [Act.put, List.setIfInBounds_toArray, List.set_cons_zero, List.set_cons_succ]
    refine wpAnyH_take (i := 7) (v := ?_) (by rw [List.getElem?_toArray]; rfl) (by kernel_rfl) (by kernel_rfl) (by kernel_rfl) (by exact fun _ _ _ h => h) (Or.inl ⟨by rfl, ?_⟩) h0 ?_
    rotate_left
    · intro W hW
      go_simp
      all_goals with_reducible rfl
    try simp only [Act.put, List.setIfInBounds_toArray, List.set_cons_zero, List.set_cons_succ]
    refine wpAnyH_take (i := 8) (v := ?_) (by rw [List.getElem?_toArray]; rfl) (by kernel_rfl) (by kernel_rfl) (by kernel_rfl) (by exact fun _ _ _ h => h) (Or.inl ⟨by rfl, ?_⟩) h0 ?_
    rotate_left
    · intro W hW
      have cc := (Joins.cell_of_block hW 1).trans (rfl : _ = some _)
      go_simp
      all_goals with_reducible rfl
    try simp only [Act.put, List.setIfInBounds_toArray, List.set_cons_zero, List.set_cons_succ]
    refine wpAnyH_take (i := 9) (v := ?_) (by rw [List.getElem?_toArray]; rfl) (by kernel_rfl) (by kernel_rfl) (by kernel_rfl) (by exact fun _ _ _ h => h) (Or.inl ⟨by rfl, ?_⟩) h0 ?_
    rotate_left
    · intro W hW
      go_simp
      all_goals with_reducible rfl
    try simp only [Act.put, List.setIfInBounds_toArray, List.set_cons_zero, List.set_cons_succ]
    refine wpAnyH_take (i := 10) (v := ?_) (by rw [List.getElem?_toArray]; rfl) (by kernel_rfl) (by kernel_rfl) (by kernel_rfl) (by exact fun _ _ _ h => h) (Or.inl ⟨by rfl, ?_⟩) h0 ?_
    rotate_left
    · intro W hW
      go_simp
      all_goals with_reducible rfl
    try simp only [Act.put, List.setIfInBounds_toArray, List.set_cons_zero, List.set_cons_succ]
    refine wpAnyH_take (i := 11) (v := ?_) (by rw [List.getElem?_toArray]; rfl) (by kernel_rfl) (by kernel_rfl) (by kernel_rfl) (by exact fun _ _ _ h => h) (Or.inl ⟨by rfl, ?_⟩) h0 ?_
    rotate_left
    · intro W hW
      go_simp
      all_goals with_reducible rfl
    try simp only [Act.put, List.setIfInBounds_toArray, List.set_cons_zero, List.set_cons_succ]
    refine wpAnyH_take (i := 12) (v := ?_) (by rw [List.getElem?_toArray]; rfl) (by kernel_rfl) (by kernel_rfl) (by kernel_rfl) (by exact fun _ _ _ h => h) (Or.inl ⟨by rfl, ?_⟩) h0 ?_
    rotate_left
    · intro W hW
      go_simp
      all_goals with_reducible rfl
    try simp only [Act.put, List.setIfInBounds_toArray, List.set_cons_zero, List.set_cons_succ]
    refine wpAnyH_take (i := 13) (v := ?_) (by rw [List.getElem?_toArray]; rfl) (by kernel_rfl) (by kernel_rfl) (by kernel_rfl) (by exact fun _ _ _ h => h) (Or.inl ⟨by rfl, ?_⟩) h0 ?_
    rotate_left
    · intro W hW
      go_simp
      all_goals with_reducible rfl
    try simp only [Act.put, List.setIfInBounds_toArray, List.set_cons_zero, List.set_cons_succ]
    refine wpAnyH_take (i := 14) (v := ?_) (by rw [List.getElem?_toArray]; rfl) (by kernel_rfl) (by kernel_rfl) (by kernel_rfl) (by exact fun _ _ _ h => h) (Or.inl ⟨by rfl, ?_⟩) h0 ?_
    rotate_left
    · intro W hW
      have cc := (Joins.cell_of_block hW 1).trans (rfl : _ = some _)
      go_simp
      all_goals with_reducible rfl
    try simp only [Act.put, List.setIfInBounds_toArray, List.set_cons_zero, List.set_cons_succ]
    refine wpAnyH_take (i := 15) (v := ?_) (by rw [List.getElem?_toArray]; rfl) (by kernel_rfl) (by kernel_rfl) (by kernel_rfl) (by exact fun _ _ _ h => h) (Or.inl ⟨by rfl, ?_⟩) h0 ?_
    rotate_left
    · intro W hW
      go_simp
      all_goals with_reducible rfl
    try simp only [Act.put, List.setIfInBounds_toArray, List.set_cons_zero, List.set_cons_succ]
    refine wpAnyH_ready (rs := [0]) (by kernel_rfl) (by simp) ?_
    refine AllReadyH.cons (by rw [List.getElem?_toArray]; rfl) (fun K hK => ?_) AllReadyH.nil
    rw [if_pos (by rfl)]
    have b3 : Below w1.heap.size w1 (w1.alloc (.cells #[] 5)) := (Below.refl _ _).alloc (Nat.le_refl _) _
    have D3 := Lib.hid (D1.out.on b3)
    have B3 := Lib.hid b3
    have E3 := Lib.hid (own_empty w1 5 1)
    have P3 : Hid ((w1.alloc (.cells #[] 5)).heap[p]? = some (.cells #[.slice (some ⟨g, 0, none⟩) xs.length pos, .int .i64 ((pos : Int) + (n : Int)), .int .i64 0] 94 (0, 0))) := Lib.hid (blk_onB2 HP1.out b3)
    have V3 : Hid (Rd (w1.alloc (.cells #[] 5)) (.slice (some ⟨g, 0, none⟩) n (0)) ((xs.drop pos).take n)) := HRD.out.on b3
    clear b3
    go_wp2_with fail
    refine hK.out _ _ (P3.out) (fun h3 => ?_)
    clear hK K
    try simp only [Act.put, List.setIfInBounds_toArray, List.set_cons_zero, List.set_cons_succ]
    generalize hw3 : (w1.alloc (.cells #[] 5)) = w3 at *
    clear hw3
    refine wpAnyH_ready (rs := [16]) (by kernel_rfl) (by simp) ?_
    refine AllReadyH.cons (by rw [List.getElem?_toArray]; rfl) (fun K hK => ?_) AllReadyH.nil
    rw [if_pos (by rfl)]
    refine wp_append_row _ _ rfl Try.underlying50 hi.out hz0.out hz1.out hz2.out rfl (show w3.drew.ownsRow 0 _ 1 (.slice (some ⟨w1.heap.size, 0, none⟩) 0 0) 0 [] from E3.out) ((show Rd w3.drew (.slice (some ⟨g, 0, none⟩) n (0)) ((xs.drop pos).take n) from V3.out).src (P := Try.prog) Try.underlying50) (by rw [lT]; unfold maxLen; omega) (by rw [lT]; omega) ?_
    intro q6 k6 w6 own6' grow6' fr6'
    have grow6 : w3.drew.grownBy w6 (Value.slice (some ⟨w1.heap.size, 0, none⟩) 0 0).ownBlock := grow6'
    have own6 : w6.ownsRow 0 5 1 (.slice q6 n k6) n (bc ((xs.drop pos).take n)) := by have := own6'; simp only [lT, Nat.zero_add, List.nil_append] at this; exact this
    have G6 : Hid (Below w1.heap.size w1 w6) := B3.out.drew.grown grow6 B3.out.drew.size (fun j hj => by simp [Value.ownBlock] at hj; omega)
    have D6 := Lib.hid (D1.out.on G6.out)
    have P6 : Hid (w6.heap[p]? = some (.cells #[.slice (some ⟨g, 0, none⟩) xs.length pos, .int .i64 ((pos : Int) + (n : Int)), .int .i64 0] 94 (0, 0))) := Lib.hid (blk_onB2 HP1.out G6.out)
    have R6 := Lib.hid (rd_of_row own6)
    have F6 : Hid (∀ a, q6 = some a → w1.heap.size ≤ a.block) := fun a ha => by
      subst ha
      rcases fr6' with e | e
      · have e' : (Value.slice (some a) (0 + ((xs.drop pos).take n).length) k6).ownBlock = (Value.slice (some ⟨w1.heap.size, 0, none⟩) 0 0).ownBlock := e
        simp [Value.ownBlock] at e'; omega
      · have e' : (Value.slice (some a) (0 + ((xs.drop pos).take n).length) k6).ownBlock = some w3.drew.heap.size := e
        have := B3.out.drew.size
        simp [Value.ownBlock] at e' this; omega
    simp only [lT, Nat.zero_add]
    clear own6' grow6' fr6' own6 grow6
    refine hK.out _ _ (P6.out) (fun h6 => ?_)
    clear hK K
    try simp only [Act.put, List.setIfInBounds_toArray, List.set_cons_zero, List.set_cons_succ]
    refine wpAnyH_take (i := 17) (v := ?_) (by rw [List.getElem?_toArray]; rfl) (by kernel_rfl) (by kernel_rfl) (by kernel_rfl) (by exact fun _ _ _ h => h) (Or.inl ⟨by rfl, ?_⟩) h6 ?_
    rotate_left
    · intro W hW
      go_simp
      all_goals with_reducible rfl
    try simp only [Act.put, List.setIfInBounds_toArray, List.set_cons_zero, List.set_cons_succ]
    refine wpAnyH_done (by kernel_rfl) ?_ _
    go_wp2_with fail
    go_ret
    exact ⟨q6, k6, rfl, R6.out, D6.out, C1.out.trans (Chg.below G6.out (Nat.le_refl _) [p]) (fun x hx _ => hx), fun a ha => Nat.le_trans C1.out.size (F6.out a ha)⟩
end Go.Proofs.Ytonjkhhihiigfaa
namespace Go.Proofs.Ytonjkhhihiigfaa
set_option maxRecDepth 100000
open Go.RowKit

theorem rdUint_bad {w : World} {p : Nat} (h : DrF w p) :
    Calls Try.prog 34 #[.pointer (some ⟨p, 0, none⟩)] w fun e w' => e = .returned (.int .u64 0) ∧ DrF w' p ∧ Chg w w' [p] := by
  have H := Lib.hid h
  clear h
  go_enter Try.func34, Try.ntmps34
  go_wp2_with fail
  refine (rdTake_bad H.out).mono ?_
  rintro e w1 ⟨rfl, rfl⟩
  have HF : Hid (DrF w1 p) := H
  have HC : Hid (Chg w1 w1 [p]) := Chg.refl _ _
  go_wp2_with fail
  refine wp_loop_rounds 1 ?_
  rw [rounds_succ]
  go_wp2_with fail
  go_ret
  exact ⟨rfl, HF.out, HC.out⟩
theorem rdUint_end {w : World} {p : Nat} {v : Value} {xs : List Int} {pos : Nat} (h : DrV w p v xs pos) (hf : xs.length < pos + 8) :
    Calls Try.prog 34 #[.pointer (some ⟨p, 0, none⟩)] w fun e w' => e = .returned (.int .u64 0) ∧ DrF w' p ∧ Chg w w' [p] := by
  have H := Lib.hid h
  clear h
  go_enter Try.func34, Try.ntmps34
  go_wp2_with fail
  refine (rdTake_end H.out (n := 8) (by omega) hf).mono ?_
  rintro e w1 ⟨rfl, hF, hC⟩
  have HF := Lib.hid hF
  have HC := Lib.hid hC
  clear hF hC
  go_wp2_with fail
  refine wp_loop_rounds 1 ?_
  rw [rounds_succ]
  go_wp2_with fail
  go_ret
  exact ⟨rfl, HF.out, HC.out⟩

set_option maxHeartbeats 2000000 in
theorem rdUint_ok {w : World} {p : Nat} {v : Value} {xs : List Int} {pos : Nat} (h : DrV w p v xs pos) (hx : Bytes xs) (hf : pos + 8 ≤ xs.length) :
    Calls Try.prog 34 #[.pointer (some ⟨p, 0, none⟩)] w fun e w' => e = .returned (.int .u64 (num ((xs.drop pos).take 8))) ∧ DrV w' p v xs (pos + 8) ∧ Chg w w' [p] := by
  have H := Lib.hid h
  have HB : Hid (Bytes ((xs.drop pos).take 8)) := fun x hx' => hx x (List.mem_of_mem_drop (List.mem_of_mem_take hx'))
  have hl8 : ((xs.drop pos).take 8).length = 8 := by simp; omega
  have KT := Lib.hid (rdTake_ok H.out (n := 8) (by omega) (by omega) hf)
  generalize (xs.drop pos).take 8 = ys at HB hl8 KT ⊢
  replace hl8 := Lib.hid hl8
  clear h hx
  go_enter Try.func34, Try.ntmps34
  go_wp2_with fail
  refine KT.out.mono ?_
  rintro e w1 ⟨q, c, rfl, hR, hD, hC, -⟩
  have HD := Lib.hid hD
  have HCC := Lib.hid hC
  obtain ⟨q', c', e1, hR⟩ := hR
  simp only [Value.slice.injEq] at e1
  obtain ⟨rfl, -, rfl⟩ := e1
  obtain ⟨b, off, rfl, hcell⟩ := hR.resolve_left (fun e => by have := hl8.out; rw [e] at this; simp at this)
  have HCe := Lib.hid hcell
  clear hcell hR hD hC KT
  go_wp2_with fail
  go_loopw [4, 5] (fun nv iv wr => ∃ k : Nat, iv = .int .i64 k ∧ k ≤ 8 ∧ nv = .int .u64 (num (ys.take k)) ∧ wr = w1) (fun _ iv _ => 8 - (intOf iv).toNat)
  case atStart => exact ⟨0, rfl, by omega, by simp [num], rfl⟩
  case round =>
    obtain ⟨k, rfl, hk, rfl, rfl⟩ := hrel
    by_cases hlt : k < 8
    · have hc1 := HCe.out k (by rw [hl8.out]; exact hlt)
      have hb := num_bd HB.out k (by rw [hl8.out]; omega)
      have hp : (256 : Int) ^ k ≤ 72057594037927936 := by
        have e : k = 0 ∨ k = 1 ∨ k = 2 ∨ k = 3 ∨ k = 4 ∨ k = 5 ∨ k = 6 ∨ k = 7 := by omega
        rcases e with rfl | rfl | rfl | rfl | rfl | rfl | rfl | rfl <;> decide
      have hy := HB.out (ys.getD k 0) (by simp [List.getD, show k < ys.length by rw [hl8.out]; exact hlt])
      have HN := Lib.hid (num_take (xs := ys) (k := k) (by rw [hl8.out]; exact hlt))
      obtain ⟨hn0, hn1⟩ := hb
      have hn2 : num (ys.take k) < 72057594037927936 := by omega
      obtain ⟨hy0, hy1⟩ := hy
      clear hn1 hp
      generalize num (ys.take k) = nk at *
      generalize ys.getD k 0 = yk at *
      go_wp2_with fail
      go_roundw
      case rel => exact ⟨k + 1, by go_num, by omega, by rw [HN.out], trivial⟩
      case measure => simp [intOf]; omega
    · obtain rfl : k = 8 := by omega
      rw [List.take_of_length_le (by rw [hl8.out]; omega)]
      clear hlt hk
      go_wp2_with fail
      go_ret
      exact ⟨rfl, HD.out, HCC.out⟩

set_option maxHeartbeats 1000000 in
theorem rdCount_bad {w : World} {p : Nat} {most : Int} (h : DrF w p) :
    Calls Try.prog 35 #[.pointer (some ⟨p, 0, none⟩), .int .i64 most] w fun e w' => e = .returned (.int .i64 0) ∧ DrF w' p ∧ Chg w w' [p] := by
  have H := Lib.hid h
  have c1 : ∃ z, w.cell? ⟨p, 1, none⟩ = some (.int .i64 z) := by obtain ⟨v, pos, f, h1, h2⟩ := h; exact ⟨_, (Joins.cell_of_block h2 1).trans rfl⟩
  obtain ⟨z1, c1⟩ := c1
  clear h
  go_enter Try.func35, Try.ntmps35
  go_wp2_with fail
  refine (rdUint_bad H.out).mono ?_
  rintro e w1 ⟨rfl, hF, hC⟩
  have HF := Lib.hid hF
  have HC := Lib.hid hC
  obtain ⟨v1, pos1, f, h1, h2⟩ := hF
  have c2 := (Joins.cell_of_block h2 2).trans (rfl : _ = some _)
  have d0 : (f == 0) = false := by simpa using h1
  clear h2 h1 hC
  go_wp2_with fail
  go_ret
  exact ⟨rfl, HF.out, HC.out⟩
set_option maxHeartbeats 1000000 in
theorem rdCount_end {w : World} {p : Nat} {most : Int} {v : Value} {xs : List Int} {pos : Nat} (h : DrV w p v xs pos) (hf : xs.length < pos + 8) :
    Calls Try.prog 35 #[.pointer (some ⟨p, 0, none⟩), .int .i64 most] w fun e w' => e = .returned (.int .i64 0) ∧ DrF w' p ∧ Chg w w' [p] := by
  have H := Lib.hid h
  have c1 : ∃ z, w.cell? ⟨p, 1, none⟩ = some (.int .i64 z) := ⟨_, (Joins.cell_of_block h.blk 1).trans rfl⟩
  obtain ⟨z1, c1⟩ := c1
  clear h
  go_enter Try.func35, Try.ntmps35
  go_wp2_with fail
  refine (rdUint_end H.out hf).mono ?_
  rintro e w1 ⟨rfl, hF, hC⟩
  have HF := Lib.hid hF
  have HC := Lib.hid hC
  obtain ⟨v1, pos1, f, h1, h2⟩ := hF
  have c2 := (Joins.cell_of_block h2 2).trans (rfl : _ = some _)
  have d0 : (f == 0) = false := by simpa using h1
  clear h2 h1 hC
  go_wp2_with fail
  go_ret
  exact ⟨rfl, HF.out, HC.out⟩

set_option maxHeartbeats 2000000 in
theorem rdCount_big {w : World} {p : Nat} {v : Value} {xs : List Int} {pos : Nat} {most : Nat} (h : DrV w p v xs pos) (hx : Bytes xs) (hm : most ≤ 1000000) (hf : pos + 8 ≤ xs.length) (hz : (most : Int) < num ((xs.drop pos).take 8)) :
    Calls Try.prog 35 #[.pointer (some ⟨p, 0, none⟩), .int .i64 most] w fun e w' => e = .returned (.int .i64 0) ∧ DrF w' p ∧ Chg w w' [p] := by
  have H := Lib.hid h
  have c1 := (Joins.cell_of_block h.blk 1).trans (rfl : _ = some _)
  have u0 : IntKind.u64.wrap (most : Int) = (most : Int) := by rw [IntKind.wrap_u64]; omega
  have KU := Lib.hid (rdUint_ok H.out hx hf)
  clear h hx
  go_enter Try.func35, Try.ntmps35
  go_wp2_with fail
  refine KU.out.mono ?_
  rintro e w1 ⟨rfl, hD, hC⟩
  have c2 := (Joins.cell_of_block hD.blk 2).trans (rfl : _ = some _)
  have f1 := Joins.unfrozen_of_block hD.blk 1
  have f2 := Joins.unfrozen_of_block hD.blk 2
  have k1 := (Joins.cell_of_block hD.blk 1).trans (rfl : _ = some _)
  have hb1 : ((w1.setCell ⟨p, 2, none⟩ (.int .i64 21)).setCell ⟨p, 1, none⟩ (.int .i64 pos)).heap[p]? = some (.cells #[v, .int .i64 pos, .int .i64 21] 94 (0, 0)) := Joins.block_setCell (Joins.block_setCell hD.blk _) _
  have c2' := (Joins.cell_of_block hb1 2).trans (rfl : _ = some _)
  have HF : Hid (DrF ((w1.setCell ⟨p, 2, none⟩ (.int .i64 21)).setCell ⟨p, 1, none⟩ (.int .i64 pos)) p) := ⟨v, pos, 21, by decide, hb1⟩
  have HC : Hid (Chg w ((w1.setCell ⟨p, 2, none⟩ (.int .i64 21)).setCell ⟨p, 1, none⟩ (.int .i64 pos)) [p]) := (hC.setCell (.inl (by simp)) _).setCell (.inl (by simp)) _
  generalize num ((xs.drop pos).take 8) = z at *
  clear hD hC hb1 KU H
  go_wp2_with fail
  go_ret
  exact ⟨rfl, HF.out, HC.out⟩
set_option maxHeartbeats 2000000 in
theorem rdCount_ok {w : World} {p : Nat} {v : Value} {xs : List Int} {pos : Nat} {most : Nat} (h : DrV w p v xs pos) (hx : Bytes xs) (hm : most ≤ 1000000) (hf : pos + 8 ≤ xs.length) {z : Nat} (hz : num ((xs.drop pos).take 8) = z) (hzm : z ≤ most) :
    Calls Try.prog 35 #[.pointer (some ⟨p, 0, none⟩), .int .i64 most] w fun e w' => e = .returned (.int .i64 z) ∧ DrV w' p v xs (pos + 8) ∧ Chg w w' [p] := by
  have H := Lib.hid h
  have c1 := (Joins.cell_of_block h.blk 1).trans (rfl : _ = some _)
  have u0 : IntKind.u64.wrap (most : Int) = (most : Int) := by rw [IntKind.wrap_u64]; omega
  have hzI : ¬ (most : Int) < (z : Int) := by omega
  have KU := Lib.hid (rdUint_ok H.out hx hf)
  rw [hz] at KU
  clear h hx hz
  go_enter Try.func35, Try.ntmps35
  go_wp2_with fail
  refine KU.out.mono ?_
  rintro e w1 ⟨rfl, hD, hC⟩
  have c2 := (Joins.cell_of_block hD.blk 2).trans (rfl : _ = some _)
  have HD := Lib.hid hD
  have HC := Lib.hid hC
  clear hD hC KU H
  go_wp2_with fail
  go_ret
  exact ⟨rfl, HD.out, HC.out⟩

theorem rdDone_bad {w : World} {p : Nat} (h : DrF w p) :
    Calls Try.prog 37 #[.pointer (some ⟨p, 0, none⟩)] w fun e w' => ∃ f : Int, f ≠ 0 ∧ e = .returned (.int .i64 f) ∧ w' = w := by
  obtain ⟨v, pos, f, h1, h2⟩ := h
  have c2 := (Joins.cell_of_block h2 2).trans (rfl : _ = some _)
  have d0 : (f == 0) = false := by simpa using h1
  have HN := Lib.hid h1
  clear h2 h1
  go_enter Try.func37, Try.ntmps37
  go_wp2_with fail
  go_ret
  exact ⟨f, HN.out, rfl, rfl⟩
theorem rdDone_left {w : World} {p : Nat} {v : Value} {xs : List Int} {pos : Nat} (h : DrV w p v xs pos) (hlt : pos < xs.length) :
    Calls Try.prog 37 #[.pointer (some ⟨p, 0, none⟩)] w fun e w' => ∃ m, e = .returned (.int .i64 21) ∧ w' = w.drewN m := by
  have H := Lib.hid h
  have hg : (0 : Int) < (xs.length : Int) - (pos : Int) := by omega
  have c2 := (Joins.cell_of_block h.blk 2).trans (rfl : _ = some _)
  clear h
  go_enter Try.func37, Try.ntmps37
  go_wp2_with fail
  refine (rdLeft_ok H.out).mono ?_
  rintro e w1 ⟨m, rfl, rfl⟩
  go_wp2_with fail
  go_ret
  exact ⟨m, rfl, rfl⟩
theorem rdDone_all {w : World} {p : Nat} {v : Value} {xs : List Int} (h : DrV w p v xs xs.length) :
    Calls Try.prog 37 #[.pointer (some ⟨p, 0, none⟩)] w fun e w' => ∃ m, e = .returned (.int .i64 0) ∧ w' = w.drewN m := by
  have H := Lib.hid h
  have c2 := (Joins.cell_of_block h.blk 2).trans (rfl : _ = some _)
  clear h
  go_enter Try.func37, Try.ntmps37
  go_wp2_with fail
  refine (rdLeft_ok H.out).mono ?_
  rintro e w1 ⟨m, rfl, rfl⟩
  have H1 := H.out.drewN m
  have c2 := (Joins.cell_of_block H1.blk 2).trans (rfl : _ = some _)
  clear H1
  rw [Int.sub_self]
  go_wp2_with fail
  go_ret
  exact ⟨m, rfl, rfl⟩
end Go.Proofs.Ytonjkhhihiigfaa
