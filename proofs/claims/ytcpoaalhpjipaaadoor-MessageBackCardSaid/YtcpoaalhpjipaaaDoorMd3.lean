/-
  The walks of package codec: a writer that was made, and what is written.; The walks of package codec: NewWriter, Bytes, Blob.; Rows of one's own, of whatever element.; Cells that make a row.; The program's reader, with errors.; The writer's Uint, where there is room.; Plain facts on 64-bit digits and numbers of four of them: nothing here speaks of the program.
-/
import Derived.Deep.RegionHeld3
import Derived.BigQuiet
import Derived.Deep.QuietTactic
import Derived.StillTailTactics
import Derived.RangeFuncOwn
import Derived.Laws.Cover3
import Derived.Laws.Bits64b
import Derived.Test.YtcpoaalhpjipaaaDoorRows
import Derived.WalkKit
import Derived.Test.YtcpoaalhpjipaaaDoorMd2
namespace Go.Proofs.YtcpoaalhpjipaaaDoor
set_option maxRecDepth 100000
open Go.RowKit

/-- Block p holds a Writer that was made; v is its slice, of the bytes xs. -/
structure WrV (w : World) (p : Nat) (v : Value) (xs : List Int) : Prop where
  blk : w.heap[p]? = some (.cells #[.bool true, v] 137 (0, 0))
  own : w.ownsRow 0 5 1 v xs.length (bc xs)
section
variable {w w' : World} {p : Nat} {v : Value} {xs : List Int}
theorem WrV.lt (h : WrV w p v xs) : p < w.heap.size := (Array.getElem?_eq_some_iff.1 h.blk).1
theorem WrV.ne (h : WrV w p v xs) : v.ownBlock ≠ some p := by
  rcases h.own.2 with ⟨rfl, _⟩ | ⟨g, cap, cur, rfl, _, hg, _⟩
  · simp [Value.ownBlock]
  · intro e
    obtain rfl : g = p := by simpa [Value.ownBlock] using e
    rw [h.blk] at hg
    simp at hg
theorem WrV.chg {S : List Nat} (h : WrV w p v xs) (hc : Chg w w' S) (hp : p ∉ S) (hv : ∀ g, v.ownBlock = some g → g ∉ S) : WrV w' p v xs := by
  refine ⟨by rw [hc.block p h.lt hp]; exact h.blk, h.own.1, ?_⟩
  rcases h.own.2 with hn | ⟨g, cap, cur, rfl, hb, hg, r⟩
  · exact .inl hn
  · exact .inr ⟨g, cap, cur, rfl, hb, by rw [hc.block g (Array.getElem?_eq_some_iff.1 hg).1 (hv g rfl)]; exact hg, r⟩
theorem WrV.on (h : WrV w p v xs) (hb : Below w.heap.size w w') : WrV w' p v xs := h.chg (S := []) (Chg.below hb (Nat.le_refl _) []) (by simp) (fun _ _ => by simp)
theorem WrV.alloc (h : WrV w p v xs) (o : Obj) : WrV (w.alloc o) p v xs := h.on ((Below.refl _ _).alloc (Nat.le_refl _) o)
theorem WrV.drew (h : WrV w p v xs) : WrV w.drew p v xs := ⟨h.blk, h.own⟩
theorem WrV.cells (h : WrV w p v xs) : w.cell? ⟨p, 0, none⟩ = some (.bool true) ∧ w.cell? ⟨p, 1, none⟩ = some v ∧ w.frozen? ⟨p, 1, none⟩ = false :=
  ⟨by rw [Joins.cell_of_block h.blk]; rfl, by rw [Joins.cell_of_block h.blk]; rfl, Joins.unfrozen_of_block h.blk 1⟩
theorem WrV.rd (h : WrV w p v xs) : Rd w v xs := rd_of_row h.own
end

/-- A Writer behind some writing: of what there was in w its own block and its row alone may have changed. -/
def WSt (w : World) (p : Nat) (v : Value) (wr : World) (xs : List Int) : Prop :=
  ∃ v', WrV wr p v' xs ∧ Chg w wr (p :: v.ownBlock.toList) ∧ (v'.ownBlock = v.ownBlock ∨ ∀ g, v'.ownBlock = some g → w.heap.size ≤ g)
section
variable {w wr w1 : World} {p : Nat} {v v' v'' : Value} {xs ys : List Int}
theorem WSt.start (h : WrV w p v xs) : WSt w p v w xs := ⟨v, h, Chg.refl w _, .inl rfl⟩
theorem WSt.trans {a b c : World} {zs : List Int} (h : WSt a p v b ys) (k : ∀ u, WrV b p u ys → WSt b p u c zs) : WSt a p v c zs := by
  obtain ⟨v', h1, h2, h3⟩ := h
  obtain ⟨v'', k1, k2, k3⟩ := k v' h1
  refine ⟨v'', k1, h2.trans k2 ?_, ?_⟩
  · intro x hx hl
    rcases List.mem_cons.1 hx with rfl | hx
    · simp
    · rcases h3 with e | e
      · rw [e] at hx; exact List.mem_cons.2 (.inr hx)
      · have := e x (by simpa using hx); omega
  · rcases k3 with e | e
    · rw [e]
      rcases h3 with e' | e'
      · exact .inl e'
      · exact .inr e'
    · exact .inr fun g hg => Nat.le_trans h2.size (e g hg)
/-- Behind an append, and the store of the longer slice. -/
theorem WSt.step (h : WrV wr p v' xs) (hc : Chg w wr (p :: v.ownBlock.toList)) (hf : v'.ownBlock = v.ownBlock ∨ ∀ g, v'.ownBlock = some g → w.heap.size ≤ g)
    {m : Nat} (hm : ys.length = m) (own : w1.ownsRow 0 5 1 v'' (xs.length + m) (bc xs ++ bc ys)) (hg : wr.grownBy w1 v'.ownBlock) (hv : v''.ownBlock = v'.ownBlock ∨ v''.ownBlock = some wr.heap.size) :
    WSt w p v (w1.setCell ⟨p, 1, none⟩ v'') (xs ++ ys) := by
  subst hm
  have hp : p < w1.heap.size := Nat.lt_of_lt_of_le h.lt hg.size
  have hblk : w1.heap[p]? = some (.cells #[.bool true, v'] 137 (0, 0)) := by
    rw [hg.block p h.lt (fun e => h.ne e.symm)]; exact h.blk
  have hnp : v''.ownBlock ≠ some p := by
    rcases hv with e | e
    · rw [e]; exact h.ne
    · rw [e]; intro e'; have := h.lt; simp at e'; omega
  refine ⟨v'', ⟨?_, ?_⟩, ?_, ?_⟩
  · rw [Joins.block_setCell (i := 1) hblk v'']; rfl
  · rw [List.length_append, bc_append]
    refine ⟨own.1, ?_⟩
    rcases own.2 with hn | ⟨g, cap, cur, rfl, hb, hgg, r⟩
    · exact .inl hn
    · exact .inr ⟨g, cap, cur, rfl, hb, by rw [Below.heap_setCell _ _ _ _ (fun e => hnp (by simp only [Value.ownBlock]; rw [show g = p from e]))]; exact hgg, r⟩
  · refine (hc.trans (T := v'.ownBlock.toList) (Chg.grown hg (fun k hk => by simp [hk])) ?_).setCell (.inl (by simp)) v''
    intro x hx hl
    rcases hf with e | e
    · rw [e] at hx; exact List.mem_cons.2 (.inr hx)
    · have := e x (by simpa using hx); omega
  · rcases hv with e | e
    · rw [e]; exact hf
    · refine .inr fun g hg' => ?_
      rw [e] at hg'
      have := hc.size
      simp at hg'
      omega
end

theorem be8_get (n : Int) {k : Nat} (hk : k < 8) : (be8 n).take (k + 1) = (be8 n).take k ++ [n / 2 ^ (56 - 8 * k) % 256] := by
  have e : k = 0 ∨ k = 1 ∨ k = 2 ∨ k = 3 ∨ k = 4 ∨ k = 5 ∨ k = 6 ∨ k = 7 := by omega
  rcases e with rfl | rfl | rfl | rfl | rfl | rfl | rfl | rfl <;> simp [be8]

set_option maxHeartbeats 2000000 in
theorem putUint_any {w : World} {p : Nat} {v : Value} {xs : List Int} (h : WrV w p v xs) (hl : xs.length ≤ 65536) (n : Int) :
    Calls Tryd.prog 77 #[.pointer (some ⟨p, 0, none⟩), .int .u64 n] w fun e w' => e = .returned (.tuple #[]) ∧ WSt w p v w' (xs ++ be8 n) := by
  obtain ⟨i0, hi, hz0, hz1, hz2⟩ := info_parts Tryd.infoU8
  have H0 : Hid (WSt w p v w (xs ++ (be8 n).take 0)) := by
    show WSt w p v w _
    simpa using WSt.start h
  clear h
  replace hi := Lib.hid hi
  replace hz0 := Lib.hid hz0
  replace hz1 := Lib.hid hz1
  replace hz2 := Lib.hid hz2
  go_enter Tryd.func77, Tryd.ntmps77
  go_wp2_with fail
  go_loopw [4] (fun sv wr => ∃ k : Nat, sv = .int .i64 (56 - 8 * (k : Int)) ∧ k ≤ 8 ∧ Hid (WSt w p v wr (xs ++ (be8 n).take k))) (fun sv _ => (intOf sv + 8).toNat)
  case atStart => exact ⟨0, by simp, by omega, H0⟩
  case round =>
    clear H0
    obtain ⟨k, rfl, hk, hS⟩ := hrel
    by_cases hlt : k < 8
    · have hd : (0 : Int) ≤ 56 - 8 * (k : Int) := by omega
      obtain ⟨v', h1, h2, h3⟩ := hS.out
      have H1 := Lib.hid h1
      have H2 := Lib.hid (And.intro h2 h3)
      clear h2 h3 hS h1
      obtain ⟨-, c1, f1⟩ := H1.out.cells
      have hpl := H1.out.lt
      go_wp2_with fail
      refine wp_region_held_drew (S := fun _ => True) (by kernel_rfl) (trivial) (fun h0 => ?_)
      refine wpAnyH_take (i := 0) (v := ?_) (by rw [List.getElem?_toArray]; rfl) (by kernel_rfl) (by kernel_rfl) (by kernel_rfl) (by exact fun _ _ _ h => h) (Or.inl ⟨by rfl, ?_⟩) h0 ?_
      rotate_left
      · intro W hW
        go_simp
        all_goals with_reducible rfl
      try simp only [Act.put, List.setIfInBounds_toArray, List.set_cons_zero, List.set_cons_succ]
      refine wpAnyH_take (i := 1) (v := ?_) (by rw [List.getElem?_toArray]; rfl) (by kernel_rfl) (by kernel_rfl) (by kernel_rfl) (by exact fun _ _ _ h => h) (Or.inl ⟨by rfl, ?_⟩) h0 ?_
      rotate_left
      · intro W hW
        go_simp
        all_goals with_reducible rfl
      try simp only [Act.put, List.setIfInBounds_toArray, List.set_cons_zero, List.set_cons_succ]
      refine wpAnyH_take (i := 2) (v := ?_) (by rw [List.getElem?_toArray]; rfl) (by kernel_rfl) (by kernel_rfl) (by kernel_rfl) (by exact fun _ _ _ h => h) (Or.inl ⟨by rfl, ?_⟩) h0 ?_
      rotate_left
      · intro W hW
        go_simp
        all_goals with_reducible rfl
      try simp only [Act.put, List.setIfInBounds_toArray, List.set_cons_zero, List.set_cons_succ]
      refine wpAnyH_take (i := 3) (v := ?_) (by rw [List.getElem?_toArray]; rfl) (by kernel_rfl) (by kernel_rfl) (by kernel_rfl) (by exact fun _ _ _ h => h) (Or.inl ⟨by rfl, ?_⟩) h0 ?_
      rotate_left
      · intro W hW
        go_simp
        all_goals with_reducible rfl
      try simp only [Act.put, List.setIfInBounds_toArray, List.set_cons_zero, List.set_cons_succ]
      refine wpAnyH_take (i := 5) (v := ?_) (by rw [List.getElem?_toArray]; rfl) (by kernel_rfl) (by kernel_rfl) (by kernel_rfl) (by exact fun _ _ _ h => h) (Or.inl ⟨by rfl, ?_⟩) h0 ?_
      rotate_left
      · intro W hW
        go_simp
        all_goals with_reducible rfl
      try simp only [Act.put, List.setIfInBounds_toArray, List.set_cons_zero, List.set_cons_succ]
      refine wpAnyH_take (i := 6) (v := ?_) (by rw [List.getElem?_toArray]; rfl) (by kernel_rfl) (by kernel_rfl) (by kernel_rfl) (by exact fun _ _ _ h => h) (Or.inl ⟨by rfl, ?_⟩) h0 ?_
      rotate_left
      · intro W hW
        go_simp
        all_goals with_reducible rfl
      try simp only [Act.put, List.setIfInBounds_toArray, List.set_cons_zero, List.set_cons_succ]
      refine wpAnyH_take (i := 7) (v := ?_) (by rw [List.getElem?_toArray]; rfl) (by kernel_rfl) (by kernel_rfl) (by kernel_rfl) (by exact fun _ _ _ h => h) (Or.inl ⟨by rfl, ?_⟩) h0 ?_
      rotate_left
      · intro W hW
        go_simp
        all_goals with_reducible rfl
      try simp only [Act.put, List.setIfInBounds_toArray, List.set_cons_zero, List.set_cons_succ]
      refine wpAnyH_take (i := 8) (v := ?_) (by rw [List.getElem?_toArray]; rfl) (by kernel_rfl) (by kernel_rfl) (by kernel_rfl) (by exact fun _ _ _ h => h) (Or.inl ⟨by rfl, ?_⟩) h0 ?_
      rotate_left
      · intro W hW
        go_simp
        all_goals with_reducible rfl
      try simp only [Act.put, List.setIfInBounds_toArray, List.set_cons_zero, List.set_cons_succ]
      refine wpAnyH_ready (rs := [4, 9]) (by kernel_rfl) (by simp) ?_
      refine AllReadyH.cons (by rw [List.getElem?_toArray]; rfl) (fun K hK => ?_) (AllReadyH.cons (by rw [List.getElem?_toArray]; rfl) (fun K hK => ?_) AllReadyH.nil)
      · rw [if_pos (by rfl)]
        go_wp2_with fail
        refine hK.out _ _ (trivial) (fun _ => ?_)
        clear hK K
        try simp only [Act.put, List.setIfInBounds_toArray, List.set_cons_zero, List.set_cons_succ]
        refine wpAnyH_ready (rs := [9]) (by kernel_rfl) (by simp) ?_
        refine AllReadyH.cons (by rw [List.getElem?_toArray]; rfl) (fun K hK => ?_) AllReadyH.nil
        rw [if_pos (by rfl)]
        go_wp2_with fail
        refine hK.out _ _ (trivial) (fun _ => ?_)
        clear hK K
        try simp only [Act.put, List.setIfInBounds_toArray, List.set_cons_zero, List.set_cons_succ]
        refine wpAnyH_ready (rs := [10]) (by kernel_rfl) (by simp) ?_
        refine AllReadyH.cons (by rw [List.getElem?_toArray]; rfl) (fun K hK => ?_) AllReadyH.nil
        rw [if_pos (by rfl)]
        refine wp_append_row _ _ rfl Tryd.underlying25 hi.out hz0.out hz1.out hz2.out rfl (H1.out.alloc _).drew.own (Rd.src (xs := [n / 2 ^ (56 - 8 * k) % 256]) Tryd.underlying25 ?rd) ?b1 ?b2 ?_
        case rd => exact ⟨_, 1, rfl, .inr ⟨wr.heap.size, 0, rfl, fun j hj => by obtain rfl : j = 0 := (by simpa using hj); exact (Joins.cell_of_block (heap_alloc_new wr _) 0).trans rfl⟩⟩
        case b1 => simp; unfold maxLen; omega
        case b2 => simp; omega
        intro q2 k2 w2 own2 grow2 fr2
        have HN := Lib.hid (WSt.step (H1.out.alloc _).drew (H2.out.1.alloc _).drew (by exact H2.out.2) rfl own2 grow2 fr2)
        have c2 : w2.cell? ⟨p, 1, none⟩ = some v' := by
          rw [World.cell?_of_block (grow2.block p (by simp; omega) (fun e => H1.out.ne e.symm))]; exact (H1.out.alloc _).drew.cells.2.1
        have f2 : w2.frozen? ⟨p, 1, none⟩ = false := by
          rw [World.frozen?_of_block (grow2.block p (by simp; omega) (fun e => H1.out.ne e.symm))]; exact (H1.out.alloc _).drew.cells.2.2
        clear own2 grow2 fr2 c1 f1
        refine hK.out _ _ (trivial) (fun _ => ?_)
        clear hK K
        try simp only [Act.put, List.setIfInBounds_toArray, List.set_cons_zero, List.set_cons_succ]
        refine wpAnyH_take (i := 11) (v := ?_) (by rw [List.getElem?_toArray]; rfl) (by kernel_rfl) (by kernel_rfl) (by kernel_rfl) (by exact fun _ _ _ h => h) (Or.inl ⟨by rfl, ?_⟩) h0 ?_
        rotate_left
        · intro W hW
          go_simp
          all_goals with_reducible rfl
        try simp only [Act.put, List.setIfInBounds_toArray, List.set_cons_zero, List.set_cons_succ]
        refine wpAnyH_take (i := 12) (v := ?_) (by rw [List.getElem?_toArray]; rfl) (by kernel_rfl) (by kernel_rfl) (by kernel_rfl) (by exact fun _ _ _ h => h) (Or.inl ⟨by rfl, ?_⟩) h0 ?_
        rotate_left
        · intro W hW
          go_simp
          all_goals with_reducible rfl
        try simp only [Act.put, List.setIfInBounds_toArray, List.set_cons_zero, List.set_cons_succ]
        refine wpAnyH_ready (rs := [13]) (by kernel_rfl) (by simp) ?_
        refine AllReadyH.cons (by rw [List.getElem?_toArray]; rfl) (fun K hK => ?_) AllReadyH.nil
        rw [if_pos (by rfl)]
        go_wp2_with fail
        refine hK.out _ _ (trivial) (fun _ => ?_)
        clear hK K
        try simp only [Act.put, List.setIfInBounds_toArray, List.set_cons_zero, List.set_cons_succ]
        refine wpAnyH_done (by kernel_rfl) ?_ _
        go_wp2_with fail
        go_roundw
        case rel =>
          refine ⟨k + 1, by go_num, by omega, ?_⟩
          show WSt w p v _ _
          rw [be8_get n hlt, ← List.append_assoc]
          have L : (xs ++ List.take k (be8 n)).length + [n / 2 ^ (56 - 8 * k) % 256].length = xs.length + k + 1 := by simp; omega
          have := HN.out
          rw [L] at this
          exact this
        case measure => simp [intOf]; omega
      · rw [if_pos (by rfl)]
        go_wp2_with fail
        refine hK.out _ _ (trivial) (fun _ => ?_)
        clear hK K
        try simp only [Act.put, List.setIfInBounds_toArray, List.set_cons_zero, List.set_cons_succ]
        refine wpAnyH_ready (rs := [4]) (by kernel_rfl) (by simp) ?_
        refine AllReadyH.cons (by rw [List.getElem?_toArray]; rfl) (fun K hK => ?_) AllReadyH.nil
        rw [if_pos (by rfl)]
        go_wp2_with fail
        refine hK.out _ _ (trivial) (fun _ => ?_)
        clear hK K
        try simp only [Act.put, List.setIfInBounds_toArray, List.set_cons_zero, List.set_cons_succ]
        refine wpAnyH_ready (rs := [10]) (by kernel_rfl) (by simp) ?_
        refine AllReadyH.cons (by rw [List.getElem?_toArray]; rfl) (fun K hK => ?_) AllReadyH.nil
        rw [if_pos (by rfl)]
        refine wp_append_row _ _ rfl Tryd.underlying25 hi.out hz0.out hz1.out hz2.out rfl (H1.out.alloc _).drew.own (Rd.src (xs := [n / 2 ^ (56 - 8 * k) % 256]) Tryd.underlying25 ?rd) ?b1 ?b2 ?_
        case rd => exact ⟨_, 1, rfl, .inr ⟨wr.heap.size, 0, rfl, fun j hj => by obtain rfl : j = 0 := (by simpa using hj); exact (Joins.cell_of_block (heap_alloc_new wr _) 0).trans rfl⟩⟩
        case b1 => simp; unfold maxLen; omega
        case b2 => simp; omega
        intro q2 k2 w2 own2 grow2 fr2
        have HN := Lib.hid (WSt.step (H1.out.alloc _).drew (H2.out.1.alloc _).drew (by exact H2.out.2) rfl own2 grow2 fr2)
        have c2 : w2.cell? ⟨p, 1, none⟩ = some v' := by
          rw [World.cell?_of_block (grow2.block p (by simp; omega) (fun e => H1.out.ne e.symm))]; exact (H1.out.alloc _).drew.cells.2.1
        have f2 : w2.frozen? ⟨p, 1, none⟩ = false := by
          rw [World.frozen?_of_block (grow2.block p (by simp; omega) (fun e => H1.out.ne e.symm))]; exact (H1.out.alloc _).drew.cells.2.2
        clear own2 grow2 fr2 c1 f1
        refine hK.out _ _ (trivial) (fun _ => ?_)
        clear hK K
        try simp only [Act.put, List.setIfInBounds_toArray, List.set_cons_zero, List.set_cons_succ]
        refine wpAnyH_take (i := 11) (v := ?_) (by rw [List.getElem?_toArray]; rfl) (by kernel_rfl) (by kernel_rfl) (by kernel_rfl) (by exact fun _ _ _ h => h) (Or.inl ⟨by rfl, ?_⟩) h0 ?_
        rotate_left
        · intro W hW
          go_simp
          all_goals with_reducible rfl
        try simp only [Act.put, List.setIfInBounds_toArray, List.set_cons_zero, List.set_cons_succ]
        refine wpAnyH_take (i := 12) (v := ?_) (by rw [List.getElem?_toArray]; rfl) (by kernel_rfl) (by kernel_rfl) (by kernel_rfl) (by exact fun _ _ _ h => h) (Or.inl ⟨by rfl, ?_⟩) h0 ?_
        rotate_left
        · intro W hW
          go_simp
          all_goals with_reducible rfl
        try simp only [Act.put, List.setIfInBounds_toArray, List.set_cons_zero, List.set_cons_succ]
        refine wpAnyH_ready (rs := [13]) (by kernel_rfl) (by simp) ?_
        refine AllReadyH.cons (by rw [List.getElem?_toArray]; rfl) (fun K hK => ?_) AllReadyH.nil
        rw [if_pos (by rfl)]
        go_wp2_with fail
        refine hK.out _ _ (trivial) (fun _ => ?_)
        clear hK K
        try simp only [Act.put, List.setIfInBounds_toArray, List.set_cons_zero, List.set_cons_succ]
        refine wpAnyH_done (by kernel_rfl) ?_ _
        go_wp2_with fail
        go_roundw
        case rel =>
          refine ⟨k + 1, by go_num, by omega, ?_⟩
          show WSt w p v _ _
          rw [be8_get n hlt, ← List.append_assoc]
          have L : (xs ++ List.take k (be8 n)).length + [n / 2 ^ (56 - 8 * k) % 256].length = xs.length + k + 1 := by simp; omega
          have := HN.out
          rw [L] at this
          exact this
        case measure => simp [intOf]; omega
    · obtain rfl : k = 8 := by omega
      have hb := hS.out
      rw [show (be8 n).take 8 = be8 n from rfl] at hb
      replace hS := Lib.hid hb
      clear hb
      go_wp2_with fail
      go_end0
      exact ⟨rfl, hS.out⟩
end Go.Proofs.YtcpoaalhpjipaaaDoor
namespace Go.Proofs.YtcpoaalhpjipaaaDoor
set_option maxRecDepth 100000
open Go.RowKit

theorem NewWriter_any (w : World) : Calls Tryd.prog 55 #[] w fun e w' => e = .returned (.pointer (some ⟨w.heap.size, 0, none⟩)) ∧ w' = w.alloc (.cells #[.bool true, .slice none 0 0] 137) := by
  go_enter Tryd.func55, Tryd.ntmps55
  go_wp2_with fail
  go_ret
  exact ⟨rfl, rfl⟩
theorem WrV.new (w : World) : WrV (w.alloc (.cells #[.bool true, .slice none 0 0] 137)) w.heap.size (.slice none 0 0) [] :=
  ⟨heap_alloc_new w _, World.ownsRow_nil _ 0 _ 1⟩

/-- A new slice of the bytes xs, in memory of its own. -/
def NewRow (w : World) (xs : List Int) (v : Value) (w' : World) : Prop :=
  (∃ q c, v = .slice q xs.length c) ∧ w'.ownsRow 0 5 1 v xs.length (bc xs) ∧ Below w.heap.size w w' ∧ ∀ k, v.ownBlock = some k → w.heap.size ≤ k
theorem NewRow.rd {w w' : World} {xs : List Int} {v : Value} (h : NewRow w xs v w') : Rd w' v xs := rd_of_row h.2.1

set_option maxHeartbeats 1000000 in
theorem WBytes_any {w : World} {p : Nat} {v : Value} {xs : List Int} (h : WrV w p v xs) (hl : xs.length ≤ 65536) :
    Calls Tryd.prog 58 #[.pointer (some ⟨p, 0, none⟩)] w fun e w' => ∃ u, e = .returned u ∧ NewRow w xs u w' := by
  obtain ⟨i0, hi, hz0, hz1, hz2⟩ := info_parts Tryd.infoU8
  obtain ⟨qv, kv, rfl⟩ := h.rd.len
  obtain ⟨c0, c1, -⟩ := h.cells
  have hs := Lib.hid (h.rd.src (P := Tryd.prog) Tryd.underlying25)
  clear h
  replace hi := Lib.hid hi
  replace hz0 := Lib.hid hz0
  replace hz1 := Lib.hid hz1
  replace hz2 := Lib.hid hz2
  go_enter Tryd.func58, Tryd.ntmps58
  go_wp2_with (at_builtin; refine wpList_append_row rfl _ _ rfl Tryd.underlying25 hi.out hz0.out hz1.out hz2.out rfl (World.ownsRow_nil w 0 _ 1) hs.out ?b1 ?b2 ?_)
  case b1 => unfold maxLen; omega
  case b2 => omega
  intro q2 k2 w2 own2 grow2 fr2
  try simp only [Nat.zero_add, List.nil_append] at own2
  try simp only [Nat.zero_add, List.nil_append] at fr2
  try simp only [Nat.zero_add]
  have H2 := Lib.hid own2
  have HB := Lib.hid ((Below.refl w.heap.size w).grown grow2 (Nat.le_refl _) (by intro k hk; simp [Value.ownBlock] at hk))
  have HF : Hid (∀ k, (Value.slice q2 xs.length k2).ownBlock = some k → w.heap.size ≤ k) := fun k hk => by
    rcases fr2 with e | e
    · rw [e] at hk; simp [Value.ownBlock] at hk
    · rw [e] at hk; simp at hk; omega
  clear own2 grow2 fr2 c0 c1 hs
  go_wp2_with fail
  go_ret
  exact ⟨_, rfl, ⟨_, _, rfl⟩, H2.out, HB.out, HF.out⟩

/-! ### Lists of slices -/
theorem WSt.of_eq {w wr : World} {p : Nat} {v : Value} {xs ys : List Int} (h : WSt w p v wr xs) (e : xs = ys) : WSt w p v wr ys := e ▸ h
theorem WSt.own {w wr : World} {p : Nat} {v : Value} {xs : List Int} (h : WSt w p v wr xs) : ∃ q c, WrV wr p (.slice q xs.length c) xs ∧ Chg w wr (p :: v.ownBlock.toList) ∧ ((Value.slice q xs.length c).ownBlock = v.ownBlock ∨ ∀ g, (Value.slice q xs.length c).ownBlock = some g → w.heap.size ≤ g) := by
  obtain ⟨v', h1, h2, h3⟩ := h
  obtain ⟨q, c, rfl⟩ := h1.rd.len
  exact ⟨q, c, h1, h2, h3⟩
end Go.Proofs.YtcpoaalhpjipaaaDoor
namespace Go.Proofs.YtcpoaalhpjipaaaDoor
set_option maxRecDepth 100000
open Go.RowKit

section
variable {w w' : World} {e : TypeId} {size : Nat} {v : Value} {n : Nat} {xs : List Value}
theorem own_lt (h : w.ownsRow 0 e size v n xs) {k : Nat} (hk : v.ownBlock = some k) : k < w.heap.size := by
  rcases h.2 with ⟨rfl, _⟩ | ⟨g, cap, cur, rfl, _, hg, _⟩
  · simp [Value.ownBlock] at hk
  · obtain rfl : g = k := by simpa [Value.ownBlock] using hk
    exact (Array.getElem?_eq_some_iff.1 hg).1
theorem own_ne (h : w.ownsRow 0 e size v n xs) {p : Nat} {cs : Array Value} {t : TypeId} {fr : Nat × Nat} (hp : w.heap[p]? = some (.cells cs t fr)) (ht : t ≠ e) : v.ownBlock ≠ some p := by
  rcases h.2 with ⟨rfl, _⟩ | ⟨g, cap, cur, rfl, _, hg, _⟩
  · simp [Value.ownBlock]
  · intro hk
    obtain rfl : g = p := by simpa [Value.ownBlock] using hk
    rw [hp] at hg
    simp at hg
    exact ht hg.2.1
theorem own_keep (h : w.ownsRow 0 e size v n xs) (hb : ∀ k, v.ownBlock = some k → w'.heap[k]? = w.heap[k]?) : w'.ownsRow 0 e size v n xs := by
  refine ⟨h.1, ?_⟩
  rcases h.2 with hn | ⟨g, cap, cur, rfl, hq, hg, r⟩
  · exact .inl hn
  · exact .inr ⟨g, cap, cur, rfl, hq, by rw [hb g rfl]; exact hg, r⟩
theorem own_chg2 {S : List Nat} (h : w.ownsRow 0 e size v n xs) (hc : Chg w w' S) (hS : ∀ k, v.ownBlock = some k → k ∉ S) : w'.ownsRow 0 e size v n xs :=
  own_keep h fun k hk => hc.block k (own_lt h hk) (hS k hk)
theorem own_on (h : w.ownsRow 0 e size v n xs) (hb : Below w.heap.size w w') : w'.ownsRow 0 e size v n xs := own_chg2 h (Chg.below hb (Nat.le_refl _) []) (by simp)
theorem own_two {e' : TypeId} {size' : Nat} {v' : Value} {n' : Nat} {xs' : List Value} (h : w.ownsRow 0 e size v n xs) (h' : w.ownsRow 0 e' size' v' n' xs') (ht : e ≠ e') {k : Nat} (hk : v.ownBlock = some k) : v'.ownBlock ≠ some k := by
  rcases h.2 with ⟨rfl, _⟩ | ⟨g, cap, cur, rfl, _, hg, _⟩
  · simp [Value.ownBlock] at hk
  · obtain rfl : g = k := by simpa [Value.ownBlock] using hk
    exact own_ne h' hg ht
theorem own_slice (h : w.ownsRow 0 e size v n xs) : ∃ q c, v = .slice q n c := by
  rcases h.2 with ⟨rfl, rfl⟩ | ⟨g, cap, cur, rfl, _⟩
  · exact ⟨_, _, rfl⟩
  · exact ⟨_, _, rfl⟩
theorem own_empty (w : World) (e : TypeId) (size : Nat) : (w.alloc (.cells #[] e)).ownsRow 0 e size (.slice (some ⟨w.heap.size, 0, none⟩) 0 0) 0 [] :=
  ⟨by simp, .inr ⟨w.heap.size, 0, #[], rfl, Nat.zero_le _, heap_alloc_new w _, Nat.le_refl _, Nat.zero_le _, by simp, by simp⟩⟩
end

theorem Tryd.infoU8s : (Tryd.prog.info? 25).map (fun i => (i.zero, i.size, i.bytes)) = some (some (.slice none 0 0), 1, 24) := by kernel_rfl

end Go.Proofs.YtcpoaalhpjipaaaDoor
namespace Go.Proofs.YtcpoaalhpjipaaaDoor
theorem rowOf_cells {w : World} {b o : Nat} {F : List Int} (h : ∀ i, i < F.length → w.cell? ⟨b, o + i, none⟩ = some (.int .u8 (F.getD i 0))) : rowOf w b o F.length = hc F := by
  by_cases h0 : F.length = 0
  · obtain rfl := List.eq_nil_of_length_eq_zero h0
    unfold rowOf
    split <;> simp [hc]
  · obtain ⟨x, hb, hx⟩ := cells_of_cell (h 0 (by omega))
    obtain ⟨cs, t, fr, rfl⟩ : ∃ cs t fr, x = .cells cs t fr := by
      cases x <;> first | exact ⟨_, _, _, rfl⟩ | simp [Obj.isCells] at hx
    rw [rowOf_block hb]
    apply List.ext_getElem?
    intro i
    by_cases hi : i < F.length
    · have := h i hi
      rw [Joins.cell_of_block hb] at this
      have e1 : (cs.extract o (o + F.length)).toList[i]? = cs[o + i]? := by
        simp [List.getElem?_drop, hi]
      rw [e1, this]
      simp [hc, List.getD, hi]
    · have hs : cs.size ≥ o + F.length := by
        have := h (F.length - 1) (by omega)
        rw [Joins.cell_of_block hb] at this
        have := (Array.getElem?_eq_some_iff.1 this).1
        omega
      rw [List.getElem?_eq_none (by simp; omega), List.getElem?_eq_none (by rw [hc_len]; omega)]
end Go.Proofs.YtcpoaalhpjipaaaDoor
namespace Go.Proofs.YtcpoaalhpjipaaaDoor
set_option maxRecDepth 100000
open Go.RowKit

/-- Block p holds a Reader that was made, of the bytes xs, of which pos were passed; v is its slice; there was no error. -/
structure RrV (w : World) (p : Nat) (v : Value) (xs : List Int) (pos : Nat) : Prop where
  blk : w.heap[p]? = some (.cells #[.bool true, v, .int .i64 pos, .int .i64 0] 145 (0, 0))
  own : w.ownsRow 0 5 1 v xs.length (bc xs)
  le : pos ≤ xs.length
  len : xs.length ≤ 140737488355328
section
variable {w w' : World} {p : Nat} {v : Value} {xs : List Int} {pos : Nat}
theorem RrV.lt (h : RrV w p v xs pos) : p < w.heap.size := (Array.getElem?_eq_some_iff.1 h.blk).1
theorem RrV.ne (h : RrV w p v xs pos) : v.ownBlock ≠ some p := by
  rcases h.own.2 with ⟨rfl, _⟩ | ⟨g, cap, cur, rfl, _, hg, _⟩
  · simp [Value.ownBlock]
  · intro e
    obtain rfl : g = p := by simpa [Value.ownBlock] using e
    rw [h.blk] at hg
    simp at hg
theorem own_chg {e : TypeId} {size n : Nat} {ys : List Value} {S : List Nat} (h : w.ownsRow 0 e size v n ys) (hc : Chg w w' S) (hv : ∀ g, v.ownBlock = some g → g ∉ S) : w'.ownsRow 0 e size v n ys := by
  refine ⟨h.1, ?_⟩
  rcases h.2 with hn | ⟨g, cap, cur, rfl, hb, hg, r⟩
  · exact .inl hn
  · exact .inr ⟨g, cap, cur, rfl, hb, by rw [hc.block g (Array.getElem?_eq_some_iff.1 hg).1 (hv g rfl)]; exact hg, r⟩
theorem RrV.chg {S : List Nat} (h : RrV w p v xs pos) (hc : Chg w w' S) (hp : p ∉ S) (hv : ∀ g, v.ownBlock = some g → g ∉ S) : RrV w' p v xs pos :=
  ⟨by rw [hc.block p h.lt hp]; exact h.blk, own_chg h.own hc hv, h.le, h.len⟩
theorem RrV.on (h : RrV w p v xs pos) (hb : Below w.heap.size w w') : RrV w' p v xs pos := h.chg (S := []) (Chg.below hb (Nat.le_refl _) []) (by simp) (fun _ _ => by simp)
theorem RrV.cells (h : RrV w p v xs pos) : w.cell? ⟨p, 0, none⟩ = some (.bool true) ∧ w.cell? ⟨p, 1, none⟩ = some v ∧ w.cell? ⟨p, 2, none⟩ = some (.int .i64 pos) ∧ w.cell? ⟨p, 3, none⟩ = some (.int .i64 0) ∧ w.frozen? ⟨p, 2, none⟩ = false ∧ w.frozen? ⟨p, 3, none⟩ = false :=
  ⟨by rw [Joins.cell_of_block h.blk]; rfl, by rw [Joins.cell_of_block h.blk]; rfl, by rw [Joins.cell_of_block h.blk]; rfl, by rw [Joins.cell_of_block h.blk]; rfl, Joins.unfrozen_of_block h.blk 2, Joins.unfrozen_of_block h.blk 3⟩
theorem RrV.pass (h : RrV w p v xs pos) {q : Nat} (hq : q ≤ xs.length) : RrV (w.setCell ⟨p, 2, none⟩ (.int .i64 q)) p v xs q := by
  refine ⟨by rw [Joins.block_setCell (i := 2) h.blk]; rfl, own_chg h.own ((Chg.refl w [p]).setCell (.inl (by simp)) _) (fun g hg => ?_), hq, h.len⟩
  intro hm
  obtain rfl := List.mem_singleton.1 hm
  exact h.ne hg
end

set_option maxHeartbeats 1000000 in
theorem NewReader_any {w : World} {a : Value} {xs : List Int} (h : Rd w a xs) (hl : xs.length ≤ 140737488355328) :
    Calls Tryd.prog 62 #[a] w fun e w' => ∃ p v, e = .returned (.pointer (some ⟨p, 0, none⟩)) ∧ RrV w' p v xs 0 ∧ w.heap.size ≤ p ∧ Below w.heap.size w w' ∧ ∀ k, v.ownBlock = some k → w.heap.size ≤ k := by
  obtain ⟨i0, hi, hz0, hz1, hz2⟩ := info_parts Tryd.infoU8
  obtain ⟨qv, kv, rfl⟩ := h.len
  have hs := Lib.hid (h.src (P := Tryd.prog) Tryd.underlying25)
  clear h
  replace hi := Lib.hid hi
  replace hz0 := Lib.hid hz0
  replace hz1 := Lib.hid hz1
  replace hz2 := Lib.hid hz2
  go_enter Tryd.func62, Tryd.ntmps62
  go_wp2_with (at_builtin; refine wpList_append_row rfl _ _ rfl Tryd.underlying25 hi.out hz0.out hz1.out hz2.out rfl (World.ownsRow_nil w 0 _ 1) hs.out ?b1 ?b2 ?_)
  case b1 => unfold maxLen; omega
  case b2 => omega
  intro q2 k2 w2 own2 grow2 fr2
  try simp only [Nat.zero_add, List.nil_append] at own2
  try simp only [Nat.zero_add, List.nil_append] at fr2
  try simp only [Nat.zero_add]
  have H2 := Lib.hid own2
  have HB := Lib.hid ((Below.refl w.heap.size w).grown grow2 (Nat.le_refl _) (by intro k hk; simp [Value.ownBlock] at hk))
  have HF : Hid (∀ k, (Value.slice q2 xs.length k2).ownBlock = some k → w.heap.size ≤ k) := fun k hk => by
    rcases fr2 with e | e
    · rw [e] at hk; simp [Value.ownBlock] at hk
    · rw [e] at hk; simp at hk; omega
  clear own2 grow2 fr2 hs
  have hz := HB.out.size
  go_wp2_with fail
  go_ret
  exact ⟨_, _, rfl, ⟨heap_alloc_new w2 _, own_chg H2.out (Chg.below ((Below.refl _ _).alloc (Nat.le_refl _) _) (Nat.le_refl _) []) (fun _ _ => by simp), by omega, hl⟩, hz, HB.out.alloc hz _, HF.out⟩

theorem ready_ok {w : World} {p : Nat} {v : Value} {xs : List Int} {pos : Nat} (h : RrV w p v xs pos) :
    Calls Tryd.prog 114 #[.pointer (some ⟨p, 0, none⟩)] w fun e w' => e = .returned (.bool true) ∧ w = w' := by
  obtain ⟨c0, -, -, c3, -, -⟩ := h.cells
  clear h
  go_enter Tryd.func114, Tryd.ntmps114
  go_wp2_with fail
  go_ret
  exact ⟨rfl, rfl⟩

set_option maxHeartbeats 1000000 in
theorem look_ok {w : World} {p : Nat} {v : Value} {xs : List Int} {pos : Nat} (h : RrV w p v xs pos) {n : Nat} (hn : 0 < n) (hf : pos + n ≤ xs.length) :
    Calls Tryd.prog 116 #[.pointer (some ⟨p, 0, none⟩), .int .i64 n] w fun e w' => ∃ b off c m, e = .returned (.tuple #[.slice (some ⟨b, off, none⟩) n c, .bool true]) ∧ v.ownBlock = some b ∧ n ≤ c ∧ (∀ i, i < n → w.cell? ⟨b, off + i, none⟩ = some (.int .u8 (xs.getD (pos + i) 0))) ∧ w' = w.drewN m := by
  have hlen := h.len
  rcases h.own.2 with ⟨rfl, h0⟩ | ⟨g, cap, cur, rfl, _, hg, hcap, hcm, hcs, htake⟩
  · omega
  have HC : Hid (∀ i, i < n → w.cell? ⟨g, pos + i, none⟩ = some (.int .u8 (xs.getD (pos + i) 0))) := fun i hi => by
    have := h.own.cells (g := g) rfl (pos + i) (.int .u8 (xs.getD (pos + i) 0)) (by simp [bc, List.getD, show pos + i < xs.length by omega])
    rw [addr_add] at this
    simpa using this
  obtain ⟨-, c1, c2, -, -, -⟩ := h.cells
  clear h hg hcs htake
  unfold maxLen at hcm
  have hne : ¬ cap = pos := by omega
  go_enter Tryd.func116, Tryd.ntmps116
  go_wp2_with fail
  go_quiet (fail)
  go_wp2_with fail
  go_quiet (fail)
  go_wp2_with fail
  go_ret2
  refine ⟨g, pos, cap - pos, _, by rw [Nat.add_sub_cancel_left]; rfl, rfl, by omega, HC.out, World.drewN_drewN _ _ _⟩

theorem or_low {a c : Int} (ha : 0 ≤ a ∧ a < 72057594037927936) (hc : 0 ≤ c ∧ c < 256) : bits .or .u64 (a * 256) c = a * 256 + c := by
  obtain ⟨A, rfl⟩ : ∃ A : Nat, a = A := ⟨a.toNat, by omega⟩
  obtain ⟨C, rfl⟩ : ∃ C : Nat, c = C := ⟨c.toNat, by omega⟩
  rw [show ((A : Int) * 256) = ((A * 256 : Nat) : Int) by push_cast; rfl, bits_or_u64_nat _ _ (by omega) (by omega)]
  have := Nat.two_pow_add_eq_or_of_lt (i := 8) (b := C) (by omega) A
  rw [show 2 ^ 8 * A = A * 256 by omega] at this
  rw [← this]
  push_cast
  rfl
theorem num_take {xs : List Int} {k : Nat} (hk : k < xs.length) : num (xs.take (k + 1)) = num (xs.take k) * 256 + xs.getD k 0 := by
  have e : xs.take (k + 1) = xs.take k ++ [xs.getD k 0] := by
    rw [List.take_add_one]
    simp [List.getD, hk]
  rw [e, num, List.foldl_append]
  rfl
theorem num_bd {xs : List Int} (h : Bytes xs) : ∀ k, k ≤ xs.length → 0 ≤ num (xs.take k) ∧ num (xs.take k) < 256 ^ k
  | 0, _ => by simp [num]
  | k + 1, hk => by
    obtain ⟨a, b⟩ := num_bd h k (by omega)
    have hx := h (xs.getD k 0) (by simp [List.getD, show k < xs.length by omega])
    rw [num_take (by omega), Int.pow_succ]
    omega

set_option maxHeartbeats 1000000 in
theorem lookUint_ok {w : World} {p : Nat} {v : Value} {xs : List Int} {pos : Nat} (h : RrV w p v xs pos) (hx : Bytes xs) (hf : pos + 8 ≤ xs.length) :
    Calls Tryd.prog 115 #[.pointer (some ⟨p, 0, none⟩)] w fun e w' => ∃ m, e = .returned (.tuple #[.int .u64 (num ((xs.drop pos).take 8)), .bool true]) ∧ w' = w.drewN m := by
  have H := Lib.hid h
  have hlen := h.len
  have HB : Hid (Bytes ((xs.drop pos).take 8)) := fun x hx' => hx x (List.mem_of_mem_drop (List.mem_of_mem_take hx'))
  have hl8 : ((xs.drop pos).take 8).length = 8 := by simp; omega
  have HG : Hid (∀ i, i < 8 → ((xs.drop pos).take 8).getD i 0 = xs.getD (pos + i) 0) := fun i hi => by simp [List.getD, hi]
  generalize (xs.drop pos).take 8 = ys at HB hl8 HG
  replace hl8 := Lib.hid hl8
  clear h hx
  go_enter Tryd.func115, Tryd.ntmps115
  go_wp2_with fail
  refine (look_ok H.out (n := 8) (by omega) hf).mono ?_
  rintro e w1 ⟨b, off, c, m, rfl, -, hc8, hcell, rfl⟩
  have HC := Lib.hid hcell
  clear hcell
  go_wp2_with fail
  go_loopw [6, 8, 16] (fun nv _ iv wr => ∃ k : Nat, iv = .int .i64 k ∧ k ≤ 8 ∧ nv = .int .u64 (num (ys.take k)) ∧ wr = w.drewN m) (fun _ _ iv _ => 8 - (intOf iv).toNat)
  case atStart => exact ⟨0, rfl, by omega, by simp [num], rfl⟩
  case round =>
    obtain ⟨k, rfl, hk, rfl, rfl⟩ := hrel
    by_cases hlt : k < 8
    · have hc1 := HC.out k hlt
      rw [← HG.out k hlt] at hc1
      have hb := num_bd HB.out k (by rw [hl8.out]; omega)
      have hp : (256 : Int) ^ k ≤ 72057594037927936 := by
        have e : k = 0 ∨ k = 1 ∨ k = 2 ∨ k = 3 ∨ k = 4 ∨ k = 5 ∨ k = 6 ∨ k = 7 := by omega
        rcases e with rfl | rfl | rfl | rfl | rfl | rfl | rfl | rfl <;> decide
      have hy := HB.out (ys.getD k 0) (by simp [List.getD, show k < ys.length by rw [hl8.out]; exact hlt])
      have HN := Lib.hid (num_take (xs := ys) (k := k) (by rw [hl8.out]; exact hlt))
      have HO := Lib.hid (or_low (a := num (ys.take k)) (c := ys.getD k 0) ⟨hb.1, by omega⟩ hy)
      obtain ⟨hn0, hn1⟩ := hb
      have hn2 : num (ys.take k) < 72057594037927936 := by omega
      obtain ⟨hy0, hy1⟩ := hy
      clear hn1 hp
      generalize num (ys.take k) = nk at *
      generalize ys.getD k 0 = yk at *
      go_wp2_with fail
      go_roundw
      case rel => exact ⟨k + 1, by go_num, by omega, by rw [HO.out, ← HN.out], trivial⟩
      case measure => simp [intOf]; omega
    · obtain rfl : k = 8 := by omega
      rw [List.take_of_length_le (by rw [hl8.out]; omega)]
      clear hlt hk
      go_wp2_with fail
      go_ret2
      exact ⟨m, rfl, rfl⟩

theorem Left_ok {w : World} {p : Nat} {v : Value} {xs : List Int} {pos : Nat} (h : RrV w p v xs pos) :
    Calls Tryd.prog 82 #[.pointer (some ⟨p, 0, none⟩)] w fun e w' => ∃ m, e = .returned (.int .i64 ((xs.length : Int) - (pos : Int))) ∧ w' = w.drewN m := by
  have hlen := h.len
  have hle := h.le
  obtain ⟨qv, kv, rfl⟩ := (rd_of_row h.own).len
  obtain ⟨c0, c1, c2, -, -, -⟩ := h.cells
  clear h
  go_enter Tryd.func82, Tryd.ntmps82
  go_wp2_with fail
  go_quiet (fail)
  go_wp2_with fail
  go_ret
  exact ⟨_, rfl, rfl⟩

theorem Done_all {w : World} {p : Nat} {v : Value} {xs : List Int} (h : RrV w p v xs xs.length) :
    Calls Tryd.prog 63 #[.pointer (some ⟨p, 0, none⟩)] w fun e w' => ∃ m, e = .returned (.int .i64 0) ∧ w' = w.drewN m := by
  have H := Lib.hid h
  obtain ⟨c0, -, -, c3, -, -⟩ := h.cells
  clear h
  go_enter Tryd.func63, Tryd.ntmps63
  go_wp2_with fail
  refine (Left_ok H.out).mono ?_
  rintro e w1 ⟨m, rfl, rfl⟩
  rw [Int.sub_self]
  go_wp2_with fail
  go_ret
  exact ⟨m, rfl, rfl⟩

theorem chg_setCells (b : Nat) : ∀ (vs : List Value) (o : Nat) {a w : World}, Chg a w [b] → Chg a (w.setCells b o vs) [b]
  | [], _, _, _, h => h
  | v :: vs, o, _, _, h => chg_setCells b vs (o + 1) (h.setCell (p := ⟨b, o, none⟩) (.inl (by simp)) v)
theorem RrV.drewN {w : World} {p : Nat} {v : Value} {xs : List Int} {pos : Nat} (h : RrV w p v xs pos) (m : Nat) : RrV (w.drewN m) p v xs pos := ⟨h.blk, h.own, h.le, h.len⟩


/-- A reader that met an error. -/
def RrF (w : World) (p : Nat) : Prop := ∃ (v : Value) (pos : Nat) (f : Int), f ≠ 0 ∧ w.heap[p]? = some (.cells #[.bool true, v, .int .i64 pos, .int .i64 f] 145 (0, 0))
theorem RrF.on {w w' : World} {p : Nat} (h : RrF w p) (hb : Below w.heap.size w w') : RrF w' p := by
  obtain ⟨v, pos, f, h1, h2⟩ := h
  exact ⟨v, pos, f, h1, by rw [hb.block p (Array.getElem?_eq_some_iff.1 h2).1]; exact h2⟩
theorem RrF.lt {w : World} {p : Nat} (h : RrF w p) : p < w.heap.size := by
  obtain ⟨v, pos, f, h1, h2⟩ := h
  exact (Array.getElem?_eq_some_iff.1 h2).1
theorem RrV.fail {w : World} {p : Nat} {v : Value} {xs : List Int} {pos : Nat} (h : RrV w p v xs pos) {f : Int} (hf : f ≠ 0) : RrF (w.setCell ⟨p, 3, none⟩ (.int .i64 f)) p :=
  ⟨v, pos, f, hf, by rw [Joins.block_setCell (i := 3) h.blk]; rfl⟩
theorem ready_bad {w : World} {p : Nat} (h : RrF w p) :
    Calls Tryd.prog 114 #[.pointer (some ⟨p, 0, none⟩)] w fun e w' => e = .returned (.bool false) ∧ w = w' := by
  obtain ⟨v, pos, f, h1, h2⟩ := h
  have c0 := (Joins.cell_of_block h2 0).trans (rfl : _ = some _)
  have c3 := (Joins.cell_of_block h2 3).trans (rfl : _ = some _)
  have d0 : (f == 0) = false := by simpa using h1
  clear h2
  go_enter Tryd.func114, Tryd.ntmps114
  go_wp2_with fail
  go_ret
  exact ⟨rfl, rfl⟩
set_option maxHeartbeats 1000000 in
theorem look_bad {w : World} {p : Nat} {v : Value} {xs : List Int} {pos : Nat} (h : RrV w p v xs pos) {n : Nat} (hn : n ≤ 1000000) (hf : xs.length < pos + n) :
    Calls Tryd.prog 116 #[.pointer (some ⟨p, 0, none⟩), .int .i64 n] w fun e w' => e = .returned (.tuple #[.slice none 0 0, .bool false]) ∧ RrF w' p ∧ Chg w w' [p] := by
  have hlen := h.len
  have hle := h.le
  have H := Lib.hid h
  obtain ⟨qv, kv, rfl⟩ := (rd_of_row h.own).len
  obtain ⟨-, c1, c2, -, -, f3⟩ := h.cells
  have hg : (xs.length : Int) - (pos : Int) < (n : Int) := by omega
  have c3 := h.cells.2.2.2.1
  clear h
  go_enter Tryd.func116, Tryd.ntmps116
  go_wp2_with fail
  go_quiet (fail)
  go_wp2_with fail
  have HF : Hid (∀ m, RrF ((w.drewN m).setCell ⟨p, 3, none⟩ (.int .i64 20)) p) := fun m => (H.out.drewN m).fail (by decide)
  have HC : Hid (∀ m, Chg w ((w.drewN m).setCell ⟨p, 3, none⟩ (.int .i64 20)) [p]) := fun m => (show Chg w (w.drewN m) [p] from ⟨rfl, rfl, rfl, Nat.le_refl _, fun _ _ _ => rfl⟩).setCell (.inl (by simp)) _
  go_ret2
  exact ⟨rfl, HF.out _, HC.out _⟩
set_option maxHeartbeats 1000000 in
theorem lookUint_bad {w : World} {p : Nat} {v : Value} {xs : List Int} {pos : Nat} (h : RrV w p v xs pos) (hf : xs.length < pos + 8) :
    Calls Tryd.prog 115 #[.pointer (some ⟨p, 0, none⟩)] w fun e w' => e = .returned (.tuple #[.int .u64 0, .bool false]) ∧ RrF w' p ∧ Chg w w' [p] := by
  have H := Lib.hid h
  clear h
  go_enter Tryd.func115, Tryd.ntmps115
  go_wp2_with fail
  refine (look_bad H.out (n := 8) (by omega) hf).mono ?_
  rintro e w1 ⟨rfl, hF, hC⟩
  have HF := Lib.hid hF
  have HC := Lib.hid hC
  clear hF hC
  go_wp2_with fail
  refine wp_loop_rounds 1 ?_
  rw [rounds_succ]
  go_wp2_with fail
  go_ret2
  exact ⟨rfl, HF.out, HC.out⟩

/-! ### Count -/
theorem Count_bad {w : World} {p : Nat} {most : Int} (h : RrF w p) :
    Calls Tryd.prog 119 #[.pointer (some ⟨p, 0, none⟩), .int .i64 most] w fun e w' => e = .returned (.int .i64 0) ∧ RrF w' p ∧ Chg w w' [p] := by
  have H := Lib.hid h
  clear h
  go_enter Tryd.func119, Tryd.ntmps119
  go_wp2_with fail
  refine (ready_bad H.out).mono ?_
  rintro e w1 ⟨rfl, rfl⟩
  go_wp2_with fail
  go_ret
  exact ⟨rfl, H.out, Chg.refl _ _⟩
theorem Count_end {w : World} {p : Nat} {v : Value} {xs : List Int} {pos : Nat} {most : Int} (h : RrV w p v xs pos) (hf : xs.length < pos + 8) :
    Calls Tryd.prog 119 #[.pointer (some ⟨p, 0, none⟩), .int .i64 most] w fun e w' => e = .returned (.int .i64 0) ∧ RrF w' p ∧ Chg w w' [p] := by
  have H := Lib.hid h
  clear h
  go_enter Tryd.func119, Tryd.ntmps119
  go_wp2_with fail
  refine (ready_ok H.out).mono ?_
  rintro e w1 ⟨rfl, rfl⟩
  go_wp2_with fail
  refine (lookUint_bad H.out hf).mono ?_
  rintro e w1 ⟨rfl, hF, hC⟩
  have HF := Lib.hid hF
  have HC := Lib.hid hC
  clear hF hC
  go_wp2_with fail
  go_ret
  exact ⟨rfl, HF.out, HC.out⟩
set_option maxHeartbeats 2000000 in
theorem Count_big {w : World} {p : Nat} {v : Value} {xs : List Int} {pos : Nat} {most : Nat} (h : RrV w p v xs pos) (hx : Bytes xs) (hm : most ≤ 1000000) (hf : pos + 8 ≤ xs.length) (hz : (most : Int) < num ((xs.drop pos).take 8)) :
    Calls Tryd.prog 119 #[.pointer (some ⟨p, 0, none⟩), .int .i64 most] w fun e w' => e = .returned (.int .i64 0) ∧ RrF w' p ∧ Chg w w' [p] := by
  have H := Lib.hid h
  have HX := Lib.hid hx
  have u0 : IntKind.u64.wrap (most : Int) = (most : Int) := by rw [IntKind.wrap_u64]; omega
  clear h hx
  go_enter Tryd.func119, Tryd.ntmps119
  go_wp2_with fail
  refine (ready_ok H.out).mono ?_
  rintro e w1 ⟨rfl, rfl⟩
  go_wp2_with fail
  refine (lookUint_ok H.out HX.out hf).mono ?_
  rintro e w2 ⟨m, rfl, rfl⟩
  have H1 := Lib.hid (H.out.drewN m)
  have HF : Hid (RrF ((w.drewN m).setCell ⟨p, 3, none⟩ (.int .i64 21)) p) := H1.out.fail (by decide)
  have HC : Hid (Chg w ((w.drewN m).setCell ⟨p, 3, none⟩ (.int .i64 21)) [p]) := (show Chg w (w.drewN m) [p] from ⟨rfl, rfl, rfl, Nat.le_refl _, fun _ _ _ => rfl⟩).setCell (.inl (by simp)) _
  obtain ⟨-, -, -, c3, -, f3⟩ := H1.out.cells
  generalize num ((xs.drop pos).take 8) = z at *
  clear H H1
  go_wp2_with fail
  go_ret
  exact ⟨rfl, HF.out, HC.out⟩
set_option maxHeartbeats 2000000 in
theorem Count_ok {w : World} {p : Nat} {v : Value} {xs : List Int} {pos : Nat} {most : Nat} (h : RrV w p v xs pos) (hx : Bytes xs) (hm : most ≤ 1000000) (hf : pos + 8 ≤ xs.length) {z : Nat} (hz : num ((xs.drop pos).take 8) = z) (hzm : z ≤ most) :
    Calls Tryd.prog 119 #[.pointer (some ⟨p, 0, none⟩), .int .i64 most] w fun e w' => e = .returned (.int .i64 z) ∧ RrV w' p v xs (pos + 8) ∧ Chg w w' [p] := by
  have H := Lib.hid h
  have HX := Lib.hid hx
  have hlen := h.len
  have u0 : IntKind.u64.wrap (most : Int) = (most : Int) := by rw [IntKind.wrap_u64]; omega
  have hzI : ¬ (most : Int) < (z : Int) := by omega
  clear h hx
  go_enter Tryd.func119, Tryd.ntmps119
  go_wp2_with fail
  refine (ready_ok H.out).mono ?_
  rintro e w1 ⟨rfl, rfl⟩
  go_wp2_with fail
  refine (lookUint_ok H.out HX.out hf).mono ?_
  rintro e w2 ⟨m, rfl, rfl⟩
  rw [hz]
  have H1 := Lib.hid (H.out.drewN m)
  have HP : Hid (RrV ((w.drewN m).setCell ⟨p, 2, none⟩ (.int .i64 ((pos : Int) + 8))) p v xs (pos + 8)) := by
    have := H1.out.pass (q := pos + 8) hf
    rw [show ((pos + 8 : Nat) : Int) = (pos : Int) + 8 by push_cast; rfl] at this
    exact this
  have HC : Hid (Chg w ((w.drewN m).setCell ⟨p, 2, none⟩ (.int .i64 ((pos : Int) + 8))) [p]) := (show Chg w (w.drewN m) [p] from ⟨rfl, rfl, rfl, Nat.le_refl _, fun _ _ _ => rfl⟩).setCell (.inl (by simp)) _
  obtain ⟨-, -, c2, -, f2, -⟩ := H1.out.cells
  clear H H1 hz
  go_wp2_with fail
  go_ret
  exact ⟨rfl, HP.out, HC.out⟩

/-! ### Hash, where there is an error; Done -/
theorem Done_bad {w : World} {p : Nat} (h : RrF w p) :
    Calls Tryd.prog 63 #[.pointer (some ⟨p, 0, none⟩)] w fun e w' => ∃ f : Int, f ≠ 0 ∧ e = .returned (.int .i64 f) ∧ w' = w := by
  obtain ⟨v, pos, f, h1, h2⟩ := h
  have c0 := (Joins.cell_of_block h2 0).trans (rfl : _ = some _)
  have c3 := (Joins.cell_of_block h2 3).trans (rfl : _ = some _)
  have d0 : (f == 0) = false := by simpa using h1
  have HN := Lib.hid h1
  clear h2 h1
  go_enter Tryd.func63, Tryd.ntmps63
  go_wp2_with fail
  go_ret
  exact ⟨f, HN.out, rfl, rfl⟩
theorem Done_left {w : World} {p : Nat} {v : Value} {xs : List Int} {pos : Nat} (h : RrV w p v xs pos) (hlt : pos < xs.length) :
    Calls Tryd.prog 63 #[.pointer (some ⟨p, 0, none⟩)] w fun e w' => ∃ m, e = .returned (.int .i64 21) ∧ w' = w.drewN m := by
  have H := Lib.hid h
  have hg : (0 : Int) < (xs.length : Int) - (pos : Int) := by omega
  obtain ⟨c0, -, -, c3, -, -⟩ := h.cells
  clear h
  go_enter Tryd.func63, Tryd.ntmps63
  go_wp2_with fail
  refine (Left_ok H.out).mono ?_
  rintro e w1 ⟨m, rfl, rfl⟩
  go_wp2_with fail
  go_ret
  exact ⟨m, rfl, rfl⟩
end Go.Proofs.YtcpoaalhpjipaaaDoor
namespace Go.Proofs.YtcpoaalhpjipaaaDoor
set_option maxRecDepth 100000
open Go.RowKit

/-- The slice v holds these numbers, and lies in no block of S. -/
def RdN (w : World) (v : Value) (ns : List Int) (S : List Nat) : Prop := ∃ q c, v = .slice q ns.length c ∧ (ns = [] ∨ ∃ b off, q = some ⟨b, off, none⟩ ∧ b ∉ S ∧ ∀ i, i < ns.length → w.cell? ⟨b, off + i, none⟩ = some (.int .u64 (ns.getD i 0)))
theorem RdN.at {w : World} {q : Option Addr} {n c : Nat} {ns : List Int} {S : List Nat} (h : RdN w (.slice q n c) ns S) {i : Nat} (hi : i < ns.length) :
    ∃ b off, n = ns.length ∧ q = some ⟨b, off, none⟩ ∧ b ∉ S ∧ w.cell? ⟨b, off + i, none⟩ = some (.int .u64 (ns.getD i 0)) := by
  obtain ⟨q', c', e, rfl | ⟨b, off, rfl, hb, hx⟩⟩ := h
  · simp at hi
  · simp only [Value.slice.injEq] at e
    exact ⟨b, off, e.2.1, e.1, hb, hx i hi⟩
/-- The bytes of numbers. -/
def nums (ns : List Int) : List Int := ns.flatMap be8
theorem nums_take {ns : List Int} {i : Nat} (hi : i < ns.length) : nums (ns.take (i + 1)) = nums (ns.take i) ++ be8 (ns.getD i 0) := by
  have e : ns.take (i + 1) = ns.take i ++ [ns.getD i 0] := by
    rw [List.take_add_one]
    simp [List.getD, hi]
  rw [e, nums, List.flatMap_append]
  simp [nums]
theorem nums_len : ∀ ns : List Int, (nums ns).length = 8 * ns.length
  | [] => rfl
  | n :: ns => by
    have := nums_len ns
    simp only [nums, List.flatMap_cons, List.length_append, be8_len, List.length_cons] at this ⊢
    omega

theorem room_yes {w : World} {p : Nat} {v : Value} {xs : List Int} (h : WrV w p v xs) {n s : Nat} (hs : 0 < s) (hl : xs.length + n * s ≤ 65536) :
    Calls Tryd.prog 76 #[.pointer (some ⟨p, 0, none⟩), .int .i64 n, .int .i64 s] w fun e w' => e = .returned (.bool true) ∧ w' = w := by
  obtain ⟨c0, c1, -⟩ := h.cells
  obtain ⟨qv, kv, rfl⟩ := h.rd.len
  go_enter Tryd.func76, Tryd.ntmps76
  have hd : decide ((n : Int) ≤ (65536 - (xs.length : Int)) / (s : Int)) = true := by
    refine decide_eq_true (Int.le_ediv_of_mul_le (by omega) ?_)
    have : ((n * s : Nat) : Int) ≤ 65536 - (xs.length : Int) := by omega
    rw [Int.natCast_mul] at this
    exact this
  go_wp2_with fail
  go_ret
  exact ⟨rfl, rfl⟩

set_option maxHeartbeats 4000000 in
theorem WUint_fits {w : World} {p : Nat} {v : Value} {xs : List Int} (h : WrV w p v xs) {a : Value} {ns : List Int} (hN : RdN w a ns (p :: v.ownBlock.toList)) (hl : xs.length + 8 * ns.length ≤ 65536) :
    Calls Tryd.prog 56 #[.pointer (some ⟨p, 0, none⟩), a] w fun e w' => e = .returned (.int .i64 0) ∧ WSt w p v w' (xs ++ nums ns) := by
  have H0 : Hid (WSt w p v w (xs ++ nums (ns.take 0))) := by
    show WSt w p v w _
    exact (WSt.start h).of_eq (by simp [nums])
  obtain ⟨c0, c1, -⟩ := h.cells
  have hroom := Lib.hid (room_yes h (n := ns.length) (s := 8) (by omega) (by omega))
  obtain ⟨qv, kv, rfl⟩ := h.rd.len
  obtain ⟨q, c, rfl⟩ : ∃ q c, a = .slice q ns.length c := by obtain ⟨q, c, e, _⟩ := hN; exact ⟨q, c, e⟩
  have HN := Lib.hid hN
  have hn : ns.length ≤ 65536 := by omega
  clear h hN
  go_enter Tryd.func56, Tryd.ntmps56
  go_wp2_with fail
  refine (hroom.out).mono ?_
  rintro e wx ⟨rfl, rfl⟩
  go_wp2_with fail
  obtain ⟨w0, rfl⟩ : ∃ w0 : World, w0 = wx := ⟨_, rfl⟩
  clear c0 c1 hroom
  go_loopw [6, 26] (fun _ iv wr => ∃ i : Nat, iv = .int .i64 i ∧ i ≤ ns.length ∧ Hid (WSt w0 p (.slice qv xs.length kv) wr (xs ++ nums (ns.take i)))) (fun _ iv _ => ns.length - (intOf iv).toNat)
  case atStart => exact ⟨0, rfl, by omega, H0⟩
  case round =>
    clear H0
    obtain ⟨i, rfl, hil, hS⟩ := hrel
    by_cases hlt : i < ns.length
    · obtain ⟨q1, k1, h1, h2, h3⟩ := hS.out.own
      obtain ⟨b, off, -, rfl, hbS, hcw⟩ := HN.out.at hlt
      have hc : wr.cell? ⟨b, off + i, none⟩ = some (.int .u64 (ns.getD i 0)) := by
        rw [World.cell?_of_block (w := w0) (h2.block b (lt_of_cell hcw) hbS)]; exact hcw
      have hlen : (xs ++ nums (ns.take i)).length ≤ 65536 := by
        rw [List.length_append, nums_len, List.length_take]; omega
      have H1 := Lib.hid h1
      have H23 := Lib.hid (And.intro h2 h3)
      have HB := Lib.hid (nums_take hlt)
      clear h1 h2 h3 hS hcw hbS
      generalize hbb : ns.getD i 0 = x at hc HB
      go_wp2_with fail
      refine (putUint_any H1.out hlen _).mono ?_
      rintro e w3 ⟨rfl, hw3⟩
      have HS3 : Hid (WSt w0 p (.slice qv xs.length kv) w3 (xs ++ nums (ns.take i) ++ be8 x)) :=
        WSt.trans ⟨_, H1.out, H23.out.1, H23.out.2⟩ (fun u hu => by
          have e1 : u = .slice q1 (xs ++ nums (ns.take i)).length k1 := by
            have := hu.cells.2.1
            rw [H1.out.cells.2.1] at this
            exact (Option.some.inj this).symm
          rw [e1]
          exact hw3)
      clear hw3 H1 H23 hc
      go_wp2_with fail
      go_roundw
      case rel =>
        refine ⟨i + 1, by go_num, by omega, ?_⟩
        show WSt w0 p _ _ _
        rw [HB.out, ← List.append_assoc]
        exact HS3.out
      case measure => simp [intOf]; omega
    · obtain rfl : i = ns.length := by omega
      have hb := hS.out
      rw [List.take_length] at hb
      replace hS := Lib.hid hb
      clear hb
      go_wp2_with fail
      go_ret
      exact ⟨rfl, hS.out⟩
end Go.Proofs.YtcpoaalhpjipaaaDoor
namespace Go.Proofs.YtcpoaalhpjipaaaDoor
open Go.RowKit

/-- The base of a digit. -/
def B : Int := 18446744073709551616
/-- A digit. -/
def Dg (x : Int) : Prop := 0 ≤ x ∧ x < B
/-- Four digits. -/
def D4 (a0 a1 a2 a3 : Int) : Prop := Dg a0 ∧ Dg a1 ∧ Dg a2 ∧ Dg a3
/-- What four digits tell. -/
def V (a0 a1 a2 a3 : Int) : Int := a0 + B * a1 + B * B * a2 + B * B * B * a3
/-- The greatest number, and one. -/
def M : Int := B * B * B * B

theorem V_lo {a0 a1 a2 a3 : Int} (h : D4 a0 a1 a2 a3) : 0 ≤ V a0 a1 a2 a3 := by
  unfold D4 Dg B at h; unfold V B; omega
theorem V_hi {a0 a1 a2 a3 : Int} (h : D4 a0 a1 a2 a3) : V a0 a1 a2 a3 < M := by
  unfold D4 Dg B at h; unfold V M B; omega
theorem V_inj {a0 a1 a2 a3 b0 b1 b2 b3 : Int} (h : D4 a0 a1 a2 a3) (k : D4 b0 b1 b2 b3) (e : V a0 a1 a2 a3 = V b0 b1 b2 b3) : a0 = b0 ∧ a1 = b1 ∧ a2 = b2 ∧ a3 = b3 := by
  unfold D4 Dg B at h k; unfold V B at e; omega

/-- The difference's low 64 bits, and what is borrowed. -/
def sb (x y b : Int) : Int := (x + 18446744073709551616 - y - b) % 18446744073709551616
def bo (x y b : Int) : Int := if x < y + b then 1 else 0
theorem bo_lo (x y b : Int) : 0 ≤ bo x y b := by unfold bo; split <;> omega
theorem bo_hi (x y b : Int) : bo x y b ≤ 1 := by unfold bo; split <;> omega
theorem sb_eq {x y b : Int} (hx : Dg x) (hy : Dg y) (h0 : 0 ≤ b) (h1 : b ≤ 1) : Dg (sb x y b) ∧ sb x y b = x - y - b + B * bo x y b := by
  unfold Dg B at *; unfold sb bo; split <;> omega
theorem sub4 {a0 a1 a2 a3 b0 b1 b2 b3 : Int} (h : D4 a0 a1 a2 a3) (k : D4 b0 b1 b2 b3) :
    D4 (sb a0 b0 0) (sb a1 b1 (bo a0 b0 0)) (sb a2 b2 (bo a1 b1 (bo a0 b0 0))) (sb a3 b3 (bo a2 b2 (bo a1 b1 (bo a0 b0 0)))) ∧
    V (sb a0 b0 0) (sb a1 b1 (bo a0 b0 0)) (sb a2 b2 (bo a1 b1 (bo a0 b0 0))) (sb a3 b3 (bo a2 b2 (bo a1 b1 (bo a0 b0 0)))) =
      V a0 a1 a2 a3 - V b0 b1 b2 b3 + M * bo a3 b3 (bo a2 b2 (bo a1 b1 (bo a0 b0 0))) := by
  obtain ⟨h0, h1, h2, h3⟩ := h
  obtain ⟨k0, k1, k2, k3⟩ := k
  have e0 := sb_eq h0 k0 (Int.le_refl 0) (by omega)
  have e1 := sb_eq h1 k1 (bo_lo a0 b0 0) (bo_hi _ _ _)
  have e2 := sb_eq h2 k2 (bo_lo a1 b1 (bo a0 b0 0)) (bo_hi _ _ _)
  have e3 := sb_eq h3 k3 (bo_lo a2 b2 (bo a1 b1 (bo a0 b0 0))) (bo_hi _ _ _)
  refine ⟨⟨e0.1, e1.1, e2.1, e3.1⟩, ?_⟩
  have f0 := e0.2; have f1 := e1.2; have f2 := e2.2; have f3 := e3.2
  generalize sb a3 b3 (bo a2 b2 (bo a1 b1 (bo a0 b0 0))) = r3 at *
  generalize bo a3 b3 (bo a2 b2 (bo a1 b1 (bo a0 b0 0))) = c3 at *
  generalize sb a2 b2 (bo a1 b1 (bo a0 b0 0)) = r2 at *
  generalize bo a2 b2 (bo a1 b1 (bo a0 b0 0)) = c2 at *
  generalize sb a1 b1 (bo a0 b0 0) = r1 at *
  generalize bo a1 b1 (bo a0 b0 0) = c1 at *
  generalize sb a0 b0 0 = r0 at *
  generalize bo a0 b0 0 = c0 at *
  unfold V M; unfold B at *; omega

/-- The sum's low 64 bits, and what is carried. -/
def ad (x y c : Int) : Int := (x + y + c) % 18446744073709551616
def ca (x y c : Int) : Int := (x + y + c) / 18446744073709551616
theorem ad_eq {x y c : Int} (hx : Dg x) (hy : Dg y) (h0 : 0 ≤ c) (h1 : c ≤ 1) : Dg (ad x y c) ∧ ad x y c = x + y + c - B * ca x y c ∧ 0 ≤ ca x y c ∧ ca x y c ≤ 1 := by
  unfold Dg B at *; unfold ad ca; omega
theorem ca_lo {x y c : Int} (hx : Dg x) (hy : Dg y) (h0 : 0 ≤ c) (h1 : c ≤ 1) : 0 ≤ ca x y c := (ad_eq hx hy h0 h1).2.2.1
theorem ca_hi {x y c : Int} (hx : Dg x) (hy : Dg y) (h0 : 0 ≤ c) (h1 : c ≤ 1) : ca x y c ≤ 1 := (ad_eq hx hy h0 h1).2.2.2
theorem add4 {a0 a1 a2 a3 b0 b1 b2 b3 : Int} (h : D4 a0 a1 a2 a3) (k : D4 b0 b1 b2 b3) :
    (0 ≤ ca a0 b0 0 ∧ ca a0 b0 0 ≤ 1) ∧ (0 ≤ ca a1 b1 (ca a0 b0 0) ∧ ca a1 b1 (ca a0 b0 0) ≤ 1) ∧ (0 ≤ ca a2 b2 (ca a1 b1 (ca a0 b0 0)) ∧ ca a2 b2 (ca a1 b1 (ca a0 b0 0)) ≤ 1) ∧
    (0 ≤ ca a3 b3 (ca a2 b2 (ca a1 b1 (ca a0 b0 0))) ∧ ca a3 b3 (ca a2 b2 (ca a1 b1 (ca a0 b0 0))) ≤ 1) ∧
    D4 (ad a0 b0 0) (ad a1 b1 (ca a0 b0 0)) (ad a2 b2 (ca a1 b1 (ca a0 b0 0))) (ad a3 b3 (ca a2 b2 (ca a1 b1 (ca a0 b0 0)))) ∧
    V (ad a0 b0 0) (ad a1 b1 (ca a0 b0 0)) (ad a2 b2 (ca a1 b1 (ca a0 b0 0))) (ad a3 b3 (ca a2 b2 (ca a1 b1 (ca a0 b0 0)))) =
      V a0 a1 a2 a3 + V b0 b1 b2 b3 - M * ca a3 b3 (ca a2 b2 (ca a1 b1 (ca a0 b0 0))) := by
  obtain ⟨h0, h1, h2, h3⟩ := h
  obtain ⟨k0, k1, k2, k3⟩ := k
  have e0 := ad_eq h0 k0 (Int.le_refl 0) (by omega)
  have e1 := ad_eq h1 k1 e0.2.2.1 e0.2.2.2
  have e2 := ad_eq h2 k2 e1.2.2.1 e1.2.2.2
  have e3 := ad_eq h3 k3 e2.2.2.1 e2.2.2.2
  refine ⟨e0.2.2, e1.2.2, e2.2.2, e3.2.2, ⟨e0.1, e1.1, e2.1, e3.1⟩, ?_⟩
  have f0 := e0.2.1; have f1 := e1.2.1; have f2 := e2.2.1; have f3 := e3.2.1
  generalize ad a3 b3 (ca a2 b2 (ca a1 b1 (ca a0 b0 0))) = r3 at *
  generalize ca a3 b3 (ca a2 b2 (ca a1 b1 (ca a0 b0 0))) = c3 at *
  generalize ad a2 b2 (ca a1 b1 (ca a0 b0 0)) = r2 at *
  generalize ca a2 b2 (ca a1 b1 (ca a0 b0 0)) = c2 at *
  generalize ad a1 b1 (ca a0 b0 0) = r1 at *
  generalize ca a1 b1 (ca a0 b0 0) = c1 at *
  generalize ad a0 b0 0 = r0 at *
  generalize ca a0 b0 0 = c0 at *
  unfold V M; unfold B at *; omega
end Go.Proofs.YtcpoaalhpjipaaaDoor
