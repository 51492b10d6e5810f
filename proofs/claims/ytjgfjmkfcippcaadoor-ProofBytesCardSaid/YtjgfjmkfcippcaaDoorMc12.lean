/-
  The walks of package codec: a writer that was made, and what is written.; The walks of package codec: NewWriter, Bytes, Blob.; The writer's Uint, where there is room.; The writer's Hash, where there is room.; Steps as bytes: what is written, and a writer that may be full.
-/
import Derived.Deep.RegionHeld3
import Derived.BigQuiet
import Derived.Deep.QuietTactic
import Derived.StillTailTactics
import Derived.Test.YtjgfjmkfcippcaaDoorMc2
import Derived.Test.YtjgfjmkfcippcaaDoorMc11
namespace Go.Proofs.YtjgfjmkfcippcaaDoor
set_option maxRecDepth 100000
open Go.RowKit

/-- Block p holds a Writer that was made; v is its slice, of the bytes xs. -/
structure WrV (w : World) (p : Nat) (v : Value) (xs : List Int) : Prop where
  blk : w.heap[p]? = some (.cells #[.bool true, v] 133 (0, 0))
  own : w.ownsRow 0 5 1 v xs.length (bc xs)
section
variable {w w' : World} {p : Nat} {v : Value} {xs : List Int}
theorem WrV.lt (h : WrV w p v xs) : p < w.heap.size := (Array.getElem?_eq_some_iff.1 h.blk).1
theorem WrV.ne (h : WrV w p v xs) : v.ownBlock ≠ some p := by
  rcases h.own.2 with ⟨rfl, _⟩ | ⟨g, cap, cur, rfl, _, hg, _⟩
  · simp [Value.ownBlock]
  · intro e
    obtain rfl : g = p := by simpa [Value.ownBlock] using e
    rw [h.blk] at hg
    simp at hg
theorem WrV.chg {S : List Nat} (h : WrV w p v xs) (hc : Chg w w' S) (hp : p ∉ S) (hv : ∀ g, v.ownBlock = some g → g ∉ S) : WrV w' p v xs := by
  refine ⟨by rw [hc.block p h.lt hp]; exact h.blk, h.own.1, ?_⟩
  rcases h.own.2 with hn | ⟨g, cap, cur, rfl, hb, hg, r⟩
  · exact .inl hn
  · exact .inr ⟨g, cap, cur, rfl, hb, by rw [hc.block g (Array.getElem?_eq_some_iff.1 hg).1 (hv g rfl)]; exact hg, r⟩
theorem WrV.on (h : WrV w p v xs) (hb : Below w.heap.size w w') : WrV w' p v xs := h.chg (S := []) (Chg.below hb (Nat.le_refl _) []) (by simp) (fun _ _ => by simp)
theorem WrV.alloc (h : WrV w p v xs) (o : Obj) : WrV (w.alloc o) p v xs := h.on ((Below.refl _ _).alloc (Nat.le_refl _) o)
theorem WrV.drew (h : WrV w p v xs) : WrV w.drew p v xs := ⟨h.blk, h.own⟩
theorem WrV.cells (h : WrV w p v xs) : w.cell? ⟨p, 0, none⟩ = some (.bool true) ∧ w.cell? ⟨p, 1, none⟩ = some v ∧ w.frozen? ⟨p, 1, none⟩ = false :=
  ⟨by rw [Joins.cell_of_block h.blk]; rfl, by rw [Joins.cell_of_block h.blk]; rfl, Joins.unfrozen_of_block h.blk 1⟩
theorem WrV.rd (h : WrV w p v xs) : Rd w v xs := rd_of_row h.own
end

/-- A Writer behind some writing: of what there was in w its own block and its row alone may have changed. -/
def WSt (w : World) (p : Nat) (v : Value) (wr : World) (xs : List Int) : Prop :=
  ∃ v', WrV wr p v' xs ∧ Chg w wr (p :: v.ownBlock.toList) ∧ (v'.ownBlock = v.ownBlock ∨ ∀ g, v'.ownBlock = some g → w.heap.size ≤ g)
section
variable {w wr w1 : World} {p : Nat} {v v' v'' : Value} {xs ys : List Int}
theorem WSt.start (h : WrV w p v xs) : WSt w p v w xs := ⟨v, h, Chg.refl w _, .inl rfl⟩
theorem WSt.trans {a b c : World} {zs : List Int} (h : WSt a p v b ys) (k : ∀ u, WrV b p u ys → WSt b p u c zs) : WSt a p v c zs := by
  obtain ⟨v', h1, h2, h3⟩ := h
  obtain ⟨v'', k1, k2, k3⟩ := k v' h1
  refine ⟨v'', k1, h2.trans k2 ?_, ?_⟩
  · intro x hx hl
    rcases List.mem_cons.1 hx with rfl | hx
    · simp
    · rcases h3 with e | e
      · rw [e] at hx; exact List.mem_cons.2 (.inr hx)
      · have := e x (by simpa using hx); omega
  · rcases k3 with e | e
    · rw [e]
      rcases h3 with e' | e'
      · exact .inl e'
      · exact .inr e'
    · exact .inr fun g hg => Nat.le_trans h2.size (e g hg)
/-- Behind an append, and the store of the longer slice. -/
theorem WSt.step (h : WrV wr p v' xs) (hc : Chg w wr (p :: v.ownBlock.toList)) (hf : v'.ownBlock = v.ownBlock ∨ ∀ g, v'.ownBlock = some g → w.heap.size ≤ g)
    {m : Nat} (hm : ys.length = m) (own : w1.ownsRow 0 5 1 v'' (xs.length + m) (bc xs ++ bc ys)) (hg : wr.grownBy w1 v'.ownBlock) (hv : v''.ownBlock = v'.ownBlock ∨ v''.ownBlock = some wr.heap.size) :
    WSt w p v (w1.setCell ⟨p, 1, none⟩ v'') (xs ++ ys) := by
  subst hm
  have hp : p < w1.heap.size := Nat.lt_of_lt_of_le h.lt hg.size
  have hblk : w1.heap[p]? = some (.cells #[.bool true, v'] 133 (0, 0)) := by
    rw [hg.block p h.lt (fun e => h.ne e.symm)]; exact h.blk
  have hnp : v''.ownBlock ≠ some p := by
    rcases hv with e | e
    · rw [e]; exact h.ne
    · rw [e]; intro e'; have := h.lt; simp at e'; omega
  refine ⟨v'', ⟨?_, ?_⟩, ?_, ?_⟩
  · rw [Joins.block_setCell (i := 1) hblk v'']; rfl
  · rw [List.length_append, bc_append]
    refine ⟨own.1, ?_⟩
    rcases own.2 with hn | ⟨g, cap, cur, rfl, hb, hgg, r⟩
    · exact .inl hn
    · exact .inr ⟨g, cap, cur, rfl, hb, by rw [Below.heap_setCell _ _ _ _ (fun e => hnp (by simp only [Value.ownBlock]; rw [show g = p from e]))]; exact hgg, r⟩
  · refine (hc.trans (T := v'.ownBlock.toList) (Chg.grown hg (fun k hk => by simp [hk])) ?_).setCell (.inl (by simp)) v''
    intro x hx hl
    rcases hf with e | e
    · rw [e] at hx; exact List.mem_cons.2 (.inr hx)
    · have := e x (by simpa using hx); omega
  · rcases hv with e | e
    · rw [e]; exact hf
    · refine .inr fun g hg' => ?_
      rw [e] at hg'
      have := hc.size
      simp at hg'
      omega
end

theorem be8_get (n : Int) {k : Nat} (hk : k < 8) : (be8 n).take (k + 1) = (be8 n).take k ++ [n / 2 ^ (56 - 8 * k) % 256] := by
  have e : k = 0 ∨ k = 1 ∨ k = 2 ∨ k = 3 ∨ k = 4 ∨ k = 5 ∨ k = 6 ∨ k = 7 := by omega
  rcases e with rfl | rfl | rfl | rfl | rfl | rfl | rfl | rfl <;> simp [be8]

set_option maxHeartbeats 2000000 in
theorem putUint_any {w : World} {p : Nat} {v : Value} {xs : List Int} (h : WrV w p v xs) (hl : xs.length ≤ 65536) (n : Int) :
    Calls Tryd.prog 85 #[.pointer (some ⟨p, 0, none⟩), .int .u64 n] w fun e w' => e = .returned (.tuple #[]) ∧ WSt w p v w' (xs ++ be8 n) := by
  obtain ⟨i0, hi, hz0, hz1, hz2⟩ := info_parts Tryd.infoU8
  have H0 : Hid (WSt w p v w (xs ++ (be8 n).take 0)) := by
    show WSt w p v w _
    simpa using WSt.start h
  clear h
  replace hi := Lib.hid hi
  replace hz0 := Lib.hid hz0
  replace hz1 := Lib.hid hz1
  replace hz2 := Lib.hid hz2
  go_enter Tryd.func85, Tryd.ntmps85
  go_wp2_with fail
  go_loopw [4] (fun sv wr => ∃ k : Nat, sv = .int .i64 (56 - 8 * (k : Int)) ∧ k ≤ 8 ∧ Hid (WSt w p v wr (xs ++ (be8 n).take k))) (fun sv _ => (intOf sv + 8).toNat)
  case atStart => exact ⟨0, by simp, by omega, H0⟩
  case round =>
    clear H0
    obtain ⟨k, rfl, hk, hS⟩ := hrel
    by_cases hlt : k < 8
    · have hd : (0 : Int) ≤ 56 - 8 * (k : Int) := by omega
      obtain ⟨v', h1, h2, h3⟩ := hS.out
      have H1 := Lib.hid h1
      have H2 := Lib.hid (And.intro h2 h3)
      clear h2 h3 hS h1
      obtain ⟨-, c1, f1⟩ := H1.out.cells
      have hpl := H1.out.lt
      go_wp2_with fail
      refine wp_region_held_drew (S := fun _ => True) (by kernel_rfl) (trivial) (fun h0 => ?_)
      refine wpAnyH_take (i := 0) (v := ?_) (by rw [List.getElem?_toArray]; rfl) (by kernel_rfl) (by kernel_rfl) (by kernel_rfl) (by exact fun _ _ _ h => h) (Or.inl ⟨by rfl, ?_⟩) h0 ?_
      rotate_left
      · intro W hW
        go_simp
        all_goals with_reducible rfl
      try simp only [Act.put, List.setIfInBounds_toArray, List.set_cons_zero, List.set_cons_succ]
      refine wpAnyH_take (i := 1) (v := ?_) (by rw [List.getElem?_toArray]; rfl) (by kernel_rfl) (by kernel_rfl) (by kernel_rfl) (by exact fun _ _ _ h => h) (Or.inl ⟨by rfl, ?_⟩) h0 ?_
      rotate_left
      · intro W hW
        go_simp
        all_goals with_reducible rfl
      try simp only [Act.put, List.setIfInBounds_toArray, List.set_cons_zero, List.set_cons_succ]
      refine wpAnyH_take (i := 2) (v := ?_) (by rw [List.getElem?_toArray]; rfl) (by kernel_rfl) (by kernel_rfl) (by kernel_rfl) (by exact fun _ _ _ h => h) (Or.inl ⟨by rfl, ?_⟩) h0 ?_
      rotate_left
      · intro W hW
        go_simp
        all_goals with_reducible rfl
      try simp only [Act.put, List.setIfInBounds_toArray, List.set_cons_zero, List.set_cons_succ]
      refine wpAnyH_take (i := 3) (v := ?_) (by rw [List.getElem?_toArray]; rfl) (by kernel_rfl) (by kernel_rfl) (by kernel_rfl) (by exact fun _ _ _ h => h) (Or.inl ⟨by rfl, ?_⟩) h0 ?_
      rotate_left
      · intro W hW
        go_simp
        all_goals with_reducible rfl
      try simp only [Act.put, List.setIfInBounds_toArray, List.set_cons_zero, List.set_cons_succ]
      refine wpAnyH_take (i := 5) (v := ?_) (by rw [List.getElem?_toArray]; rfl) (by kernel_rfl) (by kernel_rfl) (by kernel_rfl) (by exact fun _ _ _ h => h) (Or.inl ⟨by rfl, ?_⟩) h0 ?_
      rotate_left
      · intro W hW
        go_simp
        all_goals with_reducible rfl
      try simp only [Act.put, List.setIfInBounds_toArray, List.set_cons_zero, List.set_cons_succ]
      refine wpAnyH_take (i := 6) (v := ?_) (by rw [List.getElem?_toArray]; rfl) (by kernel_rfl) (by kernel_rfl) (by kernel_rfl) (by exact fun _ _ _ h => h) (Or.inl ⟨by rfl, ?_⟩) h0 ?_
      rotate_left
      · intro W hW
        go_simp
        all_goals with_reducible rfl
      try simp only [Act.put, List.setIfInBounds_toArray, List.set_cons_zero, List.set_cons_succ]
      refine wpAnyH_take (i := 7) (v := ?_) (by rw [List.getElem?_toArray]; rfl) (by kernel_rfl) (by kernel_rfl) (by kernel_rfl) (by exact fun _ _ _ h => h) (Or.inl ⟨by rfl, ?_⟩) h0 ?_
      rotate_left
      · intro W hW
        go_simp
        all_goals with_reducible rfl
      try simp only [Act.put, List.setIfInBounds_toArray, List.set_cons_zero, List.set_cons_succ]
      refine wpAnyH_take (i := 8) (v := ?_) (by rw [List.getElem?_toArray]; rfl) (by kernel_rfl) (by kernel_rfl) (by kernel_rfl) (by exact fun _ _ _ h => h) (Or.inl ⟨by rfl, ?_⟩) h0 ?_
      rotate_left
      · intro W hW
        go_simp
        all_goals with_reducible rfl
      try simp only [Act.put, List.setIfInBounds_toArray, List.set_cons_zero, List.set_cons_succ]
      refine wpAnyH_ready (rs := [4, 9]) (by kernel_rfl) (by simp) ?_
      refine AllReadyH.cons (by rw [List.getElem?_toArray]; rfl) (fun K hK => ?_) (AllReadyH.cons (by rw [List.getElem?_toArray]; rfl) (fun K hK => ?_) AllReadyH.nil)
      · rw [if_pos (by rfl)]
        go_wp2_with fail
        refine hK.out _ _ (trivial) (fun _ => ?_)
        clear hK K
        try simp only [Act.put, List.setIfInBounds_toArray, List.set_cons_zero, List.set_cons_succ]
        refine wpAnyH_ready (rs := [9]) (by kernel_rfl) (by simp) ?_
        refine AllReadyH.cons (by rw [List.getElem?_toArray]; rfl) (fun K hK => ?_) AllReadyH.nil
        rw [if_pos (by rfl)]
        go_wp2_with fail
        refine hK.out _ _ (trivial) (fun _ => ?_)
        clear hK K
        try simp only [Act.put, List.setIfInBounds_toArray, List.set_cons_zero, List.set_cons_succ]
        refine wpAnyH_ready (rs := [10]) (by kernel_rfl) (by simp) ?_
        refine AllReadyH.cons (by rw [List.getElem?_toArray]; rfl) (fun K hK => ?_) AllReadyH.nil
        rw [if_pos (by rfl)]
        refine wp_append_row _ _ rfl Tryd.underlying64 hi.out hz0.out hz1.out hz2.out rfl (H1.out.alloc _).drew.own (Rd.src (xs := [n / 2 ^ (56 - 8 * k) % 256]) Tryd.underlying64 ?rd) ?b1 ?b2 ?_
        case rd => exact ⟨_, 1, rfl, .inr ⟨wr.heap.size, 0, rfl, fun j hj => by obtain rfl : j = 0 := (by simpa using hj); exact (Joins.cell_of_block (heap_alloc_new wr _) 0).trans rfl⟩⟩
        case b1 => simp; unfold maxLen; omega
        case b2 => simp; omega
        intro q2 k2 w2 own2 grow2 fr2
        have HN := Lib.hid (WSt.step (H1.out.alloc _).drew (H2.out.1.alloc _).drew (by exact H2.out.2) rfl own2 grow2 fr2)
        have c2 : w2.cell? ⟨p, 1, none⟩ = some v' := by
          rw [World.cell?_of_block (grow2.block p (by simp; omega) (fun e => H1.out.ne e.symm))]; exact (H1.out.alloc _).drew.cells.2.1
        have f2 : w2.frozen? ⟨p, 1, none⟩ = false := by
          rw [World.frozen?_of_block (grow2.block p (by simp; omega) (fun e => H1.out.ne e.symm))]; exact (H1.out.alloc _).drew.cells.2.2
        clear own2 grow2 fr2 c1 f1
        refine hK.out _ _ (trivial) (fun _ => ?_)
        clear hK K
        try simp only [Act.put, List.setIfInBounds_toArray, List.set_cons_zero, List.set_cons_succ]
        refine wpAnyH_take (i := 11) (v := ?_) (by rw [List.getElem?_toArray]; rfl) (by kernel_rfl) (by kernel_rfl) (by kernel_rfl) (by exact fun _ _ _ h => h) (Or.inl ⟨by rfl, ?_⟩) h0 ?_
        rotate_left
        · intro W hW
          go_simp
          all_goals with_reducible rfl
        try simp only [Act.put, List.setIfInBounds_toArray, List.set_cons_zero, List.set_cons_succ]
        refine wpAnyH_take (i := 12) (v := ?_) (by rw [List.getElem?_toArray]; rfl) (by kernel_rfl) (by kernel_rfl) (by kernel_rfl) (by exact fun _ _ _ h => h) (Or.inl ⟨by rfl, ?_⟩) h0 ?_
        rotate_left
        · intro W hW
          go_simp
          all_goals with_reducible rfl
        try simp only [Act.put, List.setIfInBounds_toArray, List.set_cons_zero, List.set_cons_succ]
        refine wpAnyH_ready (rs := [13]) (by kernel_rfl) (by simp) ?_
        refine AllReadyH.cons (by rw [List.getElem?_toArray]; rfl) (fun K hK => ?_) AllReadyH.nil
        rw [if_pos (by rfl)]
        go_wp2_with fail
        refine hK.out _ _ (trivial) (fun _ => ?_)
        clear hK K
        try simp only [Act.put, List.setIfInBounds_toArray, List.set_cons_zero, List.set_cons_succ]
        refine wpAnyH_done (by kernel_rfl) ?_ _
        go_wp2_with fail
        go_roundw
        case rel =>
          refine ⟨k + 1, by go_num, by omega, ?_⟩
          show WSt w p v _ _
          rw [be8_get n hlt, ← List.append_assoc]
          have L : (xs ++ List.take k (be8 n)).length + [n / 2 ^ (56 - 8 * k) % 256].length = xs.length + k + 1 := by simp; omega
          have := HN.out
          rw [L] at this
          exact this
        case measure => simp [intOf]; omega
      · rw [if_pos (by rfl)]
        go_wp2_with fail
        refine hK.out _ _ (trivial) (fun _ => ?_)
        clear hK K
        try simp only [Act.put, List.setIfInBounds_toArray, List.set_cons_zero, List.set_cons_succ]
        refine wpAnyH_ready (rs := [4]) (by kernel_rfl) (by simp) ?_
        refine AllReadyH.cons (by rw [List.getElem?_toArray]; rfl) (fun K hK => ?_) AllReadyH.nil
        rw [if_pos (by rfl)]
        go_wp2_with fail
        refine hK.out _ _ (trivial) (fun _ => ?_)
        clear hK K
        try simp only [Act.put, List.setIfInBounds_toArray, List.set_cons_zero, List.set_cons_succ]
        refine wpAnyH_ready (rs := [10]) (by kernel_rfl) (by simp) ?_
        refine AllReadyH.cons (by rw [List.getElem?_toArray]; rfl) (fun K hK => ?_) AllReadyH.nil
        rw [if_pos (by rfl)]
        refine wp_append_row _ _ rfl Tryd.underlying64 hi.out hz0.out hz1.out hz2.out rfl (H1.out.alloc _).drew.own (Rd.src (xs := [n / 2 ^ (56 - 8 * k) % 256]) Tryd.underlying64 ?rd) ?b1 ?b2 ?_
        case rd => exact ⟨_, 1, rfl, .inr ⟨wr.heap.size, 0, rfl, fun j hj => by obtain rfl : j = 0 := (by simpa using hj); exact (Joins.cell_of_block (heap_alloc_new wr _) 0).trans rfl⟩⟩
        case b1 => simp; unfold maxLen; omega
        case b2 => simp; omega
        intro q2 k2 w2 own2 grow2 fr2
        have HN := Lib.hid (WSt.step (H1.out.alloc _).drew (H2.out.1.alloc _).drew (by exact H2.out.2) rfl own2 grow2 fr2)
        have c2 : w2.cell? ⟨p, 1, none⟩ = some v' := by
          rw [World.cell?_of_block (grow2.block p (by simp; omega) (fun e => H1.out.ne e.symm))]; exact (H1.out.alloc _).drew.cells.2.1
        have f2 : w2.frozen? ⟨p, 1, none⟩ = false := by
          rw [World.frozen?_of_block (grow2.block p (by simp; omega) (fun e => H1.out.ne e.symm))]; exact (H1.out.alloc _).drew.cells.2.2
        clear own2 grow2 fr2 c1 f1
        refine hK.out _ _ (trivial) (fun _ => ?_)
        clear hK K
        try simp only [Act.put, List.setIfInBounds_toArray, List.set_cons_zero, List.set_cons_succ]
        refine wpAnyH_take (i := 11) (v := ?_) (by rw [List.getElem?_toArray]; rfl) (by kernel_rfl) (by kernel_rfl) (by kernel_rfl) (by exact fun _ _ _ h => h) (Or.inl ⟨by rfl, ?_⟩) h0 ?_
        rotate_left
        · intro W hW
          go_simp
          all_goals with_reducible rfl
        try simp only [Act.put, List.setIfInBounds_toArray, List.set_cons_zero, List.set_cons_succ]
        refine wpAnyH_take (i := 12) (v := ?_) (by rw [List.getElem?_toArray]; rfl) (by kernel_rfl) (by kernel_rfl) (by kernel_rfl) (by exact fun _ _ _ h => h) (Or.inl ⟨by rfl, ?_⟩) h0 ?_
        rotate_left
        · intro W hW
          go_simp
          all_goals with_reducible rfl
        try simp only [Act.put, List.setIfInBounds_toArray, List.set_cons_zero, List.set_cons_succ]
        refine wpAnyH_ready (rs := [13]) (by kernel_rfl) (by simp) ?_
        refine AllReadyH.cons (by rw [List.getElem?_toArray]; rfl) (fun K hK => ?_) AllReadyH.nil
        rw [if_pos (by rfl)]
        go_wp2_with fail
        refine hK.out _ _ (trivial) (fun _ => ?_)
        clear hK K
        try simp only [Act.put, List.setIfInBounds_toArray, List.set_cons_zero, List.set_cons_succ]
        refine wpAnyH_done (by kernel_rfl) ?_ _
        go_wp2_with fail
        go_roundw
        case rel =>
          refine ⟨k + 1, by go_num, by omega, ?_⟩
          show WSt w p v _ _
          rw [be8_get n hlt, ← List.append_assoc]
          have L : (xs ++ List.take k (be8 n)).length + [n / 2 ^ (56 - 8 * k) % 256].length = xs.length + k + 1 := by simp; omega
          have := HN.out
          rw [L] at this
          exact this
        case measure => simp [intOf]; omega
    · obtain rfl : k = 8 := by omega
      have hb := hS.out
      rw [show (be8 n).take 8 = be8 n from rfl] at hb
      replace hS := Lib.hid hb
      clear hb
      go_wp2_with fail
      go_end0
      exact ⟨rfl, hS.out⟩
end Go.Proofs.YtjgfjmkfcippcaaDoor
namespace Go.Proofs.YtjgfjmkfcippcaaDoor
set_option maxRecDepth 100000
open Go.RowKit

theorem NewWriter_any (w : World) : Calls Tryd.prog 62 #[] w fun e w' => e = .returned (.pointer (some ⟨w.heap.size, 0, none⟩)) ∧ w' = w.alloc (.cells #[.bool true, .slice none 0 0] 133) := by
  go_enter Tryd.func62, Tryd.ntmps62
  go_wp2_with fail
  go_ret
  exact ⟨rfl, rfl⟩
theorem WrV.new (w : World) : WrV (w.alloc (.cells #[.bool true, .slice none 0 0] 133)) w.heap.size (.slice none 0 0) [] :=
  ⟨heap_alloc_new w _, World.ownsRow_nil _ 0 _ 1⟩

/-- A new slice of the bytes xs, in memory of its own. -/
def NewRow (w : World) (xs : List Int) (v : Value) (w' : World) : Prop :=
  (∃ q c, v = .slice q xs.length c) ∧ w'.ownsRow 0 5 1 v xs.length (bc xs) ∧ Below w.heap.size w w' ∧ ∀ k, v.ownBlock = some k → w.heap.size ≤ k
theorem NewRow.rd {w w' : World} {xs : List Int} {v : Value} (h : NewRow w xs v w') : Rd w' v xs := rd_of_row h.2.1

set_option maxHeartbeats 1000000 in
theorem WBytes_any {w : World} {p : Nat} {v : Value} {xs : List Int} (h : WrV w p v xs) (hl : xs.length ≤ 65536) :
    Calls Tryd.prog 66 #[.pointer (some ⟨p, 0, none⟩)] w fun e w' => ∃ u, e = .returned u ∧ NewRow w xs u w' := by
  obtain ⟨i0, hi, hz0, hz1, hz2⟩ := info_parts Tryd.infoU8
  obtain ⟨qv, kv, rfl⟩ := h.rd.len
  obtain ⟨c0, c1, -⟩ := h.cells
  have hs := Lib.hid (h.rd.src (P := Tryd.prog) Tryd.underlying64)
  clear h
  replace hi := Lib.hid hi
  replace hz0 := Lib.hid hz0
  replace hz1 := Lib.hid hz1
  replace hz2 := Lib.hid hz2
  go_enter Tryd.func66, Tryd.ntmps66
  go_wp2_with (at_builtin; refine wpList_append_row rfl _ _ rfl Tryd.underlying64 hi.out hz0.out hz1.out hz2.out rfl (World.ownsRow_nil w 0 _ 1) hs.out ?b1 ?b2 ?_)
  case b1 => unfold maxLen; omega
  case b2 => omega
  intro q2 k2 w2 own2 grow2 fr2
  try simp only [Nat.zero_add, List.nil_append] at own2
  try simp only [Nat.zero_add, List.nil_append] at fr2
  try simp only [Nat.zero_add]
  have H2 := Lib.hid own2
  have HB := Lib.hid ((Below.refl w.heap.size w).grown grow2 (Nat.le_refl _) (by intro k hk; simp [Value.ownBlock] at hk))
  have HF : Hid (∀ k, (Value.slice q2 xs.length k2).ownBlock = some k → w.heap.size ≤ k) := fun k hk => by
    rcases fr2 with e | e
    · rw [e] at hk; simp [Value.ownBlock] at hk
    · rw [e] at hk; simp at hk; omega
  clear own2 grow2 fr2 c0 c1 hs
  go_wp2_with fail
  go_ret
  exact ⟨_, rfl, ⟨_, _, rfl⟩, H2.out, HB.out, HF.out⟩

/-! ### Lists of slices -/
theorem WSt.of_eq {w wr : World} {p : Nat} {v : Value} {xs ys : List Int} (h : WSt w p v wr xs) (e : xs = ys) : WSt w p v wr ys := e ▸ h
theorem WSt.own {w wr : World} {p : Nat} {v : Value} {xs : List Int} (h : WSt w p v wr xs) : ∃ q c, WrV wr p (.slice q xs.length c) xs ∧ Chg w wr (p :: v.ownBlock.toList) ∧ ((Value.slice q xs.length c).ownBlock = v.ownBlock ∨ ∀ g, (Value.slice q xs.length c).ownBlock = some g → w.heap.size ≤ g) := by
  obtain ⟨v', h1, h2, h3⟩ := h
  obtain ⟨q, c, rfl⟩ := h1.rd.len
  exact ⟨q, c, h1, h2, h3⟩
end Go.Proofs.YtjgfjmkfcippcaaDoor
namespace Go.Proofs.YtjgfjmkfcippcaaDoor
set_option maxRecDepth 100000
open Go.RowKit

/-- The slice v holds these numbers, and lies in no block of S. -/
def RdN (w : World) (v : Value) (ns : List Int) (S : List Nat) : Prop := ∃ q c, v = .slice q ns.length c ∧ (ns = [] ∨ ∃ b off, q = some ⟨b, off, none⟩ ∧ b ∉ S ∧ ∀ i, i < ns.length → w.cell? ⟨b, off + i, none⟩ = some (.int .u64 (ns.getD i 0)))
theorem RdN.at {w : World} {q : Option Addr} {n c : Nat} {ns : List Int} {S : List Nat} (h : RdN w (.slice q n c) ns S) {i : Nat} (hi : i < ns.length) :
    ∃ b off, n = ns.length ∧ q = some ⟨b, off, none⟩ ∧ b ∉ S ∧ w.cell? ⟨b, off + i, none⟩ = some (.int .u64 (ns.getD i 0)) := by
  obtain ⟨q', c', e, rfl | ⟨b, off, rfl, hb, hx⟩⟩ := h
  · simp at hi
  · simp only [Value.slice.injEq] at e
    exact ⟨b, off, e.2.1, e.1, hb, hx i hi⟩
/-- The bytes of numbers. -/
def nums (ns : List Int) : List Int := ns.flatMap be8
theorem nums_take {ns : List Int} {i : Nat} (hi : i < ns.length) : nums (ns.take (i + 1)) = nums (ns.take i) ++ be8 (ns.getD i 0) := by
  have e : ns.take (i + 1) = ns.take i ++ [ns.getD i 0] := by
    rw [List.take_add_one]
    simp [List.getD, hi]
  rw [e, nums, List.flatMap_append]
  simp [nums]
theorem nums_len : ∀ ns : List Int, (nums ns).length = 8 * ns.length
  | [] => rfl
  | n :: ns => by
    have := nums_len ns
    simp only [nums, List.flatMap_cons, List.length_append, be8_len, List.length_cons] at this ⊢
    omega

theorem room_yes {w : World} {p : Nat} {v : Value} {xs : List Int} (h : WrV w p v xs) {n s : Nat} (hs : 0 < s) (hl : xs.length + n * s ≤ 65536) :
    Calls Tryd.prog 84 #[.pointer (some ⟨p, 0, none⟩), .int .i64 n, .int .i64 s] w fun e w' => e = .returned (.bool true) ∧ w' = w := by
  obtain ⟨c0, c1, -⟩ := h.cells
  obtain ⟨qv, kv, rfl⟩ := h.rd.len
  go_enter Tryd.func84, Tryd.ntmps84
  have hd : decide ((n : Int) ≤ (65536 - (xs.length : Int)) / (s : Int)) = true := by
    refine decide_eq_true (Int.le_ediv_of_mul_le (by omega) ?_)
    have : ((n * s : Nat) : Int) ≤ 65536 - (xs.length : Int) := by omega
    rw [Int.natCast_mul] at this
    exact this
  go_wp2_with fail
  go_ret
  exact ⟨rfl, rfl⟩

set_option maxHeartbeats 4000000 in
theorem WUint_fits {w : World} {p : Nat} {v : Value} {xs : List Int} (h : WrV w p v xs) {a : Value} {ns : List Int} (hN : RdN w a ns (p :: v.ownBlock.toList)) (hl : xs.length + 8 * ns.length ≤ 65536) :
    Calls Tryd.prog 63 #[.pointer (some ⟨p, 0, none⟩), a] w fun e w' => e = .returned (.int .i64 0) ∧ WSt w p v w' (xs ++ nums ns) := by
  have H0 : Hid (WSt w p v w (xs ++ nums (ns.take 0))) := by
    show WSt w p v w _
    exact (WSt.start h).of_eq (by simp [nums])
  obtain ⟨c0, c1, -⟩ := h.cells
  have hroom := Lib.hid (room_yes h (n := ns.length) (s := 8) (by omega) (by omega))
  obtain ⟨qv, kv, rfl⟩ := h.rd.len
  obtain ⟨q, c, rfl⟩ : ∃ q c, a = .slice q ns.length c := by obtain ⟨q, c, e, _⟩ := hN; exact ⟨q, c, e⟩
  have HN := Lib.hid hN
  have hn : ns.length ≤ 65536 := by omega
  clear h hN
  go_enter Tryd.func63, Tryd.ntmps63
  go_wp2_with fail
  refine (hroom.out).mono ?_
  rintro e wx ⟨rfl, rfl⟩
  go_wp2_with fail
  obtain ⟨w0, rfl⟩ : ∃ w0 : World, w0 = wx := ⟨_, rfl⟩
  clear c0 c1 hroom
  go_loopw [6, 26] (fun _ iv wr => ∃ i : Nat, iv = .int .i64 i ∧ i ≤ ns.length ∧ Hid (WSt w0 p (.slice qv xs.length kv) wr (xs ++ nums (ns.take i)))) (fun _ iv _ => ns.length - (intOf iv).toNat)
  case atStart => exact ⟨0, rfl, by omega, H0⟩
  case round =>
    clear H0
    obtain ⟨i, rfl, hil, hS⟩ := hrel
    by_cases hlt : i < ns.length
    · obtain ⟨q1, k1, h1, h2, h3⟩ := hS.out.own
      obtain ⟨b, off, -, rfl, hbS, hcw⟩ := HN.out.at hlt
      have hc : wr.cell? ⟨b, off + i, none⟩ = some (.int .u64 (ns.getD i 0)) := by
        rw [World.cell?_of_block (w := w0) (h2.block b (lt_of_cell hcw) hbS)]; exact hcw
      have hlen : (xs ++ nums (ns.take i)).length ≤ 65536 := by
        rw [List.length_append, nums_len, List.length_take]; omega
      have H1 := Lib.hid h1
      have H23 := Lib.hid (And.intro h2 h3)
      have HB := Lib.hid (nums_take hlt)
      clear h1 h2 h3 hS hcw hbS
      generalize hbb : ns.getD i 0 = x at hc HB
      go_wp2_with fail
      refine (putUint_any H1.out hlen _).mono ?_
      rintro e w3 ⟨rfl, hw3⟩
      have HS3 : Hid (WSt w0 p (.slice qv xs.length kv) w3 (xs ++ nums (ns.take i) ++ be8 x)) :=
        WSt.trans ⟨_, H1.out, H23.out.1, H23.out.2⟩ (fun u hu => by
          have e1 : u = .slice q1 (xs ++ nums (ns.take i)).length k1 := by
            have := hu.cells.2.1
            rw [H1.out.cells.2.1] at this
            exact (Option.some.inj this).symm
          rw [e1]
          exact hw3)
      clear hw3 H1 H23 hc
      go_wp2_with fail
      go_roundw
      case rel =>
        refine ⟨i + 1, by go_num, by omega, ?_⟩
        show WSt w0 p _ _ _
        rw [HB.out, ← List.append_assoc]
        exact HS3.out
      case measure => simp [intOf]; omega
    · obtain rfl : i = ns.length := by omega
      have hb := hS.out
      rw [List.take_length] at hb
      replace hS := Lib.hid hb
      clear hb
      go_wp2_with fail
      go_ret
      exact ⟨rfl, hS.out⟩
end Go.Proofs.YtjgfjmkfcippcaaDoor
namespace Go.Proofs.YtjgfjmkfcippcaaDoor
set_option maxRecDepth 100000
open Go.RowKit

/-- The slice v holds these hashes, and lies in no block of S. -/
def RdH (w : World) (v : Value) (hs : List (List Int)) (S : List Nat) : Prop := ∃ q c, v = .slice q hs.length c ∧ (hs = [] ∨ ∃ b off, q = some ⟨b, off, none⟩ ∧ b ∉ S ∧ ∀ i, i < hs.length → b < w.heap.size ∧ (hs.getD i []).length = 32 ∧ rowOf w b (off + i * 32) 32 = hc (hs.getD i []))
theorem RdH.at {w : World} {q : Option Addr} {n c : Nat} {hs : List (List Int)} {S : List Nat} (h : RdH w (.slice q n c) hs S) {i : Nat} (hi : i < hs.length) :
    ∃ b off, n = hs.length ∧ q = some ⟨b, off, none⟩ ∧ b ∉ S ∧ b < w.heap.size ∧ (hs.getD i []).length = 32 ∧ rowOf w b (off + i * 32) 32 = hc (hs.getD i []) := by
  obtain ⟨q', c', e, rfl | ⟨b, off, rfl, hb, hx⟩⟩ := h
  · simp at hi
  · simp only [Value.slice.injEq] at e
    exact ⟨b, off, e.2.1, e.1, hb, hx i hi⟩
theorem hashes_take {hs : List (List Int)} {i : Nat} (hi : i < hs.length) : (hs.take (i + 1)).flatten = (hs.take i).flatten ++ hs.getD i [] := by
  have e : hs.take (i + 1) = hs.take i ++ [hs.getD i []] := by
    rw [List.take_add_one]
    simp [List.getD, hi]
  rw [e, List.flatten_append]
  simp
theorem hashes_le (hs : List (List Int)) (i : Nat) : ((hs.take i).flatten).length ≤ hs.flatten.length := by
  have e : hs.flatten = (hs.take i).flatten ++ (hs.drop i).flatten := by
    rw [← List.flatten_append, List.take_append_drop]
  rw [e]; simp
theorem hash_rd {w : World} {b : Nat} {F : List Int} (h : HashAt w b F) (hF : F.length = 32) : Rd w (.slice (some ⟨b, 0, none⟩) 32 32) F := by
  refine ⟨some ⟨b, 0, none⟩, 32, by rw [hF], .inr ⟨b, 0, rfl, fun i hi => ?_⟩⟩
  rw [cell_of_row _ _ _ _ _ _ h, Nat.zero_add]
  simp [hc, List.getD, hi]

theorem box_hash {w : World} {F : List Int} (hF : F.length = 32) : (w.alloc (.cells (hc zero32).toArray 23)).there w.heap.size 0 32 ∧
    HashAt ((w.alloc (.cells (hc zero32).toArray 23)).setCells w.heap.size 0 (hc F)) w.heap.size F ∧ Below w.heap.size w ((w.alloc (.cells (hc zero32).toArray 23)).setCells w.heap.size 0 (hc F)) := by
  have R := HashAt.new w zero32
  refine ⟨fun j hj => ⟨?_, Joins.unfrozen_of_block R _⟩, ?_, below_setCells' _ (Nat.le_refl _) _ _ ((Below.refl _ _).alloc (Nat.le_refl _) _)⟩
  · rw [cell_of_row _ _ _ _ _ _ R]
    simp [hc_len, zero32_len, hj]
  · have := setCells_block (b := w.heap.size) (t := 23) (fr := (0, 0)) (hc F) (o := 0) (w := w.alloc (.cells (hc zero32).toArray 23)) (pre := []) (mid := hc zero32) (post := []) (by simp only [List.nil_append, List.append_nil]; exact R) rfl (by rw [hc_len, hc_len, hF, zero32_len])
    simpa only [HashAt, List.nil_append, List.append_nil] using this

set_option maxHeartbeats 4000000 in
theorem WHash_fits {w : World} {p : Nat} {v : Value} {xs : List Int} (h : WrV w p v xs) {a : Value} {hs : List (List Int)} (hH : RdH w a hs (p :: v.ownBlock.toList)) (hn : xs.length + hs.length * 32 ≤ 65536) (hl : xs.length + hs.flatten.length ≤ 65536) :
    Calls Tryd.prog 65 #[.pointer (some ⟨p, 0, none⟩), a] w fun e w' => e = .returned (.int .i64 0) ∧ WSt w p v w' (xs ++ hs.flatten) := by
  obtain ⟨i0, hi, hz0, hz1, hz2⟩ := info_parts Tryd.infoU8
  have H0 : Hid (WSt w p v w (xs ++ (hs.take 0).flatten)) := by
    show WSt w p v w _
    exact (WSt.start h).of_eq (by simp)
  obtain ⟨c0, c1, -⟩ := h.cells
  have hroom := Lib.hid (room_yes h (n := hs.length) (s := 32) (by omega) (by omega))
  obtain ⟨qv, kv, rfl⟩ := h.rd.len
  obtain ⟨q, c, rfl⟩ : ∃ q c, a = .slice q hs.length c := by obtain ⟨q, c, e, _⟩ := hH; exact ⟨q, c, e⟩
  have HN := Lib.hid hH
  have hn : hs.length ≤ 65536 := by omega
  clear h hH
  replace hi := Lib.hid hi
  replace hz0 := Lib.hid hz0
  replace hz1 := Lib.hid hz1
  replace hz2 := Lib.hid hz2
  go_enter Tryd.func65, Tryd.ntmps65
  go_wp2_with fail
  refine (hroom.out).mono ?_
  rintro e wx ⟨rfl, rfl⟩
  go_wp2_with fail
  obtain ⟨w0, rfl⟩ : ∃ w0 : World, w0 = wx := ⟨_, rfl⟩
  clear c0 c1 hroom
  go_loopw [6, 26] (fun _ iv wr => ∃ i : Nat, iv = .int .i64 i ∧ i ≤ hs.length ∧ Hid (WSt w0 p (.slice qv xs.length kv) wr (xs ++ (hs.take i).flatten))) (fun _ iv _ => hs.length - (intOf iv).toNat)
  case atStart => exact ⟨0, rfl, by omega, H0⟩
  case round =>
    clear H0
    obtain ⟨i, rfl, hil, hS⟩ := hrel
    by_cases hlt : i < hs.length
    · obtain ⟨q1, k1, h1, h2, h3⟩ := hS.out.own
      obtain ⟨b, off, -, rfl, hbS, hbl, hF, hrow⟩ := HN.out.at hlt
      have hb2 : b < wr.heap.size := Nat.lt_of_lt_of_le hbl h2.size
      have hc : rowOf wr b (off + i * 32) 32 = hc (hs.getD i []) := by
        rw [← hrow]
        unfold rowOf
        rw [h2.block b hbl hbS]
      have hfit := hashes_le hs (i + 1)
      have HB := Lib.hid (hashes_take hlt)
      generalize hys : xs ++ (hs.take i).flatten = ys at h1 h3 hS
      have hy32 : ys.length + 32 ≤ 65536 := by
        rw [← hys]
        rw [hashes_take hlt] at hfit
        simp only [List.length_append] at hfit ⊢
        omega
      have hc' : rowOf (wr.alloc (.cells (_root_.Go.Proofs.YtjgfjmkfcippcaaDoor.hc zero32).toArray 23)) b (off + i * 32) 32 = _root_.Go.Proofs.YtjgfjmkfcippcaaDoor.hc (hs.getD i []) := by
        rw [← hc]
        unfold rowOf
        rw [Below.heap_alloc _ _ _ hb2]
      clear hrow hfit hbS
      generalize hbb : hs.getD i [] = F at hc hc' hF HB
      have hlF := hc_len F
      have BX := box_hash (w := wr) hF
      obtain ⟨ct, RX, BW⟩ := BX
      have H1 := Lib.hid (h1.on BW)
      have H23 := Lib.hid (And.intro (h2.trans (Chg.below BW (Nat.le_refl _) []) (by simp)) h3)
      have RX := Lib.hid RX
      have hlt2 := (h1.on BW).lt
      clear h1 h2 h3 hS BW
      go_wp2_with fail
      generalize (wr.alloc (.cells (_root_.Go.Proofs.YtjgfjmkfcippcaaDoor.hc zero32).toArray 23)).setCells wr.heap.size 0 (_root_.Go.Proofs.YtjgfjmkfcippcaaDoor.hc F) = wz at H1 H23 RX hlt2 ⊢
      generalize wr.heap.size = bz at RX ⊢
      obtain ⟨-, c1, f1⟩ := H1.out.cells
      clear ct hc hc'
      refine wp_region_held_drew (S := fun _ => True) (by kernel_rfl) (trivial) (fun h0 => ?_)
      refine wpAnyH_take (i := 0) (v := ?_) (by rw [List.getElem?_toArray]; rfl) (by kernel_rfl) (by kernel_rfl) (by kernel_rfl) (by exact fun _ _ _ h => h) (Or.inl ⟨by rfl, ?_⟩) h0 ?_
      rotate_left
      · intro W hW
        go_simp
        all_goals with_reducible rfl
      try simp only [Act.put, List.setIfInBounds_toArray, List.set_cons_zero, List.set_cons_succ]
      refine wpAnyH_take (i := 1) (v := ?_) (by rw [List.getElem?_toArray]; rfl) (by kernel_rfl) (by kernel_rfl) (by kernel_rfl) (by exact fun _ _ _ h => h) (Or.inl ⟨by rfl, ?_⟩) h0 ?_
      rotate_left
      · intro W hW
        go_simp
        all_goals with_reducible rfl
      try simp only [Act.put, List.setIfInBounds_toArray, List.set_cons_zero, List.set_cons_succ]
      refine wpAnyH_take (i := 2) (v := ?_) (by rw [List.getElem?_toArray]; rfl) (by kernel_rfl) (by kernel_rfl) (by kernel_rfl) (by exact fun _ _ _ h => h) (Or.inl ⟨by rfl, ?_⟩) h0 ?_
      rotate_left
      · intro W hW
        go_simp
        all_goals with_reducible rfl
      try simp only [Act.put, List.setIfInBounds_toArray, List.set_cons_zero, List.set_cons_succ]
      refine wpAnyH_take (i := 3) (v := ?_) (by rw [List.getElem?_toArray]; rfl) (by kernel_rfl) (by kernel_rfl) (by kernel_rfl) (by exact fun _ _ _ h => h) (Or.inl ⟨by rfl, ?_⟩) h0 ?_
      rotate_left
      · intro W hW
        go_simp
        all_goals with_reducible rfl
      try simp only [Act.put, List.setIfInBounds_toArray, List.set_cons_zero, List.set_cons_succ]
      refine wpAnyH_take (i := 4) (v := ?_) (by rw [List.getElem?_toArray]; rfl) (by kernel_rfl) (by kernel_rfl) (by kernel_rfl) (by exact fun _ _ _ h => h) (Or.inl ⟨by rfl, ?_⟩) h0 ?_
      rotate_left
      · intro W hW
        go_simp
        all_goals with_reducible rfl
      try simp only [Act.put, List.setIfInBounds_toArray, List.set_cons_zero, List.set_cons_succ]
      refine wpAnyH_take (i := 6) (v := ?_) (by rw [List.getElem?_toArray]; rfl) (by kernel_rfl) (by kernel_rfl) (by kernel_rfl) (by exact fun _ _ _ h => h) (Or.inl ⟨by rfl, ?_⟩) h0 ?_
      rotate_left
      · intro W hW
        go_simp
        all_goals with_reducible rfl
      try simp only [Act.put, List.setIfInBounds_toArray, List.set_cons_zero, List.set_cons_succ]
      refine wpAnyH_ready (rs := [5]) (by kernel_rfl) (by simp) ?_
      refine AllReadyH.cons (by rw [List.getElem?_toArray]; rfl) (fun K hK => ?_) AllReadyH.nil
      rw [if_pos (by rfl)]
      go_wp2_with fail
      refine hK.out _ _ (trivial) (fun _ => ?_)
      clear hK K
      try simp only [Act.put, List.setIfInBounds_toArray, List.set_cons_zero, List.set_cons_succ]
      refine wpAnyH_ready (rs := [7]) (by kernel_rfl) (by simp) ?_
      refine AllReadyH.cons (by rw [List.getElem?_toArray]; rfl) (fun K hK => ?_) AllReadyH.nil
      rw [if_pos (by rfl)]
      refine wp_append_row _ _ rfl Tryd.underlying64 hi.out hz0.out hz1.out hz2.out rfl H1.out.drew.own (Rd.src (xs := F) Tryd.underlying64 ?rd) ?b1 ?b2 ?_
      case rd => exact (hash_rd RX.out hF).drew
      case b1 => unfold maxLen; omega
      case b2 => omega
      intro q2 k2 w2 own2 grow2 fr2
      have HNN := Lib.hid (WSt.step H1.out.drew H23.out.1.drew (by exact H23.out.2) rfl own2 grow2 fr2)
      have c2 : w2.cell? ⟨p, 1, none⟩ = some (.slice q1 ys.length k1) := by
        rw [World.cell?_of_block (grow2.block p hlt2 (fun e => H1.out.ne e.symm))]; exact c1
      have f2 : w2.frozen? ⟨p, 1, none⟩ = false := by
        rw [World.frozen?_of_block (grow2.block p hlt2 (fun e => H1.out.ne e.symm))]; exact f1
      clear own2 grow2 fr2 c1 f1
      refine hK.out _ _ (trivial) (fun _ => ?_)
      clear hK K
      try simp only [Act.put, List.setIfInBounds_toArray, List.set_cons_zero, List.set_cons_succ]
      refine wpAnyH_take (i := 8) (v := ?_) (by rw [List.getElem?_toArray]; rfl) (by kernel_rfl) (by kernel_rfl) (by kernel_rfl) (by exact fun _ _ _ h => h) (Or.inl ⟨by rfl, ?_⟩) h0 ?_
      rotate_left
      · intro W hW
        go_simp
        all_goals with_reducible rfl
      try simp only [Act.put, List.setIfInBounds_toArray, List.set_cons_zero, List.set_cons_succ]
      refine wpAnyH_take (i := 9) (v := ?_) (by rw [List.getElem?_toArray]; rfl) (by kernel_rfl) (by kernel_rfl) (by kernel_rfl) (by exact fun _ _ _ h => h) (Or.inl ⟨by rfl, ?_⟩) h0 ?_
      rotate_left
      · intro W hW
        go_simp
        all_goals with_reducible rfl
      try simp only [Act.put, List.setIfInBounds_toArray, List.set_cons_zero, List.set_cons_succ]
      refine wpAnyH_take (i := 10) (v := ?_) (by rw [List.getElem?_toArray]; rfl) (by kernel_rfl) (by kernel_rfl) (by kernel_rfl) (by exact fun _ _ _ h => h) (Or.inl ⟨by rfl, ?_⟩) h0 ?_
      rotate_left
      · intro W hW
        go_simp
        all_goals with_reducible rfl
      try simp only [Act.put, List.setIfInBounds_toArray, List.set_cons_zero, List.set_cons_succ]
      refine wpAnyH_ready (rs := [11]) (by kernel_rfl) (by simp) ?_
      refine AllReadyH.cons (by rw [List.getElem?_toArray]; rfl) (fun K hK => ?_) AllReadyH.nil
      rw [if_pos (by rfl)]
      go_wp2_with fail
      refine hK.out _ _ (trivial) (fun _ => ?_)
      clear hK K
      try simp only [Act.put, List.setIfInBounds_toArray, List.set_cons_zero, List.set_cons_succ]
      refine wpAnyH_done (by kernel_rfl) ?_ _
      go_wp2_with fail
      go_roundw
      case rel =>
        refine ⟨i + 1, by go_num, by omega, ?_⟩
        show WSt w0 p _ _ _
        rw [HB.out, ← List.append_assoc, hys]
        have := HNN.out
        rw [hF] at this
        exact this
      case measure => simp [intOf]; omega
    · obtain rfl : i = hs.length := by omega
      have hb := hS.out
      rw [List.take_length] at hb
      replace hS := Lib.hid hb
      clear hb
      go_wp2_with fail
      go_ret
      exact ⟨rfl, hS.out⟩
end Go.Proofs.YtjgfjmkfcippcaaDoor
namespace Go.Proofs.YtjgfjmkfcippcaaDoor
set_option maxRecDepth 100000
open Go.RowKit

theorem flat_len : ∀ {Ss : List (List Int)}, HsOk Ss → Ss.flatten.length = Ss.length * 32
  | [], _ => rfl
  | F :: Ss, h => by
    have h1 := flat_len (Ss := Ss) (fun G hG => h G (List.mem_cons_of_mem _ hG))
    have h2 := (h F (List.mem_cons_self ..)).1
    rw [List.flatten_cons, List.length_append, h1, h2, List.length_cons]
    omega
theorem flat_bytes {Ss : List (List Int)} (h : HsOk Ss) : Bytes Ss.flatten := fun x hx => by
  obtain ⟨F, hF, hxF⟩ := List.mem_flatten.1 hx
  exact (h F hF).2 x hxF
/-- A step's bytes; those of the first i steps behind the number of all. -/
def stB (s : Sp) : List Int := s.key ++ (s.old ++ (s.mask ++ (be8 s.sides.length ++ s.sides.flatten)))
def stsB (L : List Sp) (i : Nat) : List Int := be8 L.length ++ ((L.take i).map stB).flatten
theorem stsB_zero (L : List Sp) : stsB L 0 = be8 L.length := by simp [stsB]
theorem stsB_succ {L : List Sp} {i : Nat} (hi : i < L.length) : stsB L (i + 1) = stsB L i ++ stB (L.getD i sp0) := by
  have e : L.take (i + 1) = L.take i ++ [L.getD i sp0] := by
    rw [List.take_add_one]
    simp [List.getD, hi]
  unfold stsB
  rw [e, List.map_append, List.flatten_append]
  simp
theorem stsB_le (L : List Sp) (i : Nat) : (stsB L i).length ≤ (stsB L L.length).length := by
  have e : (L.map stB).flatten = ((L.take i).map stB).flatten ++ ((L.drop i).map stB).flatten := by
    rw [← List.flatten_append, ← List.map_append, List.take_append_drop]
  unfold stsB
  rw [List.take_length, e]
  simp only [List.length_append]
  omega

/-! ### No room -/
theorem room_no {w : World} {p : Nat} {v : Value} {xs : List Int} (h : WrV w p v xs) (hx : xs.length ≤ 65536) {n s : Nat} (hs : 0 < s) (_hn : n ≤ 140737488355328) (hl : 65536 < xs.length + n * s) :
    Calls Tryd.prog 84 #[.pointer (some ⟨p, 0, none⟩), .int .i64 n, .int .i64 s] w fun e w' => e = .returned (.bool false) ∧ w' = w := by
  obtain ⟨c0, c1, -⟩ := h.cells
  obtain ⟨qv, kv, rfl⟩ := h.rd.len
  go_enter Tryd.func84, Tryd.ntmps84
  have hd : decide ((n : Int) ≤ (65536 - (xs.length : Int)) / (s : Int)) = false := by
    refine decide_eq_false fun hle => ?_
    have h1 := Int.mul_le_of_le_ediv (by omega) hle
    have : 65536 - (xs.length : Int) < ((n * s : Nat) : Int) := by omega
    rw [Int.natCast_mul] at this
    omega
  go_wp2_with fail
  go_ret
  exact ⟨rfl, rfl⟩

set_option maxHeartbeats 1000000 in
theorem WUint_full {w : World} {p : Nat} {v : Value} {xs : List Int} (h : WrV w p v xs) (hx : xs.length ≤ 65536) {q : Option Addr} {n c : Nat} (hn : n ≤ 140737488355328) (hl : 65536 < xs.length + n * 8) :
    Calls Tryd.prog 63 #[.pointer (some ⟨p, 0, none⟩), .slice q n c] w fun e w' => e = .returned (.int .i64 6) ∧ w' = w := by
  obtain ⟨c0, c1, -⟩ := h.cells
  have hroom := Lib.hid (room_no h hx (n := n) (s := 8) (by omega) hn hl)
  obtain ⟨qv, kv, rfl⟩ := h.rd.len
  clear h
  go_enter Tryd.func63, Tryd.ntmps63
  go_wp2_with fail
  refine (hroom.out).mono ?_
  rintro e wx ⟨rfl, rfl⟩
  go_wp2_with fail
  go_ret
  exact ⟨rfl, rfl⟩

set_option maxHeartbeats 1000000 in
theorem WHash_full {w : World} {p : Nat} {v : Value} {xs : List Int} (h : WrV w p v xs) (hx : xs.length ≤ 65536) {q : Option Addr} {n c : Nat} (hn : n ≤ 140737488355328) (hl : 65536 < xs.length + n * 32) :
    Calls Tryd.prog 65 #[.pointer (some ⟨p, 0, none⟩), .slice q n c] w fun e w' => e = .returned (.int .i64 6) ∧ w' = w := by
  obtain ⟨c0, c1, -⟩ := h.cells
  have hroom := Lib.hid (room_no h hx (n := n) (s := 32) (by omega) hn hl)
  obtain ⟨qv, kv, rfl⟩ := h.rd.len
  clear h
  go_enter Tryd.func65, Tryd.ntmps65
  go_wp2_with fail
  refine (hroom.out).mono ?_
  rintro e wx ⟨rfl, rfl⟩
  go_wp2_with fail
  go_ret
  exact ⟨rfl, rfl⟩


/-- What first answers. -/
def fstE (e z : Int) : Int := if e = 0 then z else e
theorem first_any (w : World) (e z : Int) :
    Calls Tryd.prog 64 #[.int .i64 e, .int .i64 z] w fun r w' => r = .returned (.int .i64 (fstE e z)) ∧ w' = w := by
  by_cases he : e = 0
  · subst he
    go_enter Tryd.func64, Tryd.ntmps64
    go_wp2_with fail
    go_ret
    exact ⟨rfl, rfl⟩
  · have de : (e != 0) = true := by simpa using he
    have hf : fstE e z = e := if_neg he
    go_enter Tryd.func64, Tryd.ntmps64
    repeat (first | go_values | go_skip | go_guarded | go_step | go_upon | go_back)
    refine bodyPost_ret (v := .int .i64 e) (by simp [results, Tryd.results64, go_sem]) rfl ⟨by rw [hf], rfl⟩

/-- A writer within Put: A is written, or an error came and the whole, Z, is too long. -/
structure PuS (w wr : World) (p : Nat) (v : Value) (A Z : List Int) (e : Int) : Prop where
  below : Below w.heap.size w wr
  hp : w.heap.size ≤ p
  hv : ∀ g, v.ownBlock = some g → w.heap.size ≤ g
  has : ∃ xs, WrV wr p v xs ∧ xs.length ≤ 65536 ∧ ((e = 0 ∧ xs = A) ∨ (e = 6 ∧ 65536 < Z.length))
theorem PuS.lt {w wr : World} {p : Nat} {v : Value} {A Z : List Int} {e : Int} (h : PuS w wr p v A Z e) : p < wr.heap.size := by
  obtain ⟨xs, h1, _⟩ := h.has
  exact h1.lt
theorem PuS.on {w wr w1 : World} {p : Nat} {v : Value} {A Z : List Int} {e : Int} (h : PuS w wr p v A Z e) (hb : Below wr.heap.size wr w1) : PuS w w1 p v A Z e := by
  obtain ⟨xs, h1, h2⟩ := h.has
  exact ⟨h.below.trans (hb.mono h.below.size), h.hp, h.hv, xs, h1.on hb, h2⟩
theorem PuS.ownlt {w wr : World} {p : Nat} {v : Value} {A Z : List Int} {e : Int} (h : PuS w wr p v A Z e) {g : Nat} (hg : v.ownBlock = some g) : g < wr.heap.size := by
  obtain ⟨xs, h1, _⟩ := h.has
  exact own_lt h1.own hg
/-- What a step of writing leaves. -/
structure PuF (wr w1 : World) (p : Nat) (v v1 : Value) : Prop where
  keep : ∀ g, g < wr.heap.size → g ≠ p → v.ownBlock ≠ some g → w1.heap[g]? = wr.heap[g]?
  size : wr.heap.size ≤ w1.heap.size
  own : v1.ownBlock = v.ownBlock ∨ ∀ g, v1.ownBlock = some g → wr.heap.size ≤ g
theorem PuF.refl (wr : World) (p : Nat) (v : Value) : PuF wr wr p v v := ⟨fun _ _ _ _ => rfl, Nat.le_refl _, .inl rfl⟩
theorem PuF.ne {wr w1 : World} {p : Nat} {v v1 : Value} (h : PuF wr w1 p v v1) {b : Nat} (hb : b < wr.heap.size) (hv : v.ownBlock ≠ some b) : v1.ownBlock ≠ some b := fun e => by
  rcases h.own with e1 | e1
  · exact hv (e1 ▸ e)
  · have := e1 b e
    omega
theorem RdHs.lt {w : World} {b off : Nat} {Ss : List (List Int)} (h : RdHs w (some ⟨b, off, none⟩) Ss) (ok : HsOk Ss) (hne : Ss ≠ []) : b < w.heap.size := by
  obtain ⟨b', off', e, hx⟩ := h.resolve_left hne
  obtain ⟨rfl, rfl⟩ : b = b' ∧ off = off' := by simpa using e
  have h0 : 0 < Ss.length := List.length_pos_iff.2 hne
  refine Decidable.byContradiction fun hge => ?_
  have e0 : w.heap[b]? = none := Array.getElem?_eq_none (by omega)
  have := hx 0 h0
  unfold rowOf at this
  rw [e0] at this
  have hl := congrArg List.length this
  rw [hc_len, (ok.get 0 h0).1] at hl
  simp at hl
theorem PuS.step {w wr w1 : World} {p : Nat} {v : Value} {A Z xs ys : List Int} {e : Int} (h : PuS w wr p v A Z e) (he : (e = 0 ∧ xs = A) ∨ (e = 6 ∧ 65536 < Z.length)) (hs : WSt wr p v w1 (xs ++ ys)) (hl : (xs ++ ys).length ≤ 65536) :
    ∃ v', PuS w w1 p v' (A ++ ys) Z (fstE e 0) ∧ PuF wr w1 p v v' := by
  obtain ⟨v', h1, h2, h3⟩ := hs
  refine ⟨v', ?_, fun g hg hp hv => h2.block g hg (by simp [hp, hv]), h2.size, h3⟩
  refine ⟨h.below.trans (h2.toBelow h.below.size (fun g hg => ?_)), h.hp, fun g hg => ?_, _, h1, hl, ?_⟩
  · rcases List.mem_cons.1 hg with rfl | hg
    · exact h.hp
    · exact h.hv g (by simpa using hg)
  · rcases h3 with e1 | e1
    · rw [e1] at hg; exact h.hv g hg
    · exact Nat.le_trans h.below.size (e1 g hg)
  · rcases he with ⟨rfl, rfl⟩ | ⟨rfl, h6⟩
    · exact .inl ⟨rfl, rfl⟩
    · exact .inr ⟨rfl, h6⟩
theorem PuS.full {w wr : World} {p : Nat} {v : Value} {A Z xs : List Int} (ys : List Int) {e : Int} (h : PuS w wr p v A Z e) (hw : WrV wr p v xs) (hx : xs.length ≤ 65536) (he : (e = 0 ∧ xs = A) ∨ (e = 6 ∧ 65536 < Z.length)) {n : Nat} (hn : n = ys.length) (hl : 65536 < xs.length + n) (hz : (A ++ ys).length ≤ Z.length) :
    PuS w wr p v (A ++ ys) Z (fstE e 6) := by
  refine ⟨h.below, h.hp, h.hv, xs, hw, hx, .inr ?_⟩
  rcases he with ⟨rfl, rfl⟩ | ⟨rfl, h6⟩
  · rw [List.length_append] at hz
    exact ⟨rfl, by omega⟩
  · exact ⟨rfl, h6⟩
theorem PuHash {w wr : World} {p : Nat} {v : Value} {A Z : List Int} {e : Int} (h : PuS w wr p v A Z e) {q : Option Addr} {c : Nat} {hs : List (List Int)} (hr : RdHs wr q hs) (ok : HsOk hs) (hd : hs ≠ [] → ∀ b off, q = some ⟨b, off, none⟩ → b ≠ p ∧ v.ownBlock ≠ some b) (hn : hs.length ≤ 140737488355328) (hz : (A ++ hs.flatten).length ≤ Z.length) :
    Calls Tryd.prog 65 #[.pointer (some ⟨p, 0, none⟩), .slice q hs.length c] wr fun r w' => ∃ z v', r = .returned (.int .i64 z) ∧ PuS w w' p v' (A ++ hs.flatten) Z (fstE e z) ∧ PuF wr w' p v v' := by
  obtain ⟨xs, h1, h2, h3⟩ := h.has
  have hf := flat_len ok
  by_cases hfit : xs.length + hs.length * 32 ≤ 65536
  · have hR : RdH wr (.slice q hs.length c) hs (p :: v.ownBlock.toList) := by
      refine ⟨q, c, rfl, ?_⟩
      by_cases hne : hs = []
      · exact .inl hne
      · obtain ⟨b, off, rfl, hx⟩ := hr.resolve_left hne
        obtain ⟨d1, d2⟩ := hd hne b off rfl
        exact .inr ⟨b, off, rfl, by simp [d1, d2], fun i hi => ⟨hr.lt ok hne, (ok.get i hi).1, hx i hi⟩⟩
    refine (WHash_fits h1 hR hfit (by omega)).mono ?_
    rintro r w1 ⟨rfl, hS⟩
    obtain ⟨v', hP, hF⟩ := h.step h3 hS (by rw [List.length_append]; omega)
    exact ⟨0, v', rfl, hP, hF⟩
  · refine (WHash_full h1 h2 (by omega) (by omega)).mono ?_
    rintro r w1 ⟨rfl, rfl⟩
    exact ⟨6, v, rfl, h.full hs.flatten h1 h2 h3 hf.symm (by omega) hz, PuF.refl _ _ _⟩
theorem PuUint {w wr : World} {p : Nat} {v : Value} {A Z : List Int} {e : Int} (h : PuS w wr p v A Z e) {b c : Nat} {n : Int} (hb : wr.cell? ⟨b, 0, none⟩ = some (.int .u64 n)) (hd : b ≠ p ∧ v.ownBlock ≠ some b) (hz : (A ++ be8 n).length ≤ Z.length) :
    Calls Tryd.prog 63 #[.pointer (some ⟨p, 0, none⟩), .slice (some ⟨b, 0, none⟩) 1 c] wr fun r w' => ∃ z v', r = .returned (.int .i64 z) ∧ PuS w w' p v' (A ++ be8 n) Z (fstE e z) ∧ PuF wr w' p v v' := by
  obtain ⟨xs, h1, h2, h3⟩ := h.has
  have hl8 := be8_len n
  by_cases hfit : xs.length + 8 ≤ 65536
  · have hR : RdN wr (.slice (some ⟨b, 0, none⟩) 1 c) [n] (p :: v.ownBlock.toList) := by
      refine ⟨_, c, rfl, .inr ⟨b, 0, rfl, by simp [hd.1, hd.2], fun i hi => ?_⟩⟩
      obtain rfl : i = 0 := by simp at hi; omega
      exact hb
    refine (WUint_fits h1 hR (by simpa using hfit)).mono ?_
    rintro r w1 ⟨rfl, hS⟩
    have e1 : nums [n] = be8 n := by simp [nums]
    rw [e1] at hS
    obtain ⟨v', hP, hF⟩ := h.step h3 hS (by rw [List.length_append]; omega)
    exact ⟨0, v', rfl, hP, hF⟩
  · refine (WUint_full h1 h2 (by omega) (by omega)).mono ?_
    rintro r w1 ⟨rfl, rfl⟩
    exact ⟨6, v, rfl, h.full (be8 n) h1 h2 h3 hl8.symm (by omega) hz, PuF.refl _ _ _⟩
end Go.Proofs.YtjgfjmkfcippcaaDoor
