/-
  Frames, plain.; The walk of digest.Frame.; The walks of package codec: a writer that was made, and what is written.; The walks of package codec: NewWriter, Bytes, Blob.; The writer's Uint, where there is room.; Plain facts on 64-bit digits and numbers of four of them: nothing here speaks of the program.; Plain: long division bit by bit; what stands in memory meanwhile.
-/
import Derived.Deep.RegionHeld3
import Derived.BigQuiet
import Derived.Deep.QuietTactic
import Derived.StillTailTactics
import Derived.Test.YtonjkhhihiigfaaRows
import Derived.WalkKit
import Derived.Below
import Derived.Lib.Hide
import Derived.Lib.SmallJoins
import Derived.ProofKit
import Derived.Test.YtonjkhhihiigfaaDv1
namespace Go.Proofs.Ytonjkhhihiigfaa
open Go.RowKit
set_option maxRecDepth 100000

/-- A frame: of a tag that is not too long, and parts. -/
def frm (t : List Int) (L : List (List Int)) : List Int := ((t.length : Int) :: t) ++ blobs L
theorem frm_len (t : List Int) (L : List (List Int)) : (frm t L).length = 1 + t.length + (blobs L).length := by simp [frm]; omega
theorem blobs_split {L : List (List Int)} {i : Nat} (hi : i < L.length) : blobs L = blobs (L.take i) ++ (be8 (L.getD i []).length ++ (L.getD i [] ++ blobs (L.drop (i + 1)))) := by
  have e : L = L.take i ++ (L.getD i [] :: L.drop (i + 1)) := by
    conv => lhs; rw [← List.take_append_drop i L]
    rw [List.drop_eq_getElem_cons hi]
    simp [List.getD, hi]
  conv => lhs; rw [e, blobs, List.flatMap_append, List.flatMap_cons]
  simp only [blobs, List.append_assoc]
theorem getD_app_right {xs ys : List Int} {k : Nat} : (xs ++ ys).getD (xs.length + k) 0 = ys.getD k 0 := by
  simp only [List.getD_eq_getElem?_getD]
  rw [List.getElem?_append_right (by omega), Nat.add_sub_cancel_left]
theorem getD_app_left {xs ys : List Int} {k : Nat} (h : k < xs.length) : (xs ++ ys).getD k 0 = xs.getD k 0 := by
  simp [List.getD, List.getElem?_append_left h]
/-- How far a frame is written behind i parts. -/
def frmAt (t : List Int) (L : List (List Int)) (i : Nat) : Nat := 1 + t.length + (blobs (L.take i)).length
theorem frmAt_succ (t : List Int) {L : List (List Int)} {i : Nat} (hi : i < L.length) : frmAt t L (i + 1) = frmAt t L i + 8 + (L.getD i []).length := by
  unfold frmAt; rw [blobs_len hi]; omega
theorem frmAt_le (t : List Int) (L : List (List Int)) (i : Nat) : frmAt t L i ≤ (frm t L).length := by
  unfold frmAt; rw [frm_len]; have := blobs_le L i; omega
theorem frmAt_end (t : List Int) (L : List (List Int)) : frmAt t L L.length = (frm t L).length := by
  unfold frmAt; rw [frm_len, List.take_length]
theorem frm_get (t : List Int) {L : List (List Int)} {i : Nat} (hi : i < L.length) (k : Nat) : (frm t L).getD (frmAt t L i + k) 0 = (be8 (L.getD i []).length ++ (L.getD i [] ++ blobs (L.drop (i + 1)))).getD k 0 := by
  have e : frm t L = (((t.length : Int) :: t) ++ blobs (L.take i)) ++ (be8 (L.getD i []).length ++ (L.getD i [] ++ blobs (L.drop (i + 1)))) := by
    rw [frm, blobs_split hi, List.append_assoc]
  have hl : frmAt t L i = (((t.length : Int) :: t) ++ blobs (L.take i)).length := by unfold frmAt; simp; omega
  rw [e, hl, getD_app_right]
theorem frm_step (t : List Int) {L : List (List Int)} {i : Nat} (hi : i < L.length) {f : Nat → Int} (hf : ∀ j, j < frmAt t L i → f j = (frm t L).getD j 0) {j : Nat} (hj : j < frmAt t L (i + 1)) :
    cpf (put8 f (frmAt t L i) ((L.getD i []).length : Int)) (frmAt t L i + 8) (L.getD i []) j = (frm t L).getD j 0 := by
  rw [frmAt_succ t hi] at hj
  by_cases h1 : j < frmAt t L i
  · rw [cpf_out (by omega), put8_out _ (by omega)]; exact hf j h1
  · obtain ⟨k, rfl⟩ : ∃ k, j = frmAt t L i + k := ⟨j - frmAt t L i, by omega⟩
    rw [frm_get t hi]
    by_cases h8 : k < 8
    · rw [cpf_out (by omega), put8_in _ _ _ h8, getD_app_left (by simpa using h8)]
    · rw [cpf_in (by omega) (by omega)]
      obtain ⟨m, rfl⟩ : ∃ m, k = 8 + m := ⟨k - 8, by omega⟩
      have := getD_app_right (xs := be8 ((L.getD i []).length : Int)) (ys := L.getD i [] ++ blobs (L.drop (i + 1))) (k := m)
      rw [be8_len] at this
      rw [this, getD_app_left (by omega)]
      congr 1
      omega
theorem frm_start (t : List Int) (L : List (List Int)) (f : Nat → Int) {j : Nat} (hj : j < frmAt t L 0) : cpf (updK f 0 (t.length : Int)) 1 t j = (frm t L).getD j 0 := by
  have hl : frmAt t L 0 = 1 + t.length := by simp [frmAt, blobs]
  have e : (frm t L).getD j 0 = ((t.length : Int) :: t).getD j 0 := getD_app_left (by simp; omega)
  rw [e]
  by_cases h0 : j = 0
  · subst h0; rw [cpf_out (by omega), updK_same]; rfl
  · rw [cpf_in (by omega) (by omega)]
    obtain ⟨m, rfl⟩ : ∃ m, j = m + 1 := ⟨j - 1, by omega⟩
    rfl
theorem frm_bytes {t : List Int} {L : List (List Int)} (ht : Bytes t) (h255 : t.length ≤ 255) (hL : ∀ b ∈ L, Bytes b) : Bytes (frm t L) := by
  refine Bytes.append ?_ ?_
  · intro x hx
    rcases List.mem_cons.1 hx with rfl | hx
    · omega
    · exact ht x hx
  · intro x hx
    obtain ⟨b, hb, hx⟩ := List.mem_flatMap.1 hx
    rcases List.mem_append.1 hx with hx | hx
    · exact be8_bytes _ x hx
    · exact hL b hb x hx
end Go.Proofs.Ytonjkhhihiigfaa
namespace Go.Proofs.Ytonjkhhihiigfaa
open Go.RowKit
set_option maxRecDepth 100000

theorem Try.infoU8 : (Try.prog.info? 5).map (fun i => (i.zero, i.size, i.bytes)) = some (some (.int .u8 0), 1, 1) := by kernel_rfl

/-- A tag, as far as it counts. -/
def cut255 (s : ByteArray) : ByteArray := if s.size ≤ 255 then s else s.extract 0 255
theorem cut_small {s : ByteArray} (h : s.size ≤ 255) : cut255 s = s := if_pos h
theorem cut_size (s : ByteArray) : (cut255 s).size ≤ 255 := by
  unfold cut255
  split
  · assumption
  · simp [ByteArray.size_extract]; omega

end Go.Proofs.Ytonjkhhihiigfaa
namespace Go.Proofs.Ytonjkhhihiigfaa
set_option maxRecDepth 100000
open Go.RowKit

/-- Block p holds a Writer that was made; v is its slice, of the bytes xs. -/
structure WrV (w : World) (p : Nat) (v : Value) (xs : List Int) : Prop where
  blk : w.heap[p]? = some (.cells #[.bool true, v] 130 (0, 0))
  own : w.ownsRow 0 5 1 v xs.length (bc xs)
section
variable {w w' : World} {p : Nat} {v : Value} {xs : List Int}
theorem WrV.lt (h : WrV w p v xs) : p < w.heap.size := (Array.getElem?_eq_some_iff.1 h.blk).1
theorem WrV.ne (h : WrV w p v xs) : v.ownBlock ≠ some p := by
  rcases h.own.2 with ⟨rfl, _⟩ | ⟨g, cap, cur, rfl, _, hg, _⟩
  · simp [Value.ownBlock]
  · intro e
    obtain rfl : g = p := by simpa [Value.ownBlock] using e
    rw [h.blk] at hg
    simp at hg
theorem WrV.chg {S : List Nat} (h : WrV w p v xs) (hc : Chg w w' S) (hp : p ∉ S) (hv : ∀ g, v.ownBlock = some g → g ∉ S) : WrV w' p v xs := by
  refine ⟨by rw [hc.block p h.lt hp]; exact h.blk, h.own.1, ?_⟩
  rcases h.own.2 with hn | ⟨g, cap, cur, rfl, hb, hg, r⟩
  · exact .inl hn
  · exact .inr ⟨g, cap, cur, rfl, hb, by rw [hc.block g (Array.getElem?_eq_some_iff.1 hg).1 (hv g rfl)]; exact hg, r⟩
theorem WrV.on (h : WrV w p v xs) (hb : Below w.heap.size w w') : WrV w' p v xs := h.chg (S := []) (Chg.below hb (Nat.le_refl _) []) (by simp) (fun _ _ => by simp)
theorem WrV.alloc (h : WrV w p v xs) (o : Obj) : WrV (w.alloc o) p v xs := h.on ((Below.refl _ _).alloc (Nat.le_refl _) o)
theorem WrV.drew (h : WrV w p v xs) : WrV w.drew p v xs := ⟨h.blk, h.own⟩
theorem WrV.cells (h : WrV w p v xs) : w.cell? ⟨p, 0, none⟩ = some (.bool true) ∧ w.cell? ⟨p, 1, none⟩ = some v ∧ w.frozen? ⟨p, 1, none⟩ = false :=
  ⟨by rw [Joins.cell_of_block h.blk]; rfl, by rw [Joins.cell_of_block h.blk]; rfl, Joins.unfrozen_of_block h.blk 1⟩
theorem WrV.rd (h : WrV w p v xs) : Rd w v xs := rd_of_row h.own
end

/-- A Writer behind some writing: of what there was in w its own block and its row alone may have changed. -/
def WSt (w : World) (p : Nat) (v : Value) (wr : World) (xs : List Int) : Prop :=
  ∃ v', WrV wr p v' xs ∧ Chg w wr (p :: v.ownBlock.toList) ∧ (v'.ownBlock = v.ownBlock ∨ ∀ g, v'.ownBlock = some g → w.heap.size ≤ g)
section
variable {w wr w1 : World} {p : Nat} {v v' v'' : Value} {xs ys : List Int}
theorem WSt.start (h : WrV w p v xs) : WSt w p v w xs := ⟨v, h, Chg.refl w _, .inl rfl⟩
theorem WSt.trans {a b c : World} {zs : List Int} (h : WSt a p v b ys) (k : ∀ u, WrV b p u ys → WSt b p u c zs) : WSt a p v c zs := by
  obtain ⟨v', h1, h2, h3⟩ := h
  obtain ⟨v'', k1, k2, k3⟩ := k v' h1
  refine ⟨v'', k1, h2.trans k2 ?_, ?_⟩
  · intro x hx hl
    rcases List.mem_cons.1 hx with rfl | hx
    · simp
    · rcases h3 with e | e
      · rw [e] at hx; exact List.mem_cons.2 (.inr hx)
      · have := e x (by simpa using hx); omega
  · rcases k3 with e | e
    · rw [e]
      rcases h3 with e' | e'
      · exact .inl e'
      · exact .inr e'
    · exact .inr fun g hg => Nat.le_trans h2.size (e g hg)
/-- Behind an append, and the store of the longer slice. -/
theorem WSt.step (h : WrV wr p v' xs) (hc : Chg w wr (p :: v.ownBlock.toList)) (hf : v'.ownBlock = v.ownBlock ∨ ∀ g, v'.ownBlock = some g → w.heap.size ≤ g)
    {m : Nat} (hm : ys.length = m) (own : w1.ownsRow 0 5 1 v'' (xs.length + m) (bc xs ++ bc ys)) (hg : wr.grownBy w1 v'.ownBlock) (hv : v''.ownBlock = v'.ownBlock ∨ v''.ownBlock = some wr.heap.size) :
    WSt w p v (w1.setCell ⟨p, 1, none⟩ v'') (xs ++ ys) := by
  subst hm
  have hp : p < w1.heap.size := Nat.lt_of_lt_of_le h.lt hg.size
  have hblk : w1.heap[p]? = some (.cells #[.bool true, v'] 130 (0, 0)) := by
    rw [hg.block p h.lt (fun e => h.ne e.symm)]; exact h.blk
  have hnp : v''.ownBlock ≠ some p := by
    rcases hv with e | e
    · rw [e]; exact h.ne
    · rw [e]; intro e'; have := h.lt; simp at e'; omega
  refine ⟨v'', ⟨?_, ?_⟩, ?_, ?_⟩
  · rw [Joins.block_setCell (i := 1) hblk v'']; rfl
  · rw [List.length_append, bc_append]
    refine ⟨own.1, ?_⟩
    rcases own.2 with hn | ⟨g, cap, cur, rfl, hb, hgg, r⟩
    · exact .inl hn
    · exact .inr ⟨g, cap, cur, rfl, hb, by rw [Below.heap_setCell _ _ _ _ (fun e => hnp (by simp only [Value.ownBlock]; rw [show g = p from e]))]; exact hgg, r⟩
  · refine (hc.trans (T := v'.ownBlock.toList) (Chg.grown hg (fun k hk => by simp [hk])) ?_).setCell (.inl (by simp)) v''
    intro x hx hl
    rcases hf with e | e
    · rw [e] at hx; exact List.mem_cons.2 (.inr hx)
    · have := e x (by simpa using hx); omega
  · rcases hv with e | e
    · rw [e]; exact hf
    · refine .inr fun g hg' => ?_
      rw [e] at hg'
      have := hc.size
      simp at hg'
      omega
end

theorem be8_get (n : Int) {k : Nat} (hk : k < 8) : (be8 n).take (k + 1) = (be8 n).take k ++ [n / 2 ^ (56 - 8 * k) % 256] := by
  have e : k = 0 ∨ k = 1 ∨ k = 2 ∨ k = 3 ∨ k = 4 ∨ k = 5 ∨ k = 6 ∨ k = 7 := by omega
  rcases e with rfl | rfl | rfl | rfl | rfl | rfl | rfl | rfl <;> simp [be8]

set_option maxHeartbeats 2000000 in
theorem putUint_any {w : World} {p : Nat} {v : Value} {xs : List Int} (h : WrV w p v xs) (hl : xs.length ≤ 65536) (n : Int) :
    Calls Try.prog 63 #[.pointer (some ⟨p, 0, none⟩), .int .u64 n] w fun e w' => e = .returned (.tuple #[]) ∧ WSt w p v w' (xs ++ be8 n) := by
  obtain ⟨i0, hi, hz0, hz1, hz2⟩ := info_parts Try.infoU8
  have H0 : Hid (WSt w p v w (xs ++ (be8 n).take 0)) := by
    show WSt w p v w _
    simpa using WSt.start h
  clear h
  replace hi := Lib.hid hi
  replace hz0 := Lib.hid hz0
  replace hz1 := Lib.hid hz1
  replace hz2 := Lib.hid hz2
  go_enter Try.func63, Try.ntmps63
  go_wp2_with fail
  go_loopw [4] (fun sv wr => ∃ k : Nat, sv = .int .i64 (56 - 8 * (k : Int)) ∧ k ≤ 8 ∧ Hid (WSt w p v wr (xs ++ (be8 n).take k))) (fun sv _ => (intOf sv + 8).toNat)
  case atStart => exact ⟨0, by simp, by omega, H0⟩
  case round =>
    clear H0
    obtain ⟨k, rfl, hk, hS⟩ := hrel
    by_cases hlt : k < 8
    · have hd : (0 : Int) ≤ 56 - 8 * (k : Int) := by omega
      obtain ⟨v', h1, h2, h3⟩ := hS.out
      have H1 := Lib.hid h1
      have H2 := Lib.hid (And.intro h2 h3)
      clear h2 h3 hS h1
      obtain ⟨-, c1, f1⟩ := H1.out.cells
      have hpl := H1.out.lt
      go_wp2_with fail
      refine wp_region_held_drew (S := fun _ => True) (by kernel_rfl) (trivial) (fun h0 => ?_)
      refine wpAnyH_take (i := 0) (v := ?_) (by rw [List.getElem?_toArray]; rfl) (by kernel_rfl) (by kernel_rfl) (by kernel_rfl) (by exact fun _ _ _ h => h) (Or.inl ⟨by rfl, ?_⟩) h0 ?_
      rotate_left
      · intro W hW
        go_simp
        all_goals with_reducible rfl
      try simp only [Act.put, List.setIfInBounds_toArray, List.set_cons_zero, List.set_cons_succ]
      refine wpAnyH_take (i := 1) (v := ?_) (by rw [List.getElem?_toArray]; rfl) (by kernel_rfl) (by kernel_rfl) (by kernel_rfl) (by exact fun _ _ _ h => h) (Or.inl ⟨by rfl, ?_⟩) h0 ?_
      rotate_left
      · intro W hW
        go_simp
        all_goals with_reducible rfl
      try simp only [Act.put, List.setIfInBounds_toArray, List.set_cons_zero, List.set_cons_succ]
      refine wpAnyH_take (i := 2) (v := ?_) (by rw [List.getElem?_toArray]; rfl) (by kernel_rfl) (by kernel_rfl) (by kernel_rfl) (by exact fun _ _ _ h => h) (Or.inl ⟨by rfl, ?_⟩) h0 ?_
      rotate_left
      · intro W hW
        go_simp
        all_goals with_reducible rfl
      try simp only [Act.put, List.setIfInBounds_toArray, List.set_cons_zero, List.set_cons_succ]
      refine wpAnyH_take (i := 3) (v := ?_) (by rw [List.getElem?_toArray]; rfl) (by kernel_rfl) (by kernel_rfl) (by kernel_rfl) (by exact fun _ _ _ h => h) (Or.inl ⟨by rfl, ?_⟩) h0 ?_
      rotate_left
      · intro W hW
        go_simp
        all_goals with_reducible rfl
      try simp only [Act.put, List.setIfInBounds_toArray, List.set_cons_zero, List.set_cons_succ]
      refine wpAnyH_take (i := 5) (v := ?_) (by rw [List.getElem?_toArray]; rfl) (by kernel_rfl) (by kernel_rfl) (by kernel_rfl) (by exact fun _ _ _ h => h) (Or.inl ⟨by rfl, ?_⟩) h0 ?_
      rotate_left
      · intro W hW
        go_simp
        all_goals with_reducible rfl
      try simp only [Act.put, List.setIfInBounds_toArray, List.set_cons_zero, List.set_cons_succ]
      refine wpAnyH_take (i := 6) (v := ?_) (by rw [List.getElem?_toArray]; rfl) (by kernel_rfl) (by kernel_rfl) (by kernel_rfl) (by exact fun _ _ _ h => h) (Or.inl ⟨by rfl, ?_⟩) h0 ?_
      rotate_left
      · intro W hW
        go_simp
        all_goals with_reducible rfl
      try simp only [Act.put, List.setIfInBounds_toArray, List.set_cons_zero, List.set_cons_succ]
      refine wpAnyH_take (i := 7) (v := ?_) (by rw [List.getElem?_toArray]; rfl) (by kernel_rfl) (by kernel_rfl) (by kernel_rfl) (by exact fun _ _ _ h => h) (Or.inl ⟨by rfl, ?_⟩) h0 ?_
      rotate_left
      · intro W hW
        go_simp
        all_goals with_reducible rfl
      try simp only [Act.put, List.setIfInBounds_toArray, List.set_cons_zero, List.set_cons_succ]
      refine wpAnyH_take (i := 8) (v := ?_) (by rw [List.getElem?_toArray]; rfl) (by kernel_rfl) (by kernel_rfl) (by kernel_rfl) (by exact fun _ _ _ h => h) (Or.inl ⟨by rfl, ?_⟩) h0 ?_
      rotate_left
      · intro W hW
        go_simp
        all_goals with_reducible rfl
      try simp only [Act.put, List.setIfInBounds_toArray, List.set_cons_zero, List.set_cons_succ]
      refine wpAnyH_ready (rs := [4, 9]) (by kernel_rfl) (by simp) ?_
      refine AllReadyH.cons (by rw [List.getElem?_toArray]; rfl) (fun K hK => ?_) (AllReadyH.cons (by rw [List.getElem?_toArray]; rfl) (fun K hK => ?_) AllReadyH.nil)
      · rw [if_pos (by rfl)]
        go_wp2_with fail
        refine hK.out _ _ (trivial) (fun _ => ?_)
        clear hK K
        try simp only [Act.put, List.setIfInBounds_toArray, List.set_cons_zero, List.set_cons_succ]
        refine wpAnyH_ready (rs := [9]) (by kernel_rfl) (by simp) ?_
        refine AllReadyH.cons (by rw [List.getElem?_toArray]; rfl) (fun K hK => ?_) AllReadyH.nil
        rw [if_pos (by rfl)]
        go_wp2_with fail
        refine hK.out _ _ (trivial) (fun _ => ?_)
        clear hK K
        try simp only [Act.put, List.setIfInBounds_toArray, List.set_cons_zero, List.set_cons_succ]
        refine wpAnyH_ready (rs := [10]) (by kernel_rfl) (by simp) ?_
        refine AllReadyH.cons (by rw [List.getElem?_toArray]; rfl) (fun K hK => ?_) AllReadyH.nil
        rw [if_pos (by rfl)]
        refine wp_append_row _ _ rfl Try.underlying50 hi.out hz0.out hz1.out hz2.out rfl (H1.out.alloc _).drew.own (Rd.src (xs := [n / 2 ^ (56 - 8 * k) % 256]) Try.underlying50 ?rd) ?b1 ?b2 ?_
        case rd => exact ⟨_, 1, rfl, .inr ⟨wr.heap.size, 0, rfl, fun j hj => by obtain rfl : j = 0 := (by simpa using hj); exact (Joins.cell_of_block (heap_alloc_new wr _) 0).trans rfl⟩⟩
        case b1 => simp; unfold maxLen; omega
        case b2 => simp; omega
        intro q2 k2 w2 own2 grow2 fr2
        have HN := Lib.hid (WSt.step (H1.out.alloc _).drew (H2.out.1.alloc _).drew (by exact H2.out.2) rfl own2 grow2 fr2)
        have c2 : w2.cell? ⟨p, 1, none⟩ = some v' := by
          rw [World.cell?_of_block (grow2.block p (by simp; omega) (fun e => H1.out.ne e.symm))]; exact (H1.out.alloc _).drew.cells.2.1
        have f2 : w2.frozen? ⟨p, 1, none⟩ = false := by
          rw [World.frozen?_of_block (grow2.block p (by simp; omega) (fun e => H1.out.ne e.symm))]; exact (H1.out.alloc _).drew.cells.2.2
        clear own2 grow2 fr2 c1 f1
        refine hK.out _ _ (trivial) (fun _ => ?_)
        clear hK K
        try simp only [Act.put, List.setIfInBounds_toArray, List.set_cons_zero, List.set_cons_succ]
        refine wpAnyH_take (i := 11) (v := ?_) (by rw [List.getElem?_toArray]; rfl) (by kernel_rfl) (by kernel_rfl) (by kernel_rfl) (by exact fun _ _ _ h => h) (Or.inl ⟨by rfl, ?_⟩) h0 ?_
        rotate_left
        · intro W hW
          go_simp
          all_goals with_reducible rfl
        try simp only [Act.put, List.setIfInBounds_toArray, List.set_cons_zero, List.set_cons_succ]
        refine wpAnyH_take (i := 12) (v := ?_) (by rw [List.getElem?_toArray]; rfl) (by kernel_rfl) (by kernel_rfl) (by kernel_rfl) (by exact fun _ _ _ h => h) (Or.inl ⟨by rfl, ?_⟩) h0 ?_
        rotate_left
        · intro W hW
          go_simp
          all_goals with_reducible rfl
        try simp only [Act.put, List.setIfInBounds_toArray, List.set_cons_zero, List.set_cons_succ]
        refine wpAnyH_ready (rs := [13]) (by kernel_rfl) (by simp) ?_
        refine AllReadyH.cons (by rw [List.getElem?_toArray]; rfl) (fun K hK => ?_) AllReadyH.nil
        rw [if_pos (by rfl)]
        go_wp2_with fail
        refine hK.out _ _ (trivial) (fun _ => ?_)
        clear hK K
        try simp only [Act.put, List.setIfInBounds_toArray, List.set_cons_zero, List.set_cons_succ]
        refine wpAnyH_done (by kernel_rfl) ?_ _
        go_wp2_with fail
        go_roundw
        case rel =>
          refine ⟨k + 1, by go_num, by omega, ?_⟩
          show WSt w p v _ _
          rw [be8_get n hlt, ← List.append_assoc]
          have L : (xs ++ List.take k (be8 n)).length + [n / 2 ^ (56 - 8 * k) % 256].length = xs.length + k + 1 := by simp; omega
          have := HN.out
          rw [L] at this
          exact this
        case measure => simp [intOf]; omega
      · rw [if_pos (by rfl)]
        go_wp2_with fail
        refine hK.out _ _ (trivial) (fun _ => ?_)
        clear hK K
        try simp only [Act.put, List.setIfInBounds_toArray, List.set_cons_zero, List.set_cons_succ]
        refine wpAnyH_ready (rs := [4]) (by kernel_rfl) (by simp) ?_
        refine AllReadyH.cons (by rw [List.getElem?_toArray]; rfl) (fun K hK => ?_) AllReadyH.nil
        rw [if_pos (by rfl)]
        go_wp2_with fail
        refine hK.out _ _ (trivial) (fun _ => ?_)
        clear hK K
        try simp only [Act.put, List.setIfInBounds_toArray, List.set_cons_zero, List.set_cons_succ]
        refine wpAnyH_ready (rs := [10]) (by kernel_rfl) (by simp) ?_
        refine AllReadyH.cons (by rw [List.getElem?_toArray]; rfl) (fun K hK => ?_) AllReadyH.nil
        rw [if_pos (by rfl)]
        refine wp_append_row _ _ rfl Try.underlying50 hi.out hz0.out hz1.out hz2.out rfl (H1.out.alloc _).drew.own (Rd.src (xs := [n / 2 ^ (56 - 8 * k) % 256]) Try.underlying50 ?rd) ?b1 ?b2 ?_
        case rd => exact ⟨_, 1, rfl, .inr ⟨wr.heap.size, 0, rfl, fun j hj => by obtain rfl : j = 0 := (by simpa using hj); exact (Joins.cell_of_block (heap_alloc_new wr _) 0).trans rfl⟩⟩
        case b1 => simp; unfold maxLen; omega
        case b2 => simp; omega
        intro q2 k2 w2 own2 grow2 fr2
        have HN := Lib.hid (WSt.step (H1.out.alloc _).drew (H2.out.1.alloc _).drew (by exact H2.out.2) rfl own2 grow2 fr2)
        have c2 : w2.cell? ⟨p, 1, none⟩ = some v' := by
          rw [World.cell?_of_block (grow2.block p (by simp; omega) (fun e => H1.out.ne e.symm))]; exact (H1.out.alloc _).drew.cells.2.1
        have f2 : w2.frozen? ⟨p, 1, none⟩ = false := by
          rw [World.frozen?_of_block (grow2.block p (by simp; omega) (fun e => H1.out.ne e.symm))]; exact (H1.out.alloc _).drew.cells.2.2
        clear own2 grow2 fr2 c1 f1
        refine hK.out _ _ (trivial) (fun _ => ?_)
        clear hK K
        try simp only [Act.put, List.setIfInBounds_toArray, List.set_cons_zero, List.set_cons_succ]
        refine wpAnyH_take (i := 11) (v := ?_) (by rw [List.getElem?_toArray]; rfl) (by kernel_rfl) (by kernel_rfl) (by kernel_rfl) (by exact fun _ _ _ h => h) (Or.inl ⟨by rfl, ?_⟩) h0 ?_
        rotate_left
        · intro W hW
          go_simp
          all_goals with_reducible rfl
        try simp only [Act.put, List.setIfInBounds_toArray, List.set_cons_zero, List.set_cons_succ]
        refine wpAnyH_take (i := 12) (v := ?_) (by rw [List.getElem?_toArray]; rfl) (by kernel_rfl) (by kernel_rfl) (by kernel_rfl) (by exact fun _ _ _ h => h) (Or.inl ⟨by rfl, ?_⟩) h0 ?_
        rotate_left
        · intro W hW
          go_simp
          all_goals with_reducible rfl
        try simp only [Act.put, List.setIfInBounds_toArray, List.set_cons_zero, List.set_cons_succ]
        refine wpAnyH_ready (rs := [13]) (by kernel_rfl) (by simp) ?_
        refine AllReadyH.cons (by rw [List.getElem?_toArray]; rfl) (fun K hK => ?_) AllReadyH.nil
        rw [if_pos (by rfl)]
        go_wp2_with fail
        refine hK.out _ _ (trivial) (fun _ => ?_)
        clear hK K
        try simp only [Act.put, List.setIfInBounds_toArray, List.set_cons_zero, List.set_cons_succ]
        refine wpAnyH_done (by kernel_rfl) ?_ _
        go_wp2_with fail
        go_roundw
        case rel =>
          refine ⟨k + 1, by go_num, by omega, ?_⟩
          show WSt w p v _ _
          rw [be8_get n hlt, ← List.append_assoc]
          have L : (xs ++ List.take k (be8 n)).length + [n / 2 ^ (56 - 8 * k) % 256].length = xs.length + k + 1 := by simp; omega
          have := HN.out
          rw [L] at this
          exact this
        case measure => simp [intOf]; omega
    · obtain rfl : k = 8 := by omega
      have hb := hS.out
      rw [show (be8 n).take 8 = be8 n from rfl] at hb
      replace hS := Lib.hid hb
      clear hb
      go_wp2_with fail
      go_end0
      exact ⟨rfl, hS.out⟩
end Go.Proofs.Ytonjkhhihiigfaa
namespace Go.Proofs.Ytonjkhhihiigfaa
set_option maxRecDepth 100000
open Go.RowKit

theorem NewWriter_any (w : World) : Calls Try.prog 53 #[] w fun e w' => e = .returned (.pointer (some ⟨w.heap.size, 0, none⟩)) ∧ w' = w.alloc (.cells #[.bool true, .slice none 0 0] 130) := by
  go_enter Try.func53, Try.ntmps53
  go_wp2_with fail
  go_ret
  exact ⟨rfl, rfl⟩
theorem WrV.new (w : World) : WrV (w.alloc (.cells #[.bool true, .slice none 0 0] 130)) w.heap.size (.slice none 0 0) [] :=
  ⟨heap_alloc_new w _, World.ownsRow_nil _ 0 _ 1⟩

/-- A new slice of the bytes xs, in memory of its own. -/
def NewRow (w : World) (xs : List Int) (v : Value) (w' : World) : Prop :=
  (∃ q c, v = .slice q xs.length c) ∧ w'.ownsRow 0 5 1 v xs.length (bc xs) ∧ Below w.heap.size w w' ∧ ∀ k, v.ownBlock = some k → w.heap.size ≤ k
theorem NewRow.rd {w w' : World} {xs : List Int} {v : Value} (h : NewRow w xs v w') : Rd w' v xs := rd_of_row h.2.1

set_option maxHeartbeats 1000000 in
theorem WBytes_any {w : World} {p : Nat} {v : Value} {xs : List Int} (h : WrV w p v xs) (hl : xs.length ≤ 65536) :
    Calls Try.prog 55 #[.pointer (some ⟨p, 0, none⟩)] w fun e w' => ∃ u, e = .returned u ∧ NewRow w xs u w' := by
  obtain ⟨i0, hi, hz0, hz1, hz2⟩ := info_parts Try.infoU8
  obtain ⟨qv, kv, rfl⟩ := h.rd.len
  obtain ⟨c0, c1, -⟩ := h.cells
  have hs := Lib.hid (h.rd.src (P := Try.prog) Try.underlying50)
  clear h
  replace hi := Lib.hid hi
  replace hz0 := Lib.hid hz0
  replace hz1 := Lib.hid hz1
  replace hz2 := Lib.hid hz2
  go_enter Try.func55, Try.ntmps55
  go_wp2_with (at_builtin; refine wpList_append_row rfl _ _ rfl Try.underlying50 hi.out hz0.out hz1.out hz2.out rfl (World.ownsRow_nil w 0 _ 1) hs.out ?b1 ?b2 ?_)
  case b1 => unfold maxLen; omega
  case b2 => omega
  intro q2 k2 w2 own2 grow2 fr2
  try simp only [Nat.zero_add, List.nil_append] at own2
  try simp only [Nat.zero_add, List.nil_append] at fr2
  try simp only [Nat.zero_add]
  have H2 := Lib.hid own2
  have HB := Lib.hid ((Below.refl w.heap.size w).grown grow2 (Nat.le_refl _) (by intro k hk; simp [Value.ownBlock] at hk))
  have HF : Hid (∀ k, (Value.slice q2 xs.length k2).ownBlock = some k → w.heap.size ≤ k) := fun k hk => by
    rcases fr2 with e | e
    · rw [e] at hk; simp [Value.ownBlock] at hk
    · rw [e] at hk; simp at hk; omega
  clear own2 grow2 fr2 c0 c1 hs
  go_wp2_with fail
  go_ret
  exact ⟨_, rfl, ⟨_, _, rfl⟩, H2.out, HB.out, HF.out⟩

/-! ### Lists of slices -/
theorem WSt.of_eq {w wr : World} {p : Nat} {v : Value} {xs ys : List Int} (h : WSt w p v wr xs) (e : xs = ys) : WSt w p v wr ys := e ▸ h
theorem WSt.own {w wr : World} {p : Nat} {v : Value} {xs : List Int} (h : WSt w p v wr xs) : ∃ q c, WrV wr p (.slice q xs.length c) xs ∧ Chg w wr (p :: v.ownBlock.toList) ∧ ((Value.slice q xs.length c).ownBlock = v.ownBlock ∨ ∀ g, (Value.slice q xs.length c).ownBlock = some g → w.heap.size ≤ g) := by
  obtain ⟨v', h1, h2, h3⟩ := h
  obtain ⟨q, c, rfl⟩ := h1.rd.len
  exact ⟨q, c, h1, h2, h3⟩
end Go.Proofs.Ytonjkhhihiigfaa
namespace Go.Proofs.Ytonjkhhihiigfaa
set_option maxRecDepth 100000
open Go.RowKit

/-- The slice v holds these numbers, and lies in no block of S. -/
def RdN (w : World) (v : Value) (ns : List Int) (S : List Nat) : Prop := ∃ q c, v = .slice q ns.length c ∧ (ns = [] ∨ ∃ b off, q = some ⟨b, off, none⟩ ∧ b ∉ S ∧ ∀ i, i < ns.length → w.cell? ⟨b, off + i, none⟩ = some (.int .u64 (ns.getD i 0)))
theorem RdN.at {w : World} {q : Option Addr} {n c : Nat} {ns : List Int} {S : List Nat} (h : RdN w (.slice q n c) ns S) {i : Nat} (hi : i < ns.length) :
    ∃ b off, n = ns.length ∧ q = some ⟨b, off, none⟩ ∧ b ∉ S ∧ w.cell? ⟨b, off + i, none⟩ = some (.int .u64 (ns.getD i 0)) := by
  obtain ⟨q', c', e, rfl | ⟨b, off, rfl, hb, hx⟩⟩ := h
  · simp at hi
  · simp only [Value.slice.injEq] at e
    exact ⟨b, off, e.2.1, e.1, hb, hx i hi⟩
/-- The bytes of numbers. -/
def nums (ns : List Int) : List Int := ns.flatMap be8
theorem nums_take {ns : List Int} {i : Nat} (hi : i < ns.length) : nums (ns.take (i + 1)) = nums (ns.take i) ++ be8 (ns.getD i 0) := by
  have e : ns.take (i + 1) = ns.take i ++ [ns.getD i 0] := by
    rw [List.take_add_one]
    simp [List.getD, hi]
  rw [e, nums, List.flatMap_append]
  simp [nums]
theorem nums_len : ∀ ns : List Int, (nums ns).length = 8 * ns.length
  | [] => rfl
  | n :: ns => by
    have := nums_len ns
    simp only [nums, List.flatMap_cons, List.length_append, be8_len, List.length_cons] at this ⊢
    omega

theorem room_yes {w : World} {p : Nat} {v : Value} {xs : List Int} (h : WrV w p v xs) {n s : Nat} (hs : 0 < s) (hl : xs.length + n * s ≤ 65536) :
    Calls Try.prog 62 #[.pointer (some ⟨p, 0, none⟩), .int .i64 n, .int .i64 s] w fun e w' => e = .returned (.bool true) ∧ w' = w := by
  obtain ⟨c0, c1, -⟩ := h.cells
  obtain ⟨qv, kv, rfl⟩ := h.rd.len
  go_enter Try.func62, Try.ntmps62
  have hd : decide ((n : Int) ≤ (65536 - (xs.length : Int)) / (s : Int)) = true := by
    refine decide_eq_true (Int.le_ediv_of_mul_le (by omega) ?_)
    have : ((n * s : Nat) : Int) ≤ 65536 - (xs.length : Int) := by omega
    rw [Int.natCast_mul] at this
    exact this
  go_wp2_with fail
  go_ret
  exact ⟨rfl, rfl⟩

set_option maxHeartbeats 4000000 in
theorem WUint_fits {w : World} {p : Nat} {v : Value} {xs : List Int} (h : WrV w p v xs) {a : Value} {ns : List Int} (hN : RdN w a ns (p :: v.ownBlock.toList)) (hl : xs.length + 8 * ns.length ≤ 65536) :
    Calls Try.prog 54 #[.pointer (some ⟨p, 0, none⟩), a] w fun e w' => e = .returned (.int .i64 0) ∧ WSt w p v w' (xs ++ nums ns) := by
  have H0 : Hid (WSt w p v w (xs ++ nums (ns.take 0))) := by
    show WSt w p v w _
    exact (WSt.start h).of_eq (by simp [nums])
  obtain ⟨c0, c1, -⟩ := h.cells
  have hroom := Lib.hid (room_yes h (n := ns.length) (s := 8) (by omega) (by omega))
  obtain ⟨qv, kv, rfl⟩ := h.rd.len
  obtain ⟨q, c, rfl⟩ : ∃ q c, a = .slice q ns.length c := by obtain ⟨q, c, e, _⟩ := hN; exact ⟨q, c, e⟩
  have HN := Lib.hid hN
  have hn : ns.length ≤ 65536 := by omega
  clear h hN
  go_enter Try.func54, Try.ntmps54
  go_wp2_with fail
  refine (hroom.out).mono ?_
  rintro e wx ⟨rfl, rfl⟩
  go_wp2_with fail
  obtain ⟨w0, rfl⟩ : ∃ w0 : World, w0 = wx := ⟨_, rfl⟩
  clear c0 c1 hroom
  go_loopw [6, 26] (fun _ iv wr => ∃ i : Nat, iv = .int .i64 i ∧ i ≤ ns.length ∧ Hid (WSt w0 p (.slice qv xs.length kv) wr (xs ++ nums (ns.take i)))) (fun _ iv _ => ns.length - (intOf iv).toNat)
  case atStart => exact ⟨0, rfl, by omega, H0⟩
  case round =>
    clear H0
    obtain ⟨i, rfl, hil, hS⟩ := hrel
    by_cases hlt : i < ns.length
    · obtain ⟨q1, k1, h1, h2, h3⟩ := hS.out.own
      obtain ⟨b, off, -, rfl, hbS, hcw⟩ := HN.out.at hlt
      have hc : wr.cell? ⟨b, off + i, none⟩ = some (.int .u64 (ns.getD i 0)) := by
        rw [World.cell?_of_block (w := w0) (h2.block b (lt_of_cell hcw) hbS)]; exact hcw
      have hlen : (xs ++ nums (ns.take i)).length ≤ 65536 := by
        rw [List.length_append, nums_len, List.length_take]; omega
      have H1 := Lib.hid h1
      have H23 := Lib.hid (And.intro h2 h3)
      have HB := Lib.hid (nums_take hlt)
      clear h1 h2 h3 hS hcw hbS
      generalize hbb : ns.getD i 0 = x at hc HB
      go_wp2_with fail
      refine (putUint_any H1.out hlen _).mono ?_
      rintro e w3 ⟨rfl, hw3⟩
      have HS3 : Hid (WSt w0 p (.slice qv xs.length kv) w3 (xs ++ nums (ns.take i) ++ be8 x)) :=
        WSt.trans ⟨_, H1.out, H23.out.1, H23.out.2⟩ (fun u hu => by
          have e1 : u = .slice q1 (xs ++ nums (ns.take i)).length k1 := by
            have := hu.cells.2.1
            rw [H1.out.cells.2.1] at this
            exact (Option.some.inj this).symm
          rw [e1]
          exact hw3)
      clear hw3 H1 H23 hc
      go_wp2_with fail
      go_roundw
      case rel =>
        refine ⟨i + 1, by go_num, by omega, ?_⟩
        show WSt w0 p _ _ _
        rw [HB.out, ← List.append_assoc]
        exact HS3.out
      case measure => simp [intOf]; omega
    · obtain rfl : i = ns.length := by omega
      have hb := hS.out
      rw [List.take_length] at hb
      replace hS := Lib.hid hb
      clear hb
      go_wp2_with fail
      go_ret
      exact ⟨rfl, hS.out⟩
end Go.Proofs.Ytonjkhhihiigfaa
namespace Go.Proofs.Ytonjkhhihiigfaa
open Go.RowKit

/-- The base of a digit. -/
def B : Int := 18446744073709551616
/-- A digit. -/
def Dg (x : Int) : Prop := 0 ≤ x ∧ x < B
/-- Four digits. -/
def D4 (a0 a1 a2 a3 : Int) : Prop := Dg a0 ∧ Dg a1 ∧ Dg a2 ∧ Dg a3
/-- What four digits tell. -/
def V (a0 a1 a2 a3 : Int) : Int := a0 + B * a1 + B * B * a2 + B * B * B * a3
/-- The greatest number, and one. -/
def M : Int := B * B * B * B

theorem V_lo {a0 a1 a2 a3 : Int} (h : D4 a0 a1 a2 a3) : 0 ≤ V a0 a1 a2 a3 := by
  unfold D4 Dg B at h; unfold V B; omega
theorem V_hi {a0 a1 a2 a3 : Int} (h : D4 a0 a1 a2 a3) : V a0 a1 a2 a3 < M := by
  unfold D4 Dg B at h; unfold V M B; omega
theorem V_inj {a0 a1 a2 a3 b0 b1 b2 b3 : Int} (h : D4 a0 a1 a2 a3) (k : D4 b0 b1 b2 b3) (e : V a0 a1 a2 a3 = V b0 b1 b2 b3) : a0 = b0 ∧ a1 = b1 ∧ a2 = b2 ∧ a3 = b3 := by
  unfold D4 Dg B at h k; unfold V B at e; omega

/-- The difference's low 64 bits, and what is borrowed. -/
def sb (x y b : Int) : Int := (x + 18446744073709551616 - y - b) % 18446744073709551616
def bo (x y b : Int) : Int := if x < y + b then 1 else 0
theorem bo_lo (x y b : Int) : 0 ≤ bo x y b := by unfold bo; split <;> omega
theorem bo_hi (x y b : Int) : bo x y b ≤ 1 := by unfold bo; split <;> omega
theorem sb_eq {x y b : Int} (hx : Dg x) (hy : Dg y) (h0 : 0 ≤ b) (h1 : b ≤ 1) : Dg (sb x y b) ∧ sb x y b = x - y - b + B * bo x y b := by
  unfold Dg B at *; unfold sb bo; split <;> omega
theorem sub4 {a0 a1 a2 a3 b0 b1 b2 b3 : Int} (h : D4 a0 a1 a2 a3) (k : D4 b0 b1 b2 b3) :
    D4 (sb a0 b0 0) (sb a1 b1 (bo a0 b0 0)) (sb a2 b2 (bo a1 b1 (bo a0 b0 0))) (sb a3 b3 (bo a2 b2 (bo a1 b1 (bo a0 b0 0)))) ∧
    V (sb a0 b0 0) (sb a1 b1 (bo a0 b0 0)) (sb a2 b2 (bo a1 b1 (bo a0 b0 0))) (sb a3 b3 (bo a2 b2 (bo a1 b1 (bo a0 b0 0)))) =
      V a0 a1 a2 a3 - V b0 b1 b2 b3 + M * bo a3 b3 (bo a2 b2 (bo a1 b1 (bo a0 b0 0))) := by
  obtain ⟨h0, h1, h2, h3⟩ := h
  obtain ⟨k0, k1, k2, k3⟩ := k
  have e0 := sb_eq h0 k0 (Int.le_refl 0) (by omega)
  have e1 := sb_eq h1 k1 (bo_lo a0 b0 0) (bo_hi _ _ _)
  have e2 := sb_eq h2 k2 (bo_lo a1 b1 (bo a0 b0 0)) (bo_hi _ _ _)
  have e3 := sb_eq h3 k3 (bo_lo a2 b2 (bo a1 b1 (bo a0 b0 0))) (bo_hi _ _ _)
  refine ⟨⟨e0.1, e1.1, e2.1, e3.1⟩, ?_⟩
  have f0 := e0.2; have f1 := e1.2; have f2 := e2.2; have f3 := e3.2
  generalize sb a3 b3 (bo a2 b2 (bo a1 b1 (bo a0 b0 0))) = r3 at *
  generalize bo a3 b3 (bo a2 b2 (bo a1 b1 (bo a0 b0 0))) = c3 at *
  generalize sb a2 b2 (bo a1 b1 (bo a0 b0 0)) = r2 at *
  generalize bo a2 b2 (bo a1 b1 (bo a0 b0 0)) = c2 at *
  generalize sb a1 b1 (bo a0 b0 0) = r1 at *
  generalize bo a1 b1 (bo a0 b0 0) = c1 at *
  generalize sb a0 b0 0 = r0 at *
  generalize bo a0 b0 0 = c0 at *
  unfold V M; unfold B at *; omega

/-- The sum's low 64 bits, and what is carried. -/
def ad (x y c : Int) : Int := (x + y + c) % 18446744073709551616
def ca (x y c : Int) : Int := (x + y + c) / 18446744073709551616
theorem ad_eq {x y c : Int} (hx : Dg x) (hy : Dg y) (h0 : 0 ≤ c) (h1 : c ≤ 1) : Dg (ad x y c) ∧ ad x y c = x + y + c - B * ca x y c ∧ 0 ≤ ca x y c ∧ ca x y c ≤ 1 := by
  unfold Dg B at *; unfold ad ca; omega
theorem ca_lo {x y c : Int} (hx : Dg x) (hy : Dg y) (h0 : 0 ≤ c) (h1 : c ≤ 1) : 0 ≤ ca x y c := (ad_eq hx hy h0 h1).2.2.1
theorem ca_hi {x y c : Int} (hx : Dg x) (hy : Dg y) (h0 : 0 ≤ c) (h1 : c ≤ 1) : ca x y c ≤ 1 := (ad_eq hx hy h0 h1).2.2.2
theorem add4 {a0 a1 a2 a3 b0 b1 b2 b3 : Int} (h : D4 a0 a1 a2 a3) (k : D4 b0 b1 b2 b3) :
    (0 ≤ ca a0 b0 0 ∧ ca a0 b0 0 ≤ 1) ∧ (0 ≤ ca a1 b1 (ca a0 b0 0) ∧ ca a1 b1 (ca a0 b0 0) ≤ 1) ∧ (0 ≤ ca a2 b2 (ca a1 b1 (ca a0 b0 0)) ∧ ca a2 b2 (ca a1 b1 (ca a0 b0 0)) ≤ 1) ∧
    (0 ≤ ca a3 b3 (ca a2 b2 (ca a1 b1 (ca a0 b0 0))) ∧ ca a3 b3 (ca a2 b2 (ca a1 b1 (ca a0 b0 0))) ≤ 1) ∧
    D4 (ad a0 b0 0) (ad a1 b1 (ca a0 b0 0)) (ad a2 b2 (ca a1 b1 (ca a0 b0 0))) (ad a3 b3 (ca a2 b2 (ca a1 b1 (ca a0 b0 0)))) ∧
    V (ad a0 b0 0) (ad a1 b1 (ca a0 b0 0)) (ad a2 b2 (ca a1 b1 (ca a0 b0 0))) (ad a3 b3 (ca a2 b2 (ca a1 b1 (ca a0 b0 0)))) =
      V a0 a1 a2 a3 + V b0 b1 b2 b3 - M * ca a3 b3 (ca a2 b2 (ca a1 b1 (ca a0 b0 0))) := by
  obtain ⟨h0, h1, h2, h3⟩ := h
  obtain ⟨k0, k1, k2, k3⟩ := k
  have e0 := ad_eq h0 k0 (Int.le_refl 0) (by omega)
  have e1 := ad_eq h1 k1 e0.2.2.1 e0.2.2.2
  have e2 := ad_eq h2 k2 e1.2.2.1 e1.2.2.2
  have e3 := ad_eq h3 k3 e2.2.2.1 e2.2.2.2
  refine ⟨e0.2.2, e1.2.2, e2.2.2, e3.2.2, ⟨e0.1, e1.1, e2.1, e3.1⟩, ?_⟩
  have f0 := e0.2.1; have f1 := e1.2.1; have f2 := e2.2.1; have f3 := e3.2.1
  generalize ad a3 b3 (ca a2 b2 (ca a1 b1 (ca a0 b0 0))) = r3 at *
  generalize ca a3 b3 (ca a2 b2 (ca a1 b1 (ca a0 b0 0))) = c3 at *
  generalize ad a2 b2 (ca a1 b1 (ca a0 b0 0)) = r2 at *
  generalize ca a2 b2 (ca a1 b1 (ca a0 b0 0)) = c2 at *
  generalize ad a1 b1 (ca a0 b0 0) = r1 at *
  generalize ca a1 b1 (ca a0 b0 0) = c1 at *
  generalize ad a0 b0 0 = r0 at *
  generalize ca a0 b0 0 = c0 at *
  unfold V M; unfold B at *; omega
end Go.Proofs.Ytonjkhhihiigfaa
namespace Go.Proofs.Ytonjkhhihiigfaa
open Go.RowKit

def cells4 (x0 x1 x2 x3 : Int) : Array Value := #[.int .u64 x0, .int .u64 x1, .int .u64 x2, .int .u64 x3]

/-- Block b holds four digits. -/
def At4 (w : World) (b : Nat) (x0 x1 x2 x3 : Int) : Prop := w.heap[b]? = some (.cells (cells4 x0 x1 x2 x3) 49 (0, 0))

theorem At4.lt {w : World} {b : Nat} {x0 x1 x2 x3 : Int} (h : At4 w b x0 x1 x2 x3) : b < w.heap.size := lt_of_block h
theorem At4.cell {w : World} {b : Nat} {x0 x1 x2 x3 : Int} (h : At4 w b x0 x1 x2 x3) :
    w.cell? ⟨b, 0, none⟩ = some (.int .u64 x0) ∧ w.cell? ⟨b, 1, none⟩ = some (.int .u64 x1) ∧ w.cell? ⟨b, 2, none⟩ = some (.int .u64 x2) ∧ w.cell? ⟨b, 3, none⟩ = some (.int .u64 x3) := by
  simp [Joins.cell_of_block h, cells4]
theorem At4.free {w : World} {b : Nat} {x0 x1 x2 x3 : Int} (h : At4 w b x0 x1 x2 x3) :
    w.frozen? ⟨b, 0, none⟩ = false ∧ w.frozen? ⟨b, 1, none⟩ = false ∧ w.frozen? ⟨b, 2, none⟩ = false ∧ w.frozen? ⟨b, 3, none⟩ = false :=
  ⟨Joins.unfrozen_of_block h 0, Joins.unfrozen_of_block h 1, Joins.unfrozen_of_block h 2, Joins.unfrozen_of_block h 3⟩
theorem At4.on {w w1 : World} {b : Nat} {x0 x1 x2 x3 : Int} (h : At4 w b x0 x1 x2 x3) (hb : Below w.heap.size w w1) : At4 w1 b x0 x1 x2 x3 := by
  have := h.lt
  unfold At4
  rw [hb.block _ this]; exact h
theorem At4.alloc {w : World} {b : Nat} {x0 x1 x2 x3 : Int} (h : At4 w b x0 x1 x2 x3) (o : Obj) : At4 (w.alloc o) b x0 x1 x2 x3 := by
  unfold At4
  rw [Below.heap_alloc _ _ _ h.lt]; exact h
theorem At4.new (w : World) (x0 x1 x2 x3 : Int) : At4 (w.alloc (.cells #[.int .u64 x0, .int .u64 x1, .int .u64 x2, .int .u64 x3] 49)) w.heap.size x0 x1 x2 x3 := heap_alloc_new _ _
theorem At4.drew {w : World} {b : Nat} {x0 x1 x2 x3 : Int} (h : At4 w b x0 x1 x2 x3) : At4 w.drew b x0 x1 x2 x3 := h
theorem At4.other {w : World} {b : Nat} {x0 x1 x2 x3 : Int} (h : At4 w b x0 x1 x2 x3) {a : Addr} (ha : b ≠ a.block) (v : Value) : At4 (w.setCell a v) b x0 x1 x2 x3 := by
  unfold At4
  rw [Below.heap_setCell _ _ _ _ ha]; exact h
theorem At4.set0 {w : World} {b : Nat} {x0 x1 x2 x3 : Int} (h : At4 w b x0 x1 x2 x3) (y : Int) : At4 (w.setCell ⟨b, 0, none⟩ (.int .u64 y)) b y x1 x2 x3 := by
  have e := Joins.block_setCell (i := 0) h (.int .u64 y)
  unfold At4; rw [e]; rfl
theorem At4.set1 {w : World} {b : Nat} {x0 x1 x2 x3 : Int} (h : At4 w b x0 x1 x2 x3) (y : Int) : At4 (w.setCell ⟨b, 1, none⟩ (.int .u64 y)) b x0 y x2 x3 := by
  have e := Joins.block_setCell (i := 1) h (.int .u64 y)
  unfold At4; rw [e]; rfl
theorem At4.set2 {w : World} {b : Nat} {x0 x1 x2 x3 : Int} (h : At4 w b x0 x1 x2 x3) (y : Int) : At4 (w.setCell ⟨b, 2, none⟩ (.int .u64 y)) b x0 x1 y x3 := by
  have e := Joins.block_setCell (i := 2) h (.int .u64 y)
  unfold At4; rw [e]; rfl
theorem At4.set3 {w : World} {b : Nat} {x0 x1 x2 x3 : Int} (h : At4 w b x0 x1 x2 x3) (y : Int) : At4 (w.setCell ⟨b, 3, none⟩ (.int .u64 y)) b x0 x1 x2 y := by
  have e := Joins.block_setCell (i := 3) h (.int .u64 y)
  unfold At4; rw [e]; rfl
theorem At4.setAll {w : World} {b : Nat} {x0 x1 x2 x3 : Int} (h : At4 w b x0 x1 x2 x3) (y0 y1 y2 y3 : Int) :
    At4 ((((w.setCell ⟨b, 0, none⟩ (.int .u64 y0)).setCell ⟨b, 1, none⟩ (.int .u64 y1)).setCell ⟨b, 2, none⟩ (.int .u64 y2)).setCell ⟨b, 3, none⟩ (.int .u64 y3)) b y0 y1 y2 y3 :=
  (((h.set0 y0).set1 y1).set2 y2).set3 y3
theorem At4.otherAll {w : World} {b c : Nat} {x0 x1 x2 x3 : Int} (h : At4 w c x0 x1 x2 x3) (hc : c ≠ b) (y0 y1 y2 y3 : Value) :
    At4 ((((w.setCell ⟨b, 0, none⟩ y0).setCell ⟨b, 1, none⟩ y1).setCell ⟨b, 2, none⟩ y2).setCell ⟨b, 3, none⟩ y3) c x0 x1 x2 x3 :=
  (((h.other hc _).other hc _).other hc _).other hc _

/-! ### Bits -/

theorem two_pos (n : Nat) : (0 : Int) < 2 ^ n := Int.pow_pos (by omega)

theorem halve (A : Int) (n : Nat) : A / 2 ^ n = 2 * (A / 2 ^ (n + 1)) + A / 2 ^ n % 2 := by
  rw [Int.pow_succ, ← Int.ediv_ediv_of_nonneg (Int.le_of_lt (two_pos n))]
  omega

/-- A digit's bit is the number's. -/
theorem bit_of {x hi : Int} {m : Nat} (hm : m < 64) : (x + B * hi) / 2 ^ m % 2 = x / 2 ^ m % 2 := by
  obtain ⟨j, hj⟩ : ∃ j, 64 = m + (j + 1) := ⟨63 - m, by omega⟩
  have e : B = 2 ^ m * (2 ^ j * 2) := by
    rw [← Int.pow_succ, ← Int.pow_add, ← hj]; rfl
  rw [e, show x + 2 ^ m * (2 ^ j * 2) * hi = x + 2 ^ m * (2 * (2 ^ j * hi)) by
    rw [Int.mul_assoc, Int.mul_comm (2 ^ j) 2, Int.mul_assoc]]
  rw [Int.add_mul_ediv_left _ _ (by have := two_pos m; omega)]
  omega

theorem shift_of {x hi : Int} (hx : Dg x) (m : Nat) : (x + B * hi) / 2 ^ (64 + m) = hi / 2 ^ m := by
  have e : (2 : Int) ^ (64 + m) = B * 2 ^ m := by rw [Int.pow_add]; rfl
  rw [e, ← Int.ediv_ediv_of_nonneg (by unfold B; omega)]
  congr 1
  unfold Dg at hx
  unfold B at *; omega

theorem bit0 {a0 a1 a2 a3 : Int} {m : Nat} (hm : m < 64) : V a0 a1 a2 a3 / 2 ^ m % 2 = a0 / 2 ^ m % 2 := by
  have e : V a0 a1 a2 a3 = a0 + B * (a1 + B * a2 + B * B * a3) := by unfold V B; omega
  rw [e]; exact bit_of hm
theorem bit1 {a0 a1 a2 a3 : Int} (h : D4 a0 a1 a2 a3) {m : Nat} (hm : m < 64) : V a0 a1 a2 a3 / 2 ^ (64 + m) % 2 = a1 / 2 ^ m % 2 := by
  have e : V a0 a1 a2 a3 = a0 + B * (a1 + B * (a2 + B * a3)) := by unfold V B; omega
  rw [e, shift_of h.1]; exact bit_of hm
theorem bit2 {a0 a1 a2 a3 : Int} (h : D4 a0 a1 a2 a3) {m : Nat} (hm : m < 64) : V a0 a1 a2 a3 / 2 ^ (128 + m) % 2 = a2 / 2 ^ m % 2 := by
  have e : V a0 a1 a2 a3 = a0 + B * (a1 + B * (a2 + B * a3)) := by unfold V B; omega
  rw [e, show 128 + m = 64 + (64 + m) by omega, shift_of h.1, shift_of h.2.1]; exact bit_of hm
theorem bit3 {a0 a1 a2 a3 : Int} (h : D4 a0 a1 a2 a3) {m : Nat} (hm : m < 64) : V a0 a1 a2 a3 / 2 ^ (192 + m) % 2 = a3 / 2 ^ m % 2 := by
  have e : V a0 a1 a2 a3 = a0 + B * (a1 + B * (a2 + B * (a3 + B * 0))) := by unfold V B; omega
  rw [e, show 192 + m = 64 + (64 + (64 + m)) by omega, shift_of h.1, shift_of h.2.1, shift_of h.2.2.1]; exact bit_of hm

/-! ### A bit that is set where none was -/

theorem or_bit {x t : Int} {m : Nat} (hx : Dg x) (hm : m < 64) (ht : x = 2 ^ (m + 1) * t) : bits BinOp.or IntKind.u64 x (2 ^ m) = x + 2 ^ m ∧ Dg (x + 2 ^ m) := by
  have h64 : (2 : Int) ^ 64 = B := rfl
  have hlt : (2 : Int) ^ m < B := by
    rw [← h64]; exact Int.pow_lt_pow_of_lt (by omega) hm
  have hp := two_pos m
  have ht0 : 0 ≤ t := by
    have h0 := hx.1
    rw [ht] at h0
    exact Int.nonneg_of_mul_nonneg_right h0 (two_pos (m + 1))
  obtain ⟨T, rfl⟩ := Int.eq_ofNat_of_zero_le ht0
  obtain ⟨X, rfl⟩ := Int.eq_ofNat_of_zero_le hx.1
  have eX : X = 2 ^ (m + 1) * T := by
    have : (X : Int) = ((2 ^ (m + 1) * T : Nat) : Int) := by simpa using ht
    omega
  have eor : X ||| 2 ^ m = X + 2 ^ m := by
    rw [eX]
    exact (Nat.two_pow_add_eq_or_of_lt (Nat.pow_lt_pow_right (by omega) (by omega)) T).symm
  have e2 : ((2 : Int) ^ m).toNat = 2 ^ m := by
    have : ((2 ^ m : Nat) : Int) = (2 : Int) ^ m := by simp
    rw [← this, Int.toNat_natCast]
  have hx' := hx.2
  unfold B at hx' hlt
  rw [u64_or _ _ hx.1 hx' (Int.le_of_lt hp) hlt, Int.toNat_natCast, e2, eor]
  have hX : X < 2 ^ 64 := by omega
  have hor : X ||| 2 ^ m < 2 ^ 64 := Nat.or_lt_two_pow hX (Nat.pow_lt_pow_right (by omega) hm)
  rw [eor] at hor
  have ec : ((X + 2 ^ m : Nat) : Int) = (X : Int) + 2 ^ m := by simp
  refine ⟨ec, ?_⟩
  unfold Dg B
  rw [← ec]
  omega

theorem low_div {x hi Q : Int} {k : Nat} (hk : k ≤ 64) (h : x + B * hi = Q * 2 ^ k) : ∃ t, x = 2 ^ k * t := by
  obtain ⟨j, hj⟩ : ∃ j, 64 = k + j := ⟨64 - k, by omega⟩
  have e : B = 2 ^ k * 2 ^ j := by rw [← Int.pow_add, ← hj]; rfl
  refine ⟨Q - 2 ^ j * hi, ?_⟩
  rw [Int.mul_sub, ← Int.mul_assoc, ← e, Int.mul_comm (2 ^ k) Q]
  omega
theorem high_div {x hi Q : Int} {k : Nat} (hx : Dg x) (h : x + B * hi = Q * 2 ^ (64 + k)) : x = 0 ∧ hi = Q * 2 ^ k := by
  have e : (2 : Int) ^ (64 + k) = B * 2 ^ k := by rw [Int.pow_add]; rfl
  rw [e, ← Int.mul_assoc, Int.mul_comm Q B, Int.mul_assoc] at h
  generalize Q * 2 ^ k = z at *
  unfold Dg B at *
  omega

theorem quo0 {q0 q1 q2 q3 Q : Int} {m : Nat} (h : D4 q0 q1 q2 q3) (hm : m < 64) (hv : V q0 q1 q2 q3 = Q * 2 ^ (m + 1)) :
    bits BinOp.or IntKind.u64 q0 (2 ^ m) = q0 + 2 ^ m ∧ D4 (q0 + 2 ^ m) q1 q2 q3 ∧ V (q0 + 2 ^ m) q1 q2 q3 = (2 * Q + 1) * 2 ^ m := by
  have e : V q0 q1 q2 q3 = q0 + B * (q1 + B * q2 + B * B * q3) := by unfold V B; omega
  obtain ⟨t, ht⟩ := low_div (by omega) (e ▸ hv)
  obtain ⟨o1, o2⟩ := or_bit h.1 hm ht
  refine ⟨o1, ⟨o2, h.2⟩, ?_⟩
  have e2 : V (q0 + 2 ^ m) q1 q2 q3 = V q0 q1 q2 q3 + 2 ^ m := by unfold V; omega
  rw [e2, hv, Int.pow_succ, Int.add_mul, Int.one_mul, Int.mul_comm 2 Q, Int.mul_assoc, Int.mul_comm 2]
theorem quo1 {q0 q1 q2 q3 Q : Int} {m : Nat} (h : D4 q0 q1 q2 q3) (hm : m < 64) (hv : V q0 q1 q2 q3 = Q * 2 ^ (64 + m + 1)) :
    bits BinOp.or IntKind.u64 q1 (2 ^ m) = q1 + 2 ^ m ∧ D4 q0 (q1 + 2 ^ m) q2 q3 ∧ V q0 (q1 + 2 ^ m) q2 q3 = (2 * Q + 1) * 2 ^ (64 + m) := by
  have e : V q0 q1 q2 q3 = q0 + B * (q1 + B * (q2 + B * q3)) := by unfold V B; omega
  obtain ⟨_, e1⟩ := high_div (k := m + 1) h.1 (e ▸ hv)
  obtain ⟨t, ht⟩ := low_div (by omega) e1
  obtain ⟨o1, o2⟩ := or_bit h.2.1 hm ht
  refine ⟨o1, ⟨h.1, o2, h.2.2⟩, ?_⟩
  have e2 : V q0 (q1 + 2 ^ m) q2 q3 = V q0 q1 q2 q3 + 2 ^ (64 + m) := by
    rw [Int.pow_add, show (2 : Int) ^ 64 = B from rfl]; unfold V
    generalize (2 : Int) ^ m = z
    unfold B; omega
  rw [e2, hv, Int.pow_succ, Int.add_mul, Int.one_mul, Int.mul_comm 2 Q, Int.mul_assoc, Int.mul_comm 2]
theorem quo2 {q0 q1 q2 q3 Q : Int} {m : Nat} (h : D4 q0 q1 q2 q3) (hm : m < 64) (hv : V q0 q1 q2 q3 = Q * 2 ^ (128 + m + 1)) :
    bits BinOp.or IntKind.u64 q2 (2 ^ m) = q2 + 2 ^ m ∧ D4 q0 q1 (q2 + 2 ^ m) q3 ∧ V q0 q1 (q2 + 2 ^ m) q3 = (2 * Q + 1) * 2 ^ (128 + m) := by
  have e : V q0 q1 q2 q3 = q0 + B * (q1 + B * (q2 + B * q3)) := by unfold V B; omega
  obtain ⟨_, e1⟩ := high_div (k := 64 + (m + 1)) h.1 (by rw [← e, hv]; congr 2; omega)
  obtain ⟨_, e1⟩ := high_div (k := m + 1) h.2.1 e1
  obtain ⟨t, ht⟩ := low_div (by omega) e1
  obtain ⟨o1, o2⟩ := or_bit h.2.2.1 hm ht
  refine ⟨o1, ⟨h.1, h.2.1, o2, h.2.2.2⟩, ?_⟩
  have e2 : V q0 q1 (q2 + 2 ^ m) q3 = V q0 q1 q2 q3 + 2 ^ (128 + m) := by
    rw [Int.pow_add, show (2 : Int) ^ 128 = B * B from rfl]; unfold V
    generalize (2 : Int) ^ m = z
    unfold B; omega
  rw [e2, hv, Int.pow_succ, Int.add_mul, Int.one_mul, Int.mul_comm 2 Q, Int.mul_assoc, Int.mul_comm 2]
theorem quo3 {q0 q1 q2 q3 Q : Int} {m : Nat} (h : D4 q0 q1 q2 q3) (hm : m < 64) (hv : V q0 q1 q2 q3 = Q * 2 ^ (192 + m + 1)) :
    bits BinOp.or IntKind.u64 q3 (2 ^ m) = q3 + 2 ^ m ∧ D4 q0 q1 q2 (q3 + 2 ^ m) ∧ V q0 q1 q2 (q3 + 2 ^ m) = (2 * Q + 1) * 2 ^ (192 + m) := by
  have e : V q0 q1 q2 q3 = q0 + B * (q1 + B * (q2 + B * (q3 + B * 0))) := by unfold V B; omega
  obtain ⟨_, e1⟩ := high_div (k := 128 + (m + 1)) h.1 (by rw [← e, hv]; congr 2; omega)
  obtain ⟨_, e1⟩ := high_div (k := 64 + (m + 1)) h.2.1 (by rw [e1]; congr 2; omega)
  obtain ⟨_, e1⟩ := high_div (k := m + 1) h.2.2.1 e1
  obtain ⟨t, ht⟩ := low_div (by omega) e1
  obtain ⟨o1, o2⟩ := or_bit h.2.2.2 hm ht
  refine ⟨o1, ⟨h.1, h.2.1, h.2.2.1, o2⟩, ?_⟩
  have e2 : V q0 q1 q2 (q3 + 2 ^ m) = V q0 q1 q2 q3 + 2 ^ (192 + m) := by
    rw [Int.pow_add, show (2 : Int) ^ 192 = B * B * B from rfl]; unfold V
    generalize (2 : Int) ^ m = z
    unfold B; omega
  rw [e2, hv, Int.pow_succ, Int.add_mul, Int.one_mul, Int.mul_comm 2 Q, Int.mul_assoc, Int.mul_comm 2]

/-- The doubled rest, with its new bit. -/
theorem rest_bit {r0 r1 r2 r3 R c bit : Int} (h : D4 r0 r1 r2 r3) (hv : V r0 r1 r2 r3 = 2 * R - M * c) (hb : bit = 0 ∨ bit = 1) :
    bits BinOp.or IntKind.u64 r0 bit = r0 + bit ∧ D4 (r0 + bit) r1 r2 r3 ∧ V (r0 + bit) r1 r2 r3 = 2 * R - M * c + bit := by
  have ev : r0 % 2 = 0 := by
    unfold V M at hv; unfold B at hv; omega
  have hd := h.1
  unfold Dg at hd
  unfold B at hd
  refine ⟨?_, ⟨?_, h.2⟩, ?_⟩
  · rw [u64_or _ _ hd.1 hd.2 (by omega) (by omega)]
    obtain ⟨X, rfl⟩ := Int.eq_ofNat_of_zero_le hd.1
    rcases hb with rfl | rfl
    · simp
    · obtain ⟨T, rfl⟩ : ∃ T, X = 2 * T := ⟨X / 2, by omega⟩
      have := Nat.two_pow_add_eq_or_of_lt (show 1 < 2 ^ 1 by omega) T
      simp only [Nat.pow_one] at this
      rw [Int.toNat_natCast, show (1 : Int).toNat = 1 from rfl, ← this]
      simp
  · unfold Dg B; omega
  · rw [← hv]; unfold V; omega

theorem and_one {x : Int} (h0 : 0 ≤ x) (h1 : x < B) : bits BinOp.and IntKind.u64 x 1 = x % 2 := by
  unfold B at h1
  rw [u64_and _ _ h0 h1 (by omega) (by omega)]
  obtain ⟨X, rfl⟩ := Int.eq_ofNat_of_zero_le h0
  rw [Int.toNat_natCast, show (1 : Int).toNat = 1 from rfl, Nat.and_one_is_mod]
  rfl
theorem and_shift {x : Int} (h : Dg x) (m : Nat) : bits BinOp.and IntKind.u64 (x / 2 ^ m) 1 = x / 2 ^ m % 2 := by
  have p := two_pos m
  refine and_one (Int.ediv_nonneg h.1 (by omega)) ?_
  exact Int.lt_of_le_of_lt (Int.ediv_le_self _ h.1) h.2

theorem wrap_pow {m : Nat} (hm : m < 64) : IntKind.u64.wrap (2 ^ m) = 2 ^ m := by
  have h64 : (2 : Int) ^ 64 = 18446744073709551616 := rfl
  have hlt : (2 : Int) ^ m < 2 ^ 64 := Int.pow_lt_pow_of_lt (by omega) hm
  have hp := two_pos m
  rw [IntKind.wrap_u64]
  omega

theorem over_is {r0 r1 r2 r3 : Int} (h : D4 r0 r1 r2 r3) : (r3 / 9223372036854775808 = 1 ∧ M ≤ 2 * V r0 r1 r2 r3) ∨ (r3 / 9223372036854775808 = 0 ∧ 2 * V r0 r1 r2 r3 < M) := by
  unfold D4 Dg B at h; unfold V M B; omega

theorem div_sub {A0 A1 D Q R X Z L c bo bit : Int} (h1 : A1 = D * Q + R) (h0 : A0 = 2 * A1 + bit) (hb : bit = 0 ∨ bit = 1) (hx : X = R + R - M * c) (hz : Z = 2 * R - M * c + bit) (hl : L = Z - D + M * bo)
    (x0 : 0 ≤ X) (x1 : X < M) (_z0 : 0 ≤ Z) (_z1 : Z < M) (l0 : 0 ≤ L) (l1 : L < M) (r0 : 0 ≤ R) (r1 : R < D) (d1 : D < M) (hc : c = 0 ∨ c = 1) (hbo : bo = 0 ∨ bo = 1) (hgo : M ≤ 2 * R ∨ bo = 0) : A0 = D * (2 * Q + 1) + L ∧ L < D := by
  have e : D * (2 * Q + 1) = 2 * (D * Q) + D := by rw [Int.mul_add, Int.mul_one, Int.mul_left_comm]
  rw [e]
  generalize D * Q = P at *
  unfold M B at *
  omega
theorem div_skip {A0 A1 D Q R X Z L c bo bit : Int} (h1 : A1 = D * Q + R) (h0 : A0 = 2 * A1 + bit) (_hb : bit = 0 ∨ bit = 1) (hx : X = R + R - M * c) (hz : Z = 2 * R - M * c + bit) (hl : L = Z - D + M * bo)
    (x0 : 0 ≤ X) (_x1 : X < M) (_l0 : 0 ≤ L) (l1 : L < M) (hc : c = 0 ∨ c = 1) (hbo : bo = 1) (hov : 2 * R < M) : A0 = D * (2 * Q) + Z ∧ Z < D := by
  have e : D * (2 * Q) = 2 * (D * Q) := by rw [Int.mul_left_comm]
  rw [e]
  generalize D * Q = P at *
  unfold M B at *
  omega
end Go.Proofs.Ytonjkhhihiigfaa
