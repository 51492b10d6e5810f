/-
  The writer's Hash, where there is room.
-/
import Derived.Test.YtigpiejjblfenaaCodecU
import Derived.Test.YtigpiejjblfenaaHash
namespace Go.Proofs.Ytigpiejjblfenaa
set_option maxRecDepth 100000
open Go.RowKit

/-- The slice v holds these hashes, and lies in no block of S. -/
def RdH (w : World) (v : Value) (hs : List (List Int)) (S : List Nat) : Prop := ∃ q c, v = .slice q hs.length c ∧ (hs = [] ∨ ∃ b off, q = some ⟨b, off, none⟩ ∧ b ∉ S ∧ ∀ i, i < hs.length → b < w.heap.size ∧ (hs.getD i []).length = 32 ∧ rowOf w b (off + i * 32) 32 = hc (hs.getD i []))
theorem RdH.at {w : World} {q : Option Addr} {n c : Nat} {hs : List (List Int)} {S : List Nat} (h : RdH w (.slice q n c) hs S) {i : Nat} (hi : i < hs.length) :
    ∃ b off, n = hs.length ∧ q = some ⟨b, off, none⟩ ∧ b ∉ S ∧ b < w.heap.size ∧ (hs.getD i []).length = 32 ∧ rowOf w b (off + i * 32) 32 = hc (hs.getD i []) := by
  obtain ⟨q', c', e, rfl | ⟨b, off, rfl, hb, hx⟩⟩ := h
  · simp at hi
  · simp only [Value.slice.injEq] at e
    exact ⟨b, off, e.2.1, e.1, hb, hx i hi⟩
theorem hashes_take {hs : List (List Int)} {i : Nat} (hi : i < hs.length) : (hs.take (i + 1)).flatten = (hs.take i).flatten ++ hs.getD i [] := by
  have e : hs.take (i + 1) = hs.take i ++ [hs.getD i []] := by
    rw [List.take_add_one]
    simp [List.getD, hi]
  rw [e, List.flatten_append]
  simp
theorem hashes_le (hs : List (List Int)) (i : Nat) : ((hs.take i).flatten).length ≤ hs.flatten.length := by
  have e : hs.flatten = (hs.take i).flatten ++ (hs.drop i).flatten := by
    rw [← List.flatten_append, List.take_append_drop]
  rw [e]; simp
theorem hash_rd {w : World} {b : Nat} {F : List Int} (h : HashAt w b F) (hF : F.length = 32) : Rd w (.slice (some ⟨b, 0, none⟩) 32 32) F := by
  refine ⟨some ⟨b, 0, none⟩, 32, by rw [hF], .inr ⟨b, 0, rfl, fun i hi => ?_⟩⟩
  rw [cell_of_row _ _ _ _ _ _ h, Nat.zero_add]
  simp [hc, List.getD, hi]

theorem box_hash {w : World} {F : List Int} (hF : F.length = 32) : (w.alloc (.cells (hc zero32).toArray 47)).there w.heap.size 0 32 ∧
    HashAt ((w.alloc (.cells (hc zero32).toArray 47)).setCells w.heap.size 0 (hc F)) w.heap.size F ∧ Below w.heap.size w ((w.alloc (.cells (hc zero32).toArray 47)).setCells w.heap.size 0 (hc F)) := by
  have R := HashAt.new w zero32
  refine ⟨fun j hj => ⟨?_, Joins.unfrozen_of_block R _⟩, ?_, below_setCells' _ (Nat.le_refl _) _ _ ((Below.refl _ _).alloc (Nat.le_refl _) _)⟩
  · rw [cell_of_row _ _ _ _ _ _ R]
    simp [hc_len, zero32_len, hj]
  · have := setCells_block (b := w.heap.size) (t := 47) (fr := (0, 0)) (hc F) (o := 0) (w := w.alloc (.cells (hc zero32).toArray 47)) (pre := []) (mid := hc zero32) (post := []) (by simp only [List.nil_append, List.append_nil]; exact R) rfl (by rw [hc_len, hc_len, hF, zero32_len])
    simpa only [HashAt, List.nil_append, List.append_nil] using this

set_option maxHeartbeats 4000000 in
theorem WHash_fits {w : World} {p : Nat} {v : Value} {xs : List Int} (h : WrV w p v xs) {a : Value} {hs : List (List Int)} (hH : RdH w a hs (p :: v.ownBlock.toList)) (hn : xs.length + hs.length * 32 ≤ 65536) (hl : xs.length + hs.flatten.length ≤ 65536) :
    Calls Try.prog 27 #[.pointer (some ⟨p, 0, none⟩), a] w fun e w' => e = .returned (.int .i64 0) ∧ WSt w p v w' (xs ++ hs.flatten) := by
  obtain ⟨i0, hi, hz0, hz1, hz2⟩ := info_parts Try.infoU8
  have H0 : Hid (WSt w p v w (xs ++ (hs.take 0).flatten)) := by
    show WSt w p v w _
    exact (WSt.start h).of_eq (by simp)
  obtain ⟨c0, c1, -⟩ := h.cells
  have hroom := Lib.hid (room_yes h (n := hs.length) (s := 32) (by omega) (by omega))
  obtain ⟨qv, kv, rfl⟩ := h.rd.len
  obtain ⟨q, c, rfl⟩ : ∃ q c, a = .slice q hs.length c := by obtain ⟨q, c, e, _⟩ := hH; exact ⟨q, c, e⟩
  have HN := Lib.hid hH
  have hn : hs.length ≤ 65536 := by omega
  clear h hH
  replace hi := Lib.hid hi
  replace hz0 := Lib.hid hz0
  replace hz1 := Lib.hid hz1
  replace hz2 := Lib.hid hz2
  go_enter Try.func27, Try.ntmps27
  go_wp2_with fail
  refine (hroom.out).mono ?_
  rintro e wx ⟨rfl, rfl⟩
  go_wp2_with fail
  obtain ⟨w0, rfl⟩ : ∃ w0 : World, w0 = wx := ⟨_, rfl⟩
  clear c0 c1 hroom
  go_loopw [6, 26] (fun _ iv wr => ∃ i : Nat, iv = .int .i64 i ∧ i ≤ hs.length ∧ Hid (WSt w0 p (.slice qv xs.length kv) wr (xs ++ (hs.take i).flatten))) (fun _ iv _ => hs.length - (intOf iv).toNat)
  case atStart => exact ⟨0, rfl, by omega, H0⟩
  case round =>
    clear H0
    obtain ⟨i, rfl, hil, hS⟩ := hrel
    by_cases hlt : i < hs.length
    · obtain ⟨q1, k1, h1, h2, h3⟩ := hS.out.own
      obtain ⟨b, off, -, rfl, hbS, hbl, hF, hrow⟩ := HN.out.at hlt
      have hb2 : b < wr.heap.size := Nat.lt_of_lt_of_le hbl h2.size
      have hc : rowOf wr b (off + i * 32) 32 = hc (hs.getD i []) := by
        rw [← hrow]
        unfold rowOf
        rw [h2.block b hbl hbS]
      have hfit := hashes_le hs (i + 1)
      have HB := Lib.hid (hashes_take hlt)
      generalize hys : xs ++ (hs.take i).flatten = ys at h1 h3 hS
      have hy32 : ys.length + 32 ≤ 65536 := by
        rw [← hys]
        rw [hashes_take hlt] at hfit
        simp only [List.length_append] at hfit ⊢
        omega
      have hc' : rowOf (wr.alloc (.cells (_root_.Go.Proofs.Ytigpiejjblfenaa.hc zero32).toArray 47)) b (off + i * 32) 32 = _root_.Go.Proofs.Ytigpiejjblfenaa.hc (hs.getD i []) := by
        rw [← hc]
        unfold rowOf
        rw [Below.heap_alloc _ _ _ hb2]
      clear hrow hfit hbS
      generalize hbb : hs.getD i [] = F at hc hc' hF HB
      have hlF := hc_len F
      have BX := box_hash (w := wr) hF
      obtain ⟨ct, RX, BW⟩ := BX
      have H1 := Lib.hid (h1.on BW)
      have H23 := Lib.hid (And.intro (h2.trans (Chg.below BW (Nat.le_refl _) []) (by simp)) h3)
      have RX := Lib.hid RX
      have hlt2 := (h1.on BW).lt
      clear h1 h2 h3 hS BW
      go_wp2_with fail
      generalize (wr.alloc (.cells (_root_.Go.Proofs.Ytigpiejjblfenaa.hc zero32).toArray 47)).setCells wr.heap.size 0 (_root_.Go.Proofs.Ytigpiejjblfenaa.hc F) = wz at H1 H23 RX hlt2 ⊢
      generalize wr.heap.size = bz at RX ⊢
      obtain ⟨-, c1, f1⟩ := H1.out.cells
      clear ct hc hc'
      refine wp_region_held_drew (S := fun _ => True) (by kernel_rfl) (trivial) (fun h0 => ?_)
      refine wpAnyH_take (i := 0) (v := ?_) (by rw [List.getElem?_toArray]; rfl) (by kernel_rfl) (by kernel_rfl) (by kernel_rfl) (by exact fun _ _ _ h => h) (Or.inl ⟨by rfl, ?_⟩) h0 ?_
      rotate_left
      · intro W hW
        go_simp
        all_goals with_reducible rfl
      try simp only [Act.put, List.setIfInBounds_toArray, List.set_cons_zero, List.set_cons_succ]
      refine wpAnyH_take (i := 1) (v := ?_) (by rw [List.getElem?_toArray]; rfl) (by kernel_rfl) (by kernel_rfl) (by kernel_rfl) (by exact fun _ _ _ h => h) (Or.inl ⟨by rfl, ?_⟩) h0 ?_
      rotate_left
      · intro W hW
        go_simp
        all_goals with_reducible rfl
      try simp only [Act.put, List.setIfInBounds_toArray, List.set_cons_zero, List.set_cons_succ]
      refine wpAnyH_take (i := 2) (v := ?_) (by rw [List.getElem?_toArray]; rfl) (by kernel_rfl) (by kernel_rfl) (by kernel_rfl) (by exact fun _ _ _ h => h) (Or.inl ⟨by rfl, ?_⟩) h0 ?_
      rotate_left
      · intro W hW
        go_simp
        all_goals with_reducible rfl
      try simp only [Act.put, List.setIfInBounds_toArray, List.set_cons_zero, List.set_cons_succ]
      refine wpAnyH_take (i := 3) (v := ?_) (by rw [List.getElem?_toArray]; rfl) (by kernel_rfl) (by kernel_rfl) (by kernel_rfl) (by exact fun _ _ _ h => h) (Or.inl ⟨by rfl, ?_⟩) h0 ?_
      rotate_left
      · intro W hW
        go_simp
        all_goals with_reducible rfl
      try simp only [Act.put, List.setIfInBounds_toArray, List.set_cons_zero, List.set_cons_succ]
      refine wpAnyH_take (i := 4) (v := ?_) (by rw [List.getElem?_toArray]; rfl) (by kernel_rfl) (by kernel_rfl) (by kernel_rfl) (by exact fun _ _ _ h => h) (Or.inl ⟨by rfl, ?_⟩) h0 ?_
      rotate_left
      · intro W hW
        go_simp
        all_goals with_reducible rfl
      try simp only [Act.put, List.setIfInBounds_toArray, List.set_cons_zero, List.set_cons_succ]
      refine wpAnyH_take (i := 6) (v := ?_) (by rw [List.getElem?_toArray]; rfl) (by kernel_rfl) (by kernel_rfl) (by kernel_rfl) (by exact fun _ _ _ h => h) (Or.inl ⟨by rfl, ?_⟩) h0 ?_
      rotate_left
      · intro W hW
        go_simp
        all_goals with_reducible rfl
      try simp only [Act.put, List.setIfInBounds_toArray, List.set_cons_zero, List.set_cons_succ]
      refine wpAnyH_ready (rs := [5]) (by kernel_rfl) (by simp) ?_
      refine AllReadyH.cons (by rw [List.getElem?_toArray]; rfl) (fun K hK => ?_) AllReadyH.nil
      rw [if_pos (by rfl)]
      go_wp2_with fail
      refine hK.out _ _ (trivial) (fun _ => ?_)
      clear hK K
      try simp only [Act.put, List.setIfInBounds_toArray, List.set_cons_zero, List.set_cons_succ]
      refine wpAnyH_ready (rs := [7]) (by kernel_rfl) (by simp) ?_
      refine AllReadyH.cons (by rw [List.getElem?_toArray]; rfl) (fun K hK => ?_) AllReadyH.nil
      rw [if_pos (by rfl)]
      refine wp_append_row _ _ rfl Try.underlying26 hi.out hz0.out hz1.out hz2.out rfl H1.out.drew.own (Rd.src (xs := F) Try.underlying26 ?rd) ?b1 ?b2 ?_
      case rd => exact (hash_rd RX.out hF).drew
      case b1 => unfold maxLen; omega
      case b2 => omega
      intro q2 k2 w2 own2 grow2 fr2
      have HNN := Lib.hid (WSt.step H1.out.drew H23.out.1.drew (by exact H23.out.2) rfl own2 grow2 fr2)
      have c2 : w2.cell? ⟨p, 1, none⟩ = some (.slice q1 ys.length k1) := by
        rw [World.cell?_of_block (grow2.block p hlt2 (fun e => H1.out.ne e.symm))]; exact c1
      have f2 : w2.frozen? ⟨p, 1, none⟩ = false := by
        rw [World.frozen?_of_block (grow2.block p hlt2 (fun e => H1.out.ne e.symm))]; exact f1
      clear own2 grow2 fr2 c1 f1
      refine hK.out _ _ (trivial) (fun _ => ?_)
      clear hK K
      try simp only [Act.put, List.setIfInBounds_toArray, List.set_cons_zero, List.set_cons_succ]
      refine wpAnyH_take (i := 8) (v := ?_) (by rw [List.getElem?_toArray]; rfl) (by kernel_rfl) (by kernel_rfl) (by kernel_rfl) (by exact fun _ _ _ h => h) (Or.inl ⟨by rfl, ?_⟩) h0 ?_
      rotate_left
      · intro W hW
        go_simp
        all_goals with_reducible rfl
      try simp only [Act.put, List.setIfInBounds_toArray, List.set_cons_zero, List.set_cons_succ]
      refine wpAnyH_take (i := 9) (v := ?_) (by rw [List.getElem?_toArray]; rfl) (by kernel_rfl) (by kernel_rfl) (by kernel_rfl) (by exact fun _ _ _ h => h) (Or.inl ⟨by rfl, ?_⟩) h0 ?_
      rotate_left
      · intro W hW
        go_simp
        all_goals with_reducible rfl
      try simp only [Act.put, List.setIfInBounds_toArray, List.set_cons_zero, List.set_cons_succ]
      refine wpAnyH_take (i := 10) (v := ?_) (by rw [List.getElem?_toArray]; rfl) (by kernel_rfl) (by kernel_rfl) (by kernel_rfl) (by exact fun _ _ _ h => h) (Or.inl ⟨by rfl, ?_⟩) h0 ?_
      rotate_left
      · intro W hW
        go_simp
        all_goals with_reducible rfl
      try simp only [Act.put, List.setIfInBounds_toArray, List.set_cons_zero, List.set_cons_succ]
      refine wpAnyH_ready (rs := [11]) (by kernel_rfl) (by simp) ?_
      refine AllReadyH.cons (by rw [List.getElem?_toArray]; rfl) (fun K hK => ?_) AllReadyH.nil
      rw [if_pos (by rfl)]
      go_wp2_with fail
      refine hK.out _ _ (trivial) (fun _ => ?_)
      clear hK K
      try simp only [Act.put, List.setIfInBounds_toArray, List.set_cons_zero, List.set_cons_succ]
      refine wpAnyH_done (by kernel_rfl) ?_ _
      go_wp2_with fail
      go_roundw
      case rel =>
        refine ⟨i + 1, by go_num, by omega, ?_⟩
        show WSt w0 p _ _ _
        rw [HB.out, ← List.append_assoc, hys]
        have := HNN.out
        rw [hF] at this
        exact this
      case measure => simp [intOf]; omega
    · obtain rfl : i = hs.length := by omega
      have hb := hS.out
      rw [List.take_length] at hb
      replace hS := Lib.hid hb
      clear hb
      go_wp2_with fail
      go_ret
      exact ⟨rfl, hS.out⟩
end Go.Proofs.Ytigpiejjblfenaa
