/-
  The writer's Wide, where there is room: the walk.
-/
import Derived.Test.YtigpiejjblfenaaCodecWd
import Derived.Test.YtigpiejjblfenaaCodecP
namespace Go.Proofs.Ytigpiejjblfenaa
set_option maxRecDepth 100000
open Go.RowKit

set_option maxHeartbeats 4000000 in
theorem WWide_fits {w : World} {p : Nat} {v : Value} {xs : List Int} (h : WrV w p v xs) {a : Value} {ws : List W4} (hH : RdW w a ws (p :: v.ownBlock.toList)) (hl : xs.length + ws.length * 32 ≤ 65536) :
    Calls Try.prog 26 #[.pointer (some ⟨p, 0, none⟩), a] w fun e w' => e = .returned (.int .i64 0) ∧ WSt w p v w' (xs ++ wides ws) := by
  obtain ⟨i0, hi, hz0, hz1, hz2⟩ := info_parts Try.infoU8
  have H0 : Hid (WSt w p v w (xs ++ wides (ws.take 0))) := by
    show WSt w p v w _
    exact (WSt.start h).of_eq (by simp [wides])
  obtain ⟨c0, c1, -⟩ := h.cells
  have hroom := Lib.hid (room_yes h (n := ws.length) (s := 32) (by omega) (by omega))
  obtain ⟨qv, kv, rfl⟩ := h.rd.len
  obtain ⟨q, c, rfl⟩ : ∃ q c, a = .slice q ws.length c := by obtain ⟨q, c, e, _⟩ := hH; exact ⟨q, c, e⟩
  have HN := Lib.hid hH
  have hn : ws.length ≤ 65536 := by omega
  clear h hH
  replace hi := Lib.hid hi
  replace hz0 := Lib.hid hz0
  replace hz1 := Lib.hid hz1
  replace hz2 := Lib.hid hz2
  go_enter Try.func26, Try.ntmps26
  go_wp2_with fail
  refine (hroom.out).mono ?_
  rintro e wx ⟨rfl, rfl⟩
  go_wp2_with fail
  obtain ⟨w1, rfl⟩ : ∃ w1 : World, w1 = wx := ⟨_, rfl⟩
  clear c0 c1 hroom
  go_loopw [6, 26] (fun _ iv wr => ∃ i : Nat, iv = .int .i64 i ∧ i ≤ ws.length ∧ Hid (WSt w1 p (.slice qv xs.length kv) wr (xs ++ wides (ws.take i)))) (fun _ iv _ => ws.length - (intOf iv).toNat)
  case atStart => exact ⟨0, rfl, by omega, H0⟩
  case round =>
    clear H0
    obtain ⟨i, rfl, hil, hS⟩ := hrel
    by_cases hlt : i < ws.length
    · obtain ⟨q1, k1, h1, h2, h3⟩ := hS.out.own
      obtain ⟨b, off, -, rfl, hbS, hD, g0, g1, g2, g3⟩ := HN.out.at hlt
      have hbl := lt_of_cell g0
      have hb2 : b < wr.heap.size := Nat.lt_of_lt_of_le hbl h2.size
      rw [← World.cell?_of_block (w := w1) (w' := wr) (h2.block b hbl hbS)] at g0 g1 g2 g3
      have HB := Lib.hid (wides_take hlt)
      have hlen := wides_len (ws.take i)
      rw [List.length_take, Nat.min_eq_left (Nat.le_of_lt hlt)] at hlen
      generalize hys : xs ++ wides (ws.take i) = ys at h1 h3 hS
      have hy32 : ys.length + 32 ≤ 65536 := by
        rw [← hys, List.length_append, hlen]
        omega
      clear hbS hlen
      generalize hbb : ws.getD i w0 = x at g0 g1 g2 g3 hD HB
      have hxl := x.len
      have HD := Lib.hid hD
      have B1 : Below wr.heap.size wr (wr.alloc (.cells #[.int .u64 x.a, .int .u64 x.b, .int .u64 x.c, .int .u64 x.d] 44)) := (Below.refl _ _).alloc (Nat.le_refl _) _
      have hlt1 := h1.lt
      have H1 := Lib.hid h1
      have H2 := Lib.hid h2
      have H3 := Lib.hid h3
      clear h1 h2 h3 hS hD B1
      go_wp2_with fail
      have RX : Hid (At4 (wr.alloc (.cells #[.int .u64 x.a, .int .u64 x.b, .int .u64 x.c, .int .u64 x.d] 44)) wr.heap.size x.a x.b x.c x.d) := At4.new wr x.a x.b x.c x.d
      have BW : Below wr.heap.size wr (wr.alloc (.cells #[.int .u64 x.a, .int .u64 x.b, .int .u64 x.c, .int .u64 x.d] 44)) := (Below.refl _ _).alloc (Nat.le_refl _) _
      have H1 := Lib.hid (H1.out.on BW)
      have H23 := Lib.hid (And.intro (H2.out.trans (Chg.below BW (Nat.le_refl _) []) (by simp)) H3.out)
      have hlt2 := H1.out.lt
      clear BW H2 H3 g0 g1 g2 g3
      generalize wr.alloc (.cells #[.int .u64 x.a, .int .u64 x.b, .int .u64 x.c, .int .u64 x.d] 44) = wz at H1 H23 RX hlt2 ⊢
      generalize wr.heap.size = bz at RX ⊢
      obtain ⟨-, c1, f1⟩ := H1.out.cells
      refine wp_region_held_drew (S := fun W => At4 W bz x.a x.b x.c x.d) (by kernel_rfl) (by exact RX.out) (fun h0 => ?_)
      refine wpAnyH_take (i := 0) (v := ?_) (by rw [List.getElem?_toArray]; rfl) (by kernel_rfl) (by kernel_rfl) (by kernel_rfl) (by exact fun _ _ _ h => h) (Or.inl ⟨by rfl, ?_⟩) h0 ?_
      rotate_left
      · intro W hW
        go_simp
        all_goals with_reducible rfl
      try simp only [Act.put, List.setIfInBounds_toArray, List.set_cons_zero, List.set_cons_succ]
      refine wpAnyH_take (i := 1) (v := ?_) (by rw [List.getElem?_toArray]; rfl) (by kernel_rfl) (by kernel_rfl) (by kernel_rfl) (by exact fun _ _ _ h => h) (Or.inl ⟨by rfl, ?_⟩) h0 ?_
      rotate_left
      · intro W hW
        go_simp
        all_goals with_reducible rfl
      try simp only [Act.put, List.setIfInBounds_toArray, List.set_cons_zero, List.set_cons_succ]
      refine wpAnyH_take (i := 2) (v := ?_) (by rw [List.getElem?_toArray]; rfl) (by kernel_rfl) (by kernel_rfl) (by kernel_rfl) (by exact fun _ _ _ h => h) (Or.inl ⟨by rfl, ?_⟩) h0 ?_
      rotate_left
      · intro W hW
        go_simp
        all_goals with_reducible rfl
      try simp only [Act.put, List.setIfInBounds_toArray, List.set_cons_zero, List.set_cons_succ]
      refine wpAnyH_take (i := 3) (v := ?_) (by rw [List.getElem?_toArray]; rfl) (by kernel_rfl) (by kernel_rfl) (by kernel_rfl) (by exact fun _ _ _ h => h) (Or.inl ⟨by rfl, ?_⟩) h0 ?_
      rotate_left
      · intro W hW
        go_simp
        all_goals with_reducible rfl
      try simp only [Act.put, List.setIfInBounds_toArray, List.set_cons_zero, List.set_cons_succ]
      refine wpAnyH_take (i := 4) (v := ?_) (by rw [List.getElem?_toArray]; rfl) (by kernel_rfl) (by kernel_rfl) (by kernel_rfl) (by exact fun _ _ _ h => h) (Or.inl ⟨by rfl, ?_⟩) h0 ?_
      rotate_left
      · intro W hW
        go_simp
        all_goals with_reducible rfl
      try simp only [Act.put, List.setIfInBounds_toArray, List.set_cons_zero, List.set_cons_succ]
      refine wpAnyH_take (i := 6) (v := ?_) (by rw [List.getElem?_toArray]; rfl) (by kernel_rfl) (by kernel_rfl) (by kernel_rfl) (by exact fun _ _ _ h => h) (Or.inl ⟨by rfl, ?_⟩) h0 ?_
      rotate_left
      · intro W hW
        obtain ⟨e0, e1, e2, e3⟩ := hW.cell
        go_simp
        all_goals with_reducible rfl
      try simp only [Act.put, List.setIfInBounds_toArray, List.set_cons_zero, List.set_cons_succ]
      refine wpAnyH_ready (rs := [5, 7]) (by kernel_rfl) (by simp) ?_
      refine AllReadyH.cons (by rw [List.getElem?_toArray]; rfl) (fun K hK => ?_) (AllReadyH.cons (by rw [List.getElem?_toArray]; rfl) (fun K hK => ?_) AllReadyH.nil)
      · rw [if_pos (by rfl)]
        go_wp2_with fail
        refine hK.out _ _ (by exact RX.out.drew) (fun _ => ?_)
        clear hK K
        try simp only [Act.put, List.setIfInBounds_toArray, List.set_cons_zero, List.set_cons_succ]
        refine wpAnyH_ready (rs := [7]) (by kernel_rfl) (by simp) ?_
        refine AllReadyH.cons (by rw [List.getElem?_toArray]; rfl) (fun K hK => ?_) AllReadyH.nil
        rw [if_pos (by rfl)]
        go_wp2_with fail
        refine (Bytes_any HD.out _).mono ?_
        rintro e w5 ⟨bb, rfl, hbn, hrow, B5⟩
        have RX5 : At4 w5 bz x.a x.b x.c x.d := RX.out.drew.on B5
        have H5 := Lib.hid (H1.out.drew.on B5)
        have C5 := Lib.hid (And.intro (H23.out.1.drew.trans (Chg.below B5 (Nat.le_refl _) []) (by simp)) H23.out.2)
        have hlt5 := H5.out.lt
        obtain ⟨-, c1, f1⟩ := H5.out.cells
        go_wp2_with fail
        refine hK.out _ _ (by exact RX5) (fun _ => ?_)
        clear hK K
        try simp only [Act.put, List.setIfInBounds_toArray, List.set_cons_zero, List.set_cons_succ]
        refine wpAnyH_ready (rs := [8]) (by kernel_rfl) (by simp) ?_
        refine AllReadyH.cons (by rw [List.getElem?_toArray]; rfl) (fun K hK => ?_) AllReadyH.nil
        rw [if_pos (by rfl)]
        refine wp_append_row _ _ rfl Try.underlying26 hi.out hz0.out hz1.out hz2.out rfl H5.out.own (Rd.src (xs := x.bytes) Try.underlying26 ?rd) ?b1 ?b2 ?_
        case rd => exact row32_rd hrow
        case b1 => unfold maxLen; omega
        case b2 => omega
        intro q2 k2 w2 own2 grow2 fr2
        have HNN := Lib.hid (WSt.step H5.out C5.out.1 (by exact C5.out.2) rfl own2 grow2 fr2)
        have c2 : w2.cell? ⟨p, 1, none⟩ = some (.slice q1 ys.length k1) := by
          rw [World.cell?_of_block (grow2.block p hlt5 (fun e => H5.out.ne e.symm))]; exact c1
        have f2 : w2.frozen? ⟨p, 1, none⟩ = false := by
          rw [World.frozen?_of_block (grow2.block p hlt5 (fun e => H5.out.ne e.symm))]; exact f1
        have RX6 : At4 w2 bz x.a x.b x.c x.d := by
          unfold At4
          rw [grow2.block bz RX5.lt (fun e => own_ne H5.out.own (show w5.heap[bz]? = some (.cells _ _ (0, 0)) from RX5) (by decide) e.symm)]
          exact RX5
        have hpb : bz ≠ p := by
          intro e
          have h3 := H5.out.blk
          rw [← e, show w5.heap[bz]? = some (.cells _ _ (0, 0)) from RX5] at h3
          simp at h3
        have RX7 : At4 (w2.setCell ⟨p, 1, none⟩ (.slice q2 (ys.length + 32) k2)) bz x.a x.b x.c x.d := RX6.other hpb _
        clear own2 grow2 fr2 c1 f1
        refine hK.out _ _ (by exact RX6) (fun h6 => ?_)
        clear hK K
        try simp only [Act.put, List.setIfInBounds_toArray, List.set_cons_zero, List.set_cons_succ]
        refine wpAnyH_take (i := 9) (v := ?_) (by rw [List.getElem?_toArray]; rfl) (by kernel_rfl) (by kernel_rfl) (by kernel_rfl) (by exact fun _ _ _ h => h) (Or.inl ⟨by rfl, ?_⟩) h6 ?_
        rotate_left
        · intro W hW
          go_simp
          all_goals with_reducible rfl
        try simp only [Act.put, List.setIfInBounds_toArray, List.set_cons_zero, List.set_cons_succ]
        refine wpAnyH_take (i := 10) (v := ?_) (by rw [List.getElem?_toArray]; rfl) (by kernel_rfl) (by kernel_rfl) (by kernel_rfl) (by exact fun _ _ _ h => h) (Or.inl ⟨by rfl, ?_⟩) h6 ?_
        rotate_left
        · intro W hW
          go_simp
          all_goals with_reducible rfl
        try simp only [Act.put, List.setIfInBounds_toArray, List.set_cons_zero, List.set_cons_succ]
        refine wpAnyH_take (i := 11) (v := ?_) (by rw [List.getElem?_toArray]; rfl) (by kernel_rfl) (by kernel_rfl) (by kernel_rfl) (by exact fun _ _ _ h => h) (Or.inl ⟨by rfl, ?_⟩) h6 ?_
        rotate_left
        · intro W hW
          go_simp
          all_goals with_reducible rfl
        try simp only [Act.put, List.setIfInBounds_toArray, List.set_cons_zero, List.set_cons_succ]
        refine wpAnyH_ready (rs := [12]) (by kernel_rfl) (by simp) ?_
        refine AllReadyH.cons (by rw [List.getElem?_toArray]; rfl) (fun K hK => ?_) AllReadyH.nil
        rw [if_pos (by rfl)]
        go_wp2_with fail
        refine hK.out _ _ (by exact RX7) (fun _ => ?_)
        clear hK K
        try simp only [Act.put, List.setIfInBounds_toArray, List.set_cons_zero, List.set_cons_succ]
        refine wpAnyH_done (by kernel_rfl) ?_ _
        go_wp2_with fail
        go_roundw
        case rel =>
          refine ⟨i + 1, by go_num, by omega, ?_⟩
          show WSt w1 p _ _ _
          rw [HB.out, ← List.append_assoc, hys]
          have := HNN.out
          rw [hxl] at this
          first
            | exact this
            | (rw [hxl]; exact this)
        case measure => simp [intOf]; omega
      · rw [if_pos (by rfl)]
        go_wp2_with fail
        refine (Bytes_any HD.out _).mono ?_
        rintro e w5 ⟨bb, rfl, hbn, hrow, B5⟩
        have RX5 : At4 w5 bz x.a x.b x.c x.d := RX.out.drew.on B5
        have H5 := Lib.hid (H1.out.drew.on B5)
        have C5 := Lib.hid (And.intro (H23.out.1.drew.trans (Chg.below B5 (Nat.le_refl _) []) (by simp)) H23.out.2)
        have hlt5 := H5.out.lt
        obtain ⟨-, c1, f1⟩ := H5.out.cells
        go_wp2_with fail
        refine hK.out _ _ (by exact RX5) (fun _ => ?_)
        clear hK K
        try simp only [Act.put, List.setIfInBounds_toArray, List.set_cons_zero, List.set_cons_succ]
        refine wpAnyH_ready (rs := [5]) (by kernel_rfl) (by simp) ?_
        refine AllReadyH.cons (by rw [List.getElem?_toArray]; rfl) (fun K hK => ?_) AllReadyH.nil
        rw [if_pos (by rfl)]
        go_wp2_with fail
        refine hK.out _ _ (by exact RX5) (fun _ => ?_)
        clear hK K
        try simp only [Act.put, List.setIfInBounds_toArray, List.set_cons_zero, List.set_cons_succ]
        refine wpAnyH_ready (rs := [8]) (by kernel_rfl) (by simp) ?_
        refine AllReadyH.cons (by rw [List.getElem?_toArray]; rfl) (fun K hK => ?_) AllReadyH.nil
        rw [if_pos (by rfl)]
        refine wp_append_row _ _ rfl Try.underlying26 hi.out hz0.out hz1.out hz2.out rfl H5.out.own (Rd.src (xs := x.bytes) Try.underlying26 ?rd) ?b1 ?b2 ?_
        case rd => exact row32_rd hrow
        case b1 => unfold maxLen; omega
        case b2 => omega
        intro q2 k2 w2 own2 grow2 fr2
        have HNN := Lib.hid (WSt.step H5.out C5.out.1 (by exact C5.out.2) rfl own2 grow2 fr2)
        have c2 : w2.cell? ⟨p, 1, none⟩ = some (.slice q1 ys.length k1) := by
          rw [World.cell?_of_block (grow2.block p hlt5 (fun e => H5.out.ne e.symm))]; exact c1
        have f2 : w2.frozen? ⟨p, 1, none⟩ = false := by
          rw [World.frozen?_of_block (grow2.block p hlt5 (fun e => H5.out.ne e.symm))]; exact f1
        have RX6 : At4 w2 bz x.a x.b x.c x.d := by
          unfold At4
          rw [grow2.block bz RX5.lt (fun e => own_ne H5.out.own (show w5.heap[bz]? = some (.cells _ _ (0, 0)) from RX5) (by decide) e.symm)]
          exact RX5
        have hpb : bz ≠ p := by
          intro e
          have h3 := H5.out.blk
          rw [← e, show w5.heap[bz]? = some (.cells _ _ (0, 0)) from RX5] at h3
          simp at h3
        have RX7 : At4 (w2.setCell ⟨p, 1, none⟩ (.slice q2 (ys.length + 32) k2)) bz x.a x.b x.c x.d := RX6.other hpb _
        clear own2 grow2 fr2 c1 f1
        refine hK.out _ _ (by exact RX6) (fun h6 => ?_)
        clear hK K
        try simp only [Act.put, List.setIfInBounds_toArray, List.set_cons_zero, List.set_cons_succ]
        refine wpAnyH_take (i := 9) (v := ?_) (by rw [List.getElem?_toArray]; rfl) (by kernel_rfl) (by kernel_rfl) (by kernel_rfl) (by exact fun _ _ _ h => h) (Or.inl ⟨by rfl, ?_⟩) h6 ?_
        rotate_left
        · intro W hW
          go_simp
          all_goals with_reducible rfl
        try simp only [Act.put, List.setIfInBounds_toArray, List.set_cons_zero, List.set_cons_succ]
        refine wpAnyH_take (i := 10) (v := ?_) (by rw [List.getElem?_toArray]; rfl) (by kernel_rfl) (by kernel_rfl) (by kernel_rfl) (by exact fun _ _ _ h => h) (Or.inl ⟨by rfl, ?_⟩) h6 ?_
        rotate_left
        · intro W hW
          go_simp
          all_goals with_reducible rfl
        try simp only [Act.put, List.setIfInBounds_toArray, List.set_cons_zero, List.set_cons_succ]
        refine wpAnyH_take (i := 11) (v := ?_) (by rw [List.getElem?_toArray]; rfl) (by kernel_rfl) (by kernel_rfl) (by kernel_rfl) (by exact fun _ _ _ h => h) (Or.inl ⟨by rfl, ?_⟩) h6 ?_
        rotate_left
        · intro W hW
          go_simp
          all_goals with_reducible rfl
        try simp only [Act.put, List.setIfInBounds_toArray, List.set_cons_zero, List.set_cons_succ]
        refine wpAnyH_ready (rs := [12]) (by kernel_rfl) (by simp) ?_
        refine AllReadyH.cons (by rw [List.getElem?_toArray]; rfl) (fun K hK => ?_) AllReadyH.nil
        rw [if_pos (by rfl)]
        go_wp2_with fail
        refine hK.out _ _ (by exact RX7) (fun _ => ?_)
        clear hK K
        try simp only [Act.put, List.setIfInBounds_toArray, List.set_cons_zero, List.set_cons_succ]
        refine wpAnyH_done (by kernel_rfl) ?_ _
        go_wp2_with fail
        go_roundw
        case rel =>
          refine ⟨i + 1, by go_num, by omega, ?_⟩
          show WSt w1 p _ _ _
          rw [HB.out, ← List.append_assoc, hys]
          have := HNN.out
          rw [hxl] at this
          first
            | exact this
            | (rw [hxl]; exact this)
        case measure => simp [intOf]; omega
    · obtain rfl : i = ws.length := by omega
      have hb := hS.out
      rw [List.take_length] at hb
      replace hS := Lib.hid hb
      clear hb
      go_wp2_with fail
      go_ret
      exact ⟨rfl, hS.out⟩
end Go.Proofs.Ytigpiejjblfenaa
