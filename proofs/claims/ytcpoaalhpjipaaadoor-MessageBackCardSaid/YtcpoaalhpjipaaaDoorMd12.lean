/-
  The writer's Wide, where there is room: the walk.; A message's bytes, of the program and of the document.; A message's bytes, of the document.
-/
import Derived.Test.YtcpoaalhpjipaaaDoorMd3
import Derived.Test.YtcpoaalhpjipaaaDoorMd4
import Derived.Test.YtcpoaalhpjipaaaDoorMd11
namespace Go.Proofs.YtcpoaalhpjipaaaDoor
set_option maxRecDepth 100000
open Go.RowKit

set_option maxHeartbeats 4000000 in
theorem WWide_fits {w : World} {p : Nat} {v : Value} {xs : List Int} (h : WrV w p v xs) {a : Value} {ws : List W4} (hH : RdW w a ws (p :: v.ownBlock.toList)) (hl : xs.length + ws.length * 32 ≤ 65536) :
    Calls Tryd.prog 57 #[.pointer (some ⟨p, 0, none⟩), a] w fun e w' => e = .returned (.int .i64 0) ∧ WSt w p v w' (xs ++ wides ws) := by
  obtain ⟨i0, hi, hz0, hz1, hz2⟩ := info_parts Tryd.infoU8
  have H0 : Hid (WSt w p v w (xs ++ wides (ws.take 0))) := by
    show WSt w p v w _
    exact (WSt.start h).of_eq (by simp [wides])
  obtain ⟨c0, c1, -⟩ := h.cells
  have hroom := Lib.hid (room_yes h (n := ws.length) (s := 32) (by omega) (by omega))
  obtain ⟨qv, kv, rfl⟩ := h.rd.len
  obtain ⟨q, c, rfl⟩ : ∃ q c, a = .slice q ws.length c := by obtain ⟨q, c, e, _⟩ := hH; exact ⟨q, c, e⟩
  have HN := Lib.hid hH
  have hn : ws.length ≤ 65536 := by omega
  clear h hH
  replace hi := Lib.hid hi
  replace hz0 := Lib.hid hz0
  replace hz1 := Lib.hid hz1
  replace hz2 := Lib.hid hz2
  go_enter Tryd.func57, Tryd.ntmps57
  go_wp2_with fail
  refine (hroom.out).mono ?_
  rintro e wx ⟨rfl, rfl⟩
  go_wp2_with fail
  obtain ⟨w1, rfl⟩ : ∃ w1 : World, w1 = wx := ⟨_, rfl⟩
  clear c0 c1 hroom
  go_loopw [6, 26] (fun _ iv wr => ∃ i : Nat, iv = .int .i64 i ∧ i ≤ ws.length ∧ Hid (WSt w1 p (.slice qv xs.length kv) wr (xs ++ wides (ws.take i)))) (fun _ iv _ => ws.length - (intOf iv).toNat)
  case atStart => exact ⟨0, rfl, by omega, H0⟩
  case round =>
    clear H0
    obtain ⟨i, rfl, hil, hS⟩ := hrel
    by_cases hlt : i < ws.length
    · obtain ⟨q1, k1, h1, h2, h3⟩ := hS.out.own
      obtain ⟨b, off, -, rfl, hbS, hD, g0, g1, g2, g3⟩ := HN.out.at hlt
      have hbl := lt_of_cell g0
      have hb2 : b < wr.heap.size := Nat.lt_of_lt_of_le hbl h2.size
      rw [← World.cell?_of_block (w := w1) (w' := wr) (h2.block b hbl hbS)] at g0 g1 g2 g3
      have HB := Lib.hid (wides_take hlt)
      have hlen := wides_len (ws.take i)
      rw [List.length_take, Nat.min_eq_left (Nat.le_of_lt hlt)] at hlen
      generalize hys : xs ++ wides (ws.take i) = ys at h1 h3 hS
      have hy32 : ys.length + 32 ≤ 65536 := by
        rw [← hys, List.length_append, hlen]
        omega
      clear hbS hlen
      generalize hbb : ws.getD i w0 = x at g0 g1 g2 g3 hD HB
      have hxl := x.len
      have HD := Lib.hid hD
      have B1 : Below wr.heap.size wr (wr.alloc (.cells #[.int .u64 x.a, .int .u64 x.b, .int .u64 x.c, .int .u64 x.d] 24)) := (Below.refl _ _).alloc (Nat.le_refl _) _
      have hlt1 := h1.lt
      have H1 := Lib.hid h1
      have H2 := Lib.hid h2
      have H3 := Lib.hid h3
      clear h1 h2 h3 hS hD B1
      go_wp2_with fail
      have RX : Hid (At4 (wr.alloc (.cells #[.int .u64 x.a, .int .u64 x.b, .int .u64 x.c, .int .u64 x.d] 24)) wr.heap.size x.a x.b x.c x.d) := At4.new wr x.a x.b x.c x.d
      have BW : Below wr.heap.size wr (wr.alloc (.cells #[.int .u64 x.a, .int .u64 x.b, .int .u64 x.c, .int .u64 x.d] 24)) := (Below.refl _ _).alloc (Nat.le_refl _) _
      have H1 := Lib.hid (H1.out.on BW)
      have H23 := Lib.hid (And.intro (H2.out.trans (Chg.below BW (Nat.le_refl _) []) (by simp)) H3.out)
      have hlt2 := H1.out.lt
      clear BW H2 H3 g0 g1 g2 g3
      generalize wr.alloc (.cells #[.int .u64 x.a, .int .u64 x.b, .int .u64 x.c, .int .u64 x.d] 24) = wz at H1 H23 RX hlt2 ⊢
      generalize wr.heap.size = bz at RX ⊢
      obtain ⟨-, c1, f1⟩ := H1.out.cells
      refine wp_region_held_drew (S := fun W => At4 W bz x.a x.b x.c x.d) (by kernel_rfl) (by exact RX.out) (fun h0 => ?_)
      refine wpAnyH_take (i := 0) (v := ?_) (by rw [List.getElem?_toArray]; rfl) (by kernel_rfl) (by kernel_rfl) (by kernel_rfl) (by exact fun _ _ _ h => h) (Or.inl ⟨by rfl, ?_⟩) h0 ?_
      rotate_left
      · intro W hW
        go_simp
        all_goals with_reducible rfl
      try simp only [Act.put, List.setIfInBounds_toArray, List.set_cons_zero, List.set_cons_succ]
      refine wpAnyH_take (i := 1) (v := ?_) (by rw [List.getElem?_toArray]; rfl) (by kernel_rfl) (by kernel_rfl) (by kernel_rfl) (by exact fun _ _ _ h => h) (Or.inl ⟨by rfl, ?_⟩) h0 ?_
      rotate_left
      · intro W hW
        go_simp
        all_goals with_reducible rfl
      try simp only [Act.put, List.setIfInBounds_toArray, List.set_cons_zero, List.set_cons_succ]
      refine wpAnyH_take (i := 2) (v := ?_) (by rw [List.getElem?_toArray]; rfl) (by kernel_rfl) (by kernel_rfl) (by kernel_rfl) (by exact fun _ _ _ h => h) (Or.inl ⟨by rfl, ?_⟩) h0 ?_
      rotate_left
      · intro W hW
        go_simp
        all_goals with_reducible rfl
      try simp only [Act.put, List.setIfInBounds_toArray, List.set_cons_zero, List.set_cons_succ]
      refine wpAnyH_take (i := 3) (v := ?_) (by rw [List.getElem?_toArray]; rfl) (by kernel_rfl) (by kernel_rfl) (by kernel_rfl) (by exact fun _ _ _ h => h) (Or.inl ⟨by rfl, ?_⟩) h0 ?_
      rotate_left
      · intro W hW
        go_simp
        all_goals with_reducible rfl
      try simp only [Act.put, List.setIfInBounds_toArray, List.set_cons_zero, List.set_cons_succ]
      refine wpAnyH_take (i := 4) (v := ?_) (by rw [List.getElem?_toArray]; rfl) (by kernel_rfl) (by kernel_rfl) (by kernel_rfl) (by exact fun _ _ _ h => h) (Or.inl ⟨by rfl, ?_⟩) h0 ?_
      rotate_left
      · intro W hW
        go_simp
        all_goals with_reducible rfl
      try simp only [Act.put, List.setIfInBounds_toArray, List.set_cons_zero, List.set_cons_succ]
      refine wpAnyH_take (i := 6) (v := ?_) (by rw [List.getElem?_toArray]; rfl) (by kernel_rfl) (by kernel_rfl) (by kernel_rfl) (by exact fun _ _ _ h => h) (Or.inl ⟨by rfl, ?_⟩) h0 ?_
      rotate_left
      · intro W hW
        obtain ⟨e0, e1, e2, e3⟩ := hW.cell
        go_simp
        all_goals with_reducible rfl
      try simp only [Act.put, List.setIfInBounds_toArray, List.set_cons_zero, List.set_cons_succ]
      refine wpAnyH_ready (rs := [5, 7]) (by kernel_rfl) (by simp) ?_
      refine AllReadyH.cons (by rw [List.getElem?_toArray]; rfl) (fun K hK => ?_) (AllReadyH.cons (by rw [List.getElem?_toArray]; rfl) (fun K hK => ?_) AllReadyH.nil)
      · rw [if_pos (by rfl)]
        go_wp2_with fail
        refine hK.out _ _ (by exact RX.out.drew) (fun _ => ?_)
        clear hK K
        try simp only [Act.put, List.setIfInBounds_toArray, List.set_cons_zero, List.set_cons_succ]
        refine wpAnyH_ready (rs := [7]) (by kernel_rfl) (by simp) ?_
        refine AllReadyH.cons (by rw [List.getElem?_toArray]; rfl) (fun K hK => ?_) AllReadyH.nil
        rw [if_pos (by rfl)]
        go_wp2_with fail
        refine (Bytes_any HD.out _).mono ?_
        rintro e w5 ⟨bb, rfl, hbn, hrow, B5⟩
        have RX5 : At4 w5 bz x.a x.b x.c x.d := RX.out.drew.on B5
        have H5 := Lib.hid (H1.out.drew.on B5)
        have C5 := Lib.hid (And.intro (H23.out.1.drew.trans (Chg.below B5 (Nat.le_refl _) []) (by simp)) H23.out.2)
        have hlt5 := H5.out.lt
        obtain ⟨-, c1, f1⟩ := H5.out.cells
        go_wp2_with fail
        refine hK.out _ _ (by exact RX5) (fun _ => ?_)
        clear hK K
        try simp only [Act.put, List.setIfInBounds_toArray, List.set_cons_zero, List.set_cons_succ]
        refine wpAnyH_ready (rs := [8]) (by kernel_rfl) (by simp) ?_
        refine AllReadyH.cons (by rw [List.getElem?_toArray]; rfl) (fun K hK => ?_) AllReadyH.nil
        rw [if_pos (by rfl)]
        refine wp_append_row _ _ rfl Tryd.underlying25 hi.out hz0.out hz1.out hz2.out rfl H5.out.own (Rd.src (xs := x.bytes) Tryd.underlying25 ?rd) ?b1 ?b2 ?_
        case rd => exact row32_rd hrow
        case b1 => unfold maxLen; omega
        case b2 => omega
        intro q2 k2 w2 own2 grow2 fr2
        have HNN := Lib.hid (WSt.step H5.out C5.out.1 (by exact C5.out.2) rfl own2 grow2 fr2)
        have c2 : w2.cell? ⟨p, 1, none⟩ = some (.slice q1 ys.length k1) := by
          rw [World.cell?_of_block (grow2.block p hlt5 (fun e => H5.out.ne e.symm))]; exact c1
        have f2 : w2.frozen? ⟨p, 1, none⟩ = false := by
          rw [World.frozen?_of_block (grow2.block p hlt5 (fun e => H5.out.ne e.symm))]; exact f1
        have RX6 : At4 w2 bz x.a x.b x.c x.d := by
          unfold At4
          rw [grow2.block bz RX5.lt (fun e => own_ne H5.out.own (show w5.heap[bz]? = some (.cells _ _ (0, 0)) from RX5) (by decide) e.symm)]
          exact RX5
        have hpb : bz ≠ p := by
          intro e
          have h3 := H5.out.blk
          rw [← e, show w5.heap[bz]? = some (.cells _ _ (0, 0)) from RX5] at h3
          simp at h3
        have RX7 : At4 (w2.setCell ⟨p, 1, none⟩ (.slice q2 (ys.length + 32) k2)) bz x.a x.b x.c x.d := RX6.other hpb _
        clear own2 grow2 fr2 c1 f1
        refine hK.out _ _ (by exact RX6) (fun h6 => ?_)
        clear hK K
        try simp only [Act.put, List.setIfInBounds_toArray, List.set_cons_zero, List.set_cons_succ]
        refine wpAnyH_take (i := 9) (v := ?_) (by rw [List.getElem?_toArray]; rfl) (by kernel_rfl) (by kernel_rfl) (by kernel_rfl) (by exact fun _ _ _ h => h) (Or.inl ⟨by rfl, ?_⟩) h6 ?_
        rotate_left
        · intro W hW
          go_simp
          all_goals with_reducible rfl
        try simp only [Act.put, List.setIfInBounds_toArray, List.set_cons_zero, List.set_cons_succ]
        refine wpAnyH_take (i := 10) (v := ?_) (by rw [List.getElem?_toArray]; rfl) (by kernel_rfl) (by kernel_rfl) (by kernel_rfl) (by exact fun _ _ _ h => h) (Or.inl ⟨by rfl, ?_⟩) h6 ?_
        rotate_left
        · intro W hW
          go_simp
          all_goals with_reducible rfl
        try simp only [Act.put, List.setIfInBounds_toArray, List.set_cons_zero, List.set_cons_succ]
        refine wpAnyH_take (i := 11) (v := ?_) (by rw [List.getElem?_toArray]; rfl) (by kernel_rfl) (by kernel_rfl) (by kernel_rfl) (by exact fun _ _ _ h => h) (Or.inl ⟨by rfl, ?_⟩) h6 ?_
        rotate_left
        · intro W hW
          go_simp
          all_goals with_reducible rfl
        try simp only [Act.put, List.setIfInBounds_toArray, List.set_cons_zero, List.set_cons_succ]
        refine wpAnyH_ready (rs := [12]) (by kernel_rfl) (by simp) ?_
        refine AllReadyH.cons (by rw [List.getElem?_toArray]; rfl) (fun K hK => ?_) AllReadyH.nil
        rw [if_pos (by rfl)]
        go_wp2_with fail
        refine hK.out _ _ (by exact RX7) (fun _ => ?_)
        clear hK K
        try simp only [Act.put, List.setIfInBounds_toArray, List.set_cons_zero, List.set_cons_succ]
        refine wpAnyH_done (by kernel_rfl) ?_ _
        go_wp2_with fail
        go_roundw
        case rel =>
          refine ⟨i + 1, by go_num, by omega, ?_⟩
          show WSt w1 p _ _ _
          rw [HB.out, ← List.append_assoc, hys]
          have := HNN.out
          rw [hxl] at this
          first
            | exact this
            | (rw [hxl]; exact this)
        case measure => simp [intOf]; omega
      · rw [if_pos (by rfl)]
        go_wp2_with fail
        refine (Bytes_any HD.out _).mono ?_
        rintro e w5 ⟨bb, rfl, hbn, hrow, B5⟩
        have RX5 : At4 w5 bz x.a x.b x.c x.d := RX.out.drew.on B5
        have H5 := Lib.hid (H1.out.drew.on B5)
        have C5 := Lib.hid (And.intro (H23.out.1.drew.trans (Chg.below B5 (Nat.le_refl _) []) (by simp)) H23.out.2)
        have hlt5 := H5.out.lt
        obtain ⟨-, c1, f1⟩ := H5.out.cells
        go_wp2_with fail
        refine hK.out _ _ (by exact RX5) (fun _ => ?_)
        clear hK K
        try simp only [Act.put, List.setIfInBounds_toArray, List.set_cons_zero, List.set_cons_succ]
        refine wpAnyH_ready (rs := [5]) (by kernel_rfl) (by simp) ?_
        refine AllReadyH.cons (by rw [List.getElem?_toArray]; rfl) (fun K hK => ?_) AllReadyH.nil
        rw [if_pos (by rfl)]
        go_wp2_with fail
        refine hK.out _ _ (by exact RX5) (fun _ => ?_)
        clear hK K
        try simp only [Act.put, List.setIfInBounds_toArray, List.set_cons_zero, List.set_cons_succ]
        refine wpAnyH_ready (rs := [8]) (by kernel_rfl) (by simp) ?_
        refine AllReadyH.cons (by rw [List.getElem?_toArray]; rfl) (fun K hK => ?_) AllReadyH.nil
        rw [if_pos (by rfl)]
        refine wp_append_row _ _ rfl Tryd.underlying25 hi.out hz0.out hz1.out hz2.out rfl H5.out.own (Rd.src (xs := x.bytes) Tryd.underlying25 ?rd) ?b1 ?b2 ?_
        case rd => exact row32_rd hrow
        case b1 => unfold maxLen; omega
        case b2 => omega
        intro q2 k2 w2 own2 grow2 fr2
        have HNN := Lib.hid (WSt.step H5.out C5.out.1 (by exact C5.out.2) rfl own2 grow2 fr2)
        have c2 : w2.cell? ⟨p, 1, none⟩ = some (.slice q1 ys.length k1) := by
          rw [World.cell?_of_block (grow2.block p hlt5 (fun e => H5.out.ne e.symm))]; exact c1
        have f2 : w2.frozen? ⟨p, 1, none⟩ = false := by
          rw [World.frozen?_of_block (grow2.block p hlt5 (fun e => H5.out.ne e.symm))]; exact f1
        have RX6 : At4 w2 bz x.a x.b x.c x.d := by
          unfold At4
          rw [grow2.block bz RX5.lt (fun e => own_ne H5.out.own (show w5.heap[bz]? = some (.cells _ _ (0, 0)) from RX5) (by decide) e.symm)]
          exact RX5
        have hpb : bz ≠ p := by
          intro e
          have h3 := H5.out.blk
          rw [← e, show w5.heap[bz]? = some (.cells _ _ (0, 0)) from RX5] at h3
          simp at h3
        have RX7 : At4 (w2.setCell ⟨p, 1, none⟩ (.slice q2 (ys.length + 32) k2)) bz x.a x.b x.c x.d := RX6.other hpb _
        clear own2 grow2 fr2 c1 f1
        refine hK.out _ _ (by exact RX6) (fun h6 => ?_)
        clear hK K
        try simp only [Act.put, List.setIfInBounds_toArray, List.set_cons_zero, List.set_cons_succ]
        refine wpAnyH_take (i := 9) (v := ?_) (by rw [List.getElem?_toArray]; rfl) (by kernel_rfl) (by kernel_rfl) (by kernel_rfl) (by exact fun _ _ _ h => h) (Or.inl ⟨by rfl, ?_⟩) h6 ?_
        rotate_left
        · intro W hW
          go_simp
          all_goals with_reducible rfl
        try simp only [Act.put, List.setIfInBounds_toArray, List.set_cons_zero, List.set_cons_succ]
        refine wpAnyH_take (i := 10) (v := ?_) (by rw [List.getElem?_toArray]; rfl) (by kernel_rfl) (by kernel_rfl) (by kernel_rfl) (by exact fun _ _ _ h => h) (Or.inl ⟨by rfl, ?_⟩) h6 ?_
        rotate_left
        · intro W hW
          go_simp
          all_goals with_reducible rfl
        try simp only [Act.put, List.setIfInBounds_toArray, List.set_cons_zero, List.set_cons_succ]
        refine wpAnyH_take (i := 11) (v := ?_) (by rw [List.getElem?_toArray]; rfl) (by kernel_rfl) (by kernel_rfl) (by kernel_rfl) (by exact fun _ _ _ h => h) (Or.inl ⟨by rfl, ?_⟩) h6 ?_
        rotate_left
        · intro W hW
          go_simp
          all_goals with_reducible rfl
        try simp only [Act.put, List.setIfInBounds_toArray, List.set_cons_zero, List.set_cons_succ]
        refine wpAnyH_ready (rs := [12]) (by kernel_rfl) (by simp) ?_
        refine AllReadyH.cons (by rw [List.getElem?_toArray]; rfl) (fun K hK => ?_) AllReadyH.nil
        rw [if_pos (by rfl)]
        go_wp2_with fail
        refine hK.out _ _ (by exact RX7) (fun _ => ?_)
        clear hK K
        try simp only [Act.put, List.setIfInBounds_toArray, List.set_cons_zero, List.set_cons_succ]
        refine wpAnyH_done (by kernel_rfl) ?_ _
        go_wp2_with fail
        go_roundw
        case rel =>
          refine ⟨i + 1, by go_num, by omega, ?_⟩
          show WSt w1 p _ _ _
          rw [HB.out, ← List.append_assoc, hys]
          have := HNN.out
          rw [hxl] at this
          first
            | exact this
            | (rw [hxl]; exact this)
        case measure => simp [intOf]; omega
    · obtain rfl : i = ws.length := by omega
      have hb := hS.out
      rw [List.take_length] at hb
      replace hS := Lib.hid hb
      clear hb
      go_wp2_with fail
      go_ret
      exact ⟨rfl, hS.out⟩
end Go.Proofs.YtcpoaalhpjipaaaDoor
namespace Go.Proofs.YtcpoaalhpjipaaaDoor
set_option maxRecDepth 100000
open Go.RowKit

theorem fill_at {place : Nat → Option (Nat × Nat)} {rest : List (Nat × Value)} {i off size : Nat} {v : Value} {pre mid post vs : List Value} (hp : place i = some (off, size)) (hv : v.cells = vs.toArray)
    (h1 : pre.length = off) (h2 : mid.length = size) (h3 : vs.length = size) :
    Instr.fill place (pre ++ (mid ++ post)).toArray ((i, v) :: rest) = Instr.fill place (pre ++ (vs ++ post)).toArray rest := by
  rw [Instr.fill, hp]
  have e1 : v.cells.size = size := by rw [hv]; simpa using h3
  have e2 : off + size ≤ (pre ++ (mid ++ post)).toArray.size := by simp; omega
  have e3 : (decide (v.cells.size ≠ size) || decide (off + v.cells.size > (pre ++ (mid ++ post)).toArray.size)) = false := by
    rw [e1]; simp at e2 ⊢; omega
  simp only [e3]
  rw [if_neg (by simp), hv, fold_put off size vs pre mid post h1 h2 h3]
/-- A new row of one element. -/
theorem run_bs_one {P : Program} {t e : TypeId} {n : Nat} {zs xs : List Value} (w : World) (ht : P.underlying t = some (.slice e)) (hs : (sizeOf e).run P w = .ok n w) (hz : (zeroValue e).run P w = .ok (.agg zs.toArray) w)
    (hn : 0 < n) (hm : n ≤ 65536) (hx : xs.length = n) :
    (Instr.buildSlice t 1 #[(0, .agg xs.toArray)]).run P w = .ok (.slice (some ⟨w.heap.size, 0, none⟩) 1 1) (w.alloc (.cells xs.toArray e)) := by
  have hf : ∀ m : List Value, m.length = n → Instr.fill (fun i => some (i * n, n)) m.toArray #[(0, Value.agg xs.toArray)].toList = some xs.toArray := by
    intro m hm
    have := fill_at (place := fun i => some (i * n, n)) (rest := []) (i := 0) (off := 0) (size := n) (v := .agg xs.toArray) (pre := []) (mid := m) (post := []) (vs := xs) (by simp) rfl rfl hm hx
    simpa [Instr.fill] using this
  have hf' := hf ((Array.range (1 * n)).map (zs.toArray[· % zs.toArray.size]!)).toList (by simp)
  rw [Array.toArray_toList] at hf'
  unfold Instr.buildSlice
  simp only [Sem.run_bind, run_underlying ht, Result.andThen_ok, hs]
  rw [if_neg (by omega)]
  rw [if_neg (by omega)]
  simp only [Sem.run_bind, Sem.run_pure, Result.andThen_ok, hz, Value.cells]
  rw [hf']
  simp [newRow]
def rowNew (t : TypeId) (ps : Array (Nat × Value)) : Sem Value := Instr.buildSlice t 1 ps

/-- A message's bytes. -/
def mgH (m : Mg) (n : Int) : List Int := be8 m.no ++ (be8 m.se ++ (be8 m.ta ++ (m.val.bytes ++ (be8 m.gas ++ be8 n))))
theorem mgH_len (m : Mg) (n : Int) : (mgH m n).length = 72 := by simp [mgH, be8_len, W4.len]
def mgB (m : Mg) : List Int := mgH m m.data.length ++ m.data
theorem mgB_len (m : Mg) : (mgB m).length = 72 + m.data.length := by simp [mgB, mgH_len]
@[go_sem ↓] theorem Tryd.slice_wide (ps : Array (Nat × Value)) : Instr.buildSlice 141 1 ps = rowNew 141 ps := rfl
theorem Tryd.run_slice_wide (w : World) (a b c d : Int) : (rowNew 141 #[(0, .agg #[.int .u64 a, .int .u64 b, .int .u64 c, .int .u64 d])]).run Tryd.prog w = .ok (.slice (some ⟨w.heap.size, 0, none⟩) 1 1) (w.alloc (.cells #[.int .u64 a, .int .u64 b, .int .u64 c, .int .u64 d] 24)) :=
  run_bs_one w Tryd.underlying141 (by kernel_rfl) (zs := [.int .u64 0, .int .u64 0, .int .u64 0, .int .u64 0]) (by kernel_rfl) (n := 4) (xs := [.int .u64 a, .int .u64 b, .int .u64 c, .int .u64 d]) (by decide) (by decide) rfl

set_option maxHeartbeats 8000000 in
theorem messageBytes_any {w : World} {m : Mg} {q : Option Addr} {k : Nat} (ok : m.ok) (hr : Rd w (.slice q m.data.length k) m.data) (hl : m.data.length ≤ 140737488355000) :
    Calls Tryd.prog 34 #[.agg (mgRow m q m.data.length k).toArray] w fun e w' => ∃ u, e = .returned u ∧ BuS w w' u (mgB m) := by
  obtain ⟨i0, hi, hz0, hz1, hz2⟩ := info_parts Tryd.infoU8
  replace hi := Lib.hid hi
  replace hz0 := Lib.hid hz0
  replace hz1 := Lib.hid hz1
  replace hz2 := Lib.hid hz2
  have HD4 := Lib.hid ok.val
  have HM : Hid (mgB m = mgH m m.data.length ++ m.data) := rfl
  obtain ⟨MB, hMB⟩ : ∃ MB, mgB m = MB := ⟨_, rfl⟩
  obtain ⟨D, hD⟩ : ∃ D, m.data = D := ⟨_, rfl⟩
  rw [hMB] at HM ⊢
  rw [hD] at hr hl HM ⊢
  obtain ⟨n, hn⟩ : ∃ n, D.length = n := ⟨_, rfl⟩
  have LN := Lib.hid hn
  rw [hn] at hr hl HM ⊢
  have HH : Hid (mgH m n = be8 m.no ++ (be8 m.se ++ (be8 m.ta ++ (m.val.bytes ++ (be8 m.gas ++ be8 n))))) := rfl
  have b1 : Below w.heap.size w (w.alloc (.cells (mgRow m q n k).toArray 30)) := (Below.refl _ _).alloc (Nat.le_refl _) _
  have K0 := Lib.hid (MgAt.new w 30 m q n k)
  have HV : Hid (∀ W, Below w.heap.size w W → Rd W (.slice q n k) D) := fun W hb => hr.on hb
  have B0 := Lib.hid b1
  have hz : Hid ((w.alloc (.cells (mgRow m q n k).toArray 30)).heap.size = w.heap.size + 1) := by show _ = _; simp
  have u2 : IntKind.u64.wrap (n : Int) = (n : Int) := by rw [IntKind.wrap_u64]; omega
  clear hr hn hD hMB b1 ok
  go_enter Tryd.func34, Tryd.ntmps34
  go_wp2_with fail
  generalize w.alloc (.cells (mgRow m q n k).toArray 30) = w0 at *
  refine (NewWriter_any w0).mono ?_
  rintro e w1 ⟨rfl, rfl⟩
  have b2 : Below w0.heap.size w0 (w0.alloc (.cells #[.bool true, .slice none 0 0] 137)) := (Below.refl _ _).alloc (Nat.le_refl _) _
  have b3 : Below (w0.alloc (.cells #[.bool true, .slice none 0 0] 137)).heap.size (w0.alloc (.cells #[.bool true, .slice none 0 0] 137)) ((w0.alloc (.cells #[.bool true, .slice none 0 0] 137)).alloc (.cells #[.int .u64 m.no, .int .u64 m.se, .int .u64 m.ta] 22)) := (Below.refl _ _).alloc (Nat.le_refl _) _
  have hz1' : (w0.alloc (.cells #[.bool true, .slice none 0 0] 137)).heap.size = w0.heap.size + 1 := by simp
  have K2 := K0.out.on b2
  obtain ⟨c0, c1, c2, -, -, -, -, -, -⟩ := K2.cells
  have K3 := Lib.hid (K2.on b3)
  have HW := Lib.hid ((WrV.new w0).on b3)
  have HR : Hid (RdN ((w0.alloc (.cells #[.bool true, .slice none 0 0] 137)).alloc (.cells #[.int .u64 m.no, .int .u64 m.se, .int .u64 m.ta] 22)) (.slice (some ⟨w0.heap.size + 1, 0, none⟩) 3 3) [m.no, m.se, m.ta] (w0.heap.size :: (Value.slice none 0 0).ownBlock.toList)) := by
    refine ⟨_, 3, rfl, .inr ⟨w0.heap.size + 1, 0, rfl, by simp [Value.ownBlock], fun i hi => ?_⟩⟩
    have h3 := heap_alloc_new (w0.alloc (.cells #[.bool true, .slice none 0 0] 137)) (.cells #[.int .u64 m.no, .int .u64 m.se, .int .u64 m.ta] 22)
    rw [hz1'] at h3
    have e : i = 0 ∨ i = 1 ∨ i = 2 := by simp at hi; omega
    rcases e with rfl | rfl | rfl
    · exact (Joins.cell_of_block h3 0).trans rfl
    · exact (Joins.cell_of_block h3 1).trans rfl
    · exact (Joins.cell_of_block h3 2).trans rfl
  have b23 := b2.trans (b3.mono b2.size)
  have B3 := Lib.hid (B0.out.trans (b23.mono B0.out.size))
  have hsz : Hid (w.heap.size < w0.heap.size) := by show _ < _; rw [hz.out]; omega
  clear b2 b3 b23 K2 K0 hz1'
  go_wp2_with fail
  clear c0 c1 c2
  refine (WUint_fits HW.out HR.out (by simp)).mono ?_
  rintro e w4 ⟨rfl, hS⟩
  obtain ⟨q4, k4, hW4, hC4, hF4⟩ := hS.own
  obtain ⟨XS, hXS⟩ : ∃ XS, ([] ++ nums [m.no, m.se, m.ta]) = XS := ⟨_, rfl⟩
  rw [hXS] at hW4 hF4
  have lXS : Hid (XS.length = 24) := by show _ = _; rw [← hXS]; simp [nums]
  have HXS : Hid (XS = be8 m.no ++ (be8 m.se ++ be8 m.ta)) := by show _ = _; rw [← hXS]; simp [nums]
  have HW4 := Lib.hid hW4
  have B4 := Lib.hid (B3.out.trans (hC4.toBelow B3.out.size (fun g hg => by simp [Value.ownBlock] at hg; have := hsz.out; omega)))
  have K4 := Lib.hid (K3.out.chg hC4 (by have := hsz.out; simp [Value.ownBlock]; omega))
  have F4 : Hid (∀ g, (Value.slice q4 XS.length k4).ownBlock = some g → w0.heap.size ≤ g) := fun g hg => by
    rcases hF4 with e | e
    · rw [e] at hg; simp [Value.ownBlock] at hg
    · have := e g hg; simp at this; omega
  clear hC4 hF4 hW4 hS hXS HR HW B3 K3
  obtain ⟨-, -, -, c3, c4, c5, c6, -, -⟩ := K4.out.cells
  have hsl := Tryd.run_slice_wide w4 m.val.a m.val.b m.val.c m.val.d
  have b5 : Below w4.heap.size w4 (w4.alloc (.cells #[.int .u64 m.val.a, .int .u64 m.val.b, .int .u64 m.val.c, .int .u64 m.val.d] 24)) := (Below.refl _ _).alloc (Nat.le_refl _) _
  have hpw4 := HW4.out.lt
  have HW5 := Lib.hid (HW4.out.on b5)
  have K5 := Lib.hid (K4.out.on b5)
  have B5 := Lib.hid (B4.out.trans (b5.mono B4.out.size))
  have HR5 : Hid (RdW (w4.alloc (.cells #[.int .u64 m.val.a, .int .u64 m.val.b, .int .u64 m.val.c, .int .u64 m.val.d] 24)) (.slice (some ⟨w4.heap.size, 0, none⟩) 1 1) [m.val] (w0.heap.size :: (Value.slice q4 XS.length k4).ownBlock.toList)) := by
    refine ⟨_, 1, rfl, .inr ⟨w4.heap.size, 0, rfl, fun hm => ?_, fun i hi => ?_⟩⟩
    · rcases List.mem_cons.1 hm with e | hm
      · omega
      · have := own_lt HW4.out.own (by simpa using hm); omega
    · obtain rfl : i = 0 := by simpa using hi
      have h3 := heap_alloc_new w4 (.cells #[.int .u64 m.val.a, .int .u64 m.val.b, .int .u64 m.val.c, .int .u64 m.val.d] 24)
      exact ⟨HD4.out, (Joins.cell_of_block h3 0).trans rfl, (Joins.cell_of_block h3 1).trans rfl, (Joins.cell_of_block h3 2).trans rfl, (Joins.cell_of_block h3 3).trans rfl⟩
  clear b5 B4 K4 HW4
  go_wp2_with fail
  clear c3 c4 c5 c6 hsl
  have l24 := lXS.out
  refine (WWide_fits HW5.out HR5.out (by rw [l24]; simp)).mono ?_
  rintro e w6 ⟨rfl, hS⟩
  obtain ⟨q6, k6, hW6, hC6, hF6⟩ := hS.own
  obtain ⟨XT, hXT⟩ : ∃ XT, XS ++ wides [m.val] = XT := ⟨_, rfl⟩
  rw [hXT] at hW6 hF6
  have lXT : Hid (XT.length = 56) := by show _ = _; rw [← hXT]; simp [wides, W4.len, l24]
  have HXT : Hid (XT = XS ++ m.val.bytes) := by show _ = _; rw [← hXT]; simp [wides]
  have HW6 := Lib.hid hW6
  have hs5 : (w4.alloc (.cells #[.int .u64 m.val.a, .int .u64 m.val.b, .int .u64 m.val.c, .int .u64 m.val.d] 24)).heap.size = w4.heap.size + 1 := by simp
  have NK : ∀ g, g ∈ w0.heap.size :: (Value.slice q4 XS.length k4).ownBlock.toList → w0.heap.size ≤ g := fun g hg => by
    rcases List.mem_cons.1 hg with e | hg
    · omega
    · exact F4.out g (by simpa using hg)
  have B6 := Lib.hid (B5.out.trans (hC6.toBelow B5.out.size (fun g hg => by have := NK g hg; have := hsz.out; omega)))
  have K6 := Lib.hid (K5.out.chg hC6 (fun hm => by have := NK _ hm; have := hsz.out; omega))
  have F6 : Hid (∀ g, (Value.slice q6 XT.length k6).ownBlock = some g → w0.heap.size ≤ g) := fun g hg => by
    rcases hF6 with e | e
    · rw [e] at hg; exact F4.out g hg
    · have := e g hg; rw [hs5] at this; omega
  clear hC6 hF6 hW6 hS hXT HR5 HW5 B5 K5 NK hs5 l24
  obtain ⟨-, -, -, -, -, -, -, c7, c8⟩ := K6.out.cells
  have b7 : Below w6.heap.size w6 (w6.alloc (.cells #[.int .u64 m.gas, .int .u64 (n : Int)] 22)) := (Below.refl _ _).alloc (Nat.le_refl _) _
  have hpw6 := HW6.out.lt
  have HW7 := Lib.hid (HW6.out.on b7)
  have K7 := Lib.hid (K6.out.on b7)
  have B7 := Lib.hid (B6.out.trans (b7.mono B6.out.size))
  have HR7 : Hid (RdN (w6.alloc (.cells #[.int .u64 m.gas, .int .u64 (n : Int)] 22)) (.slice (some ⟨w6.heap.size, 0, none⟩) 2 2) [m.gas, (n : Int)] (w0.heap.size :: (Value.slice q6 XT.length k6).ownBlock.toList)) := by
    refine ⟨_, 2, rfl, .inr ⟨w6.heap.size, 0, rfl, fun hm => ?_, fun i hi => ?_⟩⟩
    · rcases List.mem_cons.1 hm with e | hm
      · omega
      · have := own_lt HW6.out.own (by simpa using hm); omega
    · have h3 := heap_alloc_new w6 (.cells #[.int .u64 m.gas, .int .u64 (n : Int)] 22)
      have e : i = 0 ∨ i = 1 := by simp at hi; omega
      rcases e with rfl | rfl
      · exact (Joins.cell_of_block h3 0).trans rfl
      · exact (Joins.cell_of_block h3 1).trans rfl
  clear b7 B6 K6 HW6
  go_wp2_with fail
  clear c7 c8
  have l56 := lXT.out
  refine (WUint_fits HW7.out HR7.out (by rw [l56]; simp)).mono ?_
  rintro e w8 ⟨rfl, hS⟩
  obtain ⟨q8, k8, hW8, hC8, hF8⟩ := hS.own
  obtain ⟨XU, hXU⟩ : ∃ XU, XT ++ nums [m.gas, (n : Int)] = XU := ⟨_, rfl⟩
  rw [hXU] at hW8 hF8
  have lXU : Hid (XU.length = 72) := by show _ = _; rw [← hXU]; simp [nums, l56]
  have HXU : Hid (XU = mgH m n) := by
    show _ = _
    rw [← hXU, HXT.out, HXS.out, HH.out]; simp [nums]
  have HW8 := Lib.hid hW8
  have NK : ∀ g, g ∈ w0.heap.size :: (Value.slice q6 XT.length k6).ownBlock.toList → w0.heap.size ≤ g := fun g hg => by
    rcases List.mem_cons.1 hg with e | hg
    · omega
    · exact F6.out g (by simpa using hg)
  have B8 := Lib.hid (B7.out.trans (hC8.toBelow B7.out.size (fun g hg => by have := NK g hg; have := hsz.out; omega)))
  have K8 := Lib.hid (K7.out.chg hC8 (fun hm => by have := NK _ hm; have := hsz.out; omega))
  clear hC8 hF8 hW8 hS hXU HR7 HW7 B7 K7 NK l56 HXS HXT F4 F6 lXS lXT HH
  go_wp2_with fail
  refine wp_region_held_drew (S := fun W => MgAt W w.heap.size 30 m q n k) (by kernel_rfl) (show MgAt w8.drew w.heap.size 30 m q n k from K8.out) (fun h0 => ?_)
  have HW9 : Hid (WrV w8.drew w0.heap.size (.slice q8 XU.length k8) XU) := Lib.hid (HW8.out.on ((Below.refl _ _).drew))
  have B9 : Hid (Below w.heap.size w w8.drew) := Lib.hid B8.out.drew
  clear K8 HW8 B8
  generalize w8.drew = w9 at *
  refine wpAnyH_take (i := 0) (v := ?_) (by rw [List.getElem?_toArray]; rfl) (by kernel_rfl) (by kernel_rfl) (by kernel_rfl) (by exact fun _ _ _ h => h) (Or.inl ⟨by rfl, ?_⟩) h0 ?_
  rotate_left
  · intro W hW
    obtain ⟨c0, c1, c2, c3, c4, c5, c6, c7, c8⟩ := hW.cells
    go_simp
    all_goals with_reducible rfl
  try simp only [Act.put, List.setIfInBounds_toArray, List.set_cons_zero, List.set_cons_succ]
  refine wpAnyH_take (i := 2) (v := ?_) (by rw [List.getElem?_toArray]; rfl) (by kernel_rfl) (by kernel_rfl) (by kernel_rfl) (by exact fun _ _ _ h => h) (Or.inl ⟨by rfl, ?_⟩) h0 ?_
  rotate_left
  · intro W hW
    obtain ⟨c0, c1, c2, c3, c4, c5, c6, c7, c8⟩ := hW.cells
    go_simp
    all_goals with_reducible rfl
  try simp only [Act.put, List.setIfInBounds_toArray, List.set_cons_zero, List.set_cons_succ]
  refine wpAnyH_take (i := 3) (v := ?_) (by rw [List.getElem?_toArray]; rfl) (by kernel_rfl) (by kernel_rfl) (by kernel_rfl) (by exact fun _ _ _ h => h) (Or.inl ⟨by rfl, ?_⟩) h0 ?_
  rotate_left
  · intro W hW
    obtain ⟨c0, c1, c2, c3, c4, c5, c6, c7, c8⟩ := hW.cells
    go_simp
    all_goals with_reducible rfl
  try simp only [Act.put, List.setIfInBounds_toArray, List.set_cons_zero, List.set_cons_succ]
  refine wpAnyH_ready (rs := [1]) (by kernel_rfl) (by simp) ?_
  refine AllReadyH.cons (by rw [List.getElem?_toArray]; rfl) (fun K hK => ?_) AllReadyH.nil
  rw [if_pos (by rfl)]
  go_wp2_with fail
  refine (WBytes_any HW9.out (by have := lXU.out; omega)).mono ?_
  rintro e w10 ⟨u, rfl, hN⟩
  obtain ⟨⟨q10, k10, rfl⟩, ho10, hb10, hf10⟩ := hN
  have K10 : MgAt w10 w.heap.size 30 m q n k := MgAt.on h0 hb10
  have O10 := Lib.hid ho10
  have B10 := Lib.hid (B9.out.trans (hb10.mono B9.out.size))
  have F10 : Hid (∀ g, (Value.slice q10 XU.length k10).ownBlock = some g → w.heap.size ≤ g) := fun g hg => by have := hf10 g hg; have := B9.out.size; omega
  clear ho10 hb10 hf10
  go_wp2_with fail
  refine hK.out _ _ (K10) (fun h10 => ?_)
  clear K10
  clear hK K
  try simp only [Act.put, List.setIfInBounds_toArray, List.set_cons_zero, List.set_cons_succ]
  refine wpAnyH_ready (rs := [4]) (by kernel_rfl) (by simp) ?_
  refine AllReadyH.cons (by rw [List.getElem?_toArray]; rfl) (fun K hK => ?_) AllReadyH.nil
  rw [if_pos (by rfl)]
  refine wp_append_row _ _ rfl Tryd.underlying25 hi.out hz0.out hz1.out hz2.out rfl O10.out ((HV.out _ B10.out).src (P := Tryd.prog) Tryd.underlying25) (by rw [LN.out]; have := lXU.out; unfold maxLen; omega) (by rw [LN.out]; have := lXU.out; omega) ?_
  intro q11 k11 w11 own11 grow11 fr11
  have grow : w10.grownBy w11 (Value.slice q10 XU.length k10).ownBlock := grow11
  have G11 : Below w.heap.size w w11 := B10.out.grown grow B10.out.size (fun j hj => F10.out j hj)
  have E11 : XU.length + D.length = MB.length := by rw [HM.out, List.length_append, lXU.out, mgH_len]
  have S11 : Hid (BuS w w11 (.slice q11 MB.length k11) MB) := by
    refine ⟨?_, fun g hg => ?_, G11⟩
    · have := own11
      rw [E11, ← bc_append, HXU.out, ← HM.out] at this
      exact this
    · have e2 : (Value.slice q11 MB.length k11).ownBlock = (Value.slice q11 (XU.length + D.length) k11).ownBlock := by cases q11 <;> rfl
      rw [e2] at hg
      rcases fr11 with e | e
      · have e' : (Value.slice q11 (XU.length + D.length) k11).ownBlock = (Value.slice q10 XU.length k10).ownBlock := e
        rw [e'] at hg; exact F10.out g hg
      · have e' : (Value.slice q11 (XU.length + D.length) k11).ownBlock = some w10.heap.size := e
        rw [e'] at hg; have := B10.out.size; simp at hg; omega
  have N11 : w11.heap.size ≥ w10.heap.size := grow.size
  have K11 : MgAt w11 w.heap.size 30 m q n k := by
    have h := h10
    unfold MgAt at h ⊢
    rw [grow.block _ (Array.getElem?_eq_some_iff.1 h).1 (fun e => by have := own_ne O10.out h (by decide); exact this e.symm)]
    exact h
  simp only [E11]
  clear own11 grow11 fr11 grow G11 E11 N11
  refine hK.out _ _ (K11) (fun h11 => ?_)
  clear K11
  clear hK K
  try simp only [Act.put, List.setIfInBounds_toArray, List.set_cons_zero, List.set_cons_succ]
  refine wpAnyH_take (i := 5) (v := ?_) (by rw [List.getElem?_toArray]; rfl) (by kernel_rfl) (by kernel_rfl) (by kernel_rfl) (by exact fun _ _ _ h => h) (Or.inl ⟨by rfl, ?_⟩) h11 ?_
  rotate_left
  · intro W hW
    obtain ⟨c0, c1, c2, c3, c4, c5, c6, c7, c8⟩ := hW.cells
    go_simp
    all_goals with_reducible rfl
  try simp only [Act.put, List.setIfInBounds_toArray, List.set_cons_zero, List.set_cons_succ]
  refine wpAnyH_done (by kernel_rfl) ?_ _
  go_wp2_with fail
  go_ret
  exact ⟨_, rfl, S11.out⟩
end Go.Proofs.YtcpoaalhpjipaaaDoor
namespace Go.Proofs.YtcpoaalhpjipaaaDoor
set_option maxRecDepth 100000
open Go.RowKit

/-- An append to bytes of one's own. -/
theorem BuS.app {w W W2 : World} {u : Value} {xs ys : List Int} {n m : Nat} {q : Option Addr} {k : Nat} (h : BuS w W u xs) (hn : xs.length = n) (hm : ys.length = m) (own : W2.ownsRow 0 5 1 (.slice q (n + m) k) (n + m) (bc xs ++ bc ys)) (grow : W.grownBy W2 u.ownBlock) (fr : (Value.slice q (n + m) k).ownBlock = u.ownBlock ∨ (Value.slice q (n + m) k).ownBlock = some W.heap.size) : BuS w W2 (.slice q (n + m) k) (xs ++ ys) := by
  subst hn
  exact h.grow hm own grow fr
theorem BuS.len {w W : World} {u : Value} {xs : List Int} (h : BuS w W u xs) : ∃ q k, u = .slice q xs.length k := by
  obtain ⟨q, k, e⟩ := own_slice h.own
  exact ⟨q, k, e⟩
theorem BuS.base {w w1 W : World} {u : Value} {xs : List Int} (h : BuS w1 W u xs) (hb : Below w.heap.size w w1) : BuS w W u xs :=
  ⟨h.own, fun g hg => Nat.le_trans hb.size (h.fresh g hg), hb.trans (h.below.mono hb.size)⟩
theorem MgAt.grown {W W2 : World} {b : Nat} {m : Mg} {q : Option Addr} {n k : Nat} {u : Value} {l : Nat} {xs : List Value} (h : MgAt W b 27 m q n k) (ho : W.ownsRow 0 5 1 u l xs) (grow : W.grownBy W2 u.ownBlock) : MgAt W2 b 27 m q n k := by
  have h' := h
  unfold MgAt at h ⊢
  rw [grow.block _ (Array.getElem?_eq_some_iff.1 h).1 (fun e => own_ne ho h (by decide) e.symm)]
  exact h

set_option maxHeartbeats 8000000 in
theorem refMsgBytes_any {w : World} {m : Mg} {q : Option Addr} {k : Nat} (ok : m.ok) (hr : Rd w (.slice q m.data.length k) m.data) (hl : m.data.length ≤ 140737488355000) :
    Calls Tryd.prog 35 #[.agg (mgRow m q m.data.length k).toArray] w fun e w' => ∃ u, e = .returned u ∧ BuS w w' u (mgB m) := by
  obtain ⟨i0, hi, hz0, hz1, hz2⟩ := info_parts Tryd.infoU8
  replace hi := Lib.hid hi
  replace hz0 := Lib.hid hz0
  replace hz1 := Lib.hid hz1
  replace hz2 := Lib.hid hz2
  have HD4 := Lib.hid ok.val
  have HM : Hid (mgB m = mgH m m.data.length ++ m.data) := rfl
  obtain ⟨MB, hMB⟩ : ∃ MB, mgB m = MB := ⟨_, rfl⟩
  obtain ⟨D, hD⟩ : ∃ D, m.data = D := ⟨_, rfl⟩
  rw [hMB] at HM ⊢
  rw [hD] at hr hl HM ⊢
  obtain ⟨n, hn⟩ : ∃ n, D.length = n := ⟨_, rfl⟩
  have LN := Lib.hid hn
  rw [hn] at hr hl HM ⊢
  have HH : Hid (mgH m n = be8 m.no ++ (be8 m.se ++ (be8 m.ta ++ (m.val.bytes ++ (be8 m.gas ++ be8 n))))) := rfl
  have b1 : Below w.heap.size w (w.alloc (.cells (mgRow m q n k).toArray 27)) := (Below.refl _ _).alloc (Nat.le_refl _) _
  have K0 := Lib.hid (MgAt.new w 27 m q n k)
  have HV : Hid (∀ W, Below w.heap.size w W → Rd W (.slice q n k) D) := fun W hb => hr.on hb
  have B0 := Lib.hid b1
  clear hr hn hD hMB b1 ok
  go_enter Tryd.func35, Tryd.ntmps35
  go_wp2_with fail
  generalize w.alloc (.cells (mgRow m q n k).toArray 27) = w0 at *
  refine wp_region_held_drew (S := fun W => MgAt W w.heap.size 27 m q n k) (by kernel_rfl) (show MgAt w0.drew w.heap.size 27 m q n k from K0.out) (fun h0 => ?_)
  have B1 : Hid (Below w.heap.size w w0.drew) := Lib.hid B0.out.drew
  clear K0 B0
  generalize w0.drew = w1 at *
  refine wpAnyH_take (i := 0) (v := ?_) (by rw [List.getElem?_toArray]; rfl) (by kernel_rfl) (by kernel_rfl) (by kernel_rfl) (by exact fun _ _ _ h => h) (Or.inl ⟨by rfl, ?_⟩) h0 ?_
  rotate_left
  · intro W hW
    obtain ⟨c0, c1, c2, c3, c4, c5, c6, c7, c8⟩ := hW.cells
    go_simp
    all_goals with_reducible rfl
  try simp only [Act.put, List.setIfInBounds_toArray, List.set_cons_zero, List.set_cons_succ]
  refine wpAnyH_take (i := 1) (v := ?_) (by rw [List.getElem?_toArray]; rfl) (by kernel_rfl) (by kernel_rfl) (by kernel_rfl) (by exact fun _ _ _ h => h) (Or.inl ⟨by rfl, ?_⟩) h0 ?_
  rotate_left
  · intro W hW
    obtain ⟨c0, c1, c2, c3, c4, c5, c6, c7, c8⟩ := hW.cells
    go_simp
    all_goals with_reducible rfl
  try simp only [Act.put, List.setIfInBounds_toArray, List.set_cons_zero, List.set_cons_succ]
  refine wpAnyH_take (i := 3) (v := ?_) (by rw [List.getElem?_toArray]; rfl) (by kernel_rfl) (by kernel_rfl) (by kernel_rfl) (by exact fun _ _ _ h => h) (Or.inl ⟨by rfl, ?_⟩) h0 ?_
  rotate_left
  · intro W hW
    obtain ⟨c0, c1, c2, c3, c4, c5, c6, c7, c8⟩ := hW.cells
    go_simp
    all_goals with_reducible rfl
  try simp only [Act.put, List.setIfInBounds_toArray, List.set_cons_zero, List.set_cons_succ]
  refine wpAnyH_take (i := 4) (v := ?_) (by rw [List.getElem?_toArray]; rfl) (by kernel_rfl) (by kernel_rfl) (by kernel_rfl) (by exact fun _ _ _ h => h) (Or.inl ⟨by rfl, ?_⟩) h0 ?_
  rotate_left
  · intro W hW
    obtain ⟨c0, c1, c2, c3, c4, c5, c6, c7, c8⟩ := hW.cells
    go_simp
    all_goals with_reducible rfl
  try simp only [Act.put, List.setIfInBounds_toArray, List.set_cons_zero, List.set_cons_succ]
  refine wpAnyH_take (i := 7) (v := ?_) (by rw [List.getElem?_toArray]; rfl) (by kernel_rfl) (by kernel_rfl) (by kernel_rfl) (by exact fun _ _ _ h => h) (Or.inl ⟨by rfl, ?_⟩) h0 ?_
  rotate_left
  · intro W hW
    obtain ⟨c0, c1, c2, c3, c4, c5, c6, c7, c8⟩ := hW.cells
    go_simp
    all_goals with_reducible rfl
  try simp only [Act.put, List.setIfInBounds_toArray, List.set_cons_zero, List.set_cons_succ]
  refine wpAnyH_take (i := 8) (v := ?_) (by rw [List.getElem?_toArray]; rfl) (by kernel_rfl) (by kernel_rfl) (by kernel_rfl) (by exact fun _ _ _ h => h) (Or.inl ⟨by rfl, ?_⟩) h0 ?_
  rotate_left
  · intro W hW
    obtain ⟨c0, c1, c2, c3, c4, c5, c6, c7, c8⟩ := hW.cells
    go_simp
    all_goals with_reducible rfl
  try simp only [Act.put, List.setIfInBounds_toArray, List.set_cons_zero, List.set_cons_succ]
  refine wpAnyH_ready (rs := [2]) (by kernel_rfl) (by simp) ?_
  refine AllReadyH.cons (by rw [List.getElem?_toArray]; rfl) (fun K hK => ?_) AllReadyH.nil
  rw [if_pos (by rfl)]
  go_wp2_with fail
  refine (refUint_any m.no w1).mono ?_
  rintro e v2 ⟨u2, rfl, hs2⟩
  obtain ⟨a2, o2, rfl⟩ := hs2.len
  have K2 : MgAt v2 w.heap.size 27 m q n k := MgAt.on h0 hs2.below
  have Sa2 := Lib.hid (hs2.base B1.out)
  have B2 := Lib.hid (Sa2.out.below)
  have LSa : Hid ((be8 m.no : List Int).length = 8) := by show _ = _; simp [be8_len]
  rw [LSa.out]
  clear hs2
  go_wp2_with fail
  refine hK.out _ _ (K2) (fun k2x => ?_)
  clear K2
  clear hK K
  try simp only [Act.put, List.setIfInBounds_toArray, List.set_cons_zero, List.set_cons_succ]
  refine wpAnyH_ready (rs := [5]) (by kernel_rfl) (by simp) ?_
  refine AllReadyH.cons (by rw [List.getElem?_toArray]; rfl) (fun K hK => ?_) AllReadyH.nil
  rw [if_pos (by rfl)]
  go_wp2_with fail
  refine (refUint_any m.se v2).mono ?_
  rintro e v3 ⟨u3, rfl, hs3⟩
  obtain ⟨a3, o3, rfl⟩ := hs3.len
  have K3 : MgAt v3 w.heap.size 27 m q n k := MgAt.on k2x hs3.below
  have Sa3 := Lib.hid (Sa2.out.on hs3.below)
  clear Sa2
  have Sb3 := Lib.hid (hs3.base B2.out)
  have B3 := Lib.hid (Sb3.out.below)
  have LSb : Hid ((be8 m.se : List Int).length = 8) := by show _ = _; simp [be8_len]
  rw [LSb.out]
  clear hs3
  go_wp2_with fail
  refine hK.out _ _ (K3) (fun k3x => ?_)
  clear K3
  clear hK K
  try simp only [Act.put, List.setIfInBounds_toArray, List.set_cons_zero, List.set_cons_succ]
  refine wpAnyH_ready (rs := [6]) (by kernel_rfl) (by simp) ?_
  refine AllReadyH.cons (by rw [List.getElem?_toArray]; rfl) (fun K hK => ?_) AllReadyH.nil
  rw [if_pos (by rfl)]
  refine wp_append_row _ _ rfl Tryd.underlying25 hi.out hz0.out hz1.out hz2.out rfl (by have := Sa3.out.own; rw [LSa.out] at this; exact this) (by have := Sb3.out.rd.src (P := Tryd.prog) Tryd.underlying25; rw [LSb.out] at this; exact this) (by unfold maxLen; omega) (by omega) ?_
  intro a4 o4 v4 own4 grow4 fr4
  have K4 : MgAt v4 w.heap.size 27 m q n k := MgAt.grown k3x Sa3.out.own grow4
  have Sc4 := Lib.hid (Sa3.out.app LSa.out LSb.out own4 grow4 fr4)
  have B4 := Lib.hid (Sc4.out.below)
  have LSc : Hid (((be8 m.no) ++ (be8 m.se) : List Int).length = 8 + 8) := by show _ = _; simp [be8_len]
  clear own4 grow4 fr4 Sa3 Sb3
  refine hK.out _ _ (K4) (fun k4x => ?_)
  clear K4
  clear hK K
  try simp only [Act.put, List.setIfInBounds_toArray, List.set_cons_zero, List.set_cons_succ]
  refine wpAnyH_ready (rs := [9]) (by kernel_rfl) (by simp) ?_
  refine AllReadyH.cons (by rw [List.getElem?_toArray]; rfl) (fun K hK => ?_) AllReadyH.nil
  rw [if_pos (by rfl)]
  go_wp2_with fail
  refine (refUint_any m.ta v4).mono ?_
  rintro e v5 ⟨u5, rfl, hs5⟩
  obtain ⟨a5, o5, rfl⟩ := hs5.len
  have K5 : MgAt v5 w.heap.size 27 m q n k := MgAt.on k4x hs5.below
  have Sc5 := Lib.hid (Sc4.out.on hs5.below)
  clear Sc4
  have Sd5 := Lib.hid (hs5.base B4.out)
  have B5 := Lib.hid (Sd5.out.below)
  have LSd : Hid ((be8 m.ta : List Int).length = 8) := by show _ = _; simp [be8_len]
  rw [LSd.out]
  clear hs5
  go_wp2_with fail
  refine hK.out _ _ (K5) (fun k5x => ?_)
  clear K5
  clear hK K
  try simp only [Act.put, List.setIfInBounds_toArray, List.set_cons_zero, List.set_cons_succ]
  refine wpAnyH_ready (rs := [10]) (by kernel_rfl) (by simp) ?_
  refine AllReadyH.cons (by rw [List.getElem?_toArray]; rfl) (fun K hK => ?_) AllReadyH.nil
  rw [if_pos (by rfl)]
  refine wp_append_row _ _ rfl Tryd.underlying25 hi.out hz0.out hz1.out hz2.out rfl (by have := Sc5.out.own; rw [LSc.out] at this; exact this) (by have := Sd5.out.rd.src (P := Tryd.prog) Tryd.underlying25; rw [LSd.out] at this; exact this) (by unfold maxLen; omega) (by omega) ?_
  intro a6 o6 v6 own6 grow6 fr6
  have K6 : MgAt v6 w.heap.size 27 m q n k := MgAt.grown k5x Sc5.out.own grow6
  have Se6 := Lib.hid (Sc5.out.app LSc.out LSd.out own6 grow6 fr6)
  have B6 := Lib.hid (Se6.out.below)
  have LSe : Hid ((((be8 m.no) ++ (be8 m.se)) ++ (be8 m.ta) : List Int).length = 8 + 8 + 8) := by show _ = _; simp [be8_len]
  clear own6 grow6 fr6 Sc5 Sd5
  refine hK.out _ _ (K6) (fun k6x => ?_)
  clear K6
  clear hK K
  try simp only [Act.put, List.setIfInBounds_toArray, List.set_cons_zero, List.set_cons_succ]
  refine wpAnyH_take (i := 11) (v := ?_) (by rw [List.getElem?_toArray]; rfl) (by kernel_rfl) (by kernel_rfl) (by kernel_rfl) (by exact fun _ _ _ h => h) (Or.inl ⟨by rfl, ?_⟩) k6x ?_
  rotate_left
  · intro W hW
    obtain ⟨c0, c1, c2, c3, c4, c5, c6, c7, c8⟩ := hW.cells
    go_simp
    all_goals with_reducible rfl
  try simp only [Act.put, List.setIfInBounds_toArray, List.set_cons_zero, List.set_cons_succ]
  refine wpAnyH_done (by kernel_rfl) ?_ _
  have K1 := Lib.hid k6x
  have S1 : Hid (BuS w v6 (.slice a6 24 o6) (be8 m.no ++ be8 m.se ++ be8 m.ta)) := Se6.out
  have LX : Hid ((be8 m.no ++ be8 m.se ++ be8 m.ta).length = 24) := LSe.out
  try rw [show 8 + 8 + 8 = 24 from rfl]
  obtain ⟨Y1, hY1⟩ : ∃ Y1, be8 m.no ++ be8 m.se ++ be8 m.ta = Y1 := ⟨_, rfl⟩
  rw [hY1] at S1 LX
  have HY1 := Lib.hid hY1
  clear hY1 Se6 LSe
  go_wp2_with fail
  refine wp_region_held_drew (S := fun W => MgAt W w.heap.size 27 m q n k) (by kernel_rfl) (show MgAt v6.drew w.heap.size 27 m q n k from K1.out) (fun h20 => ?_)
  have S20 : Hid (BuS w v6.drew (.slice a6 24 o6) Y1) := Lib.hid (S1.out.on ((Below.refl _ _).drew))
  have B20 : Hid (Below w.heap.size w v6.drew) := Lib.hid S20.out.below
  have LS := LX
  clear K1 S1 LX
  generalize v6.drew = w2 at *
  refine wpAnyH_take (i := 0) (v := ?_) (by rw [List.getElem?_toArray]; rfl) (by kernel_rfl) (by kernel_rfl) (by kernel_rfl) (by exact fun _ _ _ h => h) (Or.inl ⟨by rfl, ?_⟩) h20 ?_
  rotate_left
  · intro W hW
    obtain ⟨c0, c1, c2, c3, c4, c5, c6, c7, c8⟩ := hW.cells
    go_simp
    all_goals with_reducible rfl
  try simp only [Act.put, List.setIfInBounds_toArray, List.set_cons_zero, List.set_cons_succ]
  refine wpAnyH_take (i := 1) (v := ?_) (by rw [List.getElem?_toArray]; rfl) (by kernel_rfl) (by kernel_rfl) (by kernel_rfl) (by exact fun _ _ _ h => h) (Or.inl ⟨by rfl, ?_⟩) h20 ?_
  rotate_left
  · intro W hW
    obtain ⟨c0, c1, c2, c3, c4, c5, c6, c7, c8⟩ := hW.cells
    go_simp
    all_goals with_reducible rfl
  try simp only [Act.put, List.setIfInBounds_toArray, List.set_cons_zero, List.set_cons_succ]
  refine wpAnyH_take (i := 2) (v := ?_) (by rw [List.getElem?_toArray]; rfl) (by kernel_rfl) (by kernel_rfl) (by kernel_rfl) (by exact fun _ _ _ h => h) (Or.inl ⟨by rfl, ?_⟩) h20 ?_
  rotate_left
  · intro W hW
    obtain ⟨c0, c1, c2, c3, c4, c5, c6, c7, c8⟩ := hW.cells
    go_simp
    all_goals with_reducible rfl
  try simp only [Act.put, List.setIfInBounds_toArray, List.set_cons_zero, List.set_cons_succ]
  refine wpAnyH_take (i := 5) (v := ?_) (by rw [List.getElem?_toArray]; rfl) (by kernel_rfl) (by kernel_rfl) (by kernel_rfl) (by exact fun _ _ _ h => h) (Or.inl ⟨by rfl, ?_⟩) h20 ?_
  rotate_left
  · intro W hW
    obtain ⟨c0, c1, c2, c3, c4, c5, c6, c7, c8⟩ := hW.cells
    go_simp
    all_goals with_reducible rfl
  try simp only [Act.put, List.setIfInBounds_toArray, List.set_cons_zero, List.set_cons_succ]
  refine wpAnyH_take (i := 6) (v := ?_) (by rw [List.getElem?_toArray]; rfl) (by kernel_rfl) (by kernel_rfl) (by kernel_rfl) (by exact fun _ _ _ h => h) (Or.inl ⟨by rfl, ?_⟩) h20 ?_
  rotate_left
  · intro W hW
    obtain ⟨c0, c1, c2, c3, c4, c5, c6, c7, c8⟩ := hW.cells
    go_simp
    all_goals with_reducible rfl
  try simp only [Act.put, List.setIfInBounds_toArray, List.set_cons_zero, List.set_cons_succ]
  refine wpAnyH_ready (rs := [3]) (by kernel_rfl) (by simp) ?_
  refine AllReadyH.cons (by rw [List.getElem?_toArray]; rfl) (fun K hK => ?_) AllReadyH.nil
  rw [if_pos (by rfl)]
  go_wp2_with fail
  refine (refBytes_any HD4.out w2).mono ?_
  rintro e v21 ⟨u21, rfl, hs21⟩
  obtain ⟨a21, o21, rfl⟩ := hs21.len
  have K21 : MgAt v21 w.heap.size 27 m q n k := MgAt.on h20 hs21.below
  have S21 := Lib.hid (S20.out.on hs21.below)
  clear S20
  have Sf21 := Lib.hid (hs21.base B20.out)
  have B21 := Lib.hid (Sf21.out.below)
  have LSf : Hid ((m.val.bytes : List Int).length = 32) := by show _ = _; simp [W4.len]
  rw [LSf.out]
  clear hs21
  go_wp2_with fail
  refine hK.out _ _ (K21) (fun k21x => ?_)
  clear K21
  clear hK K
  try simp only [Act.put, List.setIfInBounds_toArray, List.set_cons_zero, List.set_cons_succ]
  refine wpAnyH_ready (rs := [4]) (by kernel_rfl) (by simp) ?_
  refine AllReadyH.cons (by rw [List.getElem?_toArray]; rfl) (fun K hK => ?_) AllReadyH.nil
  rw [if_pos (by rfl)]
  refine wp_append_row _ _ rfl Tryd.underlying25 hi.out hz0.out hz1.out hz2.out rfl (by have := S21.out.own; rw [LS.out] at this; exact this) (by have := Sf21.out.rd.src (P := Tryd.prog) Tryd.underlying25; rw [LSf.out] at this; exact this) (by unfold maxLen; omega) (by omega) ?_
  intro a22 o22 v22 own22 grow22 fr22
  have K22 : MgAt v22 w.heap.size 27 m q n k := MgAt.grown k21x S21.out.own grow22
  have Sg22 := Lib.hid (S21.out.app LS.out LSf.out own22 grow22 fr22)
  have B22 := Lib.hid (Sg22.out.below)
  have LSg : Hid (((Y1) ++ (m.val.bytes) : List Int).length = 24 + 32) := by show _ = _; rw [List.length_append, LS.out, W4.len]
  clear own22 grow22 fr22 S21 Sf21
  refine hK.out _ _ (K22) (fun k22x => ?_)
  clear K22
  clear hK K
  try simp only [Act.put, List.setIfInBounds_toArray, List.set_cons_zero, List.set_cons_succ]
  refine wpAnyH_ready (rs := [7]) (by kernel_rfl) (by simp) ?_
  refine AllReadyH.cons (by rw [List.getElem?_toArray]; rfl) (fun K hK => ?_) AllReadyH.nil
  rw [if_pos (by rfl)]
  go_wp2_with fail
  refine (refUint_any m.gas v22).mono ?_
  rintro e v23 ⟨u23, rfl, hs23⟩
  obtain ⟨a23, o23, rfl⟩ := hs23.len
  have K23 : MgAt v23 w.heap.size 27 m q n k := MgAt.on k22x hs23.below
  have Sg23 := Lib.hid (Sg22.out.on hs23.below)
  clear Sg22
  have Sh23 := Lib.hid (hs23.base B22.out)
  have B23 := Lib.hid (Sh23.out.below)
  have LSh : Hid ((be8 m.gas : List Int).length = 8) := by show _ = _; simp [be8_len]
  rw [LSh.out]
  clear hs23
  go_wp2_with fail
  refine hK.out _ _ (K23) (fun k23x => ?_)
  clear K23
  clear hK K
  try simp only [Act.put, List.setIfInBounds_toArray, List.set_cons_zero, List.set_cons_succ]
  refine wpAnyH_ready (rs := [8]) (by kernel_rfl) (by simp) ?_
  refine AllReadyH.cons (by rw [List.getElem?_toArray]; rfl) (fun K hK => ?_) AllReadyH.nil
  rw [if_pos (by rfl)]
  refine wp_append_row _ _ rfl Tryd.underlying25 hi.out hz0.out hz1.out hz2.out rfl (by have := Sg23.out.own; rw [LSg.out] at this; exact this) (by have := Sh23.out.rd.src (P := Tryd.prog) Tryd.underlying25; rw [LSh.out] at this; exact this) (by unfold maxLen; omega) (by omega) ?_
  intro a24 o24 v24 own24 grow24 fr24
  have K24 : MgAt v24 w.heap.size 27 m q n k := MgAt.grown k23x Sg23.out.own grow24
  have Si24 := Lib.hid (Sg23.out.app LSg.out LSh.out own24 grow24 fr24)
  have B24 := Lib.hid (Si24.out.below)
  have LSi : Hid ((((Y1) ++ (m.val.bytes)) ++ (be8 m.gas) : List Int).length = 24 + 32 + 8) := by show _ = _; rw [List.length_append, LSg.out, be8_len]
  clear own24 grow24 fr24 Sg23 Sh23
  refine hK.out _ _ (K24) (fun k24x => ?_)
  clear K24
  clear hK K
  try simp only [Act.put, List.setIfInBounds_toArray, List.set_cons_zero, List.set_cons_succ]
  refine wpAnyH_take (i := 9) (v := ?_) (by rw [List.getElem?_toArray]; rfl) (by kernel_rfl) (by kernel_rfl) (by kernel_rfl) (by exact fun _ _ _ h => h) (Or.inl ⟨by rfl, ?_⟩) k24x ?_
  rotate_left
  · intro W hW
    obtain ⟨c0, c1, c2, c3, c4, c5, c6, c7, c8⟩ := hW.cells
    go_simp
    all_goals with_reducible rfl
  try simp only [Act.put, List.setIfInBounds_toArray, List.set_cons_zero, List.set_cons_succ]
  refine wpAnyH_done (by kernel_rfl) ?_ _
  have K2 := Lib.hid k24x
  have S2 : Hid (BuS w v24 (.slice a24 64 o24) (Y1 ++ m.val.bytes ++ be8 m.gas)) := Si24.out
  have LY : Hid ((Y1 ++ m.val.bytes ++ be8 m.gas).length = 64) := LSi.out
  try rw [show 24 + 32 + 8 = 64 from rfl]
  have HY : Hid (Y1 ++ m.val.bytes ++ be8 m.gas = be8 m.no ++ be8 m.se ++ be8 m.ta ++ m.val.bytes ++ be8 m.gas) := by show _ = _; rw [HY1.out]
  obtain ⟨Y2, hY2⟩ : ∃ Y2, Y1 ++ m.val.bytes ++ be8 m.gas = Y2 := ⟨_, rfl⟩
  rw [hY2] at S2 LY HY
  clear hY2 Si24 LSi HY1
  obtain ⟨-, -, -, -, -, -, -, -, c8⟩ := K2.out.cells
  go_wp2_with fail
  refine (refBlob_any (HV.out _ S2.out.below) (by rw [LN.out]; omega)).mono ?_
  rintro e w30 ⟨u3, rfl, hS3⟩
  obtain ⟨q3, k3, rfl⟩ := hS3.len
  have S30 := Lib.hid (S2.out.on hS3.below)
  have RD := Lib.hid hS3.rd
  have L3 : Hid ((be8 (D.length : Int) ++ D).length = n + 8) := by show _ = _; rw [List.length_append, be8_len, LN.out]; omega
  rw [L3.out] at RD ⊢
  clear c8 hS3 K2 S2
  go_wp2_with (at_builtin; refine wpList_append_row rfl _ _ rfl Tryd.underlying25 hi.out hz0.out hz1.out hz2.out rfl (by have := S30.out.own; rw [LY.out] at this; exact this) (by have := RD.out.src (P := Tryd.prog) Tryd.underlying25; rw [L3.out] at this; exact this) ?b1 ?b2 ?_)
  case b1 => unfold maxLen; omega
  case b2 => omega
  intro q4 k4 w4 own4 grow4 fr4
  have SF : Hid (BuS w w4 (.slice q4 (64 + (n + 8)) k4) (Y2 ++ (be8 (D.length : Int) ++ D))) := S30.out.app LY.out L3.out own4 grow4 fr4
  have SE : Hid (BuS w w4 (.slice q4 (64 + (n + 8)) k4) MB) := SF.out.of_eq (by rw [HM.out, HH.out, HY.out, LN.out]; simp)
  clear own4 grow4 fr4 SF
  go_wp2_with fail
  go_ret
  exact ⟨_, rfl, SE.out⟩
end Go.Proofs.YtcpoaalhpjipaaaDoor
