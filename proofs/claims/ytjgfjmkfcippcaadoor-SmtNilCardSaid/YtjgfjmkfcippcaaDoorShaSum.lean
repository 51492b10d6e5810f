/-
  The walk of digest.Sum.
-/
import Derived.Test.YtjgfjmkfcippcaaDoorShaSt
namespace Go.Proofs.YtjgfjmkfcippcaaDoor
open Go.RowKit
set_option maxRecDepth 100000

theorem zero128 (w : World) : (zeroValue 149).run Tryd.prog w = .ok (.agg (Array.replicate 128 (.int .u8 0))) w := by kernel_rfl
@[go_sem] theorem Tryd.idx8_0 (w : World) (a b c d e f g h : Int) : (Instr.index 148 (.agg #[.int .u32 a, .int .u32 b, .int .u32 c, .int .u32 d, .int .u32 e, .int .u32 f, .int .u32 g, .int .u32 h]) (.int .i64 0)).run Tryd.prog w = .ok (.int .u32 a) w := by kernel_rfl
@[go_sem] theorem Tryd.idx8_1 (w : World) (a b c d e f g h : Int) : (Instr.index 148 (.agg #[.int .u32 a, .int .u32 b, .int .u32 c, .int .u32 d, .int .u32 e, .int .u32 f, .int .u32 g, .int .u32 h]) (.int .i64 1)).run Tryd.prog w = .ok (.int .u32 b) w := by kernel_rfl
@[go_sem] theorem Tryd.idx8_2 (w : World) (a b c d e f g h : Int) : (Instr.index 148 (.agg #[.int .u32 a, .int .u32 b, .int .u32 c, .int .u32 d, .int .u32 e, .int .u32 f, .int .u32 g, .int .u32 h]) (.int .i64 2)).run Tryd.prog w = .ok (.int .u32 c) w := by kernel_rfl
@[go_sem] theorem Tryd.idx8_3 (w : World) (a b c d e f g h : Int) : (Instr.index 148 (.agg #[.int .u32 a, .int .u32 b, .int .u32 c, .int .u32 d, .int .u32 e, .int .u32 f, .int .u32 g, .int .u32 h]) (.int .i64 3)).run Tryd.prog w = .ok (.int .u32 d) w := by kernel_rfl
@[go_sem] theorem Tryd.idx8_4 (w : World) (a b c d e f g h : Int) : (Instr.index 148 (.agg #[.int .u32 a, .int .u32 b, .int .u32 c, .int .u32 d, .int .u32 e, .int .u32 f, .int .u32 g, .int .u32 h]) (.int .i64 4)).run Tryd.prog w = .ok (.int .u32 e) w := by kernel_rfl
@[go_sem] theorem Tryd.idx8_5 (w : World) (a b c d e f g h : Int) : (Instr.index 148 (.agg #[.int .u32 a, .int .u32 b, .int .u32 c, .int .u32 d, .int .u32 e, .int .u32 f, .int .u32 g, .int .u32 h]) (.int .i64 5)).run Tryd.prog w = .ok (.int .u32 f) w := by kernel_rfl
@[go_sem] theorem Tryd.idx8_6 (w : World) (a b c d e f g h : Int) : (Instr.index 148 (.agg #[.int .u32 a, .int .u32 b, .int .u32 c, .int .u32 d, .int .u32 e, .int .u32 f, .int .u32 g, .int .u32 h]) (.int .i64 6)).run Tryd.prog w = .ok (.int .u32 g) w := by kernel_rfl
@[go_sem] theorem Tryd.idx8_7 (w : World) (a b c d e f g h : Int) : (Instr.index 148 (.agg #[.int .u32 a, .int .u32 b, .int .u32 c, .int .u32 d, .int .u32 e, .int .u32 f, .int .u32 g, .int .u32 h]) (.int .i64 7)).run Tryd.prog w = .ok (.int .u32 h) w := by kernel_rfl
def msr : Value → Value → Nat
  | .slice _ n _, .bool true => n
  | .slice _ n _, _ => n + 1000
  | _, _ => 0

set_option maxHeartbeats 4000000 in
theorem Sum_any {w : World} {v : Value} {xs : List Int} (hr : RdC w v xs) (hx : Bytes xs) (hT : Tbl w) :
    Calls Tryd.prog 75 #[v] w fun e w' => e = .returned (.agg (hc (sha xs)).toArray) ∧ Below w.heap.size w w' := by
  obtain ⟨q, c, rfl, hlc, hq⟩ := hr
  obtain ⟨b, off, hqb, hcell⟩ : ∃ b off, (xs.length = 0 ∨ q = some ⟨b, off, none⟩) ∧ ∀ i, i < xs.length → w.cell? ⟨b, off + i, none⟩ = some (.int .u8 (xs.getD i 0)) := by
    rcases hq with rfl | ⟨b, off, h1, h2⟩
    · exact ⟨0, 0, .inl rfl, fun i hi => by simp at hi⟩
    · exact ⟨b, off, .inr h1, h2⟩
  have HC := Lib.hid hcell
  have HT := Lib.hid hT
  have HX := Lib.hid hx
  have HQ := Lib.hid hqb
  clear hcell hT hx hqb hq
  have hz := zero128
  have h0 : Hid (SmSt w (((w.alloc (.cells (hc zero32).toArray 23)).alloc (.cells #[.int .u32 1779033703, .int .u32 3144134277, .int .u32 1013904242, .int .u32 2773480762, .int .u32 1359893119, .int .u32 2600822924, .int .u32 528734635, .int .u32 1541459225] 148)).alloc (.cells (Array.replicate 128 (.int .u8 0)) 149)) iv (fun _ => 0)) := by
    refine ⟨?_, ?_, ?_, ?_⟩
    · exact (((Below.refl _ _).alloc (Nat.le_refl _) _).alloc (by simp) _).alloc (by simp; omega) _
    · exact ((HashAt.new w zero32).alloc _).alloc _
    · have := (RwK.newL .u32 (w.alloc (.cells (hc zero32).toArray 23)) iv.lst 148).alloc (.cells (Array.replicate 128 (.int .u8 0)) 149)
      simp only [World.size_alloc] at this
      exact this
    · have := RwK.new .u8 ((w.alloc (.cells (hc zero32).toArray 23)).alloc (.cells #[.int .u32 1779033703, .int .u32 3144134277, .int .u32 1013904242, .int .u32 2773480762, .int .u32 1359893119, .int .u32 2600822924, .int .u32 528734635, .int .u32 1541459225] 148)) 128 149
      simp only [World.size_alloc] at this
      exact this
  have hI : Hid (Inv xs b off w false 0 xs.length q (((w.alloc (.cells (hc zero32).toArray 23)).alloc (.cells #[.int .u32 1779033703, .int .u32 3144134277, .int .u32 1013904242, .int .u32 2773480762, .int .u32 1359893119, .int .u32 2600822924, .int .u32 528734635, .int .u32 1541459225] 148)).alloc (.cells (Array.replicate 128 (.int .u8 0)) 149))) :=
    ⟨_, _, h0.out, fun _ => ⟨by omega, by simpa using HQ.out, rfl, rfl⟩, fun e => Bool.noConfusion e⟩
  clear h0 HQ
  go_enter Tryd.func75, Tryd.ntmps75
  go_wp2_with fail
  go_step3
  go_wp2_with fail
  go_step3
  go_wp2_with fail
  clear hz
  go_loopw [5, 6] (fun lv ev wr => ∃ (e : Bool) (i n k : Nat) (q : Option Addr), ev = .bool e ∧ lv = .slice q n k ∧ n ≤ k ∧ Hid (Inv xs b off w e i n q wr)) (fun lv ev _ => msr lv ev)
  case atStart => exact ⟨false, 0, _, _, _, rfl, rfl, hlc, hI⟩
  case round =>
    clear hI
    obtain ⟨e, i, n, k, q, rfl, rfl, hnk, hI⟩ := hrel
    by_cases hn : 64 ≤ n
    · obtain ⟨bb, oo, Bf, S, F, rfl, hc, hb8, hm, hstep⟩ := hI.out.block hn HX.out HC.out
      have hTr := hm.tab HT.out
      have KM := Lib.hid (mix_any S hn hnk hc hb8 hTr)
      have HM := Lib.hid hm
      have HS := Lib.hid hstep
      clear hstep hI hTr hc hb8
      have s0 := hm.rs.cell 0 (by omega)
      have s1 := hm.rs.cell 1 (by omega)
      have s2 := hm.rs.cell 2 (by omega)
      have s3 := hm.rs.cell 3 (by omega)
      have s4 := hm.rs.cell 4 (by omega)
      have s5 := hm.rs.cell 5 (by omega)
      have s6 := hm.rs.cell 6 (by omega)
      have s7 := hm.rs.cell 7 (by omega)
      simp only [St8.lst, List.getD_cons_zero, List.getD_cons_succ] at s0 s1 s2 s3 s4 s5 s6 s7
      clear hm
      go_wp2_with fail
      refine KM.out.mono ?_
      rintro e1 w1 ⟨rfl, hb1⟩
      have hm1 := HM.out.on hb1
      generalize hT8 : S.mix Bf = T at HS ⊢
      clear hT8
      have HP := Lib.hid (hm1.put T)
      clear s0 s1 s2 s3 s4 s5 s6 s7 HM KM hb1
      have s0 := hm1.rs.cell 0 (by omega)
      have s1 := hm1.rs.cell 1 (by omega)
      have s2 := hm1.rs.cell 2 (by omega)
      have s3 := hm1.rs.cell 3 (by omega)
      have s4 := hm1.rs.cell 4 (by omega)
      have s5 := hm1.rs.cell 5 (by omega)
      have s6 := hm1.rs.cell 6 (by omega)
      have s7 := hm1.rs.cell 7 (by omega)
      have f0 := hm1.rs.free 0
      have f1 := hm1.rs.free 1
      have f2 := hm1.rs.free 2
      have f3 := hm1.rs.free 3
      have f4 := hm1.rs.free 4
      have f5 := hm1.rs.free 5
      have f6 := hm1.rs.free 6
      have f7 := hm1.rs.free 7
      clear hm1
      by_cases hk : k = 64
      · go_wp2_with fail
        exact ⟨⟨e, i + 1, _, _, _, rfl, rfl, by omega, Lib.hid (HS.out _ _ HP.out (.inl (by omega)))⟩, by cases e <;> simp [msr] <;> omega⟩
      · go_wp2_with fail
        exact ⟨⟨e, i + 1, _, _, _, rfl, rfl, by omega, Lib.hid (HS.out _ _ HP.out (.inr rfl))⟩, by cases e <;> simp [msr] <;> omega⟩
    · cases e with
      | false =>
        obtain ⟨hi, hl, hm64, hm, hrd⟩ := hI.out.rest (k := k) (by omega) HC.out
        by_cases h2 : 64 < n + 9
        · have KE := Lib.hid (end_two hm.rt hrd (by omega) xs.length (by omega))
          have HM := Lib.hid hm
          have HI := Lib.hid hi
          have H64 := Lib.hid hm64
          clear hI hl hrd hm hi hm64
          go_wp2_with fail
          refine KE.out.mono ?_
          rintro e1 w1 ⟨rfl, ht, hk⟩
          have hm1 := HM.out.chgT ht hk
          rw [HI.out] at hm1
          have hm64 := H64.out
          have HN : Hid (Inv xs b off w true 0 128 (some ⟨w.heap.size + 1 + 1, 0, none⟩) w1) := Inv.tail (by rw [if_pos (by omega)]; exact hm1) (by rw [if_pos (by omega)])
          clear ht hk hm1 KE HM HI hm64 H64
          go_wp2_with fail
          exact ⟨⟨true, 0, _, _, _, rfl, rfl, by omega, HN⟩, by simp [msr] <;> omega⟩
        · have KE := Lib.hid (end_one hm.rt hrd (by omega) xs.length (by omega))
          have HM := Lib.hid hm
          have HI := Lib.hid hi
          have H64 := Lib.hid hm64
          clear hI hl hrd hm hi hm64
          go_wp2_with fail
          refine KE.out.mono ?_
          rintro e1 w1 ⟨rfl, ht, hk⟩
          have hm1 := HM.out.chgT ht hk
          rw [HI.out] at hm1
          have hm64 := H64.out
          have HN : Hid (Inv xs b off w true 0 64 (some ⟨w.heap.size + 1 + 1, 0, none⟩) w1) := Inv.tail (by rw [if_neg (by omega)]; exact hm1) (by rw [if_neg (by omega)])
          clear ht hk hm1 KE HM HI hm64 H64
          go_wp2_with fail
          exact ⟨⟨true, 0, _, _, _, rfl, rfl, by omega, HN⟩, by simp [msr] <;> omega⟩
      | true =>
        obtain ⟨F, hm⟩ := hI.out.done (by omega)
        have HM := Lib.hid hm
        have s0 := hm.rs.cell 0 (by omega)
        have s1 := hm.rs.cell 1 (by omega)
        have s2 := hm.rs.cell 2 (by omega)
        have s3 := hm.rs.cell 3 (by omega)
        have s4 := hm.rs.cell 4 (by omega)
        have s5 := hm.rs.cell 5 (by omega)
        have s6 := hm.rs.cell 6 (by omega)
        have s7 := hm.rs.cell 7 (by omega)
        simp only [St8.lst, List.getD_cons_zero, List.getD_cons_succ] at s0 s1 s2 s3 s4 s5 s6 s7
        have hsz := hm.rt.lt
        have hsz1 := hm.rs.lt
        have hsz0 := hm.rr.lt
        clear hm hI
        generalize hS : shaSt xs (nbk xs.length) = S at *
        have HSS : Hid (sha xs = S.out) := by unfold sha; rw [hS]; exact rfl
        clear hS
        go_wp2_with fail
        have hr0 : RwK .u8 (wr.alloc (.cells (hc zero32).toArray 23)) wr.heap.size 32 23 (fun i => zero32.getD i 0) := RwK.newL .u8 wr zero32 23
        have R0 := Lib.hid hr0
        have K0 := Lib.hid (Chg.refl (wr.alloc (.cells (hc zero32).toArray 23)) [wr.heap.size])
        clear hr0 s0 s1 s2 s3 s4 s5 s6 s7
        refine wp_loop_rounds 9 ?_
        rw [rounds_succ]
        go_wp2_with fail
        refine (put32_any R0.out (off := 0) (len := 32) (cap := 32) (by omega) (by omega) _).mono ?_
        rintro e1 x0 ⟨rfl, hr, hk⟩
        have R1 := Lib.hid hr
        have K1 := Lib.hid (K0.out.trans hk (fun _ h _ => h))
        clear hr hk R0 K0
        go_wp2_with fail
        rw [rounds_succ]
        go_wp2_with fail
        refine (put32_any R1.out (off := 4) (len := 28) (cap := 28) (by omega) (by omega) _).mono ?_
        rintro e1 x1 ⟨rfl, hr, hk⟩
        have R2 := Lib.hid hr
        have K2 := Lib.hid (K1.out.trans hk (fun _ h _ => h))
        clear hr hk R1 K1
        go_wp2_with fail
        rw [rounds_succ]
        go_wp2_with fail
        refine (put32_any R2.out (off := 8) (len := 24) (cap := 24) (by omega) (by omega) _).mono ?_
        rintro e1 x2 ⟨rfl, hr, hk⟩
        have R3 := Lib.hid hr
        have K3 := Lib.hid (K2.out.trans hk (fun _ h _ => h))
        clear hr hk R2 K2
        go_wp2_with fail
        rw [rounds_succ]
        go_wp2_with fail
        refine (put32_any R3.out (off := 12) (len := 20) (cap := 20) (by omega) (by omega) _).mono ?_
        rintro e1 x3 ⟨rfl, hr, hk⟩
        have R4 := Lib.hid hr
        have K4 := Lib.hid (K3.out.trans hk (fun _ h _ => h))
        clear hr hk R3 K3
        go_wp2_with fail
        rw [rounds_succ]
        go_wp2_with fail
        refine (put32_any R4.out (off := 16) (len := 16) (cap := 16) (by omega) (by omega) _).mono ?_
        rintro e1 x4 ⟨rfl, hr, hk⟩
        have R5 := Lib.hid hr
        have K5 := Lib.hid (K4.out.trans hk (fun _ h _ => h))
        clear hr hk R4 K4
        go_wp2_with fail
        rw [rounds_succ]
        go_wp2_with fail
        refine (put32_any R5.out (off := 20) (len := 12) (cap := 12) (by omega) (by omega) _).mono ?_
        rintro e1 x5 ⟨rfl, hr, hk⟩
        have R6 := Lib.hid hr
        have K6 := Lib.hid (K5.out.trans hk (fun _ h _ => h))
        clear hr hk R5 K5
        go_wp2_with fail
        rw [rounds_succ]
        go_wp2_with fail
        refine (put32_any R6.out (off := 24) (len := 8) (cap := 8) (by omega) (by omega) _).mono ?_
        rintro e1 x6 ⟨rfl, hr, hk⟩
        have R7 := Lib.hid hr
        have K7 := Lib.hid (K6.out.trans hk (fun _ h _ => h))
        clear hr hk R6 K6
        go_wp2_with fail
        rw [rounds_succ]
        go_wp2_with fail
        refine (put32_any R7.out (off := 28) (len := 4) (cap := 4) (by omega) (by omega) _).mono ?_
        rintro e1 x7 ⟨rfl, hr, hk⟩
        have R8 := Lib.hid hr
        have K8 := Lib.hid (K7.out.trans hk (fun _ h _ => h))
        clear hr hk R7 K7
        go_wp2_with fail
        have hF : HashAt x7 wr.heap.size S.out := RwK.hash R8.out
        have hS32 : S.out.length = 32 := rfl
        have hrow := hF.row hS32
        have hm8 := HM.out.on (((Below.refl _ _).alloc (Nat.le_refl _) (.cells (hc zero32).toArray 23)).trans (K8.out.toBelow (B := wr.heap.size) (by simp) (by intro k hk; simp at hk; omega)))
        have hth := hm8.rr.there zero32_len
        have hput := (hm8.rr.put zero32_len hS32).row hS32
        have HB := Lib.hid (below_setCells' (B := w.heap.size) w.heap.size (Nat.le_refl _) (hc S.out) 0 hm8.below)
        clear hF hm8 R8 K8 HM
        rw [rounds_succ]
        go_wp2_with fail
        rw [Exit.noGoto_ret]
        refine bodyPost_ret (v := .agg (hc S.out).toArray) (by simp [results, Tryd.results75, go_sem, hput, hS32]) rfl ⟨by rw [HSS.out], HB.out⟩
end Go.Proofs.YtjgfjmkfcippcaaDoor
