/-
  The walk of digest.Sum.; Rows of bytes, read with their room; a hash's cells.; Rows of one's own, of whatever element.; What a region's held predicate may become on the way: a stronger one.; The walks of basculeref02: eight, pad.; The walks of basculeref02: Frame.
-/
import Derived.Test.YtjgfjmkfcippcaaDoorRows
import Derived.OrdersHeld
import Derived.Deep.RegionHeld3
import Derived.Test.YtjgfjmkfcippcaaDoorMc1
import Derived.Test.YtjgfjmkfcippcaaDoorMc2
namespace Go.Proofs.YtjgfjmkfcippcaaDoor
open Go.RowKit
set_option maxRecDepth 100000

theorem zero128 (w : World) : (zeroValue 149).run Tryd.prog w = .ok (.agg (Array.replicate 128 (.int .u8 0))) w := by kernel_rfl
@[go_sem] theorem Tryd.idx8_0 (w : World) (a b c d e f g h : Int) : (Instr.index 148 (.agg #[.int .u32 a, .int .u32 b, .int .u32 c, .int .u32 d, .int .u32 e, .int .u32 f, .int .u32 g, .int .u32 h]) (.int .i64 0)).run Tryd.prog w = .ok (.int .u32 a) w := by kernel_rfl
@[go_sem] theorem Tryd.idx8_1 (w : World) (a b c d e f g h : Int) : (Instr.index 148 (.agg #[.int .u32 a, .int .u32 b, .int .u32 c, .int .u32 d, .int .u32 e, .int .u32 f, .int .u32 g, .int .u32 h]) (.int .i64 1)).run Tryd.prog w = .ok (.int .u32 b) w := by kernel_rfl
@[go_sem] theorem Tryd.idx8_2 (w : World) (a b c d e f g h : Int) : (Instr.index 148 (.agg #[.int .u32 a, .int .u32 b, .int .u32 c, .int .u32 d, .int .u32 e, .int .u32 f, .int .u32 g, .int .u32 h]) (.int .i64 2)).run Tryd.prog w = .ok (.int .u32 c) w := by kernel_rfl
@[go_sem] theorem Tryd.idx8_3 (w : World) (a b c d e f g h : Int) : (Instr.index 148 (.agg #[.int .u32 a, .int .u32 b, .int .u32 c, .int .u32 d, .int .u32 e, .int .u32 f, .int .u32 g, .int .u32 h]) (.int .i64 3)).run Tryd.prog w = .ok (.int .u32 d) w := by kernel_rfl
@[go_sem] theorem Tryd.idx8_4 (w : World) (a b c d e f g h : Int) : (Instr.index 148 (.agg #[.int .u32 a, .int .u32 b, .int .u32 c, .int .u32 d, .int .u32 e, .int .u32 f, .int .u32 g, .int .u32 h]) (.int .i64 4)).run Tryd.prog w = .ok (.int .u32 e) w := by kernel_rfl
@[go_sem] theorem Tryd.idx8_5 (w : World) (a b c d e f g h : Int) : (Instr.index 148 (.agg #[.int .u32 a, .int .u32 b, .int .u32 c, .int .u32 d, .int .u32 e, .int .u32 f, .int .u32 g, .int .u32 h]) (.int .i64 5)).run Tryd.prog w = .ok (.int .u32 f) w := by kernel_rfl
@[go_sem] theorem Tryd.idx8_6 (w : World) (a b c d e f g h : Int) : (Instr.index 148 (.agg #[.int .u32 a, .int .u32 b, .int .u32 c, .int .u32 d, .int .u32 e, .int .u32 f, .int .u32 g, .int .u32 h]) (.int .i64 6)).run Tryd.prog w = .ok (.int .u32 g) w := by kernel_rfl
@[go_sem] theorem Tryd.idx8_7 (w : World) (a b c d e f g h : Int) : (Instr.index 148 (.agg #[.int .u32 a, .int .u32 b, .int .u32 c, .int .u32 d, .int .u32 e, .int .u32 f, .int .u32 g, .int .u32 h]) (.int .i64 7)).run Tryd.prog w = .ok (.int .u32 h) w := by kernel_rfl
def msr : Value → Value → Nat
  | .slice _ n _, .bool true => n
  | .slice _ n _, _ => n + 1000
  | _, _ => 0

set_option maxHeartbeats 4000000 in
theorem Sum_any {w : World} {v : Value} {xs : List Int} (hr : RdC w v xs) (hx : Bytes xs) (hT : Tbl w) :
    Calls Tryd.prog 75 #[v] w fun e w' => e = .returned (.agg (hc (sha xs)).toArray) ∧ Below w.heap.size w w' := by
  obtain ⟨q, c, rfl, hlc, hq⟩ := hr
  obtain ⟨b, off, hqb, hcell⟩ : ∃ b off, (xs.length = 0 ∨ q = some ⟨b, off, none⟩) ∧ ∀ i, i < xs.length → w.cell? ⟨b, off + i, none⟩ = some (.int .u8 (xs.getD i 0)) := by
    rcases hq with rfl | ⟨b, off, h1, h2⟩
    · exact ⟨0, 0, .inl rfl, fun i hi => by simp at hi⟩
    · exact ⟨b, off, .inr h1, h2⟩
  have HC := Lib.hid hcell
  have HT := Lib.hid hT
  have HX := Lib.hid hx
  have HQ := Lib.hid hqb
  clear hcell hT hx hqb hq
  have hz := zero128
  have h0 : Hid (SmSt w (((w.alloc (.cells (hc zero32).toArray 23)).alloc (.cells #[.int .u32 1779033703, .int .u32 3144134277, .int .u32 1013904242, .int .u32 2773480762, .int .u32 1359893119, .int .u32 2600822924, .int .u32 528734635, .int .u32 1541459225] 148)).alloc (.cells (Array.replicate 128 (.int .u8 0)) 149)) iv (fun _ => 0)) := by
    refine ⟨?_, ?_, ?_, ?_⟩
    · exact (((Below.refl _ _).alloc (Nat.le_refl _) _).alloc (by simp) _).alloc (by simp; omega) _
    · exact ((HashAt.new w zero32).alloc _).alloc _
    · have := (RwK.newL .u32 (w.alloc (.cells (hc zero32).toArray 23)) iv.lst 148).alloc (.cells (Array.replicate 128 (.int .u8 0)) 149)
      simp only [World.size_alloc] at this
      exact this
    · have := RwK.new .u8 ((w.alloc (.cells (hc zero32).toArray 23)).alloc (.cells #[.int .u32 1779033703, .int .u32 3144134277, .int .u32 1013904242, .int .u32 2773480762, .int .u32 1359893119, .int .u32 2600822924, .int .u32 528734635, .int .u32 1541459225] 148)) 128 149
      simp only [World.size_alloc] at this
      exact this
  have hI : Hid (Inv xs b off w false 0 xs.length q (((w.alloc (.cells (hc zero32).toArray 23)).alloc (.cells #[.int .u32 1779033703, .int .u32 3144134277, .int .u32 1013904242, .int .u32 2773480762, .int .u32 1359893119, .int .u32 2600822924, .int .u32 528734635, .int .u32 1541459225] 148)).alloc (.cells (Array.replicate 128 (.int .u8 0)) 149))) :=
    ⟨_, _, h0.out, fun _ => ⟨by omega, by simpa using HQ.out, rfl, rfl⟩, fun e => Bool.noConfusion e⟩
  clear h0 HQ
  go_enter Tryd.func75, Tryd.ntmps75
  go_wp2_with fail
  go_step3
  go_wp2_with fail
  go_step3
  go_wp2_with fail
  clear hz
  go_loopw [5, 6] (fun lv ev wr => ∃ (e : Bool) (i n k : Nat) (q : Option Addr), ev = .bool e ∧ lv = .slice q n k ∧ n ≤ k ∧ Hid (Inv xs b off w e i n q wr)) (fun lv ev _ => msr lv ev)
  case atStart => exact ⟨false, 0, _, _, _, rfl, rfl, hlc, hI⟩
  case round =>
    clear hI
    obtain ⟨e, i, n, k, q, rfl, rfl, hnk, hI⟩ := hrel
    by_cases hn : 64 ≤ n
    · obtain ⟨bb, oo, Bf, S, F, rfl, hc, hb8, hm, hstep⟩ := hI.out.block hn HX.out HC.out
      have hTr := hm.tab HT.out
      have KM := Lib.hid (mix_any S hn hnk hc hb8 hTr)
      have HM := Lib.hid hm
      have HS := Lib.hid hstep
      clear hstep hI hTr hc hb8
      have s0 := hm.rs.cell 0 (by omega)
      have s1 := hm.rs.cell 1 (by omega)
      have s2 := hm.rs.cell 2 (by omega)
      have s3 := hm.rs.cell 3 (by omega)
      have s4 := hm.rs.cell 4 (by omega)
      have s5 := hm.rs.cell 5 (by omega)
      have s6 := hm.rs.cell 6 (by omega)
      have s7 := hm.rs.cell 7 (by omega)
      simp only [St8.lst, List.getD_cons_zero, List.getD_cons_succ] at s0 s1 s2 s3 s4 s5 s6 s7
      clear hm
      go_wp2_with fail
      refine KM.out.mono ?_
      rintro e1 w1 ⟨rfl, hb1⟩
      have hm1 := HM.out.on hb1
      generalize hT8 : S.mix Bf = T at HS ⊢
      clear hT8
      have HP := Lib.hid (hm1.put T)
      clear s0 s1 s2 s3 s4 s5 s6 s7 HM KM hb1
      have s0 := hm1.rs.cell 0 (by omega)
      have s1 := hm1.rs.cell 1 (by omega)
      have s2 := hm1.rs.cell 2 (by omega)
      have s3 := hm1.rs.cell 3 (by omega)
      have s4 := hm1.rs.cell 4 (by omega)
      have s5 := hm1.rs.cell 5 (by omega)
      have s6 := hm1.rs.cell 6 (by omega)
      have s7 := hm1.rs.cell 7 (by omega)
      have f0 := hm1.rs.free 0
      have f1 := hm1.rs.free 1
      have f2 := hm1.rs.free 2
      have f3 := hm1.rs.free 3
      have f4 := hm1.rs.free 4
      have f5 := hm1.rs.free 5
      have f6 := hm1.rs.free 6
      have f7 := hm1.rs.free 7
      clear hm1
      by_cases hk : k = 64
      · go_wp2_with fail
        exact ⟨⟨e, i + 1, _, _, _, rfl, rfl, by omega, Lib.hid (HS.out _ _ HP.out (.inl (by omega)))⟩, by cases e <;> simp [msr] <;> omega⟩
      · go_wp2_with fail
        exact ⟨⟨e, i + 1, _, _, _, rfl, rfl, by omega, Lib.hid (HS.out _ _ HP.out (.inr rfl))⟩, by cases e <;> simp [msr] <;> omega⟩
    · cases e with
      | false =>
        obtain ⟨hi, hl, hm64, hm, hrd⟩ := hI.out.rest (k := k) (by omega) HC.out
        by_cases h2 : 64 < n + 9
        · have KE := Lib.hid (end_two hm.rt hrd (by omega) xs.length (by omega))
          have HM := Lib.hid hm
          have HI := Lib.hid hi
          have H64 := Lib.hid hm64
          clear hI hl hrd hm hi hm64
          go_wp2_with fail
          refine KE.out.mono ?_
          rintro e1 w1 ⟨rfl, ht, hk⟩
          have hm1 := HM.out.chgT ht hk
          rw [HI.out] at hm1
          have hm64 := H64.out
          have HN : Hid (Inv xs b off w true 0 128 (some ⟨w.heap.size + 1 + 1, 0, none⟩) w1) := Inv.tail (by rw [if_pos (by omega)]; exact hm1) (by rw [if_pos (by omega)])
          clear ht hk hm1 KE HM HI hm64 H64
          go_wp2_with fail
          exact ⟨⟨true, 0, _, _, _, rfl, rfl, by omega, HN⟩, by simp [msr] <;> omega⟩
        · have KE := Lib.hid (end_one hm.rt hrd (by omega) xs.length (by omega))
          have HM := Lib.hid hm
          have HI := Lib.hid hi
          have H64 := Lib.hid hm64
          clear hI hl hrd hm hi hm64
          go_wp2_with fail
          refine KE.out.mono ?_
          rintro e1 w1 ⟨rfl, ht, hk⟩
          have hm1 := HM.out.chgT ht hk
          rw [HI.out] at hm1
          have hm64 := H64.out
          have HN : Hid (Inv xs b off w true 0 64 (some ⟨w.heap.size + 1 + 1, 0, none⟩) w1) := Inv.tail (by rw [if_neg (by omega)]; exact hm1) (by rw [if_neg (by omega)])
          clear ht hk hm1 KE HM HI hm64 H64
          go_wp2_with fail
          exact ⟨⟨true, 0, _, _, _, rfl, rfl, by omega, HN⟩, by simp [msr] <;> omega⟩
      | true =>
        obtain ⟨F, hm⟩ := hI.out.done (by omega)
        have HM := Lib.hid hm
        have s0 := hm.rs.cell 0 (by omega)
        have s1 := hm.rs.cell 1 (by omega)
        have s2 := hm.rs.cell 2 (by omega)
        have s3 := hm.rs.cell 3 (by omega)
        have s4 := hm.rs.cell 4 (by omega)
        have s5 := hm.rs.cell 5 (by omega)
        have s6 := hm.rs.cell 6 (by omega)
        have s7 := hm.rs.cell 7 (by omega)
        simp only [St8.lst, List.getD_cons_zero, List.getD_cons_succ] at s0 s1 s2 s3 s4 s5 s6 s7
        have hsz := hm.rt.lt
        have hsz1 := hm.rs.lt
        have hsz0 := hm.rr.lt
        clear hm hI
        generalize hS : shaSt xs (nbk xs.length) = S at *
        have HSS : Hid (sha xs = S.out) := by unfold sha; rw [hS]; exact rfl
        clear hS
        go_wp2_with fail
        have hr0 : RwK .u8 (wr.alloc (.cells (hc zero32).toArray 23)) wr.heap.size 32 23 (fun i => zero32.getD i 0) := RwK.newL .u8 wr zero32 23
        have R0 := Lib.hid hr0
        have K0 := Lib.hid (Chg.refl (wr.alloc (.cells (hc zero32).toArray 23)) [wr.heap.size])
        clear hr0 s0 s1 s2 s3 s4 s5 s6 s7
        refine wp_loop_rounds 9 ?_
        rw [rounds_succ]
        go_wp2_with fail
        refine (put32_any R0.out (off := 0) (len := 32) (cap := 32) (by omega) (by omega) _).mono ?_
        rintro e1 x0 ⟨rfl, hr, hk⟩
        have R1 := Lib.hid hr
        have K1 := Lib.hid (K0.out.trans hk (fun _ h _ => h))
        clear hr hk R0 K0
        go_wp2_with fail
        rw [rounds_succ]
        go_wp2_with fail
        refine (put32_any R1.out (off := 4) (len := 28) (cap := 28) (by omega) (by omega) _).mono ?_
        rintro e1 x1 ⟨rfl, hr, hk⟩
        have R2 := Lib.hid hr
        have K2 := Lib.hid (K1.out.trans hk (fun _ h _ => h))
        clear hr hk R1 K1
        go_wp2_with fail
        rw [rounds_succ]
        go_wp2_with fail
        refine (put32_any R2.out (off := 8) (len := 24) (cap := 24) (by omega) (by omega) _).mono ?_
        rintro e1 x2 ⟨rfl, hr, hk⟩
        have R3 := Lib.hid hr
        have K3 := Lib.hid (K2.out.trans hk (fun _ h _ => h))
        clear hr hk R2 K2
        go_wp2_with fail
        rw [rounds_succ]
        go_wp2_with fail
        refine (put32_any R3.out (off := 12) (len := 20) (cap := 20) (by omega) (by omega) _).mono ?_
        rintro e1 x3 ⟨rfl, hr, hk⟩
        have R4 := Lib.hid hr
        have K4 := Lib.hid (K3.out.trans hk (fun _ h _ => h))
        clear hr hk R3 K3
        go_wp2_with fail
        rw [rounds_succ]
        go_wp2_with fail
        refine (put32_any R4.out (off := 16) (len := 16) (cap := 16) (by omega) (by omega) _).mono ?_
        rintro e1 x4 ⟨rfl, hr, hk⟩
        have R5 := Lib.hid hr
        have K5 := Lib.hid (K4.out.trans hk (fun _ h _ => h))
        clear hr hk R4 K4
        go_wp2_with fail
        rw [rounds_succ]
        go_wp2_with fail
        refine (put32_any R5.out (off := 20) (len := 12) (cap := 12) (by omega) (by omega) _).mono ?_
        rintro e1 x5 ⟨rfl, hr, hk⟩
        have R6 := Lib.hid hr
        have K6 := Lib.hid (K5.out.trans hk (fun _ h _ => h))
        clear hr hk R5 K5
        go_wp2_with fail
        rw [rounds_succ]
        go_wp2_with fail
        refine (put32_any R6.out (off := 24) (len := 8) (cap := 8) (by omega) (by omega) _).mono ?_
        rintro e1 x6 ⟨rfl, hr, hk⟩
        have R7 := Lib.hid hr
        have K7 := Lib.hid (K6.out.trans hk (fun _ h _ => h))
        clear hr hk R6 K6
        go_wp2_with fail
        rw [rounds_succ]
        go_wp2_with fail
        refine (put32_any R7.out (off := 28) (len := 4) (cap := 4) (by omega) (by omega) _).mono ?_
        rintro e1 x7 ⟨rfl, hr, hk⟩
        have R8 := Lib.hid hr
        have K8 := Lib.hid (K7.out.trans hk (fun _ h _ => h))
        clear hr hk R7 K7
        go_wp2_with fail
        have hF : HashAt x7 wr.heap.size S.out := RwK.hash R8.out
        have hS32 : S.out.length = 32 := rfl
        have hrow := hF.row hS32
        have hm8 := HM.out.on (((Below.refl _ _).alloc (Nat.le_refl _) (.cells (hc zero32).toArray 23)).trans (K8.out.toBelow (B := wr.heap.size) (by simp) (by intro k hk; simp at hk; omega)))
        have hth := hm8.rr.there zero32_len
        have hput := (hm8.rr.put zero32_len hS32).row hS32
        have HB := Lib.hid (below_setCells' (B := w.heap.size) w.heap.size (Nat.le_refl _) (hc S.out) 0 hm8.below)
        clear hF hm8 R8 K8 HM
        rw [rounds_succ]
        go_wp2_with fail
        rw [Exit.noGoto_ret]
        refine bodyPost_ret (v := .agg (hc S.out).toArray) (by simp [results, Tryd.results75, go_sem, hput, hS32]) rfl ⟨by rw [HSS.out], HB.out⟩
end Go.Proofs.YtjgfjmkfcippcaaDoor
namespace Go.Proofs.YtjgfjmkfcippcaaDoor
open Go.RowKit
set_option maxRecDepth 100000

theorem HashAt.cell {w : World} {b : Nat} {F : List Int} (h : HashAt w b F) {i : Nat} (hi : i < F.length) : w.cell? ⟨b, i, none⟩ = some (.int .u8 (F.getD i 0)) := by
  rw [cell_of_row _ _ _ _ _ _ h]
  simp [hc, List.getD, hi]
theorem rdc_of_rw {w : World} {b : Nat} {T : TypeId} {xs : List Int} (h : RwK .u8 w b xs.length T (fun i => xs.getD i 0)) : RdC w (.slice (some ⟨b, 0, none⟩) xs.length xs.length) xs :=
  ⟨_, _, rfl, Nat.le_refl _, .inr ⟨b, 0, rfl, fun i hi => by rw [Nat.zero_add]; exact h.cell i hi⟩⟩
end Go.Proofs.YtjgfjmkfcippcaaDoor
namespace Go.Proofs.YtjgfjmkfcippcaaDoor
set_option maxRecDepth 100000
open Go.RowKit

section
variable {w w' : World} {e : TypeId} {size : Nat} {v : Value} {n : Nat} {xs : List Value}
theorem own_lt (h : w.ownsRow 0 e size v n xs) {k : Nat} (hk : v.ownBlock = some k) : k < w.heap.size := by
  rcases h.2 with ⟨rfl, _⟩ | ⟨g, cap, cur, rfl, _, hg, _⟩
  · simp [Value.ownBlock] at hk
  · obtain rfl : g = k := by simpa [Value.ownBlock] using hk
    exact (Array.getElem?_eq_some_iff.1 hg).1
theorem own_ne (h : w.ownsRow 0 e size v n xs) {p : Nat} {cs : Array Value} {t : TypeId} {fr : Nat × Nat} (hp : w.heap[p]? = some (.cells cs t fr)) (ht : t ≠ e) : v.ownBlock ≠ some p := by
  rcases h.2 with ⟨rfl, _⟩ | ⟨g, cap, cur, rfl, _, hg, _⟩
  · simp [Value.ownBlock]
  · intro hk
    obtain rfl : g = p := by simpa [Value.ownBlock] using hk
    rw [hp] at hg
    simp at hg
    exact ht hg.2.1
theorem own_keep (h : w.ownsRow 0 e size v n xs) (hb : ∀ k, v.ownBlock = some k → w'.heap[k]? = w.heap[k]?) : w'.ownsRow 0 e size v n xs := by
  refine ⟨h.1, ?_⟩
  rcases h.2 with hn | ⟨g, cap, cur, rfl, hq, hg, r⟩
  · exact .inl hn
  · exact .inr ⟨g, cap, cur, rfl, hq, by rw [hb g rfl]; exact hg, r⟩
theorem own_chg2 {S : List Nat} (h : w.ownsRow 0 e size v n xs) (hc : Chg w w' S) (hS : ∀ k, v.ownBlock = some k → k ∉ S) : w'.ownsRow 0 e size v n xs :=
  own_keep h fun k hk => hc.block k (own_lt h hk) (hS k hk)
theorem own_on (h : w.ownsRow 0 e size v n xs) (hb : Below w.heap.size w w') : w'.ownsRow 0 e size v n xs := own_chg2 h (Chg.below hb (Nat.le_refl _) []) (by simp)
theorem own_two {e' : TypeId} {size' : Nat} {v' : Value} {n' : Nat} {xs' : List Value} (h : w.ownsRow 0 e size v n xs) (h' : w.ownsRow 0 e' size' v' n' xs') (ht : e ≠ e') {k : Nat} (hk : v.ownBlock = some k) : v'.ownBlock ≠ some k := by
  rcases h.2 with ⟨rfl, _⟩ | ⟨g, cap, cur, rfl, _, hg, _⟩
  · simp [Value.ownBlock] at hk
  · obtain rfl : g = k := by simpa [Value.ownBlock] using hk
    exact own_ne h' hg ht
theorem own_slice (h : w.ownsRow 0 e size v n xs) : ∃ q c, v = .slice q n c := by
  rcases h.2 with ⟨rfl, rfl⟩ | ⟨g, cap, cur, rfl, _⟩
  · exact ⟨_, _, rfl⟩
  · exact ⟨_, _, rfl⟩
theorem own_empty (w : World) (e : TypeId) (size : Nat) : (w.alloc (.cells #[] e)).ownsRow 0 e size (.slice (some ⟨w.heap.size, 0, none⟩) 0 0) 0 [] :=
  ⟨by simp, .inr ⟨w.heap.size, 0, #[], rfl, Nat.zero_le _, heap_alloc_new w _, Nat.le_refl _, Nat.zero_le _, by simp, by simp⟩⟩
end

theorem Tryd.infoU8s : (Tryd.prog.info? 64).map (fun i => (i.zero, i.size, i.bytes)) = some (some (.slice none 0 0), 1, 24) := by kernel_rfl

end Go.Proofs.YtjgfjmkfcippcaaDoor
namespace Go.Proofs.YtjgfjmkfcippcaaDoor

theorem wpAnyH_strong {P : Program} {md : Region.Mode} {ops : Array Oper} {Q : Exit → Act → World → Prop} {S S' : World → Prop} (hS : ∀ w, S' w → S w) : ∀ {fuel : Nat} {listed : Array Bool} {a : Act} {w : World}, wpAnyH P md ops Q S' fuel listed a w → wpAnyH P md ops Q S fuel listed a w
  | 0, _, _, _, h => h
  | _ + 1, _, _, _, h => ⟨h.1, fun i hi => wpOp_mono (fun _ _ h' => ⟨hS _ h'.1, wpAnyH_strong hS h'.2⟩) (h.2 i hi)⟩
end Go.Proofs.YtjgfjmkfcippcaaDoor
namespace Go.Proofs.YtjgfjmkfcippcaaDoor
open Go.RowKit
set_option maxRecDepth 100000

theorem eight_any (w : World) (n : Int) : Calls Tryd.prog 99 #[.int .u64 n] w fun e w' => e = .returned (.slice (some ⟨w.heap.size, 0, none⟩) 8 8) ∧ w'.heap[w.heap.size]? = some (.cells (bc (be8 n)).toArray 5 (0, 0)) ∧ Below w.heap.size w w' := by
  go_enter Tryd.func99, Tryd.ntmps99
  go_wp2_with fail
  go_ret
  exact ⟨rfl, heap_alloc_new w _, (Below.refl _ _).alloc (Nat.le_refl _) _⟩
/-- How long the padded string is. -/
theorem padlen (L : Nat) : L + 9 + (64 - (L + 9) % 64) % 64 = 64 * nbk L := by
  unfold nbk
  split <;> omega

set_option maxHeartbeats 4000000 in
theorem pad_any {w : World} {v : Value} {xs : List Int} (hr : Rd w v xs) (hl : xs.length ≤ 100000000000000) :
    Calls Tryd.prog 114 #[v] w fun e w' => e = .returned (.slice (some ⟨w.heap.size, 0, none⟩) (64 * nbk xs.length) (64 * nbk xs.length)) ∧ RwK .u8 w' w.heap.size (64 * nbk xs.length) 5 (padF xs) ∧ Below w.heap.size w w' := by
  obtain ⟨i0, hi, hz0, hz1, hz2⟩ := info_parts Tryd.infoU8
  replace hi := Lib.hid hi
  replace hz0 := Lib.hid hz0
  replace hz1 := Lib.hid hz1
  replace hz2 := Lib.hid hz2
  have HR := Lib.hid hr
  obtain ⟨q, c, rfl⟩ := hr.len
  clear hr
  have hp := padlen xs.length
  have HP : Hid ((xs.length : Int) + 9 + (64 - ((xs.length : Int) + 9) % 64) % 64 = ((64 * nbk xs.length : Nat) : Int)) := by rw [← hp]; show _ = _; omega
  have hN9 : xs.length + 9 ≤ 64 * nbk xs.length := by omega
  have hNle : 64 * nbk xs.length ≤ 100000000000073 := by omega
  have HPF : Hid (∀ j, j < 64 * nbk xs.length → cpf (updK (cpf (fun _ => 0) 0 xs) xs.length 128) (64 * nbk xs.length - 8) (be8 (8 * (xs.length : Int))) j = padF xs j) := by
    intro j hj
    unfold padF
    by_cases h8 : 64 * nbk xs.length - 8 ≤ j
    · rw [cpf_in h8 (by simp; omega), if_neg (by omega), if_neg (by omega), if_neg (by omega)]
      congr 1
      omega
    · rw [cpf_out (Or.inl (by omega))]
      by_cases e : j = xs.length
      · subst e; rw [updK_same, if_neg (by omega), if_pos rfl]
      · rw [updK_ne _ _ e]
        by_cases hlt : j < xs.length
        · rw [cpf_in (by omega) (by omega), if_pos hlt]; rfl
        · rw [cpf_out (Or.inr (by omega)), if_neg hlt, if_neg e, if_pos (by omega)]
  clear hp
  have hQ : ((xs.length : Int) + 9 + -(((xs.length : Int) + 9) % 64) % 64) = ((64 * nbk xs.length : Nat) : Int) := by have := HP.out; omega
  generalize 64 * nbk xs.length = N at *
  go_enter Tryd.func114, Tryd.ntmps114
  go_wp2_with (refine wpList_make_full _ rfl _ _ _ rfl 0 _ _ _ _ Tryd.underlying64 hi.out hz0.out hz1.out _ _ _ _ N rfl rfl rfl rfl ?b1 ?b2 ?b3 ?_)
  case b1 => rw [hz2.out]; omega
  case b2 => unfold maxLen; omega
  case b3 => omega
  clear hQ
  intro w1 own1 grow1
  have hr1 : RwK .u8 w1 w.heap.size N 5 (fun _ => 0) := rw_of_made own1
  have B1 := Lib.hid (show Below w.heap.size w w1 from (Below.refl _ _).grown grow1 (Nat.le_refl _) (by intro k hk; simp at hk))
  have HR1 := Lib.hid (HR.out.on B1.out)
  have HPos : Hid (0 < xs.length → (some ⟨w.heap.size, 0, none⟩ : Option Addr) = some ⟨w.heap.size, 0, none⟩ ∧ ∃ ad, q = some ad ∧ ∀ j, j < xs.length → w1.cell? (ad.add j) = some (.int .u8 (xs.getD j 0))) := by
    intro h0
    obtain ⟨q', c', e, rfl | ⟨b', o', rfl, hcc⟩⟩ := HR1.out
    · simp at h0
    · simp only [Value.slice.injEq] at e
      exact ⟨rfl, _, e.1, fun j hj => by rw [addr_add]; exact hcc j hj⟩
  have R1 := Lib.hid hr1
  clear own1 grow1 hr1 HR HR1
  go_wp2_with (with_reducible refine wpList_copy_rw rfl _ _ _ _ rfl 5 Tryd.underlying64 Tryd.size_u8 _ _ _ _ _ _ rfl rfl R1.out 0 xs (Nat.min_eq_left (by omega)).symm HPos.out (by omega) ?_)
  intro w2 h2 k2
  have c2 := h2.cell xs.length (by omega)
  have f2 := h2.free xs.length
  have H2 := Lib.hid (h2.store (j := xs.length) (by omega) 128)
  have B2 := Lib.hid ((B1.out.trans (k2.toBelow (B := w.heap.size) B1.out.size (by intro k hk; simp at hk; omega))).setCell (p := ⟨w.heap.size, xs.length, none⟩) (Nat.le_refl _) (.int .u8 128))
  clear h2 k2 B1 R1 HPos
  have hn8 : (8 : Int) ≤ (N : Int) := by omega
  have kn8 : IntKind.i64.wrap ((N : Int) - 8) = (N : Int) - 8 := IntWalk.i64_in _ (by omega)
  have en8 : ((N : Int) - 8).toNat = N - 8 := by omega
  have hle8 : (N : Int) - 8 ≤ (N : Int) := by omega
  have hne8 : ¬ N = N - 8 := by omega
  have hsb8 : N - (N - 8) = 8 := by omega
  go_wp2_with fail
  generalize w2.setCell ⟨w.heap.size, xs.length, none⟩ (.int .u8 128) = wg at H2 B2 ⊢
  refine wp_region_held_drew (S := fun W => Below w.heap.size w W) (by kernel_rfl) (B2.out.drew) (fun h0 => ?_)
  refine wpAnyH_take (i := 0) (v := ?_) (by rw [List.getElem?_toArray]; rfl) (by kernel_rfl) (by kernel_rfl) (by kernel_rfl) (by exact fun _ _ _ h => h) (Or.inl ⟨by rfl, ?_⟩) h0 ?_
  rotate_left
  · intro W hW
    go_simp
    all_goals with_reducible rfl
  try simp only [Act.put, List.setIfInBounds_toArray, List.set_cons_zero, List.set_cons_succ]
  refine wpAnyH_take (i := 1) (v := ?_) (by rw [List.getElem?_toArray]; rfl) (by kernel_rfl) (by kernel_rfl) (by kernel_rfl) (by exact fun _ _ _ h => h) (Or.inl ⟨by rfl, ?_⟩) h0 ?_
  rotate_left
  · intro W hW
    go_simp
    all_goals with_reducible rfl
  try simp only [Act.put, List.setIfInBounds_toArray, List.set_cons_zero, List.set_cons_succ]
  refine wpAnyH_take (i := 2) (v := ?_) (by rw [List.getElem?_toArray]; rfl) (by kernel_rfl) (by kernel_rfl) (by kernel_rfl) (by exact fun _ _ _ h => h) (Or.inl ⟨by rfl, ?_⟩) h0 ?_
  rotate_left
  · intro W hW
    go_simp
    all_goals with_reducible rfl
  try simp only [Act.put, List.setIfInBounds_toArray, List.set_cons_zero, List.set_cons_succ]
  refine wpAnyH_take (i := 3) (v := ?_) (by rw [List.getElem?_toArray]; rfl) (by kernel_rfl) (by kernel_rfl) (by kernel_rfl) (by exact fun _ _ _ h => h) (Or.inl ⟨by rfl, ?_⟩) h0 ?_
  rotate_left
  · intro W hW
    go_simp
    all_goals with_reducible rfl
  try simp only [Act.put, List.setIfInBounds_toArray, List.set_cons_zero, List.set_cons_succ]
  refine wpAnyH_take (i := 4) (v := ?_) (by rw [List.getElem?_toArray]; rfl) (by kernel_rfl) (by kernel_rfl) (by kernel_rfl) (by exact fun _ _ _ h => h) (Or.inl ⟨by rfl, ?_⟩) h0 ?_
  rotate_left
  · intro W hW
    go_simp
    all_goals with_reducible rfl
  try simp only [Act.put, List.setIfInBounds_toArray, List.set_cons_zero, List.set_cons_succ]
  refine wpAnyH_take (i := 5) (v := ?_) (by rw [List.getElem?_toArray]; rfl) (by kernel_rfl) (by kernel_rfl) (by kernel_rfl) (by exact fun _ _ _ h => h) (Or.inl ⟨by rfl, ?_⟩) h0 ?_
  rotate_left
  · intro W hW
    go_simp
    all_goals with_reducible rfl
  try simp only [Act.put, List.setIfInBounds_toArray, List.set_cons_zero, List.set_cons_succ]
  refine wpAnyH_take (i := 6) (v := ?_) (by rw [List.getElem?_toArray]; rfl) (by kernel_rfl) (by kernel_rfl) (by kernel_rfl) (by exact fun _ _ _ h => h) (Or.inl ⟨by rfl, ?_⟩) h0 ?_
  rotate_left
  · intro W hW
    go_simp
    all_goals with_reducible rfl
  try simp only [Act.put, List.setIfInBounds_toArray, List.set_cons_zero, List.set_cons_succ]
  refine wpAnyH_take (i := 7) (v := ?_) (by rw [List.getElem?_toArray]; rfl) (by kernel_rfl) (by kernel_rfl) (by kernel_rfl) (by exact fun _ _ _ h => h) (Or.inl ⟨by rfl, ?_⟩) h0 ?_
  rotate_left
  · intro W hW
    go_simp
    all_goals with_reducible rfl
  try simp only [Act.put, List.setIfInBounds_toArray, List.set_cons_zero, List.set_cons_succ]
  refine wpAnyH_ready (rs := [8]) (by kernel_rfl) (by simp) ?_
  refine AllReadyH.cons (by rw [List.getElem?_toArray]; rfl) (fun K hK => ?_) AllReadyH.nil
  rw [if_pos (by rfl)]
  go_wp2_with fail
  refine (eight_any _ _).mono ?_
  rintro e w8 ⟨rfl, hb8, hbl8⟩
  have R8 := Lib.hid ((H2.out.drew).on hbl8)
  have HB8 : Hid (w8.heap[wg.heap.size]? = some (.cells (bc (be8 (8 * (xs.length : Int)))).toArray 5 (0, 0))) := hb8
  go_wp2_with fail
  refine hK.out _ _ (h0.trans (hbl8.mono h0.size)) (fun h8 => ?_)
  clear hK K
  try simp only [Act.put, List.setIfInBounds_toArray, List.set_cons_zero, List.set_cons_succ]
  refine wpAnyH_ready (rs := [9]) (by kernel_rfl) (by simp) ?_
  refine AllReadyH.cons (by rw [List.getElem?_toArray]; rfl) (fun K hK => ?_) AllReadyH.nil
  rw [if_pos (by rfl)]
  refine wp_copy_rw _ _ _ _ rfl 5 Tryd.underlying64 Tryd.size_u8 _ _ _ _ _ _ rfl rfl R8.out (N - 8) (be8 (8 * (xs.length : Int))) rfl (fun _ => ⟨rfl, _, rfl, fun j hj => by rw [addr_add, Nat.zero_add, Joins.cell_of_block HB8.out]; simp only [be8_len] at hj; rcases (by omega : j = 0 ∨ j = 1 ∨ j = 2 ∨ j = 3 ∨ j = 4 ∨ j = 5 ∨ j = 6 ∨ j = 7) with e | e | e | e | e | e | e | e <;> subst e <;> rfl⟩) (by rw [be8_len]; omega) ?_
  intro w9 h9 k9
  have H9 := Lib.hid h9
  have B9 := Lib.hid (h8.trans (k9.toBelow (B := w.heap.size) h8.size (by intro k hk; simp at hk; omega)))
  refine hK.out _ _ (B9.out) (fun h9x => ?_)
  clear hK K
  try simp only [Act.put, List.setIfInBounds_toArray, List.set_cons_zero, List.set_cons_succ]
  refine wpAnyH_done (by kernel_rfl) ?_ _
  go_wp2_with fail
  go_ret
  exact ⟨rfl, H9.out.same (fun j hj => HPF.out j hj), B9.out⟩
end Go.Proofs.YtjgfjmkfcippcaaDoor
namespace Go.Proofs.YtjgfjmkfcippcaaDoor
open Go.RowKit
set_option maxRecDepth 100000

theorem oldW {w W : World} (hb : Below w.heap.size w W) {p : Addr} {v : Value} (hc : w.cell? p = some v) : W.cell? p = some v := by
  rw [hb.cell (World.block_lt_of_cell? w p hc)]; exact hc
/-- A row that the call itself lays, and appends to. -/
structure FrS (w wr : World) (v : Value) (xs : List Int) (n : Nat) : Prop where
  own : wr.ownsRow 0 5 1 v n (bc xs)
  fresh : ∀ g, v.ownBlock = some g → w.heap.size ≤ g
  below : Below w.heap.size w wr
theorem FrS.len {w wr : World} {v : Value} {xs : List Int} {n : Nat} (h : FrS w wr v xs n) : xs.length = n := by have := h.own.1; simpa using this
theorem FrS.on {w wr w1 : World} {v : Value} {xs : List Int} {n : Nat} (h : FrS w wr v xs n) (hb : Below wr.heap.size wr w1) : FrS w w1 v xs n :=
  ⟨own_on h.own hb, h.fresh, h.below.trans (hb.mono h.below.size)⟩
theorem FrS.drew {w wr : World} {v : Value} {xs : List Int} {n : Nat} (h : FrS w wr v xs n) : FrS w wr.drew v xs n := h.on (Below.refl _ _).drew
theorem FrS.grow {w wr w2 : World} {v v' : Value} {xs ys : List Int} {n m : Nat} (h : FrS w wr v xs n) (own : w2.ownsRow 0 5 1 v' (n + m) (bc xs ++ bc ys)) (grow : wr.grownBy w2 v.ownBlock) (fr : v'.ownBlock = v.ownBlock ∨ v'.ownBlock = some wr.heap.size) : FrS w w2 v' (xs ++ ys) (n + m) := by
  refine ⟨by rw [bc_append]; exact own, fun g hg => ?_, h.below.grown grow h.below.size (fun k hk => h.fresh k hk)⟩
  rcases fr with e | e
  · rw [e] at hg; exact h.fresh g hg
  · rw [e] at hg; have := h.below.size; simp at hg; omega
theorem FrS.rd {w wr : World} {v : Value} {xs : List Int} {n : Nat} (h : FrS w wr v xs n) : Rd wr v xs := by
  have := h.len; subst this
  exact rd_of_row h.own
theorem sn_cells (s : ByteArray) : byteCells s = bc (sn s) := by simp [byteCells, bc, sn]
theorem src_str {P : Program} {w : World} {tx : TypeId} (hk : P.underlying tx = some .string) (t : ByteArray) : Src P 1 tx (.string t) t.size (bc (sn t)) w := by
  rw [← sn_cells]; exact Src.ofString w hk t

set_option maxHeartbeats 8000000 in
theorem refFrame_any {w : World} {s t : ByteArray} {v : Value} {L : List (List Int)} (hL : RdL w v L []) (hs : s.size ≤ maxLen) (hst : cut255 s = t) (hn : (frm (sn t) L).length ≤ 100000000000000) :
    Calls Tryd.prog 78 #[.string s, v] w fun e w' => ∃ q n c, e = .returned (.slice q n c) ∧ FrS w w' (.slice q n c) (frm (sn t) L) n := by
  have h255 : t.size ≤ 255 := by rw [← hst]; exact cut_size s
  unfold maxLen at hs
  have hcut : (s.size ≤ 255 ∧ s = t) ∨ (255 < s.size ∧ s.extract 0 255 = t) := by
    by_cases h : s.size ≤ 255
    · exact .inl ⟨h, by rw [← hst]; exact (if_pos h).symm⟩
    · exact .inr ⟨by omega, by rw [← hst]; exact (if_neg h).symm⟩
  clear hst
  obtain ⟨qL, cL, rfl⟩ : ∃ q c, v = .slice q L.length c := by obtain ⟨q, c, e, _⟩ := hL; exact ⟨q, c, e⟩
  obtain ⟨i0, hi, hz0, hz1, hz2⟩ := info_parts Tryd.infoU8
  have HL := Lib.hid hL
  replace hi := Lib.hid hi
  replace hz0 := Lib.hid hz0
  replace hz1 := Lib.hid hz1
  replace hz2 := Lib.hid hz2
  have hsl := sn_len t
  have HSL := Lib.hid hsl
  have hfl := frm_len (sn t) L
  have hbl : t.size + (blobs L).length ≤ 100000000000000 := by omega
  have hmany := blobs_many L
  have hLn : L.length ≤ 100000000000000 := by omega
  clear hL hsl hfl hn hmany
  go_enter Tryd.func78, Tryd.ntmps78
  rcases hcut with ⟨hc1, hc2⟩ | ⟨hc1, hc2⟩
  · obtain hc3 := hc2.symm
    subst hc3
    have d1 : ¬ (255 < (t.size : Int)) := by omega
    go_wp2_with (refine wpList_make_own _ rfl _ _ _ rfl 0 _ _ _ _ Tryd.underlying64 hi.out hz0.out hz1.out _ _ _ 160 rfl rfl rfl ?ca ?cb ?cc ?_)
    (try case ca => rw [hz2.out]; omega)
    (try case cb => unfold maxLen; omega)
    (try case cc => omega)
    intro w1 own1 grow1
    have F1 : Hid (FrS w w1 (.slice (some ⟨w.heap.size, 0, none⟩) 0 160) [] 0) := ⟨own1, (by intro g hg; simp [Value.ownBlock] at hg; omega), (Below.refl _ _).grown grow1 (Nat.le_refl _) (by intro k hk; simp at hk)⟩
    clear own1 grow1
    go_wp2_with (at_builtin; refine wpList_append_row rfl _ _ rfl Tryd.underlying64 hi.out hz0.out hz1.out hz2.out rfl (F1.out.on ((Below.refl _ _).alloc (Nat.le_refl _) (.cells #[.int .u8 (t.size : Int)] 5))).own (Rd.src (xs := [(t.size : Int)]) Tryd.underlying64 ⟨_, 1, rfl, .inr ⟨w1.heap.size, 0, rfl, fun j hj => by obtain rfl : j = 0 := (by simpa using hj); exact (Joins.cell_of_block (heap_alloc_new w1 _) 0).trans rfl⟩⟩) ?cd ?ce ?_)
    (try case cd => simp; unfold maxLen; omega)
    (try case ce => simp)
    intro q2 k2 w2 own2 grow2 fr2
    have F2 := Lib.hid (FrS.grow (n := 0) (m := 1) (F1.out.on ((Below.refl _ _).alloc (Nat.le_refl _) (.cells #[.int .u8 (t.size : Int)] 5))) own2 grow2 (fr2.imp (fun h => h) (fun e => by rw [e]; simp)))
    clear own2 grow2 fr2
    go_wp2_with (at_builtin; refine wpList_append_row rfl _ _ rfl Tryd.underlying64 hi.out hz0.out hz1.out hz2.out rfl F2.out.own (src_str Tryd.underlying9 t) ?cf ?cg ?_)
    (try case cf => simp; unfold maxLen; omega)
    (try case cg => simp; omega)
    intro q3 k3 w3 own3 grow3 fr3
    have F3 := Lib.hid (FrS.grow (n := 1) (m := t.size) F2.out own3 grow3 fr3)
    clear own3 grow3 fr3 F1 F2 d1
    have H3 : Hid (FrS w w3 (.slice q3 (1 + t.size) k3) (((t.size : Int) :: sn t) ++ blobs (L.take 0)) (1 + t.size)) := by
      have := F3.out
      simp only [List.nil_append, List.cons_append] at this
      show FrS _ _ _ _ _
      simpa [blobs] using this
    clear F3
    go_wp2_with fail
    go_loopw [5, 6] (fun bv iv wr => ∃ (i n : Nat) (q : Option Addr) (k : Nat), iv = .int .i64 i ∧ i ≤ L.length ∧ bv = .slice q n k ∧ Hid (FrS w wr (.slice q n k) (((t.size : Int) :: sn t) ++ blobs (L.take i)) n)) (fun _ iv _ => L.length - (intOf iv).toNat)
    case atStart => exact ⟨0, _, _, _, rfl, by omega, rfl, H3⟩
    case round =>
      clear H3
      obtain ⟨i, n, q, k1, rfl, hil, rfl, HF⟩ := hrel
      by_cases hlt : i < L.length
      · have hbi := blobs_len hlt
        have hb2 := blobs_le L (i + 1)
        have hnl := HF.out.len
        simp only [List.length_append, List.length_cons] at hnl
        rw [HSL.out] at hnl
        have hnn : n + 8 + (L.getD i []).length ≤ 100000000001000 := by omega
        have HB := Lib.hid (blobs_take hlt)
        obtain ⟨b, off, r, m, kc, -, rfl, -, hc, rfl, hrd, -⟩ := HL.out.at hlt
        have HC := Lib.hid hc
        have HRW := Lib.hid hrd
        have HRD := Lib.hid (hrd.on HF.out.below)
        have i0 : (0 : Int) ≤ (i : Int) := by omega
        have i1 : (i : Int) < (L.length : Int) := by omega
        clear hc hrd hbi hb2 hnl
        generalize hxx : L.getD i [] = x at *
        clear hxx
        obtain ⟨lb, hlb⟩ : ∃ lb, x.length = lb := ⟨_, rfl⟩
        rw [hlb] at HC HRW HRD hnn
        have HLB := Lib.hid hlb
        clear hlb
        go_wp2_with fail
        refine wp_region_held_drew (S := fun W => Below w.heap.size w W) (by kernel_rfl) (HF.out.drew.below) (fun h0 => ?_)
        refine wpAnyH_take (i := 0) (v := ?_) (by rw [List.getElem?_toArray]; rfl) (by kernel_rfl) (by kernel_rfl) (by kernel_rfl) (by exact fun _ _ _ h => h) (Or.inl ⟨by rfl, ?_⟩) h0 ?_
        rotate_left
        · intro W hW
          go_simp
          all_goals with_reducible rfl
        try simp only [Act.put, List.setIfInBounds_toArray, List.set_cons_zero, List.set_cons_succ]
        refine wpAnyH_take (i := 1) (v := ?_) (by rw [List.getElem?_toArray]; rfl) (by kernel_rfl) (by kernel_rfl) (by kernel_rfl) (by exact fun _ _ _ h => h) (Or.inl ⟨by rfl, ?_⟩) h0 ?_
        rotate_left
        · intro W hW
          go_simp
          all_goals with_reducible rfl
        try simp only [Act.put, List.setIfInBounds_toArray, List.set_cons_zero, List.set_cons_succ]
        refine wpAnyH_take (i := 2) (v := ?_) (by rw [List.getElem?_toArray]; rfl) (by kernel_rfl) (by kernel_rfl) (by kernel_rfl) (by exact fun _ _ _ h => h) (Or.inl ⟨by rfl, ?_⟩) h0 ?_
        rotate_left
        · intro W hW
          go_simp
          all_goals with_reducible rfl
        try simp only [Act.put, List.setIfInBounds_toArray, List.set_cons_zero, List.set_cons_succ]
        refine wpAnyH_take (i := 3) (v := ?_) (by rw [List.getElem?_toArray]; rfl) (by kernel_rfl) (by kernel_rfl) (by kernel_rfl) (by exact fun _ _ _ h => h) (Or.inl ⟨by rfl, ?_⟩) h0 ?_
        rotate_left
        · intro W hW
          go_simp
          all_goals with_reducible rfl
        try simp only [Act.put, List.setIfInBounds_toArray, List.set_cons_zero, List.set_cons_succ]
        refine wpAnyH_take (i := 4) (v := ?_) (by rw [List.getElem?_toArray]; rfl) (by kernel_rfl) (by kernel_rfl) (by kernel_rfl) (by exact fun _ _ _ h => h) (Or.inl ⟨by rfl, ?_⟩) h0 ?_
        rotate_left
        · intro W hW
          have cc := oldW hW HC.out
          go_simp
          all_goals with_reducible rfl
        try simp only [Act.put, List.setIfInBounds_toArray, List.set_cons_zero, List.set_cons_succ]
        refine wpAnyH_take (i := 5) (v := ?_) (by rw [List.getElem?_toArray]; rfl) (by kernel_rfl) (by kernel_rfl) (by kernel_rfl) (by exact fun _ _ _ h => h) (Or.inl ⟨by rfl, ?_⟩) h0 ?_
        rotate_left
        · intro W hW
          go_simp
          all_goals with_reducible rfl
        try simp only [Act.put, List.setIfInBounds_toArray, List.set_cons_zero, List.set_cons_succ]
        refine wpAnyH_take (i := 6) (v := ?_) (by rw [List.getElem?_toArray]; rfl) (by kernel_rfl) (by kernel_rfl) (by kernel_rfl) (by exact fun _ _ _ h => h) (Or.inl ⟨by rfl, ?_⟩) h0 ?_
        rotate_left
        · intro W hW
          go_simp
          all_goals with_reducible rfl
        try simp only [Act.put, List.setIfInBounds_toArray, List.set_cons_zero, List.set_cons_succ]
        refine wpAnyH_take (i := 9) (v := ?_) (by rw [List.getElem?_toArray]; rfl) (by kernel_rfl) (by kernel_rfl) (by kernel_rfl) (by exact fun _ _ _ h => h) (Or.inl ⟨by rfl, ?_⟩) h0 ?_
        rotate_left
        · intro W hW
          go_simp
          all_goals with_reducible rfl
        try simp only [Act.put, List.setIfInBounds_toArray, List.set_cons_zero, List.set_cons_succ]
        refine wpAnyH_take (i := 10) (v := ?_) (by rw [List.getElem?_toArray]; rfl) (by kernel_rfl) (by kernel_rfl) (by kernel_rfl) (by exact fun _ _ _ h => h) (Or.inl ⟨by rfl, ?_⟩) h0 ?_
        rotate_left
        · intro W hW
          go_simp
          all_goals with_reducible rfl
        try simp only [Act.put, List.setIfInBounds_toArray, List.set_cons_zero, List.set_cons_succ]
        refine wpAnyH_take (i := 11) (v := ?_) (by rw [List.getElem?_toArray]; rfl) (by kernel_rfl) (by kernel_rfl) (by kernel_rfl) (by exact fun _ _ _ h => h) (Or.inl ⟨by rfl, ?_⟩) h0 ?_
        rotate_left
        · intro W hW
          go_simp
          all_goals with_reducible rfl
        try simp only [Act.put, List.setIfInBounds_toArray, List.set_cons_zero, List.set_cons_succ]
        refine wpAnyH_take (i := 12) (v := ?_) (by rw [List.getElem?_toArray]; rfl) (by kernel_rfl) (by kernel_rfl) (by kernel_rfl) (by exact fun _ _ _ h => h) (Or.inl ⟨by rfl, ?_⟩) h0 ?_
        rotate_left
        · intro W hW
          have cc := oldW hW HC.out
          go_simp
          all_goals with_reducible rfl
        try simp only [Act.put, List.setIfInBounds_toArray, List.set_cons_zero, List.set_cons_succ]
        refine wpAnyH_ready (rs := [7]) (by kernel_rfl) (by simp) ?_
        refine AllReadyH.cons (by rw [List.getElem?_toArray]; rfl) (fun K hK => ?_) AllReadyH.nil
        rw [if_pos (by rfl)]
        go_wp2_with fail
        refine (eight_any _ _).mono ?_
        rintro e w7 ⟨rfl, hb7, hbl7⟩
        have F7 := Lib.hid (HF.out.drew.on hbl7)
        have HB7 : Hid (w7.heap[wr.heap.size]? = some (.cells (bc (be8 (lb : Int))).toArray 5 (0, 0))) := hb7
        have R7 := Lib.hid (HRD.out.drew.on hbl7)
        go_wp2_with fail
        refine hK.out _ _ (h0.trans (hbl7.mono h0.size)) (fun h7 => ?_)
        clear hK K
        try simp only [Act.put, List.setIfInBounds_toArray, List.set_cons_zero, List.set_cons_succ]
        clear hb7 hbl7
        refine wpAnyH_ready (rs := [8]) (by kernel_rfl) (by simp) ?_
        refine AllReadyH.cons (by rw [List.getElem?_toArray]; rfl) (fun K hK => ?_) AllReadyH.nil
        rw [if_pos (by rfl)]
        refine wp_append_row _ _ rfl Tryd.underlying64 hi.out hz0.out hz1.out hz2.out rfl F7.out.own (Rd.src (xs := be8 (lb : Int)) Tryd.underlying64 ⟨_, 8, rfl, .inr ⟨wr.heap.size, 0, rfl, fun j hj => by rw [Nat.zero_add, Joins.cell_of_block HB7.out]; simp only [be8_len] at hj; rcases (by omega : j = 0 ∨ j = 1 ∨ j = 2 ∨ j = 3 ∨ j = 4 ∨ j = 5 ∨ j = 6 ∨ j = 7) with e | e | e | e | e | e | e | e <;> subst e <;> rfl⟩⟩) (by rw [be8_len]; unfold maxLen; omega) (by rw [be8_len]; omega) ?_
        intro q8 k8 w8 own8 grow8 fr8
        have F8 := Lib.hid (F7.out.grow own8 grow8 fr8)
        have hB8 := (F7.out.grow own8 grow8 fr8).below
        have R8 := Lib.hid (R7.out.chg (Chg.grown grow8 (S := (Value.slice q n k1).ownBlock.toList) (fun g hg => Option.mem_toList.2 hg)) (fun hne g hg hgl hm => by have h1 := HRW.out.lt hne hg; have h2 := F7.out.fresh g (by simpa using hm); omega))
        clear own8 grow8 fr8
        refine hK.out _ _ (hB8) (fun h8 => ?_)
        clear hK K
        try simp only [Act.put, List.setIfInBounds_toArray, List.set_cons_zero, List.set_cons_succ]
        clear hB8
        refine wpAnyH_ready (rs := [13]) (by kernel_rfl) (by simp) ?_
        refine AllReadyH.cons (by rw [List.getElem?_toArray]; rfl) (fun K hK => ?_) AllReadyH.nil
        rw [if_pos (by rfl)]
        refine wp_append_row _ _ rfl Tryd.underlying64 hi.out hz0.out hz1.out hz2.out rfl F8.out.own (R8.out.src Tryd.underlying64) (by rw [HLB.out, be8_len]; unfold maxLen; omega) (by rw [HLB.out, be8_len]; omega) ?_
        intro q9 k9 w9 own9 grow9 fr9
        have F9 := Lib.hid (F8.out.grow own9 grow9 fr9)
        have hB9 := (F8.out.grow own9 grow9 fr9).below
        clear own9 grow9 fr9
        refine hK.out _ _ (hB9) (fun h9 => ?_)
        clear hK K
        try simp only [Act.put, List.setIfInBounds_toArray, List.set_cons_zero, List.set_cons_succ]
        clear hB9
        refine wpAnyH_take (i := 14) (v := ?_) (by rw [List.getElem?_toArray]; rfl) (by kernel_rfl) (by kernel_rfl) (by kernel_rfl) (by exact fun _ _ _ h => h) (Or.inl ⟨by rfl, ?_⟩) h9 ?_
        rotate_left
        · intro W hW
          go_simp
          all_goals with_reducible rfl
        try simp only [Act.put, List.setIfInBounds_toArray, List.set_cons_zero, List.set_cons_succ]
        refine wpAnyH_done (by kernel_rfl) ?_ _
        go_wp2_with fail
        go_roundw
        case rel =>
          refine ⟨i + 1, _, _, _, by go_num, by omega, rfl, ?_⟩
          show FrS _ _ _ _ _
          rw [HB.out, ← List.append_assoc, ← List.append_assoc, HLB.out]
          simpa only [be8_len, HLB.out] using F9.out
        case measure => simp [intOf]; omega
      · obtain rfl : i = L.length := by omega
        have hF := HF.out
        rw [List.take_length] at hF
        have HF2 := Lib.hid hF
        clear HF hF
        go_wp2_with fail
        go_ret
        refine ⟨_, _, _, rfl, ?_⟩
        have := HF2.out
        rw [← HSL.out] at this
        exact this
  · have hsz255 : (255 : Int) < (s.size : Int) := by omega
    have d1 : (255 : Int) ≤ (s.size : Int) := by omega
    go_wp2_with (refine wpList_make_own _ rfl _ _ _ rfl 0 _ _ _ _ Tryd.underlying64 hi.out hz0.out hz1.out _ _ _ 160 rfl rfl rfl ?da ?db ?dc ?_)
    (try case da => rw [hz2.out]; omega)
    (try case db => unfold maxLen; omega)
    (try case dc => omega)
    intro w1 own1 grow1
    have F1 : Hid (FrS w w1 (.slice (some ⟨w.heap.size, 0, none⟩) 0 160) [] 0) := ⟨own1, (by intro g hg; simp [Value.ownBlock] at hg; omega), (Below.refl _ _).grown grow1 (Nat.le_refl _) (by intro k hk; simp at hk)⟩
    clear own1 grow1
    go_wp2_with (at_builtin; refine wpList_append_row rfl _ _ rfl Tryd.underlying64 hi.out hz0.out hz1.out hz2.out rfl (F1.out.on ((Below.refl _ _).alloc (Nat.le_refl _) (.cells #[.int .u8 (t.size : Int)] 5))).own (Rd.src (xs := [(t.size : Int)]) Tryd.underlying64 ⟨_, 1, rfl, .inr ⟨w1.heap.size, 0, rfl, fun j hj => by obtain rfl : j = 0 := (by simpa using hj); exact (Joins.cell_of_block (heap_alloc_new w1 _) 0).trans rfl⟩⟩) ?dd ?de ?_)
    (try case dd => simp; unfold maxLen; omega)
    (try case de => simp)
    intro q2 k2 w2 own2 grow2 fr2
    have F2 := Lib.hid (FrS.grow (n := 0) (m := 1) (F1.out.on ((Below.refl _ _).alloc (Nat.le_refl _) (.cells #[.int .u8 (t.size : Int)] 5))) own2 grow2 (fr2.imp (fun h => h) (fun e => by rw [e]; simp)))
    clear own2 grow2 fr2
    go_wp2_with (at_builtin; refine wpList_append_row rfl _ _ rfl Tryd.underlying64 hi.out hz0.out hz1.out hz2.out rfl F2.out.own (src_str Tryd.underlying9 t) ?df ?dg ?_)
    (try case df => simp; unfold maxLen; omega)
    (try case dg => simp; omega)
    intro q3 k3 w3 own3 grow3 fr3
    have F3 := Lib.hid (FrS.grow (n := 1) (m := t.size) F2.out own3 grow3 fr3)
    clear own3 grow3 fr3 F1 F2 d1
    have H3 : Hid (FrS w w3 (.slice q3 (1 + t.size) k3) (((t.size : Int) :: sn t) ++ blobs (L.take 0)) (1 + t.size)) := by
      have := F3.out
      simp only [List.nil_append, List.cons_append] at this
      show FrS _ _ _ _ _
      simpa [blobs] using this
    clear F3
    go_wp2_with fail
    go_loopw [5, 6] (fun bv iv wr => ∃ (i n : Nat) (q : Option Addr) (k : Nat), iv = .int .i64 i ∧ i ≤ L.length ∧ bv = .slice q n k ∧ Hid (FrS w wr (.slice q n k) (((t.size : Int) :: sn t) ++ blobs (L.take i)) n)) (fun _ iv _ => L.length - (intOf iv).toNat)
    case atStart => exact ⟨0, _, _, _, rfl, by omega, rfl, H3⟩
    case round =>
      clear H3
      obtain ⟨i, n, q, k1, rfl, hil, rfl, HF⟩ := hrel
      by_cases hlt : i < L.length
      · have hbi := blobs_len hlt
        have hb2 := blobs_le L (i + 1)
        have hnl := HF.out.len
        simp only [List.length_append, List.length_cons] at hnl
        rw [HSL.out] at hnl
        have hnn : n + 8 + (L.getD i []).length ≤ 100000000001000 := by omega
        have HB := Lib.hid (blobs_take hlt)
        obtain ⟨b, off, r, m, kc, -, rfl, -, hc, rfl, hrd, -⟩ := HL.out.at hlt
        have HC := Lib.hid hc
        have HRW := Lib.hid hrd
        have HRD := Lib.hid (hrd.on HF.out.below)
        have i0 : (0 : Int) ≤ (i : Int) := by omega
        have i1 : (i : Int) < (L.length : Int) := by omega
        clear hc hrd hbi hb2 hnl
        generalize hxx : L.getD i [] = x at *
        clear hxx
        obtain ⟨lb, hlb⟩ : ∃ lb, x.length = lb := ⟨_, rfl⟩
        rw [hlb] at HC HRW HRD hnn
        have HLB := Lib.hid hlb
        clear hlb
        go_wp2_with fail
        refine wp_region_held_drew (S := fun W => Below w.heap.size w W) (by kernel_rfl) (HF.out.drew.below) (fun h0 => ?_)
        refine wpAnyH_take (i := 0) (v := ?_) (by rw [List.getElem?_toArray]; rfl) (by kernel_rfl) (by kernel_rfl) (by kernel_rfl) (by exact fun _ _ _ h => h) (Or.inl ⟨by rfl, ?_⟩) h0 ?_
        rotate_left
        · intro W hW
          go_simp
          all_goals with_reducible rfl
        try simp only [Act.put, List.setIfInBounds_toArray, List.set_cons_zero, List.set_cons_succ]
        refine wpAnyH_take (i := 1) (v := ?_) (by rw [List.getElem?_toArray]; rfl) (by kernel_rfl) (by kernel_rfl) (by kernel_rfl) (by exact fun _ _ _ h => h) (Or.inl ⟨by rfl, ?_⟩) h0 ?_
        rotate_left
        · intro W hW
          go_simp
          all_goals with_reducible rfl
        try simp only [Act.put, List.setIfInBounds_toArray, List.set_cons_zero, List.set_cons_succ]
        refine wpAnyH_take (i := 2) (v := ?_) (by rw [List.getElem?_toArray]; rfl) (by kernel_rfl) (by kernel_rfl) (by kernel_rfl) (by exact fun _ _ _ h => h) (Or.inl ⟨by rfl, ?_⟩) h0 ?_
        rotate_left
        · intro W hW
          go_simp
          all_goals with_reducible rfl
        try simp only [Act.put, List.setIfInBounds_toArray, List.set_cons_zero, List.set_cons_succ]
        refine wpAnyH_take (i := 3) (v := ?_) (by rw [List.getElem?_toArray]; rfl) (by kernel_rfl) (by kernel_rfl) (by kernel_rfl) (by exact fun _ _ _ h => h) (Or.inl ⟨by rfl, ?_⟩) h0 ?_
        rotate_left
        · intro W hW
          go_simp
          all_goals with_reducible rfl
        try simp only [Act.put, List.setIfInBounds_toArray, List.set_cons_zero, List.set_cons_succ]
        refine wpAnyH_take (i := 4) (v := ?_) (by rw [List.getElem?_toArray]; rfl) (by kernel_rfl) (by kernel_rfl) (by kernel_rfl) (by exact fun _ _ _ h => h) (Or.inl ⟨by rfl, ?_⟩) h0 ?_
        rotate_left
        · intro W hW
          have cc := oldW hW HC.out
          go_simp
          all_goals with_reducible rfl
        try simp only [Act.put, List.setIfInBounds_toArray, List.set_cons_zero, List.set_cons_succ]
        refine wpAnyH_take (i := 5) (v := ?_) (by rw [List.getElem?_toArray]; rfl) (by kernel_rfl) (by kernel_rfl) (by kernel_rfl) (by exact fun _ _ _ h => h) (Or.inl ⟨by rfl, ?_⟩) h0 ?_
        rotate_left
        · intro W hW
          go_simp
          all_goals with_reducible rfl
        try simp only [Act.put, List.setIfInBounds_toArray, List.set_cons_zero, List.set_cons_succ]
        refine wpAnyH_take (i := 6) (v := ?_) (by rw [List.getElem?_toArray]; rfl) (by kernel_rfl) (by kernel_rfl) (by kernel_rfl) (by exact fun _ _ _ h => h) (Or.inl ⟨by rfl, ?_⟩) h0 ?_
        rotate_left
        · intro W hW
          go_simp
          all_goals with_reducible rfl
        try simp only [Act.put, List.setIfInBounds_toArray, List.set_cons_zero, List.set_cons_succ]
        refine wpAnyH_take (i := 9) (v := ?_) (by rw [List.getElem?_toArray]; rfl) (by kernel_rfl) (by kernel_rfl) (by kernel_rfl) (by exact fun _ _ _ h => h) (Or.inl ⟨by rfl, ?_⟩) h0 ?_
        rotate_left
        · intro W hW
          go_simp
          all_goals with_reducible rfl
        try simp only [Act.put, List.setIfInBounds_toArray, List.set_cons_zero, List.set_cons_succ]
        refine wpAnyH_take (i := 10) (v := ?_) (by rw [List.getElem?_toArray]; rfl) (by kernel_rfl) (by kernel_rfl) (by kernel_rfl) (by exact fun _ _ _ h => h) (Or.inl ⟨by rfl, ?_⟩) h0 ?_
        rotate_left
        · intro W hW
          go_simp
          all_goals with_reducible rfl
        try simp only [Act.put, List.setIfInBounds_toArray, List.set_cons_zero, List.set_cons_succ]
        refine wpAnyH_take (i := 11) (v := ?_) (by rw [List.getElem?_toArray]; rfl) (by kernel_rfl) (by kernel_rfl) (by kernel_rfl) (by exact fun _ _ _ h => h) (Or.inl ⟨by rfl, ?_⟩) h0 ?_
        rotate_left
        · intro W hW
          go_simp
          all_goals with_reducible rfl
        try simp only [Act.put, List.setIfInBounds_toArray, List.set_cons_zero, List.set_cons_succ]
        refine wpAnyH_take (i := 12) (v := ?_) (by rw [List.getElem?_toArray]; rfl) (by kernel_rfl) (by kernel_rfl) (by kernel_rfl) (by exact fun _ _ _ h => h) (Or.inl ⟨by rfl, ?_⟩) h0 ?_
        rotate_left
        · intro W hW
          have cc := oldW hW HC.out
          go_simp
          all_goals with_reducible rfl
        try simp only [Act.put, List.setIfInBounds_toArray, List.set_cons_zero, List.set_cons_succ]
        refine wpAnyH_ready (rs := [7]) (by kernel_rfl) (by simp) ?_
        refine AllReadyH.cons (by rw [List.getElem?_toArray]; rfl) (fun K hK => ?_) AllReadyH.nil
        rw [if_pos (by rfl)]
        go_wp2_with fail
        refine (eight_any _ _).mono ?_
        rintro e w7 ⟨rfl, hb7, hbl7⟩
        have F7 := Lib.hid (HF.out.drew.on hbl7)
        have HB7 : Hid (w7.heap[wr.heap.size]? = some (.cells (bc (be8 (lb : Int))).toArray 5 (0, 0))) := hb7
        have R7 := Lib.hid (HRD.out.drew.on hbl7)
        go_wp2_with fail
        refine hK.out _ _ (h0.trans (hbl7.mono h0.size)) (fun h7 => ?_)
        clear hK K
        try simp only [Act.put, List.setIfInBounds_toArray, List.set_cons_zero, List.set_cons_succ]
        clear hb7 hbl7
        refine wpAnyH_ready (rs := [8]) (by kernel_rfl) (by simp) ?_
        refine AllReadyH.cons (by rw [List.getElem?_toArray]; rfl) (fun K hK => ?_) AllReadyH.nil
        rw [if_pos (by rfl)]
        refine wp_append_row _ _ rfl Tryd.underlying64 hi.out hz0.out hz1.out hz2.out rfl F7.out.own (Rd.src (xs := be8 (lb : Int)) Tryd.underlying64 ⟨_, 8, rfl, .inr ⟨wr.heap.size, 0, rfl, fun j hj => by rw [Nat.zero_add, Joins.cell_of_block HB7.out]; simp only [be8_len] at hj; rcases (by omega : j = 0 ∨ j = 1 ∨ j = 2 ∨ j = 3 ∨ j = 4 ∨ j = 5 ∨ j = 6 ∨ j = 7) with e | e | e | e | e | e | e | e <;> subst e <;> rfl⟩⟩) (by rw [be8_len]; unfold maxLen; omega) (by rw [be8_len]; omega) ?_
        intro q8 k8 w8 own8 grow8 fr8
        have F8 := Lib.hid (F7.out.grow own8 grow8 fr8)
        have hB8 := (F7.out.grow own8 grow8 fr8).below
        have R8 := Lib.hid (R7.out.chg (Chg.grown grow8 (S := (Value.slice q n k1).ownBlock.toList) (fun g hg => Option.mem_toList.2 hg)) (fun hne g hg hgl hm => by have h1 := HRW.out.lt hne hg; have h2 := F7.out.fresh g (by simpa using hm); omega))
        clear own8 grow8 fr8
        refine hK.out _ _ (hB8) (fun h8 => ?_)
        clear hK K
        try simp only [Act.put, List.setIfInBounds_toArray, List.set_cons_zero, List.set_cons_succ]
        clear hB8
        refine wpAnyH_ready (rs := [13]) (by kernel_rfl) (by simp) ?_
        refine AllReadyH.cons (by rw [List.getElem?_toArray]; rfl) (fun K hK => ?_) AllReadyH.nil
        rw [if_pos (by rfl)]
        refine wp_append_row _ _ rfl Tryd.underlying64 hi.out hz0.out hz1.out hz2.out rfl F8.out.own (R8.out.src Tryd.underlying64) (by rw [HLB.out, be8_len]; unfold maxLen; omega) (by rw [HLB.out, be8_len]; omega) ?_
        intro q9 k9 w9 own9 grow9 fr9
        have F9 := Lib.hid (F8.out.grow own9 grow9 fr9)
        have hB9 := (F8.out.grow own9 grow9 fr9).below
        clear own9 grow9 fr9
        refine hK.out _ _ (hB9) (fun h9 => ?_)
        clear hK K
        try simp only [Act.put, List.setIfInBounds_toArray, List.set_cons_zero, List.set_cons_succ]
        clear hB9
        refine wpAnyH_take (i := 14) (v := ?_) (by rw [List.getElem?_toArray]; rfl) (by kernel_rfl) (by kernel_rfl) (by kernel_rfl) (by exact fun _ _ _ h => h) (Or.inl ⟨by rfl, ?_⟩) h9 ?_
        rotate_left
        · intro W hW
          go_simp
          all_goals with_reducible rfl
        try simp only [Act.put, List.setIfInBounds_toArray, List.set_cons_zero, List.set_cons_succ]
        refine wpAnyH_done (by kernel_rfl) ?_ _
        go_wp2_with fail
        go_roundw
        case rel =>
          refine ⟨i + 1, _, _, _, by go_num, by omega, rfl, ?_⟩
          show FrS _ _ _ _ _
          rw [HB.out, ← List.append_assoc, ← List.append_assoc, HLB.out]
          simpa only [be8_len, HLB.out] using F9.out
        case measure => simp [intOf]; omega
      · obtain rfl : i = L.length := by omega
        have hF := HF.out
        rw [List.take_length] at hF
        have HF2 := Lib.hid hF
        clear HF hF
        go_wp2_with fail
        go_ret
        refine ⟨_, _, _, rfl, ?_⟩
        have := HF2.out
        rw [← HSL.out] at this
        exact this
end Go.Proofs.YtjgfjmkfcippcaaDoor
