/-
  The walks of package game: move, with Post's and with Choose's closure.
-/
import Derived.Test.YtkdhhdbgngegfaaGreatDoorGmClo
namespace Go.Proofs.YtkdhhdbgngegfaaGreatDoor
set_option maxRecDepth 100000
open Go.RowKit

/-- What a move comes to: x is what the closure makes of the segment. -/
def Gm.moved (g : Gm) (now : Int) (side mine : Bool) (x : Seg × Int) : Gm × Int :=
  bif g.ready now != 0 then (gm0, g.ready now) else bif !mine then (gm0, 52) else bif decide ((bif side then g.c1 else g.c0) < now - g.at_) then (gm0, 51)
  else bif x.2 != 0 then (gm0, x.2) else (⟨x.1, bif side then g.c0 else g.c0 - (now - g.at_), bif side then g.c1 - (now - g.at_) else g.c1, now, g.wn⟩, 0)

/-- A game that can be moved. -/
structure Gm.live (g : Gm) (now : Int) : Prop where
  r : g.right = true
  w : g.wn = -1
  t0 : 0 ≤ g.at_
  t1 : g.at_ ≤ now
  t2 : now ≤ 1099511627776
  a0 : 0 ≤ g.c0
  a1 : g.c0 ≤ 1048576
  b0 : 0 ≤ g.c1
  b1 : g.c1 ≤ 1048576
  s : g.s.right = true
theorem Gm.live_of {g : Gm} {now : Int} (h : g.ready now = 0) : g.live now := by
  unfold Gm.ready timeOk at h
  cases hr : g.right
  · simp [hr] at h
  by_cases hw : g.wn = -1
  · have hR := hr
    simp [Gm.right, hw] at hR
    by_cases t : 0 ≤ now ∧ now ≤ 1099511627776
    · by_cases hn : now < g.at_
      · simp [hr, hw, t.1, t.2, hn] at h
      · exact ⟨hr, hw, by omega, by omega, t.2, by omega, by omega, by omega, by omega, hR.1.1.2⟩
    · have : (decide (0 ≤ now) && decide (now ≤ 1099511627776)) = false := by simp; omega
      simp [hr, this] at h
  · have hb : (g.wn != -1) = true := by simpa using hw
    simp only [hb, hr] at h
    by_cases t : 0 ≤ now ∧ now ≤ 1099511627776
    · simp [t.1, t.2] at h
    · have : (decide (0 ≤ now) && decide (now ≤ 1099511627776)) = false := by simp; omega
      simp [this] at h

theorem GmAt.len0 {w : World} {b : Nat} {ty : TypeId} {g : Gm} (h : GmAt w b ty g) : b < w.heap.size := h.lt

set_option maxHeartbeats 2000000 in
theorem movePost_any {g : Gm} (hg : g.ok) {F : List Int} (hF : F.length = 32) {m : Nat} (now : Int) (mine : Bool) (w : World) (H : HashAt w m F) (hmw : m < w.heap.size) :
    Calls Tryz.prog 13 #[.agg g.row.toArray, .int .i64 now, .int .i64 0, .bool mine, .func (.func 14) #[] #[.pointer (some ⟨m, 0, none⟩)]] w
      fun e w' => e = .returned (.tuple #[.agg (g.moved now false mine (g.s.post F)).1.row.toArray, .int .i64 (g.moved now false mine (g.s.post F)).2]) ∧ Below w.heap.size w w' := by
  have hl := hg.s.len
  have hsok : (g.s.post F).1.ok := Seg.post_fine hg.s hF
  have hl' := hsok.len
  have hz : gm0.s.row.length = 99 := seg0_len
  have G := (GmAt.new w 31 g).alloc (.cells gm0.row.toArray 31)
  have R := GmAt.new (w.alloc (.cells g.row.toArray 31)) 31 gm0
  have B : Below w.heap.size w ((w.alloc (.cells g.row.toArray 31)).alloc (.cells gm0.row.toArray 31)) := by
    repeat (first | with_reducible exact Below.refl _ _ | with_reducible refine Below.alloc ?_ (by simp; try omega) _)
  simp only [World.size_alloc] at R
  obtain ⟨-, -, -, -, -, cg, -⟩ := G.facts hg.s
  go_enter Tryz.func13, Tryz.ntmps13
  go_wp2_with fail
  generalize (w.alloc (.cells g.row.toArray 31)).alloc (.cells gm0.row.toArray 31) = wa at G R B cg ⊢
  refine (ready_any hg now _).mono ?_
  rintro e w1 ⟨rfl, hb⟩
  have G1 := G.on hb
  have R1 := R.on hb
  have B1 := B.trans (hb.mono (by have := G.lt; omega))
  clear G R B hb cg
  by_cases hr : g.ready now = 0
  · rw [hr]
    have L := Gm.live_of hr
    cases mine
    · have E : g.moved now false false (g.s.post F) = (gm0, 52) := by simp [Gm.moved, hr]
      have rt := R1.there seg0_len (o := 0) (n := 103) (by omega)
      have R9 := R1.setAll seg0_len (g' := gm0) seg0_len
      have cr := R9.whole seg0_len
      have B9 := below_setCells' (w.heap.size + 1) (by omega) gm0.row 0 B1
      clear R9
      go_wp2_with fail
      rw [E]
      refine bodyPost_ret (v := .tuple #[.agg gm0.row.toArray, .int .i64 52]) (by simp [results, Tryz.results13, go_sem, cr, hz]) rfl ⟨rfl, B9⟩
    · obtain ⟨-, c99, c100, c101, -, -, -⟩ := G1.facts hg.s
      have t0 := L.t0
      have t1 := L.t1
      have t2 := L.t2
      have a0 := L.a0
      have a1 := L.a1
      have L' := Lib.hid L
      clear L
      by_cases hc : g.c0 < now - g.at_
      · have E := Lib.hid (show g.moved now false true (g.s.post F) = (gm0, 51) by simp [Gm.moved, hr, hc])
        go_wp2_with fail
        go_region
        have G1' := G1.drew
        have R1' := R1.drew
        have B1' := B1.drew
        generalize w1.drew = w2 at G1' R1' B1' ⊢
        have rt := R1'.there seg0_len (o := 0) (n := 103) (by omega)
        have R9 := R1'.setAll seg0_len (g' := gm0) seg0_len
        have cr := R9.whole seg0_len
        have B9 := below_setCells' (w.heap.size + 1) (by omega) gm0.row 0 B1'
        clear R9
        go_wp2_with fail
        rw [E.out]
        refine bodyPost_ret (v := .tuple #[.agg gm0.row.toArray, .int .i64 51]) (by simp [results, Tryz.results13, go_sem, cr, hz]) rfl ⟨rfl, B9⟩
      · go_wp2_with fail
        go_region
        have G1' := G1.drew
        have R1' := R1.drew
        have B1' := B1.drew
        clear c99 c100 c101 G1 R1 B1
        generalize w1.drew = w2 at G1' R1' B1' ⊢
        obtain ⟨-, c99, c100, c101, -, -, -⟩ := G1'.facts hg.s
        have f99 := G1'.free 99
        go_wp2_with fail
        go_region
        have G2 := (G1'.setC0 hl (g.c0 - (now - g.at_))).drew
        have R2 := (R1'.other (a := ⟨w.heap.size, 99, none⟩) (by simp) (.int .i64 (g.c0 - (now - g.at_)))).drew
        have B2 := (B1'.setCell (p := ⟨w.heap.size, 99, none⟩) (Nat.le_refl _) (.int .i64 (g.c0 - (now - g.at_)))).drew
        generalize (w2.setCell ⟨w.heap.size, 99, none⟩ (.int .i64 (g.c0 - (now - g.at_)))).drew = w3 at G2 R2 B2 ⊢
        clear c99 c100 c101 f99 G1' R1' B1'
        obtain ⟨-, -, -, c101, -, -, -⟩ := G2.facts hg.s
        have f101 := G2.free 101
        have hgg : Gm.ok ⟨g.s, g.c0 - (now - g.at_), g.c1, now, g.wn⟩ := ⟨hg.s, ⟨by show _ ≤ g.c0 - (now - g.at_); omega, by show g.c0 - (now - g.at_) < _; have := L'.out.t2; omega⟩, hg.c1, ⟨by show _ ≤ now; omega, by show now < _; have := L'.out.t2; omega⟩, hg.wn⟩
        have G3 := G2.setT hl now
        have R3 := R2.other (a := ⟨w.heap.size, 101, none⟩) (by simp) (.int .i64 now)
        have B3 := B2.setCell (p := ⟨w.heap.size, 101, none⟩) (Nat.le_refl _) (.int .i64 now)
        have hne : m ≠ w.heap.size := by omega
        go_wp2_with fail
        generalize w3.setCell ⟨w.heap.size, 101, none⟩ (.int .i64 now) = w4 at G3 R3 B3 ⊢
        clear c101 f101 G2 R2 B2
        refine (PostClo_any hgg hF hne w4 G3 (H.on B3)).mono ?_
        rintro e w5 ⟨rfl, G5, B5, O5⟩
        have R5 : GmAt w5 (w.heap.size + 1) 31 gm0 := by
          have := O5 (w.heap.size + 1) (by omega) R3.lt
          unfold GmAt
          rw [this]; exact R3
        have B6 : Below w.heap.size w w5 := B3.trans B5
        clear G3 R3 B3 O5 B5
        simp only at G5 ⊢
        generalize hx : (g.s.post F) = x at hl' hsok G5 ⊢
        obtain ⟨s', c⟩ := x
        simp only at hl' hsok G5 ⊢
        by_cases hc2 : c = 0
        · subst hc2
          have E : g.moved now false true (s', 0) = (⟨s', g.c0 - (now - g.at_), g.c1, now, g.wn⟩, 0) := by
            have hdc : decide (g.c0 < now - g.at_) = false := decide_eq_false (by omega)
            simp [Gm.moved, hr, hdc]
          have E := Lib.hid E
          generalize hgf : (⟨s', g.c0 - (now - g.at_), g.c1, now, g.wn⟩ : Gm) = gf at G5 E
          have hlf : gf.s.row.length = 99 := by rw [← hgf]; exact hl'
          have cg := G5.whole hlf
          have rt := R5.there seg0_len (o := 0) (n := 103) (by omega)
          have R9 := R5.setAll seg0_len (g' := gf) hlf
          have cr := R9.whole hlf
          have B9 := below_setCells' (w.heap.size + 1) (by omega) gf.row 0 B6
          clear R9 hgf
          go_wp2_with fail
          rw [hx, E.out]
          refine bodyPost_ret (v := .tuple #[.agg gf.row.toArray, .int .i64 0]) (by simp [results, Tryz.results13, go_sem, cr, hlf]) rfl ⟨rfl, B9⟩
        · have hb : (c != 0) = true := by simpa using hc2
          have E : g.moved now false true (s', c) = (gm0, c) := by
            have hdc : decide (g.c0 < now - g.at_) = false := decide_eq_false (by omega)
            simp only [Gm.moved, hr, hb, hdc, bne_self_eq_false, cond_true, cond_false, Bool.not_true]
          have E := Lib.hid E
          clear hc2
          rw [← hx] at E
          have rt := R5.there seg0_len (o := 0) (n := 103) (by omega)
          have R9 := R5.setAll seg0_len (g' := gm0) seg0_len
          have cr := R9.whole seg0_len
          have B9 := below_setCells' (w.heap.size + 1) (by omega) gm0.row 0 B6
          clear R9
          go_wp2_with fail
          rw [E.out]
          refine bodyPost_ret (v := .tuple #[.agg gm0.row.toArray, .int .i64 c]) (by simp [results, Tryz.results13, go_sem, cr, hz]) rfl ⟨rfl, B9⟩
  · have hd : decide (g.ready now = 0) = false := by simpa using hr
    have E : g.moved now false mine (g.s.post F) = (gm0, g.ready now) := by
      have hb : (g.ready now != 0) = true := by simpa using hr
      simp only [Gm.moved, hb, cond_true]
    generalize g.ready now = c at hr hd E ⊢
    have hb : (c != 0) = true := by simpa using hr
    have E := Lib.hid E
    clear hd hr
    have rt := R1.there seg0_len (o := 0) (n := 103) (by omega)
    have R9 := R1.setAll seg0_len (g' := gm0) seg0_len
    have cr := R9.whole seg0_len
    have B9 := below_setCells' (w.heap.size + 1) (by omega) gm0.row 0 B1
    clear R9
    go_wp2_with fail
    rw [E.out]
    refine bodyPost_ret (v := .tuple #[.agg gm0.row.toArray, .int .i64 c]) (by simp [results, Tryz.results13, go_sem, cr, hz]) rfl ⟨rfl, B9⟩

set_option maxHeartbeats 2000000 in
theorem moveChoose_any {g : Gm} (hg : g.ok) (agree : Bool) {m : Nat} (now : Int) (mine : Bool) (w : World) (H : w.cell? ⟨m, 0, none⟩ = some (.bool agree)) (hmw : m < w.heap.size) :
    Calls Tryz.prog 13 #[.agg g.row.toArray, .int .i64 now, .int .i64 1, .bool mine, .func (.func 17) #[] #[.pointer (some ⟨m, 0, none⟩)]] w
      fun e w' => e = .returned (.tuple #[.agg (g.moved now true mine (g.s.choose agree)).1.row.toArray, .int .i64 (g.moved now true mine (g.s.choose agree)).2]) ∧ Below w.heap.size w w' := by
  have hl := hg.s.len
  have hsok : (g.s.choose agree).1.ok := Seg.choose_fine hg.s agree
  have hl' := hsok.len
  have hz : gm0.s.row.length = 99 := seg0_len
  have G := (GmAt.new w 31 g).alloc (.cells gm0.row.toArray 31)
  have R := GmAt.new (w.alloc (.cells g.row.toArray 31)) 31 gm0
  have B : Below w.heap.size w ((w.alloc (.cells g.row.toArray 31)).alloc (.cells gm0.row.toArray 31)) := by
    repeat (first | with_reducible exact Below.refl _ _ | with_reducible refine Below.alloc ?_ (by simp; try omega) _)
  simp only [World.size_alloc] at R
  obtain ⟨-, -, -, -, -, cg, -⟩ := G.facts hg.s
  go_enter Tryz.func13, Tryz.ntmps13
  go_wp2_with fail
  generalize (w.alloc (.cells g.row.toArray 31)).alloc (.cells gm0.row.toArray 31) = wa at G R B cg ⊢
  refine (ready_any hg now _).mono ?_
  rintro e w1 ⟨rfl, hb⟩
  have G1 := G.on hb
  have R1 := R.on hb
  have B1 := B.trans (hb.mono (by have := G.lt; omega))
  clear G R B hb cg
  by_cases hr : g.ready now = 0
  · rw [hr]
    have L := Gm.live_of hr
    cases mine
    · have E : g.moved now true false (g.s.choose agree) = (gm0, 52) := by simp [Gm.moved, hr]
      have rt := R1.there seg0_len (o := 0) (n := 103) (by omega)
      have R9 := R1.setAll seg0_len (g' := gm0) seg0_len
      have cr := R9.whole seg0_len
      have B9 := below_setCells' (w.heap.size + 1) (by omega) gm0.row 0 B1
      clear R9
      go_wp2_with fail
      rw [E]
      refine bodyPost_ret (v := .tuple #[.agg gm0.row.toArray, .int .i64 52]) (by simp [results, Tryz.results13, go_sem, cr, hz]) rfl ⟨rfl, B9⟩
    · obtain ⟨-, c99, c100, c101, -, -, -⟩ := G1.facts hg.s
      have t0 := L.t0
      have t1 := L.t1
      have t2 := L.t2
      have a0 := L.b0
      have a1 := L.b1
      have L' := Lib.hid L
      clear L
      by_cases hc : g.c1 < now - g.at_
      · have E := Lib.hid (show g.moved now true true (g.s.choose agree) = (gm0, 51) by simp [Gm.moved, hr, hc])
        go_wp2_with fail
        go_region
        have G1' := G1.drew
        have R1' := R1.drew
        have B1' := B1.drew
        generalize w1.drew = w2 at G1' R1' B1' ⊢
        have rt := R1'.there seg0_len (o := 0) (n := 103) (by omega)
        have R9 := R1'.setAll seg0_len (g' := gm0) seg0_len
        have cr := R9.whole seg0_len
        have B9 := below_setCells' (w.heap.size + 1) (by omega) gm0.row 0 B1'
        clear R9
        go_wp2_with fail
        rw [E.out]
        refine bodyPost_ret (v := .tuple #[.agg gm0.row.toArray, .int .i64 51]) (by simp [results, Tryz.results13, go_sem, cr, hz]) rfl ⟨rfl, B9⟩
      · go_wp2_with fail
        go_region
        have G1' := G1.drew
        have R1' := R1.drew
        have B1' := B1.drew
        clear c99 c100 c101 G1 R1 B1
        generalize w1.drew = w2 at G1' R1' B1' ⊢
        obtain ⟨-, c99, c100, c101, -, -, -⟩ := G1'.facts hg.s
        have f99 := G1'.free 100
        go_wp2_with fail
        go_region
        have G2 := (G1'.setC1 hl (g.c1 - (now - g.at_))).drew
        have R2 := (R1'.other (a := ⟨w.heap.size, 100, none⟩) (by simp) (.int .i64 (g.c1 - (now - g.at_)))).drew
        have B2 := (B1'.setCell (p := ⟨w.heap.size, 100, none⟩) (Nat.le_refl _) (.int .i64 (g.c1 - (now - g.at_)))).drew
        generalize (w2.setCell ⟨w.heap.size, 100, none⟩ (.int .i64 (g.c1 - (now - g.at_)))).drew = w3 at G2 R2 B2 ⊢
        clear c99 c100 c101 f99 G1' R1' B1'
        obtain ⟨-, -, -, c101, -, -, -⟩ := G2.facts hg.s
        have f101 := G2.free 101
        have hgg : Gm.ok ⟨g.s, g.c0, g.c1 - (now - g.at_), now, g.wn⟩ := ⟨hg.s, hg.c0, ⟨by show _ ≤ g.c1 - (now - g.at_); omega, by show g.c1 - (now - g.at_) < _; have := L'.out.t2; omega⟩, ⟨by show _ ≤ now; omega, by show now < _; have := L'.out.t2; omega⟩, hg.wn⟩
        have G3 := G2.setT hl now
        have R3 := R2.other (a := ⟨w.heap.size, 101, none⟩) (by simp) (.int .i64 now)
        have B3 := B2.setCell (p := ⟨w.heap.size, 101, none⟩) (Nat.le_refl _) (.int .i64 now)
        have hne : m ≠ w.heap.size := by omega
        go_wp2_with fail
        generalize w3.setCell ⟨w.heap.size, 101, none⟩ (.int .i64 now) = w4 at G3 R3 B3 ⊢
        clear c101 f101 G2 R2 B2
        refine (ChooseClo_any hgg agree hne w4 G3 ((B3.cell hmw).trans H) (by have := B3.size; omega)).mono ?_
        rintro e w5 ⟨rfl, G5, B5, O5⟩
        have R5 : GmAt w5 (w.heap.size + 1) 31 gm0 := by
          have := O5 (w.heap.size + 1) (by omega) R3.lt
          unfold GmAt
          rw [this]; exact R3
        have B6 : Below w.heap.size w w5 := B3.trans B5
        clear G3 R3 B3 O5 B5
        simp only at G5 ⊢
        generalize hx : (g.s.choose agree) = x at hl' hsok G5 ⊢
        obtain ⟨s', c⟩ := x
        simp only at hl' hsok G5 ⊢
        by_cases hc2 : c = 0
        · subst hc2
          have E : g.moved now true true (s', 0) = (⟨s', g.c0, g.c1 - (now - g.at_), now, g.wn⟩, 0) := by
            have hdc : decide (g.c1 < now - g.at_) = false := decide_eq_false (by omega)
            simp [Gm.moved, hr, hdc]
          have E := Lib.hid E
          generalize hgf : (⟨s', g.c0, g.c1 - (now - g.at_), now, g.wn⟩ : Gm) = gf at G5 E
          have hlf : gf.s.row.length = 99 := by rw [← hgf]; exact hl'
          have cg := G5.whole hlf
          have rt := R5.there seg0_len (o := 0) (n := 103) (by omega)
          have R9 := R5.setAll seg0_len (g' := gf) hlf
          have cr := R9.whole hlf
          have B9 := below_setCells' (w.heap.size + 1) (by omega) gf.row 0 B6
          clear R9 hgf
          go_wp2_with fail
          rw [hx, E.out]
          refine bodyPost_ret (v := .tuple #[.agg gf.row.toArray, .int .i64 0]) (by simp [results, Tryz.results13, go_sem, cr, hlf]) rfl ⟨rfl, B9⟩
        · have hb : (c != 0) = true := by simpa using hc2
          have E : g.moved now true true (s', c) = (gm0, c) := by
            have hdc : decide (g.c1 < now - g.at_) = false := decide_eq_false (by omega)
            simp only [Gm.moved, hr, hb, hdc, bne_self_eq_false, cond_true, cond_false, Bool.not_true]
          have E := Lib.hid E
          clear hc2
          rw [← hx] at E
          have rt := R5.there seg0_len (o := 0) (n := 103) (by omega)
          have R9 := R5.setAll seg0_len (g' := gm0) seg0_len
          have cr := R9.whole seg0_len
          have B9 := below_setCells' (w.heap.size + 1) (by omega) gm0.row 0 B6
          clear R9
          go_wp2_with fail
          rw [E.out]
          refine bodyPost_ret (v := .tuple #[.agg gm0.row.toArray, .int .i64 c]) (by simp [results, Tryz.results13, go_sem, cr, hz]) rfl ⟨rfl, B9⟩
  · have hd : decide (g.ready now = 0) = false := by simpa using hr
    have E : g.moved now true mine (g.s.choose agree) = (gm0, g.ready now) := by
      have hb : (g.ready now != 0) = true := by simpa using hr
      simp only [Gm.moved, hb, cond_true]
    generalize g.ready now = c at hr hd E ⊢
    have hb : (c != 0) = true := by simpa using hr
    have E := Lib.hid E
    clear hd hr
    have rt := R1.there seg0_len (o := 0) (n := 103) (by omega)
    have R9 := R1.setAll seg0_len (g' := gm0) seg0_len
    have cr := R9.whole seg0_len
    have B9 := below_setCells' (w.heap.size + 1) (by omega) gm0.row 0 B1
    clear R9
    go_wp2_with fail
    rw [E.out]
    refine bodyPost_ret (v := .tuple #[.agg gm0.row.toArray, .int .i64 c]) (by simp [results, Tryz.results13, go_sem, cr, hz]) rfl ⟨rfl, B9⟩

end Go.Proofs.YtkdhhdbgngegfaaGreatDoor
