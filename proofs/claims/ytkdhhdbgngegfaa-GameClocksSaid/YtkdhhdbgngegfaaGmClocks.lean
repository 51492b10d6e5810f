/-
  GameClocks returns true for every game, time, hash and choice, and leaves its arguments: a move takes from its own side's clock alone, just as long as it took; what is not OK gives nothing.
-/
import Derived.Test.YtkdhhdbgngegfaaGmKnows
namespace Go.Proofs.Ytkdhhdbgngegfaa
open Go.RowKit

theorem cthen {B : Nat} {a w w' : World} (h : Below B a w) (k : Below w.heap.size w w') (hB : B ≤ w.heap.size) : Below B a w' := h.trans (k.mono hB)

theorem Gm.moved_cases {g : Gm} {now : Int} {side mine : Bool} {x : Seg × Int} : (∃ c, g.moved now side mine x = (gm0, c) ∧ c ≠ 0) ∨
    (g.live now ∧ mine = true ∧ now - g.at_ ≤ (bif side then g.c1 else g.c0) ∧ g.moved now side mine x = (⟨x.1, bif side then g.c0 else g.c0 - (now - g.at_), bif side then g.c1 - (now - g.at_) else g.c1, now, g.wn⟩, 0)) := by
  unfold Gm.moved
  by_cases hr : g.ready now = 0
  · simp only [hr, bne_self_eq_false, cond_false]
    cases mine
    · exact Or.inl ⟨52, rfl, by omega⟩
    by_cases hc : (bif side then g.c1 else g.c0) < now - g.at_
    · simp only [Bool.not_true, cond_false, decide_eq_true hc, cond_true]
      exact Or.inl ⟨51, rfl, by omega⟩
    · simp only [Bool.not_true, cond_false, decide_eq_false hc]
      by_cases h2 : x.2 = 0
      · simp only [h2, bne_self_eq_false, cond_false]
        exact Or.inr ⟨Gm.live_of hr, trivial, by omega, trivial⟩
      · have hb : (x.2 != 0) = true := by simpa using h2
        simp only [hb, cond_true]
        exact Or.inl ⟨_, rfl, h2⟩
  · have hb : (g.ready now != 0) = true := by simpa using hr
    simp only [hb, cond_true]
    exact Or.inl ⟨_, rfl, hr⟩

theorem Gm.turn_posted {g : Gm} {now : Int} (L : g.live now) (hp : g.s.p = true) : g.turn = 1 := by
  unfold Gm.turn
  rw [L.r, L.w, hp]; simp

@[go_sem ↓] theorem Try.eq_gm0 (w : World) : (Op.equalIn 10000 30 (.agg gm0.row.toArray) (.agg gm0.row.toArray)).run Try.prog w = .ok true w := by kernel_rfl

/-- What the last comparison reads: y's clocks, time and winner, the game's clocks and time. -/
def CkS (a b t d0 d1 d2 : Int) (by_ bg : Nat) (W : World) : Prop :=
  W.cell? ⟨by_, 99, none⟩ = some (.int .i64 a) ∧ W.cell? ⟨by_, 100, none⟩ = some (.int .i64 b) ∧ W.cell? ⟨by_, 101, none⟩ = some (.int .i64 t) ∧ W.cell? ⟨by_, 102, none⟩ = some (.int .i64 (-1)) ∧
  W.cell? ⟨bg, 99, none⟩ = some (.int .i64 d0) ∧ W.cell? ⟨bg, 100, none⟩ = some (.int .i64 d1) ∧ W.cell? ⟨bg, 101, none⟩ = some (.int .i64 d2) ∧ by_ < W.heap.size ∧ bg < W.heap.size
theorem CkS.on {a b t d0 d1 d2 : Int} {by_ bg : Nat} {W W' : World} (h : CkS a b t d0 d1 d2 by_ bg W) (hb : Below W.heap.size W W') : CkS a b t d0 d1 d2 by_ bg W' := by
  obtain ⟨h1, h2, h3, h4, h5, h6, h7, l1, l2⟩ := h
  exact ⟨(hb.cell l1).trans h1, (hb.cell l1).trans h2, (hb.cell l1).trans h3, (hb.cell l1).trans h4, (hb.cell l2).trans h5, (hb.cell l2).trans h6, (hb.cell l2).trans h7, by have := hb.size; omega, by have := hb.size; omega⟩

set_option maxRecDepth 100000 in
set_option maxHeartbeats 8000000 in
theorem Clocks_walk {g : Gm} (hg : g.ok) {F : List Int} (hF : F.length = 32) (now : Int) (agree : Bool) (w : World) :
    Calls Try.prog 4 #[.agg g.row.toArray, .int .i64 now, .agg (hc F).toArray, .bool agree] w fun e w' => e = .returned (.bool true) ∧ Below w.heap.size w w' := by
  have hl := hg.s.len
  have hz : gm0.s.row.length = 99 := seg0_len
  have G := (GmAt.new w 44 g).alloc (.cells (hc F).toArray 25)
  have H := HashAt.new (w.alloc (.cells g.row.toArray 44)) F
  have B : Below w.heap.size w ((w.alloc (.cells g.row.toArray 44)).alloc (.cells (hc F).toArray 25)) := by
    repeat (first | with_reducible exact Below.refl _ _ | with_reducible refine Below.alloc ?_ (by simp; try omega) _)
  simp only [World.size_alloc] at H
  obtain ⟨-, -, -, -, -, cg, -⟩ := G.facts hg.s
  go_enter Try.func4, Try.ntmps4
  go_wp2_with fail
  generalize (w.alloc (.cells g.row.toArray 44)).alloc (.cells (hc F).toArray 25) = wa at G H B cg ⊢
  refine (GmOwn_any hg _).mono ?_
  rintro e w1 ⟨rfl, hb⟩
  have G1 := (G.on hb).alloc (.cells g.row.toArray 30)
  have H1 : HashAt (w1.alloc (.cells g.row.toArray 30)) (w.heap.size + 1) F := (H.on hb).alloc (.cells g.row.toArray 30)
  have X1 := GmAt.new w1 30 g
  have B1 := (cthen B hb B.size).alloc (by have := B.size; have := hb.size; omega) (.cells g.row.toArray 30)
  have cx := X1.whole hl
  clear G H B cg hb
  go_wp2_with fail
  generalize hbx : w1.heap.size = bx at X1 cx ⊢
  generalize w1.alloc (.cells g.row.toArray 30) = wb at G1 H1 X1 B1 cx ⊢
  refine (Turn_any hg _).mono ?_
  rintro e w2 ⟨rfl, hb⟩
  have G2 := G1.on hb
  have H2 := H1.on hb
  have X2 := X1.on hb
  have B2 := cthen B1 hb B1.size
  clear G1 H1 X1 B1 cx hb hbx
  have cx := X2.whole hl
  have ch := H2.row hF
  go_wp2_with fail
  refine (GmPost_any hg hF now _).mono ?_
  rintro e w3 ⟨rfl, hb⟩
  have ha := Gm.post_fine hg (now := now) hF
  have PC : (∃ c, g.post now F = (gm0, c) ∧ c ≠ 0) ∨ (g.live now ∧ (g.turn == 0) = true ∧ now - g.at_ ≤ g.c0 ∧ g.post now F = (⟨(g.s.post F).1, g.c0 - (now - g.at_), g.c1, now, g.wn⟩, 0)) := Gm.moved_cases
  generalize hP : g.post now F = pa at ha PC ⊢
  obtain ⟨a, ea⟩ := pa
  simp only at ha PC ⊢
  have hla := ha.s.len
  have G3 := (G2.on hb).alloc (.cells a.row.toArray 30)
  have X3 := (X2.on hb).alloc (.cells a.row.toArray 30)
  have A3 := GmAt.new w3 30 a
  have B3 := (cthen B2 hb B2.size).alloc (by have := B2.size; have := hb.size; omega) (.cells a.row.toArray 30)
  clear G2 H2 X2 B2 cx ch hb
  have cx := X3.whole hl
  go_wp2_with fail
  generalize hba : w3.heap.size = ba at A3 ⊢
  generalize w3.alloc (.cells a.row.toArray 30) = wc at G3 X3 A3 B3 cx ⊢
  refine (GmChoose_any hg agree now _).mono ?_
  rintro e w4 ⟨rfl, hb⟩
  have hB := Gm.choose_fine hg (now := now) (a := agree)
  have CC : (∃ c, g.choose now agree = (gm0, c) ∧ c ≠ 0) ∨ (g.live now ∧ g.s.p = true ∧ now - g.at_ ≤ g.c1 ∧ g.choose now agree = (⟨(g.s.choose agree).1, g.c0, g.c1 - (now - g.at_), now, g.wn⟩, 0)) := Gm.moved_cases
  generalize hC : g.choose now agree = pb at hB CC ⊢
  obtain ⟨b, eb⟩ := pb
  simp only at hB CC ⊢
  have hlb := hB.s.len
  have G4 := (G3.on hb).alloc (.cells b.row.toArray 30)
  have A4 := (A3.on hb).alloc (.cells b.row.toArray 30)
  have B5 := GmAt.new w4 30 b
  have B4 := (cthen B3 hb B3.size).alloc (by have := B3.size; have := hb.size; omega) (.cells b.row.toArray 30)
  clear G3 X3 A3 B3 cx hb hP hC hba
  have ca := A4.whole hla
  have cb := B5.whole hlb
  go_wp2_with fail
  generalize hbb : w4.heap.size = bb at B5 cb ⊢
  generalize w4.alloc (.cells b.row.toArray 30) = wd at G4 A4 B5 B4 ca cb ⊢
  clear hbb
  rcases PC with ⟨ea, he, hc⟩ | ⟨L, htu, hle, he⟩
  · obtain ⟨rfl, e2⟩ := Prod.mk.inj he
    subst e2
    have n1 : (ea != 0) = true := by simpa using hc
    have n2 : decide (ea = 0) = false := by simpa using hc
    have n3 : (ea == 0) = false := by simpa using hc
    rcases CC with ⟨eb, hf, hd⟩ | ⟨L, hpp, hle, hf⟩
    · obtain ⟨rfl, e2⟩ := Prod.mk.inj hf
      subst e2
      have m1 : (eb != 0) = true := by simpa using hd
      have m2 : decide (eb = 0) = false := by simpa using hd
      have m3 : (eb == 0) = false := by simpa using hd
      clear he hf hd hc
      iterate 9 (try (refine (num_any _ _).mono ?_; rintro e w5 ⟨rfl, h5⟩; obtain rfl := h5.symm; clear h5; go_wp2_with fail))
      refine (knows_any _).mono ?_
      rintro e w6 ⟨rfl, hb⟩
      have B6 := cthen B4 hb B4.size
      clear hb B4 A4 B5 G4 ca cb
      go_wp2_with fail
      go_ret
      exact ⟨rfl, B6⟩
    · obtain ⟨hae, rfl⟩ := Prod.mk.inj hf
      replace hae := Lib.hid hae
      have htu := Gm.turn_posted L hpp
      clear he hf hc
      have ⟨t0, t1, t2, l0, l1, l2, l3⟩ : 0 ≤ g.at_ ∧ g.at_ ≤ now ∧ now ≤ 1099511627776 ∧ 0 ≤ g.c0 ∧ g.c0 ≤ 1048576 ∧ 0 ≤ g.c1 ∧ g.c1 ≤ 1048576 := ⟨L.t0, L.t1, L.t2, L.a0, L.a1, L.b0, L.b1⟩
      have hwn := L.w
      clear L
      rw [htu]
      have cb5 := (B5.alloc (.cells gm0.row.toArray 30)).whole hlb
      have Y2 := GmAt.new wd 30 b
      have G6 := G4.alloc (.cells b.row.toArray 30)
      have B7 := B4.alloc B4.size (.cells b.row.toArray 30)
      iterate 9 (try (refine (num_any _ _).mono ?_; rintro e w5 ⟨rfl, h5⟩; obtain rfl := h5.symm; clear h5; go_wp2_with fail))
      generalize (wd.alloc (.cells b.row.toArray 30)) = W at Y2 G6 B7 ⊢
      have hC : CkS (g.c0) (g.c1 - (now - g.at_)) now g.c0 g.c1 g.at_ wd.heap.size w.heap.size W := by
        obtain ⟨-, y0, y1, y2, y3, -, -⟩ := Y2.facts hB.s
        obtain ⟨-, z0, z1, z2, -, -, -⟩ := G6.facts hg.s
        rw [hae.out] at y0 y1 y2 y3
        simp only [hwn] at y0 y1 y2 y3
        exact ⟨y0, y1, y2, y3, z0, z1, z2, Y2.lt, G6.lt⟩
      generalize wd.heap.size = by_ at hC ⊢
      clear Y2 G6 B5 A4 G4 ca cb B4 ha hB
      have g1 : (0 ≤ g.c1 - (now - g.at_)) = True := by simp; omega
      have g2 : decide (0 ≤ g.c1 - (now - g.at_)) = true := by simp; omega
      have g5 : IntKind.i64.wrap 1 = 1 := by decide
      have g6 : IntKind.i64.wrap 0 = 0 := by decide
      have g3 : IntKind.i64.wrap (now - g.at_) = now - g.at_ := by simp [IntKind.wrap, IntKind.bits, IntKind.signed]; omega
      have g4 : IntKind.i64.wrap (g.c1 - (now - g.at_)) = g.c1 - (now - g.at_) := by simp [IntKind.wrap, IntKind.bits, IntKind.signed]; omega
      refine wp_region_held_drew (S := CkS (g.c0) (g.c1 - (now - g.at_)) now g.c0 g.c1 g.at_ by_ w.heap.size) (by kernel_rfl) ((show CkS _ _ _ _ _ _ _ _ W.drew from hC)) (fun h0 => ?_)
      refine wpAnyH_take (i := 0) (v := ?_) (by rw [List.getElem?_toArray]; rfl) (by kernel_rfl) (by kernel_rfl) (by kernel_rfl) (by exact fun _ _ _ h => h) (Or.inl ⟨by rfl, ?_⟩) h0 ?_
      rotate_left
      · intro W hW
        obtain ⟨y0, y1, y2, y3, z0, z1, z2, -, -⟩ := hW
        go_simp
        all_goals with_reducible rfl
      simp only [Act.put, List.setIfInBounds_toArray, List.set_cons_zero, List.set_cons_succ]
      refine wpAnyH_take (i := 1) (v := ?_) (by rw [List.getElem?_toArray]; rfl) (by kernel_rfl) (by kernel_rfl) (by kernel_rfl) (by exact fun _ _ _ h => h) (Or.inl ⟨by rfl, ?_⟩) h0 ?_
      rotate_left
      · intro W hW
        obtain ⟨y0, y1, y2, y3, z0, z1, z2, -, -⟩ := hW
        go_simp
        all_goals with_reducible rfl
      simp only [Act.put, List.setIfInBounds_toArray, List.set_cons_zero, List.set_cons_succ]
      refine wpAnyH_take (i := 2) (v := ?_) (by rw [List.getElem?_toArray]; rfl) (by kernel_rfl) (by kernel_rfl) (by kernel_rfl) (by exact fun _ _ _ h => h) (Or.inl ⟨by rfl, ?_⟩) h0 ?_
      rotate_left
      · intro W hW
        obtain ⟨y0, y1, y2, y3, z0, z1, z2, -, -⟩ := hW
        go_simp
        all_goals with_reducible rfl
      simp only [Act.put, List.setIfInBounds_toArray, List.set_cons_zero, List.set_cons_succ]
      refine wpAnyH_take (i := 3) (v := ?_) (by rw [List.getElem?_toArray]; rfl) (by kernel_rfl) (by kernel_rfl) (by kernel_rfl) (by exact fun _ _ _ h => h) (Or.inl ⟨by rfl, ?_⟩) h0 ?_
      rotate_left
      · intro W hW
        obtain ⟨y0, y1, y2, y3, z0, z1, z2, -, -⟩ := hW
        go_simp
        all_goals with_reducible rfl
      simp only [Act.put, List.setIfInBounds_toArray, List.set_cons_zero, List.set_cons_succ]
      refine wpAnyH_take (i := 4) (v := ?_) (by rw [List.getElem?_toArray]; rfl) (by kernel_rfl) (by kernel_rfl) (by kernel_rfl) (by exact fun _ _ _ h => h) (Or.inl ⟨by rfl, ?_⟩) h0 ?_
      rotate_left
      · intro W hW
        obtain ⟨y0, y1, y2, y3, z0, z1, z2, -, -⟩ := hW
        go_simp
        all_goals with_reducible rfl
      simp only [Act.put, List.setIfInBounds_toArray, List.set_cons_zero, List.set_cons_succ]
      refine wpAnyH_take (i := 5) (v := ?_) (by rw [List.getElem?_toArray]; rfl) (by kernel_rfl) (by kernel_rfl) (by kernel_rfl) (by exact fun _ _ _ h => h) (Or.inl ⟨by rfl, ?_⟩) h0 ?_
      rotate_left
      · intro W hW
        obtain ⟨y0, y1, y2, y3, z0, z1, z2, -, -⟩ := hW
        go_simp
        all_goals with_reducible rfl
      simp only [Act.put, List.setIfInBounds_toArray, List.set_cons_zero, List.set_cons_succ]
      refine wpAnyH_take (i := 6) (v := ?_) (by rw [List.getElem?_toArray]; rfl) (by kernel_rfl) (by kernel_rfl) (by kernel_rfl) (by exact fun _ _ _ h => h) (Or.inl ⟨by rfl, ?_⟩) h0 ?_
      rotate_left
      · intro W hW
        obtain ⟨y0, y1, y2, y3, z0, z1, z2, -, -⟩ := hW
        go_simp
        all_goals with_reducible rfl
      simp only [Act.put, List.setIfInBounds_toArray, List.set_cons_zero, List.set_cons_succ]
      refine wpAnyH_take (i := 7) (v := ?_) (by rw [List.getElem?_toArray]; rfl) (by kernel_rfl) (by kernel_rfl) (by kernel_rfl) (by exact fun _ _ _ h => h) (Or.inl ⟨by rfl, ?_⟩) h0 ?_
      rotate_left
      · intro W hW
        obtain ⟨y0, y1, y2, y3, z0, z1, z2, -, -⟩ := hW
        go_simp
        all_goals with_reducible rfl
      simp only [Act.put, List.setIfInBounds_toArray, List.set_cons_zero, List.set_cons_succ]
      refine wpAnyH_take (i := 8) (v := ?_) (by rw [List.getElem?_toArray]; rfl) (by kernel_rfl) (by kernel_rfl) (by kernel_rfl) (by exact fun _ _ _ h => h) (Or.inl ⟨by rfl, ?_⟩) h0 ?_
      rotate_left
      · intro W hW
        obtain ⟨y0, y1, y2, y3, z0, z1, z2, -, -⟩ := hW
        go_simp
        all_goals with_reducible rfl
      simp only [Act.put, List.setIfInBounds_toArray, List.set_cons_zero, List.set_cons_succ]
      refine wpAnyH_take (i := 9) (v := ?_) (by rw [List.getElem?_toArray]; rfl) (by kernel_rfl) (by kernel_rfl) (by kernel_rfl) (by exact fun _ _ _ h => h) (Or.inl ⟨by rfl, ?_⟩) h0 ?_
      rotate_left
      · intro W hW
        obtain ⟨y0, y1, y2, y3, z0, z1, z2, -, -⟩ := hW
        go_simp
        all_goals with_reducible rfl
      simp only [Act.put, List.setIfInBounds_toArray, List.set_cons_zero, List.set_cons_succ]
      refine wpAnyH_take (i := 10) (v := ?_) (by rw [List.getElem?_toArray]; rfl) (by kernel_rfl) (by kernel_rfl) (by kernel_rfl) (by exact fun _ _ _ h => h) (Or.inl ⟨by rfl, ?_⟩) h0 ?_
      rotate_left
      · intro W hW
        obtain ⟨y0, y1, y2, y3, z0, z1, z2, -, -⟩ := hW
        go_simp
        all_goals with_reducible rfl
      simp only [Act.put, List.setIfInBounds_toArray, List.set_cons_zero, List.set_cons_succ]
      refine wpAnyH_take (i := 11) (v := ?_) (by rw [List.getElem?_toArray]; rfl) (by kernel_rfl) (by kernel_rfl) (by kernel_rfl) (by exact fun _ _ _ h => h) (Or.inl ⟨by rfl, ?_⟩) h0 ?_
      rotate_left
      · intro W hW
        obtain ⟨y0, y1, y2, y3, z0, z1, z2, -, -⟩ := hW
        go_simp
        all_goals with_reducible rfl
      simp only [Act.put, List.setIfInBounds_toArray, List.set_cons_zero, List.set_cons_succ]
      refine wpAnyH_take (i := 12) (v := ?_) (by rw [List.getElem?_toArray]; rfl) (by kernel_rfl) (by kernel_rfl) (by kernel_rfl) (by exact fun _ _ _ h => h) (Or.inl ⟨by rfl, ?_⟩) h0 ?_
      rotate_left
      · intro W hW
        obtain ⟨y0, y1, y2, y3, z0, z1, z2, -, -⟩ := hW
        go_simp
        all_goals with_reducible rfl
      simp only [Act.put, List.setIfInBounds_toArray, List.set_cons_zero, List.set_cons_succ]
      refine wpAnyH_take (i := 13) (v := ?_) (by rw [List.getElem?_toArray]; rfl) (by kernel_rfl) (by kernel_rfl) (by kernel_rfl) (by exact fun _ _ _ h => h) (Or.inl ⟨by rfl, ?_⟩) h0 ?_
      rotate_left
      · intro W hW
        obtain ⟨y0, y1, y2, y3, z0, z1, z2, -, -⟩ := hW
        go_simp
        all_goals with_reducible rfl
      simp only [Act.put, List.setIfInBounds_toArray, List.set_cons_zero, List.set_cons_succ]
      refine wpAnyH_take (i := 14) (v := ?_) (by rw [List.getElem?_toArray]; rfl) (by kernel_rfl) (by kernel_rfl) (by kernel_rfl) (by exact fun _ _ _ h => h) (Or.inl ⟨by rfl, ?_⟩) h0 ?_
      rotate_left
      · intro W hW
        obtain ⟨y0, y1, y2, y3, z0, z1, z2, -, -⟩ := hW
        go_simp
        all_goals with_reducible rfl
      simp only [Act.put, List.setIfInBounds_toArray, List.set_cons_zero, List.set_cons_succ]
      refine wpAnyH_take (i := 15) (v := ?_) (by rw [List.getElem?_toArray]; rfl) (by kernel_rfl) (by kernel_rfl) (by kernel_rfl) (by exact fun _ _ _ h => h) (Or.inl ⟨by rfl, ?_⟩) h0 ?_
      rotate_left
      · intro W hW
        obtain ⟨y0, y1, y2, y3, z0, z1, z2, -, -⟩ := hW
        go_simp
        all_goals with_reducible rfl
      simp only [Act.put, List.setIfInBounds_toArray, List.set_cons_zero, List.set_cons_succ]
      refine wpAnyH_take (i := 16) (v := ?_) (by rw [List.getElem?_toArray]; rfl) (by kernel_rfl) (by kernel_rfl) (by kernel_rfl) (by exact fun _ _ _ h => h) (Or.inl ⟨by rfl, ?_⟩) h0 ?_
      rotate_left
      · intro W hW
        obtain ⟨y0, y1, y2, y3, z0, z1, z2, -, -⟩ := hW
        go_simp
        all_goals with_reducible rfl
      simp only [Act.put, List.setIfInBounds_toArray, List.set_cons_zero, List.set_cons_succ]
      refine wpAnyH_take (i := 17) (v := ?_) (by rw [List.getElem?_toArray]; rfl) (by kernel_rfl) (by kernel_rfl) (by kernel_rfl) (by exact fun _ _ _ h => h) (Or.inl ⟨by rfl, ?_⟩) h0 ?_
      rotate_left
      · intro W hW
        obtain ⟨y0, y1, y2, y3, z0, z1, z2, -, -⟩ := hW
        go_simp
        all_goals with_reducible rfl
      simp only [Act.put, List.setIfInBounds_toArray, List.set_cons_zero, List.set_cons_succ]
      refine wpAnyH_take (i := 18) (v := ?_) (by rw [List.getElem?_toArray]; rfl) (by kernel_rfl) (by kernel_rfl) (by kernel_rfl) (by exact fun _ _ _ h => h) (Or.inl ⟨by rfl, ?_⟩) h0 ?_
      rotate_left
      · intro W hW
        obtain ⟨y0, y1, y2, y3, z0, z1, z2, -, -⟩ := hW
        go_simp
        all_goals with_reducible rfl
      simp only [Act.put, List.setIfInBounds_toArray, List.set_cons_zero, List.set_cons_succ]
      refine wpAnyH_take (i := 19) (v := ?_) (by rw [List.getElem?_toArray]; rfl) (by kernel_rfl) (by kernel_rfl) (by kernel_rfl) (by exact fun _ _ _ h => h) (Or.inl ⟨by rfl, ?_⟩) h0 ?_
      rotate_left
      · intro W hW
        obtain ⟨y0, y1, y2, y3, z0, z1, z2, -, -⟩ := hW
        go_simp
        all_goals with_reducible rfl
      simp only [Act.put, List.setIfInBounds_toArray, List.set_cons_zero, List.set_cons_succ]
      refine wpAnyH_take (i := 20) (v := ?_) (by rw [List.getElem?_toArray]; rfl) (by kernel_rfl) (by kernel_rfl) (by kernel_rfl) (by exact fun _ _ _ h => h) (Or.inl ⟨by rfl, ?_⟩) h0 ?_
      rotate_left
      · intro W hW
        obtain ⟨y0, y1, y2, y3, z0, z1, z2, -, -⟩ := hW
        go_simp
        all_goals with_reducible rfl
      simp only [Act.put, List.setIfInBounds_toArray, List.set_cons_zero, List.set_cons_succ]
      refine wpAnyH_take (i := 21) (v := ?_) (by rw [List.getElem?_toArray]; rfl) (by kernel_rfl) (by kernel_rfl) (by kernel_rfl) (by exact fun _ _ _ h => h) (Or.inl ⟨by rfl, ?_⟩) h0 ?_
      rotate_left
      · intro W hW
        obtain ⟨y0, y1, y2, y3, z0, z1, z2, -, -⟩ := hW
        go_simp
        all_goals with_reducible rfl
      simp only [Act.put, List.setIfInBounds_toArray, List.set_cons_zero, List.set_cons_succ]
      refine wpAnyH_take (i := 22) (v := ?_) (by rw [List.getElem?_toArray]; rfl) (by kernel_rfl) (by kernel_rfl) (by kernel_rfl) (by exact fun _ _ _ h => h) (Or.inl ⟨by rfl, ?_⟩) h0 ?_
      rotate_left
      · intro W hW
        obtain ⟨y0, y1, y2, y3, z0, z1, z2, -, -⟩ := hW
        go_simp
        all_goals with_reducible rfl
      simp only [Act.put, List.setIfInBounds_toArray, List.set_cons_zero, List.set_cons_succ]
      refine wpAnyH_take (i := 23) (v := ?_) (by rw [List.getElem?_toArray]; rfl) (by kernel_rfl) (by kernel_rfl) (by kernel_rfl) (by exact fun _ _ _ h => h) (Or.inl ⟨by rfl, ?_⟩) h0 ?_
      rotate_left
      · intro W hW
        obtain ⟨y0, y1, y2, y3, z0, z1, z2, -, -⟩ := hW
        go_simp
        all_goals with_reducible rfl
      simp only [Act.put, List.setIfInBounds_toArray, List.set_cons_zero, List.set_cons_succ]
      refine wpAnyH_take (i := 24) (v := ?_) (by rw [List.getElem?_toArray]; rfl) (by kernel_rfl) (by kernel_rfl) (by kernel_rfl) (by exact fun _ _ _ h => h) (Or.inl ⟨by rfl, ?_⟩) h0 ?_
      rotate_left
      · intro W hW
        obtain ⟨y0, y1, y2, y3, z0, z1, z2, -, -⟩ := hW
        go_simp
        all_goals with_reducible rfl
      simp only [Act.put, List.setIfInBounds_toArray, List.set_cons_zero, List.set_cons_succ]
      refine wpAnyH_take (i := 25) (v := ?_) (by rw [List.getElem?_toArray]; rfl) (by kernel_rfl) (by kernel_rfl) (by kernel_rfl) (by exact fun _ _ _ h => h) (Or.inl ⟨by rfl, ?_⟩) h0 ?_
      rotate_left
      · intro W hW
        obtain ⟨y0, y1, y2, y3, z0, z1, z2, -, -⟩ := hW
        go_simp
        all_goals with_reducible rfl
      simp only [Act.put, List.setIfInBounds_toArray, List.set_cons_zero, List.set_cons_succ]
      refine wpAnyH_take (i := 26) (v := ?_) (by rw [List.getElem?_toArray]; rfl) (by kernel_rfl) (by kernel_rfl) (by kernel_rfl) (by exact fun _ _ _ h => h) (Or.inl ⟨by rfl, ?_⟩) h0 ?_
      rotate_left
      · intro W hW
        obtain ⟨y0, y1, y2, y3, z0, z1, z2, -, -⟩ := hW
        go_simp
        all_goals with_reducible rfl
      simp only [Act.put, List.setIfInBounds_toArray, List.set_cons_zero, List.set_cons_succ]
      refine wpAnyH_take (i := 27) (v := ?_) (by rw [List.getElem?_toArray]; rfl) (by kernel_rfl) (by kernel_rfl) (by kernel_rfl) (by exact fun _ _ _ h => h) (Or.inl ⟨by rfl, ?_⟩) h0 ?_
      rotate_left
      · intro W hW
        obtain ⟨y0, y1, y2, y3, z0, z1, z2, -, -⟩ := hW
        go_simp
        all_goals with_reducible rfl
      simp only [Act.put, List.setIfInBounds_toArray, List.set_cons_zero, List.set_cons_succ]
      refine wpAnyH_take (i := 28) (v := ?_) (by rw [List.getElem?_toArray]; rfl) (by kernel_rfl) (by kernel_rfl) (by kernel_rfl) (by exact fun _ _ _ h => h) (Or.inl ⟨by rfl, ?_⟩) h0 ?_
      rotate_left
      · intro W hW
        obtain ⟨y0, y1, y2, y3, z0, z1, z2, -, -⟩ := hW
        go_simp
        all_goals with_reducible rfl
      simp only [Act.put, List.setIfInBounds_toArray, List.set_cons_zero, List.set_cons_succ]
      refine wpAnyH_take (i := 29) (v := ?_) (by rw [List.getElem?_toArray]; rfl) (by kernel_rfl) (by kernel_rfl) (by kernel_rfl) (by exact fun _ _ _ h => h) (Or.inl ⟨by rfl, ?_⟩) h0 ?_
      rotate_left
      · intro W hW
        obtain ⟨y0, y1, y2, y3, z0, z1, z2, -, -⟩ := hW
        go_simp
        all_goals with_reducible rfl
      simp only [Act.put, List.setIfInBounds_toArray, List.set_cons_zero, List.set_cons_succ]
      refine wpAnyH_take (i := 30) (v := ?_) (by rw [List.getElem?_toArray]; rfl) (by kernel_rfl) (by kernel_rfl) (by kernel_rfl) (by exact fun _ _ _ h => h) (Or.inl ⟨by rfl, ?_⟩) h0 ?_
      rotate_left
      · intro W hW
        obtain ⟨y0, y1, y2, y3, z0, z1, z2, -, -⟩ := hW
        go_simp
        all_goals with_reducible rfl
      simp only [Act.put, List.setIfInBounds_toArray, List.set_cons_zero, List.set_cons_succ]
      refine wpAnyH_take (i := 31) (v := ?_) (by rw [List.getElem?_toArray]; rfl) (by kernel_rfl) (by kernel_rfl) (by kernel_rfl) (by exact fun _ _ _ h => h) (Or.inl ⟨by rfl, ?_⟩) h0 ?_
      rotate_left
      · intro W hW
        obtain ⟨y0, y1, y2, y3, z0, z1, z2, -, -⟩ := hW
        go_simp
        all_goals with_reducible rfl
      simp only [Act.put, List.setIfInBounds_toArray, List.set_cons_zero, List.set_cons_succ]
      refine wpAnyH_take (i := 32) (v := ?_) (by rw [List.getElem?_toArray]; rfl) (by kernel_rfl) (by kernel_rfl) (by kernel_rfl) (by exact fun _ _ _ h => h) (Or.inl ⟨by rfl, ?_⟩) h0 ?_
      rotate_left
      · intro W hW
        obtain ⟨y0, y1, y2, y3, z0, z1, z2, -, -⟩ := hW
        go_simp
        all_goals with_reducible rfl
      simp only [Act.put, List.setIfInBounds_toArray, List.set_cons_zero, List.set_cons_succ]
      refine wpAnyH_take (i := 33) (v := ?_) (by rw [List.getElem?_toArray]; rfl) (by kernel_rfl) (by kernel_rfl) (by kernel_rfl) (by exact fun _ _ _ h => h) (Or.inl ⟨by rfl, ?_⟩) h0 ?_
      rotate_left
      · intro W hW
        obtain ⟨y0, y1, y2, y3, z0, z1, z2, -, -⟩ := hW
        go_simp
        all_goals with_reducible rfl
      simp only [Act.put, List.setIfInBounds_toArray, List.set_cons_zero, List.set_cons_succ]
      refine wpAnyH_take (i := 34) (v := ?_) (by rw [List.getElem?_toArray]; rfl) (by kernel_rfl) (by kernel_rfl) (by kernel_rfl) (by exact fun _ _ _ h => h) (Or.inl ⟨by rfl, ?_⟩) h0 ?_
      rotate_left
      · intro W hW
        obtain ⟨y0, y1, y2, y3, z0, z1, z2, -, -⟩ := hW
        go_simp
        all_goals with_reducible rfl
      simp only [Act.put, List.setIfInBounds_toArray, List.set_cons_zero, List.set_cons_succ]
      refine wpAnyH_take (i := 35) (v := ?_) (by rw [List.getElem?_toArray]; rfl) (by kernel_rfl) (by kernel_rfl) (by kernel_rfl) (by exact fun _ _ _ h => h) (Or.inl ⟨by rfl, ?_⟩) h0 ?_
      rotate_left
      · intro W hW
        obtain ⟨y0, y1, y2, y3, z0, z1, z2, -, -⟩ := hW
        go_simp
        all_goals with_reducible rfl
      simp only [Act.put, List.setIfInBounds_toArray, List.set_cons_zero, List.set_cons_succ]
      refine wpAnyH_take (i := 36) (v := ?_) (by rw [List.getElem?_toArray]; rfl) (by kernel_rfl) (by kernel_rfl) (by kernel_rfl) (by exact fun _ _ _ h => h) (Or.inl ⟨by rfl, ?_⟩) h0 ?_
      rotate_left
      · intro W hW
        obtain ⟨y0, y1, y2, y3, z0, z1, z2, -, -⟩ := hW
        go_simp
        all_goals with_reducible rfl
      simp only [Act.put, List.setIfInBounds_toArray, List.set_cons_zero, List.set_cons_succ]
      refine wpAnyH_take (i := 37) (v := ?_) (by rw [List.getElem?_toArray]; rfl) (by kernel_rfl) (by kernel_rfl) (by kernel_rfl) (by exact fun _ _ _ h => h) (Or.inl ⟨by rfl, ?_⟩) h0 ?_
      rotate_left
      · intro W hW
        obtain ⟨y0, y1, y2, y3, z0, z1, z2, -, -⟩ := hW
        go_simp
        all_goals with_reducible rfl
      simp only [Act.put, List.setIfInBounds_toArray, List.set_cons_zero, List.set_cons_succ]
      refine wpAnyH_take (i := 38) (v := ?_) (by rw [List.getElem?_toArray]; rfl) (by kernel_rfl) (by kernel_rfl) (by kernel_rfl) (by exact fun _ _ _ h => h) (Or.inl ⟨by rfl, ?_⟩) h0 ?_
      rotate_left
      · intro W hW
        obtain ⟨y0, y1, y2, y3, z0, z1, z2, -, -⟩ := hW
        go_simp
        all_goals with_reducible rfl
      simp only [Act.put, List.setIfInBounds_toArray, List.set_cons_zero, List.set_cons_succ]
      refine wpAnyH_take (i := 39) (v := ?_) (by rw [List.getElem?_toArray]; rfl) (by kernel_rfl) (by kernel_rfl) (by kernel_rfl) (by exact fun _ _ _ h => h) (Or.inl ⟨by rfl, ?_⟩) h0 ?_
      rotate_left
      · intro W hW
        obtain ⟨y0, y1, y2, y3, z0, z1, z2, -, -⟩ := hW
        go_simp
        all_goals with_reducible rfl
      simp only [Act.put, List.setIfInBounds_toArray, List.set_cons_zero, List.set_cons_succ]
      refine wpAnyH_take (i := 40) (v := ?_) (by rw [List.getElem?_toArray]; rfl) (by kernel_rfl) (by kernel_rfl) (by kernel_rfl) (by exact fun _ _ _ h => h) (Or.inl ⟨by rfl, ?_⟩) h0 ?_
      rotate_left
      · intro W hW
        obtain ⟨y0, y1, y2, y3, z0, z1, z2, -, -⟩ := hW
        go_simp
        all_goals with_reducible rfl
      simp only [Act.put, List.setIfInBounds_toArray, List.set_cons_zero, List.set_cons_succ]
      refine wpAnyH_take (i := 41) (v := ?_) (by rw [List.getElem?_toArray]; rfl) (by kernel_rfl) (by kernel_rfl) (by kernel_rfl) (by exact fun _ _ _ h => h) (Or.inl ⟨by rfl, ?_⟩) h0 ?_
      rotate_left
      · intro W hW
        obtain ⟨y0, y1, y2, y3, z0, z1, z2, -, -⟩ := hW
        go_simp
        all_goals with_reducible rfl
      simp only [Act.put, List.setIfInBounds_toArray, List.set_cons_zero, List.set_cons_succ]
      refine wpAnyH_take (i := 42) (v := ?_) (by rw [List.getElem?_toArray]; rfl) (by kernel_rfl) (by kernel_rfl) (by kernel_rfl) (by exact fun _ _ _ h => h) (Or.inl ⟨by rfl, ?_⟩) h0 ?_
      rotate_left
      · intro W hW
        obtain ⟨y0, y1, y2, y3, z0, z1, z2, -, -⟩ := hW
        go_simp
        all_goals with_reducible rfl
      simp only [Act.put, List.setIfInBounds_toArray, List.set_cons_zero, List.set_cons_succ]
      refine wpAnyH_take (i := 43) (v := ?_) (by rw [List.getElem?_toArray]; rfl) (by kernel_rfl) (by kernel_rfl) (by kernel_rfl) (by exact fun _ _ _ h => h) (Or.inl ⟨by rfl, ?_⟩) h0 ?_
      rotate_left
      · intro W hW
        obtain ⟨y0, y1, y2, y3, z0, z1, z2, -, -⟩ := hW
        go_simp
        all_goals with_reducible rfl
      simp only [Act.put, List.setIfInBounds_toArray, List.set_cons_zero, List.set_cons_succ]
      refine wpAnyH_take (i := 44) (v := ?_) (by rw [List.getElem?_toArray]; rfl) (by kernel_rfl) (by kernel_rfl) (by kernel_rfl) (by exact fun _ _ _ h => h) (Or.inl ⟨by rfl, ?_⟩) h0 ?_
      rotate_left
      · intro W hW
        obtain ⟨y0, y1, y2, y3, z0, z1, z2, -, -⟩ := hW
        go_simp
        all_goals with_reducible rfl
      simp only [Act.put, List.setIfInBounds_toArray, List.set_cons_zero, List.set_cons_succ]
      refine wpAnyH_take (i := 45) (v := ?_) (by rw [List.getElem?_toArray]; rfl) (by kernel_rfl) (by kernel_rfl) (by kernel_rfl) (by exact fun _ _ _ h => h) (Or.inl ⟨by rfl, ?_⟩) h0 ?_
      rotate_left
      · intro W hW
        obtain ⟨y0, y1, y2, y3, z0, z1, z2, -, -⟩ := hW
        go_simp
        all_goals with_reducible rfl
      simp only [Act.put, List.setIfInBounds_toArray, List.set_cons_zero, List.set_cons_succ]
      refine wpAnyH_ready (rs := [46]) (by kernel_rfl) (by simp) ?_
      refine AllReadyH.cons (by rw [List.getElem?_toArray]; rfl) (fun K hK => ?_) AllReadyH.nil
      rw [if_pos (by rfl)]
      go_wp2_with fail
      refine (knows_any _).mono ?_
      rintro e w6 ⟨rfl, hb⟩
      go_wp2_with fail
      refine hK.out _ _ (h0.on hb) (fun h01 => ?_)
      clear hK K
      refine wpAnyH_take (i := 47) (v := ?_) (by rw [List.getElem?_toArray]; rfl) (by kernel_rfl) (by kernel_rfl) (by kernel_rfl) (by exact fun _ _ _ h => h) (Or.inl ⟨by rfl, ?_⟩) h01 ?_
      rotate_left
      · intro W hW
        obtain ⟨y0, y1, y2, y3, z0, z1, z2, -, -⟩ := hW
        go_simp
        all_goals with_reducible rfl
      simp only [Act.put, List.setIfInBounds_toArray, List.set_cons_zero, List.set_cons_succ]
      refine wpAnyH_ready (rs := [48]) (by kernel_rfl) (by simp) ?_
      refine AllReadyH.cons (by rw [List.getElem?_toArray]; rfl) (fun K hK => ?_) AllReadyH.nil
      rw [if_pos (by rfl)]
      go_wp2_with fail
      refine hK.out _ _ (h01) (fun h02 => ?_)
      clear hK K
      refine wpAnyH_done (by kernel_rfl) ?_ _
      have B9 : Below w.heap.size w w6 := cthen B7.drew hb B7.drew.size
      go_wp2_with fail
      go_ret
      exact ⟨rfl, B9⟩
  · obtain ⟨hae, rfl⟩ := Prod.mk.inj he
    replace hae := Lib.hid hae
    have htu : g.turn = 0 := by simpa using htu
    rcases CC with ⟨eb, hf, hd⟩ | ⟨L, hpp, hle, hf⟩
    · obtain ⟨rfl, e2⟩ := Prod.mk.inj hf
      subst e2
      have m1 : (eb != 0) = true := by simpa using hd
      have m2 : decide (eb = 0) = false := by simpa using hd
      have m3 : (eb == 0) = false := by simpa using hd
      clear he hf hd
      have ⟨t0, t1, t2, l0, l1, l2, l3⟩ : 0 ≤ g.at_ ∧ g.at_ ≤ now ∧ now ≤ 1099511627776 ∧ 0 ≤ g.c0 ∧ g.c0 ≤ 1048576 ∧ 0 ≤ g.c1 ∧ g.c1 ≤ 1048576 := ⟨L.t0, L.t1, L.t2, L.a0, L.a1, L.b0, L.b1⟩
      have hwn := L.w
      clear L
      rw [htu]
      have Y2 := GmAt.new wd 30 a
      have G6 := G4.alloc (.cells a.row.toArray 30)
      have B7 := B4.alloc B4.size (.cells a.row.toArray 30)
      iterate 9 (try (refine (num_any _ _).mono ?_; rintro e w5 ⟨rfl, h5⟩; obtain rfl := h5.symm; clear h5; go_wp2_with fail))
      generalize (wd.alloc (.cells a.row.toArray 30)) = W at Y2 G6 B7 ⊢
      have hC : CkS (g.c0 - (now - g.at_)) (g.c1) now g.c0 g.c1 g.at_ wd.heap.size w.heap.size W := by
        obtain ⟨-, y0, y1, y2, y3, -, -⟩ := Y2.facts ha.s
        obtain ⟨-, z0, z1, z2, -, -, -⟩ := G6.facts hg.s
        rw [hae.out] at y0 y1 y2 y3
        simp only [hwn] at y0 y1 y2 y3
        exact ⟨y0, y1, y2, y3, z0, z1, z2, Y2.lt, G6.lt⟩
      generalize wd.heap.size = by_ at hC ⊢
      clear Y2 G6 B5 A4 G4 ca cb B4 ha hB
      have g1 : (0 ≤ g.c0 - (now - g.at_)) = True := by simp; omega
      have g2 : decide (0 ≤ g.c0 - (now - g.at_)) = true := by simp; omega
      have g5 : IntKind.i64.wrap 1 = 1 := by decide
      have g6 : IntKind.i64.wrap 0 = 0 := by decide
      have g3 : IntKind.i64.wrap (now - g.at_) = now - g.at_ := by simp [IntKind.wrap, IntKind.bits, IntKind.signed]; omega
      have g4 : IntKind.i64.wrap (g.c0 - (now - g.at_)) = g.c0 - (now - g.at_) := by simp [IntKind.wrap, IntKind.bits, IntKind.signed]; omega
      refine wp_region_held_drew (S := CkS (g.c0 - (now - g.at_)) (g.c1) now g.c0 g.c1 g.at_ by_ w.heap.size) (by kernel_rfl) ((show CkS _ _ _ _ _ _ _ _ W.drew from hC)) (fun h0 => ?_)
      refine wpAnyH_take (i := 0) (v := ?_) (by rw [List.getElem?_toArray]; rfl) (by kernel_rfl) (by kernel_rfl) (by kernel_rfl) (by exact fun _ _ _ h => h) (Or.inl ⟨by rfl, ?_⟩) h0 ?_
      rotate_left
      · intro W hW
        obtain ⟨y0, y1, y2, y3, z0, z1, z2, -, -⟩ := hW
        go_simp
        all_goals with_reducible rfl
      simp only [Act.put, List.setIfInBounds_toArray, List.set_cons_zero, List.set_cons_succ]
      refine wpAnyH_take (i := 1) (v := ?_) (by rw [List.getElem?_toArray]; rfl) (by kernel_rfl) (by kernel_rfl) (by kernel_rfl) (by exact fun _ _ _ h => h) (Or.inl ⟨by rfl, ?_⟩) h0 ?_
      rotate_left
      · intro W hW
        obtain ⟨y0, y1, y2, y3, z0, z1, z2, -, -⟩ := hW
        go_simp
        all_goals with_reducible rfl
      simp only [Act.put, List.setIfInBounds_toArray, List.set_cons_zero, List.set_cons_succ]
      refine wpAnyH_take (i := 2) (v := ?_) (by rw [List.getElem?_toArray]; rfl) (by kernel_rfl) (by kernel_rfl) (by kernel_rfl) (by exact fun _ _ _ h => h) (Or.inl ⟨by rfl, ?_⟩) h0 ?_
      rotate_left
      · intro W hW
        obtain ⟨y0, y1, y2, y3, z0, z1, z2, -, -⟩ := hW
        go_simp
        all_goals with_reducible rfl
      simp only [Act.put, List.setIfInBounds_toArray, List.set_cons_zero, List.set_cons_succ]
      refine wpAnyH_take (i := 3) (v := ?_) (by rw [List.getElem?_toArray]; rfl) (by kernel_rfl) (by kernel_rfl) (by kernel_rfl) (by exact fun _ _ _ h => h) (Or.inl ⟨by rfl, ?_⟩) h0 ?_
      rotate_left
      · intro W hW
        obtain ⟨y0, y1, y2, y3, z0, z1, z2, -, -⟩ := hW
        go_simp
        all_goals with_reducible rfl
      simp only [Act.put, List.setIfInBounds_toArray, List.set_cons_zero, List.set_cons_succ]
      refine wpAnyH_take (i := 4) (v := ?_) (by rw [List.getElem?_toArray]; rfl) (by kernel_rfl) (by kernel_rfl) (by kernel_rfl) (by exact fun _ _ _ h => h) (Or.inl ⟨by rfl, ?_⟩) h0 ?_
      rotate_left
      · intro W hW
        obtain ⟨y0, y1, y2, y3, z0, z1, z2, -, -⟩ := hW
        go_simp
        all_goals with_reducible rfl
      simp only [Act.put, List.setIfInBounds_toArray, List.set_cons_zero, List.set_cons_succ]
      refine wpAnyH_take (i := 5) (v := ?_) (by rw [List.getElem?_toArray]; rfl) (by kernel_rfl) (by kernel_rfl) (by kernel_rfl) (by exact fun _ _ _ h => h) (Or.inl ⟨by rfl, ?_⟩) h0 ?_
      rotate_left
      · intro W hW
        obtain ⟨y0, y1, y2, y3, z0, z1, z2, -, -⟩ := hW
        go_simp
        all_goals with_reducible rfl
      simp only [Act.put, List.setIfInBounds_toArray, List.set_cons_zero, List.set_cons_succ]
      refine wpAnyH_take (i := 6) (v := ?_) (by rw [List.getElem?_toArray]; rfl) (by kernel_rfl) (by kernel_rfl) (by kernel_rfl) (by exact fun _ _ _ h => h) (Or.inl ⟨by rfl, ?_⟩) h0 ?_
      rotate_left
      · intro W hW
        obtain ⟨y0, y1, y2, y3, z0, z1, z2, -, -⟩ := hW
        go_simp
        all_goals with_reducible rfl
      simp only [Act.put, List.setIfInBounds_toArray, List.set_cons_zero, List.set_cons_succ]
      refine wpAnyH_take (i := 7) (v := ?_) (by rw [List.getElem?_toArray]; rfl) (by kernel_rfl) (by kernel_rfl) (by kernel_rfl) (by exact fun _ _ _ h => h) (Or.inl ⟨by rfl, ?_⟩) h0 ?_
      rotate_left
      · intro W hW
        obtain ⟨y0, y1, y2, y3, z0, z1, z2, -, -⟩ := hW
        go_simp
        all_goals with_reducible rfl
      simp only [Act.put, List.setIfInBounds_toArray, List.set_cons_zero, List.set_cons_succ]
      refine wpAnyH_take (i := 8) (v := ?_) (by rw [List.getElem?_toArray]; rfl) (by kernel_rfl) (by kernel_rfl) (by kernel_rfl) (by exact fun _ _ _ h => h) (Or.inl ⟨by rfl, ?_⟩) h0 ?_
      rotate_left
      · intro W hW
        obtain ⟨y0, y1, y2, y3, z0, z1, z2, -, -⟩ := hW
        go_simp
        all_goals with_reducible rfl
      simp only [Act.put, List.setIfInBounds_toArray, List.set_cons_zero, List.set_cons_succ]
      refine wpAnyH_take (i := 9) (v := ?_) (by rw [List.getElem?_toArray]; rfl) (by kernel_rfl) (by kernel_rfl) (by kernel_rfl) (by exact fun _ _ _ h => h) (Or.inl ⟨by rfl, ?_⟩) h0 ?_
      rotate_left
      · intro W hW
        obtain ⟨y0, y1, y2, y3, z0, z1, z2, -, -⟩ := hW
        go_simp
        all_goals with_reducible rfl
      simp only [Act.put, List.setIfInBounds_toArray, List.set_cons_zero, List.set_cons_succ]
      refine wpAnyH_take (i := 10) (v := ?_) (by rw [List.getElem?_toArray]; rfl) (by kernel_rfl) (by kernel_rfl) (by kernel_rfl) (by exact fun _ _ _ h => h) (Or.inl ⟨by rfl, ?_⟩) h0 ?_
      rotate_left
      · intro W hW
        obtain ⟨y0, y1, y2, y3, z0, z1, z2, -, -⟩ := hW
        go_simp
        all_goals with_reducible rfl
      simp only [Act.put, List.setIfInBounds_toArray, List.set_cons_zero, List.set_cons_succ]
      refine wpAnyH_take (i := 11) (v := ?_) (by rw [List.getElem?_toArray]; rfl) (by kernel_rfl) (by kernel_rfl) (by kernel_rfl) (by exact fun _ _ _ h => h) (Or.inl ⟨by rfl, ?_⟩) h0 ?_
      rotate_left
      · intro W hW
        obtain ⟨y0, y1, y2, y3, z0, z1, z2, -, -⟩ := hW
        go_simp
        all_goals with_reducible rfl
      simp only [Act.put, List.setIfInBounds_toArray, List.set_cons_zero, List.set_cons_succ]
      refine wpAnyH_take (i := 12) (v := ?_) (by rw [List.getElem?_toArray]; rfl) (by kernel_rfl) (by kernel_rfl) (by kernel_rfl) (by exact fun _ _ _ h => h) (Or.inl ⟨by rfl, ?_⟩) h0 ?_
      rotate_left
      · intro W hW
        obtain ⟨y0, y1, y2, y3, z0, z1, z2, -, -⟩ := hW
        go_simp
        all_goals with_reducible rfl
      simp only [Act.put, List.setIfInBounds_toArray, List.set_cons_zero, List.set_cons_succ]
      refine wpAnyH_take (i := 13) (v := ?_) (by rw [List.getElem?_toArray]; rfl) (by kernel_rfl) (by kernel_rfl) (by kernel_rfl) (by exact fun _ _ _ h => h) (Or.inl ⟨by rfl, ?_⟩) h0 ?_
      rotate_left
      · intro W hW
        obtain ⟨y0, y1, y2, y3, z0, z1, z2, -, -⟩ := hW
        go_simp
        all_goals with_reducible rfl
      simp only [Act.put, List.setIfInBounds_toArray, List.set_cons_zero, List.set_cons_succ]
      refine wpAnyH_take (i := 14) (v := ?_) (by rw [List.getElem?_toArray]; rfl) (by kernel_rfl) (by kernel_rfl) (by kernel_rfl) (by exact fun _ _ _ h => h) (Or.inl ⟨by rfl, ?_⟩) h0 ?_
      rotate_left
      · intro W hW
        obtain ⟨y0, y1, y2, y3, z0, z1, z2, -, -⟩ := hW
        go_simp
        all_goals with_reducible rfl
      simp only [Act.put, List.setIfInBounds_toArray, List.set_cons_zero, List.set_cons_succ]
      refine wpAnyH_take (i := 15) (v := ?_) (by rw [List.getElem?_toArray]; rfl) (by kernel_rfl) (by kernel_rfl) (by kernel_rfl) (by exact fun _ _ _ h => h) (Or.inl ⟨by rfl, ?_⟩) h0 ?_
      rotate_left
      · intro W hW
        obtain ⟨y0, y1, y2, y3, z0, z1, z2, -, -⟩ := hW
        go_simp
        all_goals with_reducible rfl
      simp only [Act.put, List.setIfInBounds_toArray, List.set_cons_zero, List.set_cons_succ]
      refine wpAnyH_take (i := 16) (v := ?_) (by rw [List.getElem?_toArray]; rfl) (by kernel_rfl) (by kernel_rfl) (by kernel_rfl) (by exact fun _ _ _ h => h) (Or.inl ⟨by rfl, ?_⟩) h0 ?_
      rotate_left
      · intro W hW
        obtain ⟨y0, y1, y2, y3, z0, z1, z2, -, -⟩ := hW
        go_simp
        all_goals with_reducible rfl
      simp only [Act.put, List.setIfInBounds_toArray, List.set_cons_zero, List.set_cons_succ]
      refine wpAnyH_take (i := 17) (v := ?_) (by rw [List.getElem?_toArray]; rfl) (by kernel_rfl) (by kernel_rfl) (by kernel_rfl) (by exact fun _ _ _ h => h) (Or.inl ⟨by rfl, ?_⟩) h0 ?_
      rotate_left
      · intro W hW
        obtain ⟨y0, y1, y2, y3, z0, z1, z2, -, -⟩ := hW
        go_simp
        all_goals with_reducible rfl
      simp only [Act.put, List.setIfInBounds_toArray, List.set_cons_zero, List.set_cons_succ]
      refine wpAnyH_take (i := 18) (v := ?_) (by rw [List.getElem?_toArray]; rfl) (by kernel_rfl) (by kernel_rfl) (by kernel_rfl) (by exact fun _ _ _ h => h) (Or.inl ⟨by rfl, ?_⟩) h0 ?_
      rotate_left
      · intro W hW
        obtain ⟨y0, y1, y2, y3, z0, z1, z2, -, -⟩ := hW
        go_simp
        all_goals with_reducible rfl
      simp only [Act.put, List.setIfInBounds_toArray, List.set_cons_zero, List.set_cons_succ]
      refine wpAnyH_take (i := 19) (v := ?_) (by rw [List.getElem?_toArray]; rfl) (by kernel_rfl) (by kernel_rfl) (by kernel_rfl) (by exact fun _ _ _ h => h) (Or.inl ⟨by rfl, ?_⟩) h0 ?_
      rotate_left
      · intro W hW
        obtain ⟨y0, y1, y2, y3, z0, z1, z2, -, -⟩ := hW
        go_simp
        all_goals with_reducible rfl
      simp only [Act.put, List.setIfInBounds_toArray, List.set_cons_zero, List.set_cons_succ]
      refine wpAnyH_take (i := 20) (v := ?_) (by rw [List.getElem?_toArray]; rfl) (by kernel_rfl) (by kernel_rfl) (by kernel_rfl) (by exact fun _ _ _ h => h) (Or.inl ⟨by rfl, ?_⟩) h0 ?_
      rotate_left
      · intro W hW
        obtain ⟨y0, y1, y2, y3, z0, z1, z2, -, -⟩ := hW
        go_simp
        all_goals with_reducible rfl
      simp only [Act.put, List.setIfInBounds_toArray, List.set_cons_zero, List.set_cons_succ]
      refine wpAnyH_take (i := 21) (v := ?_) (by rw [List.getElem?_toArray]; rfl) (by kernel_rfl) (by kernel_rfl) (by kernel_rfl) (by exact fun _ _ _ h => h) (Or.inl ⟨by rfl, ?_⟩) h0 ?_
      rotate_left
      · intro W hW
        obtain ⟨y0, y1, y2, y3, z0, z1, z2, -, -⟩ := hW
        go_simp
        all_goals with_reducible rfl
      simp only [Act.put, List.setIfInBounds_toArray, List.set_cons_zero, List.set_cons_succ]
      refine wpAnyH_take (i := 22) (v := ?_) (by rw [List.getElem?_toArray]; rfl) (by kernel_rfl) (by kernel_rfl) (by kernel_rfl) (by exact fun _ _ _ h => h) (Or.inl ⟨by rfl, ?_⟩) h0 ?_
      rotate_left
      · intro W hW
        obtain ⟨y0, y1, y2, y3, z0, z1, z2, -, -⟩ := hW
        go_simp
        all_goals with_reducible rfl
      simp only [Act.put, List.setIfInBounds_toArray, List.set_cons_zero, List.set_cons_succ]
      refine wpAnyH_take (i := 23) (v := ?_) (by rw [List.getElem?_toArray]; rfl) (by kernel_rfl) (by kernel_rfl) (by kernel_rfl) (by exact fun _ _ _ h => h) (Or.inl ⟨by rfl, ?_⟩) h0 ?_
      rotate_left
      · intro W hW
        obtain ⟨y0, y1, y2, y3, z0, z1, z2, -, -⟩ := hW
        go_simp
        all_goals with_reducible rfl
      simp only [Act.put, List.setIfInBounds_toArray, List.set_cons_zero, List.set_cons_succ]
      refine wpAnyH_take (i := 24) (v := ?_) (by rw [List.getElem?_toArray]; rfl) (by kernel_rfl) (by kernel_rfl) (by kernel_rfl) (by exact fun _ _ _ h => h) (Or.inl ⟨by rfl, ?_⟩) h0 ?_
      rotate_left
      · intro W hW
        obtain ⟨y0, y1, y2, y3, z0, z1, z2, -, -⟩ := hW
        go_simp
        all_goals with_reducible rfl
      simp only [Act.put, List.setIfInBounds_toArray, List.set_cons_zero, List.set_cons_succ]
      refine wpAnyH_take (i := 25) (v := ?_) (by rw [List.getElem?_toArray]; rfl) (by kernel_rfl) (by kernel_rfl) (by kernel_rfl) (by exact fun _ _ _ h => h) (Or.inl ⟨by rfl, ?_⟩) h0 ?_
      rotate_left
      · intro W hW
        obtain ⟨y0, y1, y2, y3, z0, z1, z2, -, -⟩ := hW
        go_simp
        all_goals with_reducible rfl
      simp only [Act.put, List.setIfInBounds_toArray, List.set_cons_zero, List.set_cons_succ]
      refine wpAnyH_take (i := 26) (v := ?_) (by rw [List.getElem?_toArray]; rfl) (by kernel_rfl) (by kernel_rfl) (by kernel_rfl) (by exact fun _ _ _ h => h) (Or.inl ⟨by rfl, ?_⟩) h0 ?_
      rotate_left
      · intro W hW
        obtain ⟨y0, y1, y2, y3, z0, z1, z2, -, -⟩ := hW
        go_simp
        all_goals with_reducible rfl
      simp only [Act.put, List.setIfInBounds_toArray, List.set_cons_zero, List.set_cons_succ]
      refine wpAnyH_take (i := 27) (v := ?_) (by rw [List.getElem?_toArray]; rfl) (by kernel_rfl) (by kernel_rfl) (by kernel_rfl) (by exact fun _ _ _ h => h) (Or.inl ⟨by rfl, ?_⟩) h0 ?_
      rotate_left
      · intro W hW
        obtain ⟨y0, y1, y2, y3, z0, z1, z2, -, -⟩ := hW
        go_simp
        all_goals with_reducible rfl
      simp only [Act.put, List.setIfInBounds_toArray, List.set_cons_zero, List.set_cons_succ]
      refine wpAnyH_take (i := 28) (v := ?_) (by rw [List.getElem?_toArray]; rfl) (by kernel_rfl) (by kernel_rfl) (by kernel_rfl) (by exact fun _ _ _ h => h) (Or.inl ⟨by rfl, ?_⟩) h0 ?_
      rotate_left
      · intro W hW
        obtain ⟨y0, y1, y2, y3, z0, z1, z2, -, -⟩ := hW
        go_simp
        all_goals with_reducible rfl
      simp only [Act.put, List.setIfInBounds_toArray, List.set_cons_zero, List.set_cons_succ]
      refine wpAnyH_take (i := 29) (v := ?_) (by rw [List.getElem?_toArray]; rfl) (by kernel_rfl) (by kernel_rfl) (by kernel_rfl) (by exact fun _ _ _ h => h) (Or.inl ⟨by rfl, ?_⟩) h0 ?_
      rotate_left
      · intro W hW
        obtain ⟨y0, y1, y2, y3, z0, z1, z2, -, -⟩ := hW
        go_simp
        all_goals with_reducible rfl
      simp only [Act.put, List.setIfInBounds_toArray, List.set_cons_zero, List.set_cons_succ]
      refine wpAnyH_take (i := 30) (v := ?_) (by rw [List.getElem?_toArray]; rfl) (by kernel_rfl) (by kernel_rfl) (by kernel_rfl) (by exact fun _ _ _ h => h) (Or.inl ⟨by rfl, ?_⟩) h0 ?_
      rotate_left
      · intro W hW
        obtain ⟨y0, y1, y2, y3, z0, z1, z2, -, -⟩ := hW
        go_simp
        all_goals with_reducible rfl
      simp only [Act.put, List.setIfInBounds_toArray, List.set_cons_zero, List.set_cons_succ]
      refine wpAnyH_take (i := 31) (v := ?_) (by rw [List.getElem?_toArray]; rfl) (by kernel_rfl) (by kernel_rfl) (by kernel_rfl) (by exact fun _ _ _ h => h) (Or.inl ⟨by rfl, ?_⟩) h0 ?_
      rotate_left
      · intro W hW
        obtain ⟨y0, y1, y2, y3, z0, z1, z2, -, -⟩ := hW
        go_simp
        all_goals with_reducible rfl
      simp only [Act.put, List.setIfInBounds_toArray, List.set_cons_zero, List.set_cons_succ]
      refine wpAnyH_take (i := 32) (v := ?_) (by rw [List.getElem?_toArray]; rfl) (by kernel_rfl) (by kernel_rfl) (by kernel_rfl) (by exact fun _ _ _ h => h) (Or.inl ⟨by rfl, ?_⟩) h0 ?_
      rotate_left
      · intro W hW
        obtain ⟨y0, y1, y2, y3, z0, z1, z2, -, -⟩ := hW
        go_simp
        all_goals with_reducible rfl
      simp only [Act.put, List.setIfInBounds_toArray, List.set_cons_zero, List.set_cons_succ]
      refine wpAnyH_take (i := 33) (v := ?_) (by rw [List.getElem?_toArray]; rfl) (by kernel_rfl) (by kernel_rfl) (by kernel_rfl) (by exact fun _ _ _ h => h) (Or.inl ⟨by rfl, ?_⟩) h0 ?_
      rotate_left
      · intro W hW
        obtain ⟨y0, y1, y2, y3, z0, z1, z2, -, -⟩ := hW
        go_simp
        all_goals with_reducible rfl
      simp only [Act.put, List.setIfInBounds_toArray, List.set_cons_zero, List.set_cons_succ]
      refine wpAnyH_take (i := 34) (v := ?_) (by rw [List.getElem?_toArray]; rfl) (by kernel_rfl) (by kernel_rfl) (by kernel_rfl) (by exact fun _ _ _ h => h) (Or.inl ⟨by rfl, ?_⟩) h0 ?_
      rotate_left
      · intro W hW
        obtain ⟨y0, y1, y2, y3, z0, z1, z2, -, -⟩ := hW
        go_simp
        all_goals with_reducible rfl
      simp only [Act.put, List.setIfInBounds_toArray, List.set_cons_zero, List.set_cons_succ]
      refine wpAnyH_take (i := 35) (v := ?_) (by rw [List.getElem?_toArray]; rfl) (by kernel_rfl) (by kernel_rfl) (by kernel_rfl) (by exact fun _ _ _ h => h) (Or.inl ⟨by rfl, ?_⟩) h0 ?_
      rotate_left
      · intro W hW
        obtain ⟨y0, y1, y2, y3, z0, z1, z2, -, -⟩ := hW
        go_simp
        all_goals with_reducible rfl
      simp only [Act.put, List.setIfInBounds_toArray, List.set_cons_zero, List.set_cons_succ]
      refine wpAnyH_take (i := 36) (v := ?_) (by rw [List.getElem?_toArray]; rfl) (by kernel_rfl) (by kernel_rfl) (by kernel_rfl) (by exact fun _ _ _ h => h) (Or.inl ⟨by rfl, ?_⟩) h0 ?_
      rotate_left
      · intro W hW
        obtain ⟨y0, y1, y2, y3, z0, z1, z2, -, -⟩ := hW
        go_simp
        all_goals with_reducible rfl
      simp only [Act.put, List.setIfInBounds_toArray, List.set_cons_zero, List.set_cons_succ]
      refine wpAnyH_take (i := 37) (v := ?_) (by rw [List.getElem?_toArray]; rfl) (by kernel_rfl) (by kernel_rfl) (by kernel_rfl) (by exact fun _ _ _ h => h) (Or.inl ⟨by rfl, ?_⟩) h0 ?_
      rotate_left
      · intro W hW
        obtain ⟨y0, y1, y2, y3, z0, z1, z2, -, -⟩ := hW
        go_simp
        all_goals with_reducible rfl
      simp only [Act.put, List.setIfInBounds_toArray, List.set_cons_zero, List.set_cons_succ]
      refine wpAnyH_take (i := 38) (v := ?_) (by rw [List.getElem?_toArray]; rfl) (by kernel_rfl) (by kernel_rfl) (by kernel_rfl) (by exact fun _ _ _ h => h) (Or.inl ⟨by rfl, ?_⟩) h0 ?_
      rotate_left
      · intro W hW
        obtain ⟨y0, y1, y2, y3, z0, z1, z2, -, -⟩ := hW
        go_simp
        all_goals with_reducible rfl
      simp only [Act.put, List.setIfInBounds_toArray, List.set_cons_zero, List.set_cons_succ]
      refine wpAnyH_take (i := 39) (v := ?_) (by rw [List.getElem?_toArray]; rfl) (by kernel_rfl) (by kernel_rfl) (by kernel_rfl) (by exact fun _ _ _ h => h) (Or.inl ⟨by rfl, ?_⟩) h0 ?_
      rotate_left
      · intro W hW
        obtain ⟨y0, y1, y2, y3, z0, z1, z2, -, -⟩ := hW
        go_simp
        all_goals with_reducible rfl
      simp only [Act.put, List.setIfInBounds_toArray, List.set_cons_zero, List.set_cons_succ]
      refine wpAnyH_take (i := 40) (v := ?_) (by rw [List.getElem?_toArray]; rfl) (by kernel_rfl) (by kernel_rfl) (by kernel_rfl) (by exact fun _ _ _ h => h) (Or.inl ⟨by rfl, ?_⟩) h0 ?_
      rotate_left
      · intro W hW
        obtain ⟨y0, y1, y2, y3, z0, z1, z2, -, -⟩ := hW
        go_simp
        all_goals with_reducible rfl
      simp only [Act.put, List.setIfInBounds_toArray, List.set_cons_zero, List.set_cons_succ]
      refine wpAnyH_take (i := 41) (v := ?_) (by rw [List.getElem?_toArray]; rfl) (by kernel_rfl) (by kernel_rfl) (by kernel_rfl) (by exact fun _ _ _ h => h) (Or.inl ⟨by rfl, ?_⟩) h0 ?_
      rotate_left
      · intro W hW
        obtain ⟨y0, y1, y2, y3, z0, z1, z2, -, -⟩ := hW
        go_simp
        all_goals with_reducible rfl
      simp only [Act.put, List.setIfInBounds_toArray, List.set_cons_zero, List.set_cons_succ]
      refine wpAnyH_take (i := 42) (v := ?_) (by rw [List.getElem?_toArray]; rfl) (by kernel_rfl) (by kernel_rfl) (by kernel_rfl) (by exact fun _ _ _ h => h) (Or.inl ⟨by rfl, ?_⟩) h0 ?_
      rotate_left
      · intro W hW
        obtain ⟨y0, y1, y2, y3, z0, z1, z2, -, -⟩ := hW
        go_simp
        all_goals with_reducible rfl
      simp only [Act.put, List.setIfInBounds_toArray, List.set_cons_zero, List.set_cons_succ]
      refine wpAnyH_take (i := 43) (v := ?_) (by rw [List.getElem?_toArray]; rfl) (by kernel_rfl) (by kernel_rfl) (by kernel_rfl) (by exact fun _ _ _ h => h) (Or.inl ⟨by rfl, ?_⟩) h0 ?_
      rotate_left
      · intro W hW
        obtain ⟨y0, y1, y2, y3, z0, z1, z2, -, -⟩ := hW
        go_simp
        all_goals with_reducible rfl
      simp only [Act.put, List.setIfInBounds_toArray, List.set_cons_zero, List.set_cons_succ]
      refine wpAnyH_take (i := 44) (v := ?_) (by rw [List.getElem?_toArray]; rfl) (by kernel_rfl) (by kernel_rfl) (by kernel_rfl) (by exact fun _ _ _ h => h) (Or.inl ⟨by rfl, ?_⟩) h0 ?_
      rotate_left
      · intro W hW
        obtain ⟨y0, y1, y2, y3, z0, z1, z2, -, -⟩ := hW
        go_simp
        all_goals with_reducible rfl
      simp only [Act.put, List.setIfInBounds_toArray, List.set_cons_zero, List.set_cons_succ]
      refine wpAnyH_take (i := 45) (v := ?_) (by rw [List.getElem?_toArray]; rfl) (by kernel_rfl) (by kernel_rfl) (by kernel_rfl) (by exact fun _ _ _ h => h) (Or.inl ⟨by rfl, ?_⟩) h0 ?_
      rotate_left
      · intro W hW
        obtain ⟨y0, y1, y2, y3, z0, z1, z2, -, -⟩ := hW
        go_simp
        all_goals with_reducible rfl
      simp only [Act.put, List.setIfInBounds_toArray, List.set_cons_zero, List.set_cons_succ]
      refine wpAnyH_ready (rs := [46]) (by kernel_rfl) (by simp) ?_
      refine AllReadyH.cons (by rw [List.getElem?_toArray]; rfl) (fun K hK => ?_) AllReadyH.nil
      rw [if_pos (by rfl)]
      go_wp2_with fail
      refine (knows_any _).mono ?_
      rintro e w6 ⟨rfl, hb⟩
      go_wp2_with fail
      refine hK.out _ _ (h0.on hb) (fun h01 => ?_)
      clear hK K
      refine wpAnyH_take (i := 47) (v := ?_) (by rw [List.getElem?_toArray]; rfl) (by kernel_rfl) (by kernel_rfl) (by kernel_rfl) (by exact fun _ _ _ h => h) (Or.inl ⟨by rfl, ?_⟩) h01 ?_
      rotate_left
      · intro W hW
        obtain ⟨y0, y1, y2, y3, z0, z1, z2, -, -⟩ := hW
        go_simp
        all_goals with_reducible rfl
      simp only [Act.put, List.setIfInBounds_toArray, List.set_cons_zero, List.set_cons_succ]
      refine wpAnyH_ready (rs := [48]) (by kernel_rfl) (by simp) ?_
      refine AllReadyH.cons (by rw [List.getElem?_toArray]; rfl) (fun K hK => ?_) AllReadyH.nil
      rw [if_pos (by rfl)]
      go_wp2_with fail
      refine hK.out _ _ (h01) (fun h02 => ?_)
      clear hK K
      refine wpAnyH_done (by kernel_rfl) ?_ _
      have B9 : Below w.heap.size w w6 := cthen B7.drew hb B7.drew.size
      go_wp2_with fail
      go_ret
      exact ⟨rfl, B9⟩
    · have := Gm.turn_posted L hpp
      omega
end Go.Proofs.Ytkdhhdbgngegfaa
