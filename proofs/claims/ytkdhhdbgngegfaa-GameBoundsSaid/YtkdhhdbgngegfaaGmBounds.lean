/-
  GameBounds returns true for every count, clock, waits and hashes, and leaves its arguments: whoever moves or lets pass, a game is won, or can be timed out, at its longest time.
-/
import Derived.Test.YtkdhhdbgngegfaaGmKnows
import Derived.Test.YtkdhhdbgngegfaaGmLongest
import Derived.Test.YtkdhhdbgngegfaaTr
namespace Go.Proofs.Ytkdhhdbgngegfaa
open Go.RowKit

theorem cthen {B : Nat} {a w w' : World} (h : Below B a w) (k : Below w.heap.size w w') (hB : B ≤ w.heap.size) : Below B a w' := h.trans (k.mono hB)

theorem wrapmod (n : Int) {d : Int} (h1 : 0 < d) (h2 : d ≤ 1000) : ∃ c, (wrap64 (n.tmod d + d)).tmod d = c ∧ 0 ≤ c ∧ c < d := by
  have a := Int.tmod_lt_of_pos n h1
  have b := Int.lt_tmod_of_pos n h1
  have e : wrap64 (n.tmod d + d) = n.tmod d + d := by unfold wrap64; omega
  rw [e]
  exact ⟨_, rfl, Int.tmod_nonneg d (by omega), Int.tmod_lt_of_pos _ h1⟩

/-- Between rounds: the game in block b, i rounds old. -/
structure LG (w : World) (b : Nat) (clock now : Int) (i : Nat) (g : Gm) (W : World) : Prop where
  B : Below w.heap.size w W
  bb : w.heap.size ≤ b
  G : GmAt W b 30 g
  ok : g.ok
  wn : g.wn = -1
  rr : g.right = true
  t0 : 0 ≤ g.at_
  t1 : g.at_ ≤ now
  nn : now ≤ 20 * i
  ii : i ≤ 40
  sum : g.c0 + g.c1 + g.at_ = 2 * clock

theorem Gm.moved_cases' {g : Gm} {now : Int} {side mine : Bool} {x : Seg × Int} : (∃ h c, g.moved now side mine x = (h, c) ∧ c ≠ 0) ∨
    (g.live now ∧ mine = true ∧ now - g.at_ ≤ (bif side then g.c1 else g.c0) ∧ x.2 = 0 ∧ g.moved now side mine x = (⟨x.1, bif side then g.c0 else g.c0 - (now - g.at_), bif side then g.c1 - (now - g.at_) else g.c1, now, g.wn⟩, 0)) := by
  unfold Gm.moved
  by_cases hr : g.ready now = 0
  · simp only [hr, bne_self_eq_false, cond_false]
    cases mine
    · exact Or.inl ⟨_, 52, rfl, by omega⟩
    by_cases hc : (bif side then g.c1 else g.c0) < now - g.at_
    · simp only [Bool.not_true, cond_false, decide_eq_true hc, cond_true]
      exact Or.inl ⟨_, 51, rfl, by omega⟩
    · simp only [Bool.not_true, cond_false, decide_eq_false hc]
      by_cases h2 : x.2 = 0
      · simp only [h2, bne_self_eq_false, cond_false]
        exact Or.inr ⟨Gm.live_of hr, trivial, by omega, trivial, trivial⟩
      · have hb : (x.2 != 0) = true := by simpa using h2
        simp only [hb, cond_true]
        exact Or.inl ⟨_, _, rfl, h2⟩
  · have hb : (g.ready now != 0) = true := by simpa using hr
    simp only [hb, cond_true]
    exact Or.inl ⟨_, _, rfl, hr⟩

theorem Seg.post_right {s : Seg} {F : List Int} (h : (s.post F).2 = 0) : (s.post F).1.right = true := by
  unfold Seg.post at h ⊢
  cases hr : s.right
  · simp [hr] at h
  cases hp : s.p || s.last
  · have ⟨l1, l2, l3⟩ := Seg.right_lo hr
    have hl : s.last = false := by cases hl : s.last <;> simp_all
    have l4 : ¬ s.hi - s.lo = 1 := by simpa [Seg.last, hr] using hl
    simp [Seg.right]; omega
  · simp [hr, hp] at h
theorem Seg.choose_right {s : Seg} {a : Bool} (h : (s.choose a).2 = 0) : (s.choose a).1.right = true := by
  unfold Seg.choose at h ⊢
  cases hr : s.right
  · simp [hr] at h
  cases hp : s.p
  · simp [hr, hp] at h
  have ⟨l1, l2, l3⟩ := Seg.right_lo hr
  have hR := hr
  simp only [Seg.right, hp, cond_true, Bool.and_eq_true, decide_eq_true_eq] at hR
  have e : s.middle = (s.lo + s.hi) / 2 := by simp [Seg.middle, hr]
  cases a
  · simp [Seg.right]; omega
  · simp [Seg.right]; omega

/-- What one more move leaves of the game. -/
structure Nx (g : Gm) (now : Int) (g' : Gm) : Prop where
  wn : g'.wn = -1
  rr : g'.right = true
  t : g'.at_ = now
  t0 : 0 ≤ now
  sum : g'.c0 + g'.c1 + now = g.c0 + g.c1 + g.at_
theorem Nx_mk {g : Gm} {now : Int} {side : Bool} {x : Seg} (L : g.live now) (hc : now - g.at_ ≤ (bif side then g.c1 else g.c0)) (hx : x.right = true) :
    Nx g now ⟨x, bif side then g.c0 else g.c0 - (now - g.at_), bif side then g.c1 - (now - g.at_) else g.c1, now, g.wn⟩ := by
  have ⟨l1, l2, l3, l4, l5, l6, l7⟩ : 0 ≤ g.at_ ∧ g.at_ ≤ now ∧ now ≤ 1099511627776 ∧ 0 ≤ g.c0 ∧ g.c0 ≤ 1048576 ∧ 0 ≤ g.c1 ∧ g.c1 ≤ 1048576 := ⟨L.t0, L.t1, L.t2, L.a0, L.a1, L.b0, L.b1⟩
  have hw := L.w
  have i0 : 0 ≤ now := by omega
  cases side
  · simp only [cond_false] at hc ⊢
    have i1 : 0 ≤ g.c0 - (now - g.at_) := by omega
    have i2 : g.c0 - (now - g.at_) ≤ 1048576 := by omega
    exact ⟨hw, by simp only [Gm.right, hw, hx, i0, l3, i1, i2, l6, l7, decide_true, Bool.and_true, bne_self_eq_false, cond_false], rfl, i0, by show g.c0 - (now - g.at_) + g.c1 + now = _; omega⟩
  · simp only [cond_true] at hc ⊢
    have i1 : 0 ≤ g.c1 - (now - g.at_) := by omega
    have i2 : g.c1 - (now - g.at_) ≤ 1048576 := by omega
    exact ⟨hw, by simp only [Gm.right, hw, hx, i0, l3, i1, i2, l4, l5, decide_true, Bool.and_true, bne_self_eq_false, cond_false], rfl, i0, by show g.c0 + (g.c1 - (now - g.at_)) + now = _; omega⟩
theorem post_next {g : Gm} {now : Int} {F : List Int} : (∃ h c, g.post now F = (h, c) ∧ c ≠ 0) ∨ (∃ h, g.post now F = (h, 0) ∧ Nx g now h) := by
  rcases Gm.moved_cases' (g := g) (now := now) (side := false) (mine := g.turn == 0) (x := g.s.post F) with h | ⟨L, _, hc, h2, h⟩
  · exact Or.inl h
  · exact Or.inr ⟨_, h, Nx_mk L hc (Seg.post_right h2)⟩
theorem choose_next {g : Gm} {now : Int} {a : Bool} : (∃ h c, g.choose now a = (h, c) ∧ c ≠ 0) ∨ (∃ h, g.choose now a = (h, 0) ∧ Nx g now h) := by
  rcases Gm.moved_cases' (g := g) (now := now) (side := true) (mine := g.s.p) (x := g.s.choose a) with h | ⟨L, _, hc, h2, h⟩
  · exact Or.inl h
  · exact Or.inr ⟨_, h, Nx_mk L hc (Seg.choose_right h2)⟩

theorem bounds_end {g : Gm} {clock now T : Int} {r : Nat} (ok : g.ok) (wn : g.wn = -1) (rr : g.right = true) (t0 : 0 ≤ g.at_) (t1 : g.at_ ≤ now) (sum : g.c0 + g.c1 + g.at_ = 2 * clock)
    (h1 : now ≤ T) (h2 : 2 * (clock + (1 + (r : Int))) ≤ T) (h3 : T ≤ 1099511627776) : ∃ g', g.timeout T = (g', 0) ∧ g'.ok ∧ (g'.wn = 0 ∨ g'.wn = 1) := by
  have e0 : g.ready T = 0 := by
    have i1 : 0 ≤ T := by omega
    have i2 : ¬ T < g.at_ := by omega
    simp [Gm.ready, rr, timeOk, i1, h3, wn, i2]
  have L := Gm.live_of e0
  have ⟨l4, l5, l6, l7⟩ : 0 ≤ g.c0 ∧ g.c0 ≤ 1048576 ∧ 0 ≤ g.c1 ∧ g.c1 ≤ 1048576 := ⟨L.a0, L.a1, L.b0, L.b1⟩
  have hk : decide (T - g.at_ ≤ (bif g.turn == 0 then g.c0 else g.c1)) = false := by
    apply decide_eq_false
    cases g.turn == 0
    · simp only [cond_false]; omega
    · simp only [cond_true]; omega
  have tl := Gm.turn_live L
  refine ⟨{ g with wn := 1 - g.turn }, by simp only [Gm.timeout, e0, hk, bne_self_eq_false, cond_false], ⟨ok.s, ok.c0, ok.c1, ok.at_, ?_⟩, ?_⟩
  · rcases tl with h | h
    · rw [h]; exact ⟨by show _ ≤ (1 - 0 : Int); omega, by show (1 - 0 : Int) < _; omega⟩
    · rw [h]; exact ⟨by show _ ≤ (1 - 1 : Int); omega, by show (1 - 1 : Int) < _; omega⟩
  · rcases tl with h | h <;> rw [h] <;> simp

set_option maxRecDepth 100000 in
set_option maxHeartbeats 16000000 in
theorem Bounds_walk {n k : Int} {q : Option Addr} {m cap : Nat} {C : Nat → Int} {p : Option Addr} {l capl : Nat} {D : Nat → List Int} (w : World) (hC : InP w q m C) (hD : TrP w p l D) :
    Calls Try.prog 3 #[.int .i64 n, .int .i64 k, .slice q m cap, .slice p l capl] w fun e w' => e = .returned (.bool true) ∧ Below w.heap.size w w' := by
  obtain ⟨a, ha, a0, a1⟩ := wrapmod n (d := 500) (by omega) (by omega)
  obtain ⟨c, hc, c0, c1⟩ := wrapmod k (d := 100) (by omega) (by omega)
  go_enter Try.func3, Try.ntmps3
  go_wp2_with fail
  clear ha hc
  obtain ⟨n, hn⟩ : ∃ n', n' = 1 + a := ⟨_, rfl⟩
  obtain ⟨k, hk⟩ : ∃ k', k' = 1 + c := ⟨_, rfl⟩
  rw [← hn, ← hk]
  have n1 : 1 ≤ n := by omega
  have n2 : n ≤ 500 := by omega
  have k1 : 1 ≤ k := by omega
  have k2 : k ≤ 100 := by omega
  clear hn hk a0 a1 c0 c1
  refine (New_ok (hsh_len 1) (hsh_len 2) n1 (by omega) k1 (by omega) (by omega) (by omega) _).mono ?_
  rintro e w1 ⟨rfl, hb⟩
  have hok := Gm.new_ok (hsh_len 1) (hsh_len 2) n1 (by omega) k1 (show k ≤ 1048576 by omega) (show (0 : Int) ≤ 0 by omega) (by omega)
  have hL0 : LG w w1.heap.size k 0 0 (Gm.new n k 0 (hsh 1) (hsh 2)) (w1.alloc (.cells (Gm.new n k 0 (hsh 1) (hsh 2)).row.toArray 30)) :=
    ⟨hb.alloc hb.size _, hb.size, GmAt.new _ _ _, hok, rfl, by simp [Gm.right, Gm.new, Seg.right, show 0 ≤ k by omega, show k ≤ 1048576 by omega, show 0 < n by omega, show n ≤ 4096 by omega], by simp [Gm.new], by simp [Gm.new], by simp, by omega, by simp [Gm.new]; omega⟩
  generalize (Gm.new n k 0 (hsh 1) (hsh 2)) = g0 at hok hL0 ⊢
  have hl0 := hok.s.len
  clear hb
  replace hC := Lib.hid hC
  replace hD := Lib.hid hD
  have L0 := Lib.hid hL0
  clear hL0
  go_wp2_with fail
  refine (num_any _ _).mono ?_
  rintro e w2 ⟨rfl, rfl⟩
  go_wp2_with fail
  refine (knows_any _).mono ?_
  rintro e w3 ⟨rfl, hb⟩
  have L1 := Lib.hid (show LG w w1.heap.size k 0 0 g0 w3 from ⟨cthen L0.out.B hb L0.out.B.size, L0.out.bb, L0.out.G.on hb, L0.out.ok, L0.out.wn, L0.out.rr, L0.out.t0, L0.out.t1, L0.out.nn, L0.out.ii, L0.out.sum⟩)
  clear L0 hb hok hl0
  generalize w1.heap.size = b at L1 ⊢
  go_wp2_with fail
  go_loopw [11, 12] (fun nv iv wr => ∃ (i : Nat) (now : Int) (g : Gm), nv = .int .i64 now ∧ iv = .int .i64 i ∧ Hid (LG w b k now i g wr)) (fun _ iv _ => 40 - (intOf iv).toNat)
  case atStart => exact ⟨0, 0, g0, rfl, rfl, L1⟩
  case round =>
    clear L1
    obtain ⟨i, now, g, rfl, rfl, hL⟩ := hrel
    have i40 := hL.out.ii
    have t0 := hL.out.t0
    have t1 := hL.out.t1
    have nn := hL.out.nn
    obtain ⟨-, -, -, -, c102, cg, -⟩ := hL.out.G.facts hL.out.ok.s
    rw [hL.out.wn] at c102
    by_cases hi : i = 40
    · subst hi
      go_wp2_with fail
      refine (Longest_ok n1 (by omega) k1 (by omega) _).mono ?_
      rintro e w7 ⟨⟨r, hr, rfl⟩, h7⟩
      obtain rfl := h7.symm
      clear h7
      have hlz := hL.out.ok.s.len
      have cgz := hL.out.G.whole hlz
      by_cases hmx : 2 * (k + (1 + (r : Int))) ≤ now
      · obtain ⟨g', E, ok', wn'⟩ := bounds_end (r := r) (T := now) hL.out.ok hL.out.wn hL.out.rr hL.out.t0 hL.out.t1 hL.out.sum (by omega) (by omega) (by omega)
        have E := Lib.hid E
        have hlx := ok'.s.len
        go_wp2_with fail
        refine (Timeout_any hL.out.ok now _).mono ?_
        rintro e w8 ⟨rfl, hb⟩
        rw [E.out]
        have Bx := (cthen hL.out.B hb hL.out.B.size).alloc (by have := hL.out.B.size; have := hb.size; omega) (.cells g'.row.toArray 30)
        have Gx := GmAt.new w8 30 g'
        obtain ⟨-, -, -, -, cw, -, -⟩ := Gx.facts ok'.s
        clear cgz hb Gx
        go_wp2_with fail
        refine (num_any _ _).mono ?_
        rintro e w9 ⟨rfl, rfl⟩
        rcases wn' with hw' | hw'
        · rw [hw'] at cw
          go_wp2_with fail
          go_ret
          exact ⟨rfl, Bx⟩
        · rw [hw'] at cw
          go_wp2_with fail
          go_ret
          exact ⟨rfl, Bx⟩
      · obtain ⟨g', E, ok', wn'⟩ := bounds_end (r := r) (T := (2 * (k + (1 + (r : Int))))) hL.out.ok hL.out.wn hL.out.rr hL.out.t0 hL.out.t1 hL.out.sum (by omega) (by omega) (by omega)
        have E := Lib.hid E
        have hlx := ok'.s.len
        go_wp2_with fail
        refine (Timeout_any hL.out.ok (2 * (k + (1 + (r : Int)))) _).mono ?_
        rintro e w8 ⟨rfl, hb⟩
        rw [E.out]
        have Bx := (cthen hL.out.B hb hL.out.B.size).alloc (by have := hL.out.B.size; have := hb.size; omega) (.cells g'.row.toArray 30)
        have Gx := GmAt.new w8 30 g'
        obtain ⟨-, -, -, -, cw, -, -⟩ := Gx.facts ok'.s
        clear cgz hb Gx
        go_wp2_with fail
        refine (num_any _ _).mono ?_
        rintro e w9 ⟨rfl, rfl⟩
        rcases wn' with hw' | hw'
        · rw [hw'] at cw
          go_wp2_with fail
          go_ret
          exact ⟨rfl, Bx⟩
        · rw [hw'] at cw
          go_wp2_with fail
          go_ret
          exact ⟨rfl, Bx⟩
    · have hi40 : (i : Int) < 40 := by omega
      by_cases him : i < m
      · have him' : (i : Int) < (m : Int) := by omega
        obtain ⟨qb, qo, rfl, hqb, hqc, x1, x2⟩ := (hC.out.on hL.out.B) i him
        obtain ⟨c, hc', c0, c1⟩ := wrapmod (C i) (d := 20) (by omega) (by omega)
        by_cases hil : i < l
        · have hil' : (i : Int) < (l : Int) := by omega
          obtain ⟨pb, po, rfl, hpb, hDl, hDr⟩ := (hD.out.on hL.out.B) i hil
          have hrow := (rowOf_below ((Below.refl _ wr).alloc (Nat.le_refl _) (.cells (hc zero32).toArray 25)) hpb (po + i * 32) 32).trans hDr
          have zl := zero32_len
          have hX : List.length (D i) = 32 := hDl
          have hg := hL.out.ok
          have hl := hg.s.len
          have G3 := hL.out.G.alloc (.cells (hc (D i)).toArray 25)
          have cg3 := G3.whole hl
          have ch := (HashAt.new wr (D i)).row hX
          go_wp2_with fail
          obtain ⟨now2, hn2⟩ : ∃ x, x = now + c := ⟨_, rfl⟩
          rw [← hn2]
          have q0 : now ≤ now2 := by omega
          have q1 : now2 ≤ now + 19 := by omega
          clear hn2
          have K3 := Lib.hid (hL.out.B.alloc hL.out.B.size (.cells (hc (D i)).toArray 25))
          generalize wr.alloc (.cells (hc (D i)).toArray 25) = wh at G3 K3 cg3 ch ⊢
          generalize (D i) = X at hX ch ⊢
          refine (GmPost_any hg hX now2 _).mono ?_
          rintro e w4 ⟨rfl, hb⟩
          have ha := Gm.post_fine hg (now := now2) hX
          have PC := Lib.hid (post_next (g := g) (now := now2) (F := X))
          generalize g.post now2 X = pa at ha PC ⊢
          obtain ⟨a, ea⟩ := pa
          simp only at ha ⊢
          have hla := ha.s.len
          have G4 := (G3.on hb).alloc (.cells a.row.toArray 30)
          have K4 := Lib.hid ((cthen K3.out hb K3.out.size).alloc (by have := K3.out.size; have := hb.size; omega) (.cells a.row.toArray 30))
          have A4 := GmAt.new w4 30 a
          have sz : b < w4.heap.size := by have := G3.lt; have := hb.size; omega
          clear G3 K3 ch hb cg3 c102 cg
          have cg4 := G4.whole hl
          go_wp2_with fail
          generalize hnb : w4.heap.size = nb at A4 sz ⊢
          generalize w4.alloc (.cells a.row.toArray 30) = wi at G4 K4 A4 cg4 ⊢
          refine (Turn_any hg _).mono ?_
          rintro e w5 ⟨rfl, hb⟩
          have G5 := G4.on hb
          have A5 := A4.on hb
          have K5 := Lib.hid (cthen K4.out hb K4.out.size)
          have I := Lib.hid (show g.wn = -1 ∧ g.right = true ∧ g.c0 + g.c1 + g.at_ = 2 * k ∧ w.heap.size ≤ b from ⟨hL.out.wn, hL.out.rr, hL.out.sum, hL.out.bb⟩)
          clear G4 K4 A4 cg4 hb hL hnb
          have cg5 := G5.whole hl
          have tl : g.turn = 0 ∨ g.turn = 1 := by
            have hw := I.out.1
            have hr := I.out.2.1
            unfold Gm.turn
            rw [hr, hw]
            cases g.s.p || g.s.last <;> simp
          rcases tl with ht | ht
          · rw [ht]
            go_wp2_with fail
            have G6 := G5
            have cg6 := cg5
            rcases PC.out with ⟨h, c, e1, e2⟩ | ⟨h, e1, N⟩
            · obtain ⟨h1, h2⟩ := Prod.mk.inj e1
              have n1' : (ea != 0) = true := by rw [h2]; simpa using e2
              have hL2 := Lib.hid (show LG w b k now2 (i + 1) g w5 from ⟨K5.out, I.out.2.2.2, G6, hg, I.out.1, I.out.2.1, t0, by omega, by omega, by omega, I.out.2.2.1⟩)
              clear e1 e2 h1 h2 PC A5 K5 G6 cg6 I
              obtain ⟨-, -, -, -, c102, cg, -⟩ := hL2.out.G.facts hL2.out.ok.s
              rw [hL2.out.wn] at c102
              refine (num_any _ _).mono ?_
              rintro e w6 ⟨rfl, h6⟩
              obtain rfl := h6.symm
              clear h6
              go_wp2_with fail
              refine (Longest_ok n1 (by omega) k1 (by omega) _).mono ?_
              rintro e w7 ⟨⟨r, hr, rfl⟩, h7⟩
              obtain rfl := h7.symm
              clear h7
              have hlz := hL2.out.ok.s.len
              have cgz := hL2.out.G.whole hlz
              by_cases hmx : 2 * (k + (1 + (r : Int))) ≤ now2
              · obtain ⟨g', E, ok', wn'⟩ := bounds_end (r := r) (T := now2) hL2.out.ok hL2.out.wn hL2.out.rr hL2.out.t0 hL2.out.t1 hL2.out.sum (by omega) (by omega) (by omega)
                have E := Lib.hid E
                have hlx := ok'.s.len
                go_wp2_with fail
                refine (Timeout_any hL2.out.ok now2 _).mono ?_
                rintro e w8 ⟨rfl, hb⟩
                rw [E.out]
                have Bx := (cthen hL2.out.B hb hL2.out.B.size).alloc (by have := hL2.out.B.size; have := hb.size; omega) (.cells g'.row.toArray 30)
                have Gx := GmAt.new w8 30 g'
                obtain ⟨-, -, -, -, cw, -, -⟩ := Gx.facts ok'.s
                clear cgz hb Gx
                go_wp2_with fail
                refine (num_any _ _).mono ?_
                rintro e w9 ⟨rfl, rfl⟩
                rcases wn' with hw' | hw'
                · rw [hw'] at cw
                  go_wp2_with fail
                  go_ret
                  exact ⟨rfl, Bx⟩
                · rw [hw'] at cw
                  go_wp2_with fail
                  go_ret
                  exact ⟨rfl, Bx⟩
              · obtain ⟨g', E, ok', wn'⟩ := bounds_end (r := r) (T := (2 * (k + (1 + (r : Int))))) hL2.out.ok hL2.out.wn hL2.out.rr hL2.out.t0 hL2.out.t1 hL2.out.sum (by omega) (by omega) (by omega)
                have E := Lib.hid E
                have hlx := ok'.s.len
                go_wp2_with fail
                refine (Timeout_any hL2.out.ok (2 * (k + (1 + (r : Int)))) _).mono ?_
                rintro e w8 ⟨rfl, hb⟩
                rw [E.out]
                have Bx := (cthen hL2.out.B hb hL2.out.B.size).alloc (by have := hL2.out.B.size; have := hb.size; omega) (.cells g'.row.toArray 30)
                have Gx := GmAt.new w8 30 g'
                obtain ⟨-, -, -, -, cw, -, -⟩ := Gx.facts ok'.s
                clear cgz hb Gx
                go_wp2_with fail
                refine (num_any _ _).mono ?_
                rintro e w9 ⟨rfl, rfl⟩
                rcases wn' with hw' | hw'
                · rw [hw'] at cw
                  go_wp2_with fail
                  go_ret
                  exact ⟨rfl, Bx⟩
                · rw [hw'] at cw
                  go_wp2_with fail
                  go_ret
                  exact ⟨rfl, Bx⟩
            · obtain ⟨h1, h2⟩ := Prod.mk.inj e1
              subst h1
              subst h2
              have hL2 := Lib.hid (show LG w b k now2 (i + 1) a (w5.setCells b 0 a.row) from ⟨below_setCells' b I.out.2.2.2 a.row 0 K5.out, I.out.2.2.2, G6.setAll hl hla, ha, N.wn, N.rr, by rw [N.t]; exact N.t0, by rw [N.t]; exact Int.le_refl _, by omega, by omega, by rw [N.t, N.sum]; exact I.out.2.2.1⟩)
              have th := G6.there hl (o := 0) (n := 103) (by omega)
              have ca := A5.whole hla
              clear e1 PC A5 K5 I N
              refine (num_any _ _).mono ?_
              rintro e w6 ⟨rfl, h6⟩
              obtain rfl := h6.symm
              clear h6
              go_wp2_with fail
              go_roundw
              case rel => exact ⟨i + 1, now2, _, rfl, by go_num, hL2⟩
              case measure => simp [intOf]; omega
          · rw [ht]
            clear PC
            go_wp2_with fail
            refine (GmChoose_any hg _ now2 _).mono ?_
            rintro e w6 ⟨rfl, hb⟩
            generalize ((i : Int) % 2 == 0) = ag
            have hB := Gm.choose_fine hg (now := now2) (a := ag)
            have PC := Lib.hid (choose_next (g := g) (now := now2) (a := ag))
            generalize g.choose now2 ag = pb at hB PC ⊢
            obtain ⟨bb, eb⟩ := pb
            simp only at hB ⊢
            have hlb := hB.s.len
            have G6 := (G5.on hb).others (c := nb) (by omega) 0 bb.row
            have th := (A5.on hb).there hla (o := 0) (n := 103) (by omega)
            have A6 := (A5.on hb).setAll hla (g' := bb) hlb
            have K6 := Lib.hid (below_setCells' (B := w.heap.size) nb (by have := I.out.2.2.2; omega) bb.row 0 (cthen K5.out hb K5.out.size))
            clear G5 A5 K5 hb cg5
            have cg6 := G6.whole hl
            go_wp2_with fail
            generalize w6.setCells nb 0 bb.row = w7 at G6 A6 K6 cg6 ⊢
            rcases PC.out with ⟨h, c, e1, e2⟩ | ⟨h, e1, N⟩
            · obtain ⟨h1, h2⟩ := Prod.mk.inj e1
              have n1' : (eb != 0) = true := by rw [h2]; simpa using e2
              have hL2 := Lib.hid (show LG w b k now2 (i + 1) g w7 from ⟨K6.out, I.out.2.2.2, G6, hg, I.out.1, I.out.2.1, t0, by omega, by omega, by omega, I.out.2.2.1⟩)
              clear e1 e2 h1 h2 PC A6 K6 G6 cg6 I
              obtain ⟨-, -, -, -, c102, cg, -⟩ := hL2.out.G.facts hL2.out.ok.s
              rw [hL2.out.wn] at c102
              refine (num_any _ _).mono ?_
              rintro e w6 ⟨rfl, h6⟩
              obtain rfl := h6.symm
              clear h6
              go_wp2_with fail
              refine (Longest_ok n1 (by omega) k1 (by omega) _).mono ?_
              rintro e w7 ⟨⟨r, hr, rfl⟩, h7⟩
              obtain rfl := h7.symm
              clear h7
              have hlz := hL2.out.ok.s.len
              have cgz := hL2.out.G.whole hlz
              by_cases hmx : 2 * (k + (1 + (r : Int))) ≤ now2
              · obtain ⟨g', E, ok', wn'⟩ := bounds_end (r := r) (T := now2) hL2.out.ok hL2.out.wn hL2.out.rr hL2.out.t0 hL2.out.t1 hL2.out.sum (by omega) (by omega) (by omega)
                have E := Lib.hid E
                have hlx := ok'.s.len
                go_wp2_with fail
                refine (Timeout_any hL2.out.ok now2 _).mono ?_
                rintro e w8 ⟨rfl, hb⟩
                rw [E.out]
                have Bx := (cthen hL2.out.B hb hL2.out.B.size).alloc (by have := hL2.out.B.size; have := hb.size; omega) (.cells g'.row.toArray 30)
                have Gx := GmAt.new w8 30 g'
                obtain ⟨-, -, -, -, cw, -, -⟩ := Gx.facts ok'.s
                clear cgz hb Gx
                go_wp2_with fail
                refine (num_any _ _).mono ?_
                rintro e w9 ⟨rfl, rfl⟩
                rcases wn' with hw' | hw'
                · rw [hw'] at cw
                  go_wp2_with fail
                  go_ret
                  exact ⟨rfl, Bx⟩
                · rw [hw'] at cw
                  go_wp2_with fail
                  go_ret
                  exact ⟨rfl, Bx⟩
              · obtain ⟨g', E, ok', wn'⟩ := bounds_end (r := r) (T := (2 * (k + (1 + (r : Int))))) hL2.out.ok hL2.out.wn hL2.out.rr hL2.out.t0 hL2.out.t1 hL2.out.sum (by omega) (by omega) (by omega)
                have E := Lib.hid E
                have hlx := ok'.s.len
                go_wp2_with fail
                refine (Timeout_any hL2.out.ok (2 * (k + (1 + (r : Int)))) _).mono ?_
                rintro e w8 ⟨rfl, hb⟩
                rw [E.out]
                have Bx := (cthen hL2.out.B hb hL2.out.B.size).alloc (by have := hL2.out.B.size; have := hb.size; omega) (.cells g'.row.toArray 30)
                have Gx := GmAt.new w8 30 g'
                obtain ⟨-, -, -, -, cw, -, -⟩ := Gx.facts ok'.s
                clear cgz hb Gx
                go_wp2_with fail
                refine (num_any _ _).mono ?_
                rintro e w9 ⟨rfl, rfl⟩
                rcases wn' with hw' | hw'
                · rw [hw'] at cw
                  go_wp2_with fail
                  go_ret
                  exact ⟨rfl, Bx⟩
                · rw [hw'] at cw
                  go_wp2_with fail
                  go_ret
                  exact ⟨rfl, Bx⟩
            · obtain ⟨h1, h2⟩ := Prod.mk.inj e1
              subst h1
              subst h2
              have hL2 := Lib.hid (show LG w b k now2 (i + 1) bb (w7.setCells b 0 bb.row) from ⟨below_setCells' b I.out.2.2.2 bb.row 0 K6.out, I.out.2.2.2, G6.setAll hl hlb, hB, N.wn, N.rr, by rw [N.t]; exact N.t0, by rw [N.t]; exact Int.le_refl _, by omega, by omega, by rw [N.t, N.sum]; exact I.out.2.2.1⟩)
              have th := G6.there hl (o := 0) (n := 103) (by omega)
              have ca := A6.whole hlb
              clear e1 PC A6 K6 I N
              refine (num_any _ _).mono ?_
              rintro e w6 ⟨rfl, h6⟩
              obtain rfl := h6.symm
              clear h6
              go_wp2_with fail
              go_roundw
              case rel => exact ⟨i + 1, now2, _, rfl, by go_num, hL2⟩
              case measure => simp [intOf]; omega
        · have hil' : (l : Int) ≤ (i : Int) := by omega
          have zl := zero32_len
          have hX : List.length (zero32) = 32 := zero32_len
          have hg := hL.out.ok
          have hl := hg.s.len
          have G3 := hL.out.G.alloc (.cells (hc (zero32)).toArray 25)
          have cg3 := G3.whole hl
          have ch := (HashAt.new wr (zero32)).row hX
          go_wp2_with fail
          obtain ⟨now2, hn2⟩ : ∃ x, x = now + c := ⟨_, rfl⟩
          rw [← hn2]
          have q0 : now ≤ now2 := by omega
          have q1 : now2 ≤ now + 19 := by omega
          clear hn2
          have K3 := Lib.hid (hL.out.B.alloc hL.out.B.size (.cells (hc (zero32)).toArray 25))
          generalize wr.alloc (.cells (hc (zero32)).toArray 25) = wh at G3 K3 cg3 ch ⊢
          generalize (zero32) = X at hX ch ⊢
          refine (GmPost_any hg hX now2 _).mono ?_
          rintro e w4 ⟨rfl, hb⟩
          have ha := Gm.post_fine hg (now := now2) hX
          have PC := Lib.hid (post_next (g := g) (now := now2) (F := X))
          generalize g.post now2 X = pa at ha PC ⊢
          obtain ⟨a, ea⟩ := pa
          simp only at ha ⊢
          have hla := ha.s.len
          have G4 := (G3.on hb).alloc (.cells a.row.toArray 30)
          have K4 := Lib.hid ((cthen K3.out hb K3.out.size).alloc (by have := K3.out.size; have := hb.size; omega) (.cells a.row.toArray 30))
          have A4 := GmAt.new w4 30 a
          have sz : b < w4.heap.size := by have := G3.lt; have := hb.size; omega
          clear G3 K3 ch hb cg3 c102 cg
          have cg4 := G4.whole hl
          go_wp2_with fail
          generalize hnb : w4.heap.size = nb at A4 sz ⊢
          generalize w4.alloc (.cells a.row.toArray 30) = wi at G4 K4 A4 cg4 ⊢
          refine (Turn_any hg _).mono ?_
          rintro e w5 ⟨rfl, hb⟩
          have G5 := G4.on hb
          have A5 := A4.on hb
          have K5 := Lib.hid (cthen K4.out hb K4.out.size)
          have I := Lib.hid (show g.wn = -1 ∧ g.right = true ∧ g.c0 + g.c1 + g.at_ = 2 * k ∧ w.heap.size ≤ b from ⟨hL.out.wn, hL.out.rr, hL.out.sum, hL.out.bb⟩)
          clear G4 K4 A4 cg4 hb hL hnb
          have cg5 := G5.whole hl
          have tl : g.turn = 0 ∨ g.turn = 1 := by
            have hw := I.out.1
            have hr := I.out.2.1
            unfold Gm.turn
            rw [hr, hw]
            cases g.s.p || g.s.last <;> simp
          rcases tl with ht | ht
          · rw [ht]
            go_wp2_with fail
            have G6 := G5
            have cg6 := cg5
            rcases PC.out with ⟨h, c, e1, e2⟩ | ⟨h, e1, N⟩
            · obtain ⟨h1, h2⟩ := Prod.mk.inj e1
              have n1' : (ea != 0) = true := by rw [h2]; simpa using e2
              have hL2 := Lib.hid (show LG w b k now2 (i + 1) g w5 from ⟨K5.out, I.out.2.2.2, G6, hg, I.out.1, I.out.2.1, t0, by omega, by omega, by omega, I.out.2.2.1⟩)
              clear e1 e2 h1 h2 PC A5 K5 G6 cg6 I
              obtain ⟨-, -, -, -, c102, cg, -⟩ := hL2.out.G.facts hL2.out.ok.s
              rw [hL2.out.wn] at c102
              refine (num_any _ _).mono ?_
              rintro e w6 ⟨rfl, h6⟩
              obtain rfl := h6.symm
              clear h6
              go_wp2_with fail
              refine (Longest_ok n1 (by omega) k1 (by omega) _).mono ?_
              rintro e w7 ⟨⟨r, hr, rfl⟩, h7⟩
              obtain rfl := h7.symm
              clear h7
              have hlz := hL2.out.ok.s.len
              have cgz := hL2.out.G.whole hlz
              by_cases hmx : 2 * (k + (1 + (r : Int))) ≤ now2
              · obtain ⟨g', E, ok', wn'⟩ := bounds_end (r := r) (T := now2) hL2.out.ok hL2.out.wn hL2.out.rr hL2.out.t0 hL2.out.t1 hL2.out.sum (by omega) (by omega) (by omega)
                have E := Lib.hid E
                have hlx := ok'.s.len
                go_wp2_with fail
                refine (Timeout_any hL2.out.ok now2 _).mono ?_
                rintro e w8 ⟨rfl, hb⟩
                rw [E.out]
                have Bx := (cthen hL2.out.B hb hL2.out.B.size).alloc (by have := hL2.out.B.size; have := hb.size; omega) (.cells g'.row.toArray 30)
                have Gx := GmAt.new w8 30 g'
                obtain ⟨-, -, -, -, cw, -, -⟩ := Gx.facts ok'.s
                clear cgz hb Gx
                go_wp2_with fail
                refine (num_any _ _).mono ?_
                rintro e w9 ⟨rfl, rfl⟩
                rcases wn' with hw' | hw'
                · rw [hw'] at cw
                  go_wp2_with fail
                  go_ret
                  exact ⟨rfl, Bx⟩
                · rw [hw'] at cw
                  go_wp2_with fail
                  go_ret
                  exact ⟨rfl, Bx⟩
              · obtain ⟨g', E, ok', wn'⟩ := bounds_end (r := r) (T := (2 * (k + (1 + (r : Int))))) hL2.out.ok hL2.out.wn hL2.out.rr hL2.out.t0 hL2.out.t1 hL2.out.sum (by omega) (by omega) (by omega)
                have E := Lib.hid E
                have hlx := ok'.s.len
                go_wp2_with fail
                refine (Timeout_any hL2.out.ok (2 * (k + (1 + (r : Int)))) _).mono ?_
                rintro e w8 ⟨rfl, hb⟩
                rw [E.out]
                have Bx := (cthen hL2.out.B hb hL2.out.B.size).alloc (by have := hL2.out.B.size; have := hb.size; omega) (.cells g'.row.toArray 30)
                have Gx := GmAt.new w8 30 g'
                obtain ⟨-, -, -, -, cw, -, -⟩ := Gx.facts ok'.s
                clear cgz hb Gx
                go_wp2_with fail
                refine (num_any _ _).mono ?_
                rintro e w9 ⟨rfl, rfl⟩
                rcases wn' with hw' | hw'
                · rw [hw'] at cw
                  go_wp2_with fail
                  go_ret
                  exact ⟨rfl, Bx⟩
                · rw [hw'] at cw
                  go_wp2_with fail
                  go_ret
                  exact ⟨rfl, Bx⟩
            · obtain ⟨h1, h2⟩ := Prod.mk.inj e1
              subst h1
              subst h2
              have hL2 := Lib.hid (show LG w b k now2 (i + 1) a (w5.setCells b 0 a.row) from ⟨below_setCells' b I.out.2.2.2 a.row 0 K5.out, I.out.2.2.2, G6.setAll hl hla, ha, N.wn, N.rr, by rw [N.t]; exact N.t0, by rw [N.t]; exact Int.le_refl _, by omega, by omega, by rw [N.t, N.sum]; exact I.out.2.2.1⟩)
              have th := G6.there hl (o := 0) (n := 103) (by omega)
              have ca := A5.whole hla
              clear e1 PC A5 K5 I N
              refine (num_any _ _).mono ?_
              rintro e w6 ⟨rfl, h6⟩
              obtain rfl := h6.symm
              clear h6
              go_wp2_with fail
              go_roundw
              case rel => exact ⟨i + 1, now2, _, rfl, by go_num, hL2⟩
              case measure => simp [intOf]; omega
          · rw [ht]
            clear PC
            go_wp2_with fail
            refine (GmChoose_any hg _ now2 _).mono ?_
            rintro e w6 ⟨rfl, hb⟩
            generalize ((i : Int) % 2 == 0) = ag
            have hB := Gm.choose_fine hg (now := now2) (a := ag)
            have PC := Lib.hid (choose_next (g := g) (now := now2) (a := ag))
            generalize g.choose now2 ag = pb at hB PC ⊢
            obtain ⟨bb, eb⟩ := pb
            simp only at hB ⊢
            have hlb := hB.s.len
            have G6 := (G5.on hb).others (c := nb) (by omega) 0 bb.row
            have th := (A5.on hb).there hla (o := 0) (n := 103) (by omega)
            have A6 := (A5.on hb).setAll hla (g' := bb) hlb
            have K6 := Lib.hid (below_setCells' (B := w.heap.size) nb (by have := I.out.2.2.2; omega) bb.row 0 (cthen K5.out hb K5.out.size))
            clear G5 A5 K5 hb cg5
            have cg6 := G6.whole hl
            go_wp2_with fail
            generalize w6.setCells nb 0 bb.row = w7 at G6 A6 K6 cg6 ⊢
            rcases PC.out with ⟨h, c, e1, e2⟩ | ⟨h, e1, N⟩
            · obtain ⟨h1, h2⟩ := Prod.mk.inj e1
              have n1' : (eb != 0) = true := by rw [h2]; simpa using e2
              have hL2 := Lib.hid (show LG w b k now2 (i + 1) g w7 from ⟨K6.out, I.out.2.2.2, G6, hg, I.out.1, I.out.2.1, t0, by omega, by omega, by omega, I.out.2.2.1⟩)
              clear e1 e2 h1 h2 PC A6 K6 G6 cg6 I
              obtain ⟨-, -, -, -, c102, cg, -⟩ := hL2.out.G.facts hL2.out.ok.s
              rw [hL2.out.wn] at c102
              refine (num_any _ _).mono ?_
              rintro e w6 ⟨rfl, h6⟩
              obtain rfl := h6.symm
              clear h6
              go_wp2_with fail
              refine (Longest_ok n1 (by omega) k1 (by omega) _).mono ?_
              rintro e w7 ⟨⟨r, hr, rfl⟩, h7⟩
              obtain rfl := h7.symm
              clear h7
              have hlz := hL2.out.ok.s.len
              have cgz := hL2.out.G.whole hlz
              by_cases hmx : 2 * (k + (1 + (r : Int))) ≤ now2
              · obtain ⟨g', E, ok', wn'⟩ := bounds_end (r := r) (T := now2) hL2.out.ok hL2.out.wn hL2.out.rr hL2.out.t0 hL2.out.t1 hL2.out.sum (by omega) (by omega) (by omega)
                have E := Lib.hid E
                have hlx := ok'.s.len
                go_wp2_with fail
                refine (Timeout_any hL2.out.ok now2 _).mono ?_
                rintro e w8 ⟨rfl, hb⟩
                rw [E.out]
                have Bx := (cthen hL2.out.B hb hL2.out.B.size).alloc (by have := hL2.out.B.size; have := hb.size; omega) (.cells g'.row.toArray 30)
                have Gx := GmAt.new w8 30 g'
                obtain ⟨-, -, -, -, cw, -, -⟩ := Gx.facts ok'.s
                clear cgz hb Gx
                go_wp2_with fail
                refine (num_any _ _).mono ?_
                rintro e w9 ⟨rfl, rfl⟩
                rcases wn' with hw' | hw'
                · rw [hw'] at cw
                  go_wp2_with fail
                  go_ret
                  exact ⟨rfl, Bx⟩
                · rw [hw'] at cw
                  go_wp2_with fail
                  go_ret
                  exact ⟨rfl, Bx⟩
              · obtain ⟨g', E, ok', wn'⟩ := bounds_end (r := r) (T := (2 * (k + (1 + (r : Int))))) hL2.out.ok hL2.out.wn hL2.out.rr hL2.out.t0 hL2.out.t1 hL2.out.sum (by omega) (by omega) (by omega)
                have E := Lib.hid E
                have hlx := ok'.s.len
                go_wp2_with fail
                refine (Timeout_any hL2.out.ok (2 * (k + (1 + (r : Int)))) _).mono ?_
                rintro e w8 ⟨rfl, hb⟩
                rw [E.out]
                have Bx := (cthen hL2.out.B hb hL2.out.B.size).alloc (by have := hL2.out.B.size; have := hb.size; omega) (.cells g'.row.toArray 30)
                have Gx := GmAt.new w8 30 g'
                obtain ⟨-, -, -, -, cw, -, -⟩ := Gx.facts ok'.s
                clear cgz hb Gx
                go_wp2_with fail
                refine (num_any _ _).mono ?_
                rintro e w9 ⟨rfl, rfl⟩
                rcases wn' with hw' | hw'
                · rw [hw'] at cw
                  go_wp2_with fail
                  go_ret
                  exact ⟨rfl, Bx⟩
                · rw [hw'] at cw
                  go_wp2_with fail
                  go_ret
                  exact ⟨rfl, Bx⟩
            · obtain ⟨h1, h2⟩ := Prod.mk.inj e1
              subst h1
              subst h2
              have hL2 := Lib.hid (show LG w b k now2 (i + 1) bb (w7.setCells b 0 bb.row) from ⟨below_setCells' b I.out.2.2.2 bb.row 0 K6.out, I.out.2.2.2, G6.setAll hl hlb, hB, N.wn, N.rr, by rw [N.t]; exact N.t0, by rw [N.t]; exact Int.le_refl _, by omega, by omega, by rw [N.t, N.sum]; exact I.out.2.2.1⟩)
              have th := G6.there hl (o := 0) (n := 103) (by omega)
              have ca := A6.whole hlb
              clear e1 PC A6 K6 I N
              refine (num_any _ _).mono ?_
              rintro e w6 ⟨rfl, h6⟩
              obtain rfl := h6.symm
              clear h6
              go_wp2_with fail
              go_roundw
              case rel => exact ⟨i + 1, now2, _, rfl, by go_num, hL2⟩
              case measure => simp [intOf]; omega
      · have him' : (m : Int) ≤ (i : Int) := by omega
        by_cases hil : i < l
        · have hil' : (i : Int) < (l : Int) := by omega
          obtain ⟨pb, po, rfl, hpb, hDl, hDr⟩ := (hD.out.on hL.out.B) i hil
          have hrow := (rowOf_below ((Below.refl _ wr).alloc (Nat.le_refl _) (.cells (hc zero32).toArray 25)) hpb (po + i * 32) 32).trans hDr
          have zl := zero32_len
          have hX : List.length (D i) = 32 := hDl
          have hg := hL.out.ok
          have hl := hg.s.len
          have G3 := hL.out.G.alloc (.cells (hc (D i)).toArray 25)
          have cg3 := G3.whole hl
          have ch := (HashAt.new wr (D i)).row hX
          go_wp2_with fail
          obtain ⟨now2, hn2⟩ : ∃ x, x = now := ⟨_, rfl⟩
          rw [← hn2]
          have q0 : now ≤ now2 := by omega
          have q1 : now2 ≤ now + 19 := by omega
          clear hn2
          have K3 := Lib.hid (hL.out.B.alloc hL.out.B.size (.cells (hc (D i)).toArray 25))
          generalize wr.alloc (.cells (hc (D i)).toArray 25) = wh at G3 K3 cg3 ch ⊢
          generalize (D i) = X at hX ch ⊢
          refine (GmPost_any hg hX now2 _).mono ?_
          rintro e w4 ⟨rfl, hb⟩
          have ha := Gm.post_fine hg (now := now2) hX
          have PC := Lib.hid (post_next (g := g) (now := now2) (F := X))
          generalize g.post now2 X = pa at ha PC ⊢
          obtain ⟨a, ea⟩ := pa
          simp only at ha ⊢
          have hla := ha.s.len
          have G4 := (G3.on hb).alloc (.cells a.row.toArray 30)
          have K4 := Lib.hid ((cthen K3.out hb K3.out.size).alloc (by have := K3.out.size; have := hb.size; omega) (.cells a.row.toArray 30))
          have A4 := GmAt.new w4 30 a
          have sz : b < w4.heap.size := by have := G3.lt; have := hb.size; omega
          clear G3 K3 ch hb cg3 c102 cg
          have cg4 := G4.whole hl
          go_wp2_with fail
          generalize hnb : w4.heap.size = nb at A4 sz ⊢
          generalize w4.alloc (.cells a.row.toArray 30) = wi at G4 K4 A4 cg4 ⊢
          refine (Turn_any hg _).mono ?_
          rintro e w5 ⟨rfl, hb⟩
          have G5 := G4.on hb
          have A5 := A4.on hb
          have K5 := Lib.hid (cthen K4.out hb K4.out.size)
          have I := Lib.hid (show g.wn = -1 ∧ g.right = true ∧ g.c0 + g.c1 + g.at_ = 2 * k ∧ w.heap.size ≤ b from ⟨hL.out.wn, hL.out.rr, hL.out.sum, hL.out.bb⟩)
          clear G4 K4 A4 cg4 hb hL hnb
          have cg5 := G5.whole hl
          have tl : g.turn = 0 ∨ g.turn = 1 := by
            have hw := I.out.1
            have hr := I.out.2.1
            unfold Gm.turn
            rw [hr, hw]
            cases g.s.p || g.s.last <;> simp
          rcases tl with ht | ht
          · rw [ht]
            go_wp2_with fail
            have G6 := G5
            have cg6 := cg5
            rcases PC.out with ⟨h, c, e1, e2⟩ | ⟨h, e1, N⟩
            · obtain ⟨h1, h2⟩ := Prod.mk.inj e1
              have n1' : (ea != 0) = true := by rw [h2]; simpa using e2
              have hL2 := Lib.hid (show LG w b k now2 (i + 1) g w5 from ⟨K5.out, I.out.2.2.2, G6, hg, I.out.1, I.out.2.1, t0, by omega, by omega, by omega, I.out.2.2.1⟩)
              clear e1 e2 h1 h2 PC A5 K5 G6 cg6 I
              obtain ⟨-, -, -, -, c102, cg, -⟩ := hL2.out.G.facts hL2.out.ok.s
              rw [hL2.out.wn] at c102
              refine (num_any _ _).mono ?_
              rintro e w6 ⟨rfl, h6⟩
              obtain rfl := h6.symm
              clear h6
              go_wp2_with fail
              refine (Longest_ok n1 (by omega) k1 (by omega) _).mono ?_
              rintro e w7 ⟨⟨r, hr, rfl⟩, h7⟩
              obtain rfl := h7.symm
              clear h7
              have hlz := hL2.out.ok.s.len
              have cgz := hL2.out.G.whole hlz
              by_cases hmx : 2 * (k + (1 + (r : Int))) ≤ now2
              · obtain ⟨g', E, ok', wn'⟩ := bounds_end (r := r) (T := now2) hL2.out.ok hL2.out.wn hL2.out.rr hL2.out.t0 hL2.out.t1 hL2.out.sum (by omega) (by omega) (by omega)
                have E := Lib.hid E
                have hlx := ok'.s.len
                go_wp2_with fail
                refine (Timeout_any hL2.out.ok now2 _).mono ?_
                rintro e w8 ⟨rfl, hb⟩
                rw [E.out]
                have Bx := (cthen hL2.out.B hb hL2.out.B.size).alloc (by have := hL2.out.B.size; have := hb.size; omega) (.cells g'.row.toArray 30)
                have Gx := GmAt.new w8 30 g'
                obtain ⟨-, -, -, -, cw, -, -⟩ := Gx.facts ok'.s
                clear cgz hb Gx
                go_wp2_with fail
                refine (num_any _ _).mono ?_
                rintro e w9 ⟨rfl, rfl⟩
                rcases wn' with hw' | hw'
                · rw [hw'] at cw
                  go_wp2_with fail
                  go_ret
                  exact ⟨rfl, Bx⟩
                · rw [hw'] at cw
                  go_wp2_with fail
                  go_ret
                  exact ⟨rfl, Bx⟩
              · obtain ⟨g', E, ok', wn'⟩ := bounds_end (r := r) (T := (2 * (k + (1 + (r : Int))))) hL2.out.ok hL2.out.wn hL2.out.rr hL2.out.t0 hL2.out.t1 hL2.out.sum (by omega) (by omega) (by omega)
                have E := Lib.hid E
                have hlx := ok'.s.len
                go_wp2_with fail
                refine (Timeout_any hL2.out.ok (2 * (k + (1 + (r : Int)))) _).mono ?_
                rintro e w8 ⟨rfl, hb⟩
                rw [E.out]
                have Bx := (cthen hL2.out.B hb hL2.out.B.size).alloc (by have := hL2.out.B.size; have := hb.size; omega) (.cells g'.row.toArray 30)
                have Gx := GmAt.new w8 30 g'
                obtain ⟨-, -, -, -, cw, -, -⟩ := Gx.facts ok'.s
                clear cgz hb Gx
                go_wp2_with fail
                refine (num_any _ _).mono ?_
                rintro e w9 ⟨rfl, rfl⟩
                rcases wn' with hw' | hw'
                · rw [hw'] at cw
                  go_wp2_with fail
                  go_ret
                  exact ⟨rfl, Bx⟩
                · rw [hw'] at cw
                  go_wp2_with fail
                  go_ret
                  exact ⟨rfl, Bx⟩
            · obtain ⟨h1, h2⟩ := Prod.mk.inj e1
              subst h1
              subst h2
              have hL2 := Lib.hid (show LG w b k now2 (i + 1) a (w5.setCells b 0 a.row) from ⟨below_setCells' b I.out.2.2.2 a.row 0 K5.out, I.out.2.2.2, G6.setAll hl hla, ha, N.wn, N.rr, by rw [N.t]; exact N.t0, by rw [N.t]; exact Int.le_refl _, by omega, by omega, by rw [N.t, N.sum]; exact I.out.2.2.1⟩)
              have th := G6.there hl (o := 0) (n := 103) (by omega)
              have ca := A5.whole hla
              clear e1 PC A5 K5 I N
              refine (num_any _ _).mono ?_
              rintro e w6 ⟨rfl, h6⟩
              obtain rfl := h6.symm
              clear h6
              go_wp2_with fail
              go_roundw
              case rel => exact ⟨i + 1, now2, _, rfl, by go_num, hL2⟩
              case measure => simp [intOf]; omega
          · rw [ht]
            clear PC
            go_wp2_with fail
            refine (GmChoose_any hg _ now2 _).mono ?_
            rintro e w6 ⟨rfl, hb⟩
            generalize ((i : Int) % 2 == 0) = ag
            have hB := Gm.choose_fine hg (now := now2) (a := ag)
            have PC := Lib.hid (choose_next (g := g) (now := now2) (a := ag))
            generalize g.choose now2 ag = pb at hB PC ⊢
            obtain ⟨bb, eb⟩ := pb
            simp only at hB ⊢
            have hlb := hB.s.len
            have G6 := (G5.on hb).others (c := nb) (by omega) 0 bb.row
            have th := (A5.on hb).there hla (o := 0) (n := 103) (by omega)
            have A6 := (A5.on hb).setAll hla (g' := bb) hlb
            have K6 := Lib.hid (below_setCells' (B := w.heap.size) nb (by have := I.out.2.2.2; omega) bb.row 0 (cthen K5.out hb K5.out.size))
            clear G5 A5 K5 hb cg5
            have cg6 := G6.whole hl
            go_wp2_with fail
            generalize w6.setCells nb 0 bb.row = w7 at G6 A6 K6 cg6 ⊢
            rcases PC.out with ⟨h, c, e1, e2⟩ | ⟨h, e1, N⟩
            · obtain ⟨h1, h2⟩ := Prod.mk.inj e1
              have n1' : (eb != 0) = true := by rw [h2]; simpa using e2
              have hL2 := Lib.hid (show LG w b k now2 (i + 1) g w7 from ⟨K6.out, I.out.2.2.2, G6, hg, I.out.1, I.out.2.1, t0, by omega, by omega, by omega, I.out.2.2.1⟩)
              clear e1 e2 h1 h2 PC A6 K6 G6 cg6 I
              obtain ⟨-, -, -, -, c102, cg, -⟩ := hL2.out.G.facts hL2.out.ok.s
              rw [hL2.out.wn] at c102
              refine (num_any _ _).mono ?_
              rintro e w6 ⟨rfl, h6⟩
              obtain rfl := h6.symm
              clear h6
              go_wp2_with fail
              refine (Longest_ok n1 (by omega) k1 (by omega) _).mono ?_
              rintro e w7 ⟨⟨r, hr, rfl⟩, h7⟩
              obtain rfl := h7.symm
              clear h7
              have hlz := hL2.out.ok.s.len
              have cgz := hL2.out.G.whole hlz
              by_cases hmx : 2 * (k + (1 + (r : Int))) ≤ now2
              · obtain ⟨g', E, ok', wn'⟩ := bounds_end (r := r) (T := now2) hL2.out.ok hL2.out.wn hL2.out.rr hL2.out.t0 hL2.out.t1 hL2.out.sum (by omega) (by omega) (by omega)
                have E := Lib.hid E
                have hlx := ok'.s.len
                go_wp2_with fail
                refine (Timeout_any hL2.out.ok now2 _).mono ?_
                rintro e w8 ⟨rfl, hb⟩
                rw [E.out]
                have Bx := (cthen hL2.out.B hb hL2.out.B.size).alloc (by have := hL2.out.B.size; have := hb.size; omega) (.cells g'.row.toArray 30)
                have Gx := GmAt.new w8 30 g'
                obtain ⟨-, -, -, -, cw, -, -⟩ := Gx.facts ok'.s
                clear cgz hb Gx
                go_wp2_with fail
                refine (num_any _ _).mono ?_
                rintro e w9 ⟨rfl, rfl⟩
                rcases wn' with hw' | hw'
                · rw [hw'] at cw
                  go_wp2_with fail
                  go_ret
                  exact ⟨rfl, Bx⟩
                · rw [hw'] at cw
                  go_wp2_with fail
                  go_ret
                  exact ⟨rfl, Bx⟩
              · obtain ⟨g', E, ok', wn'⟩ := bounds_end (r := r) (T := (2 * (k + (1 + (r : Int))))) hL2.out.ok hL2.out.wn hL2.out.rr hL2.out.t0 hL2.out.t1 hL2.out.sum (by omega) (by omega) (by omega)
                have E := Lib.hid E
                have hlx := ok'.s.len
                go_wp2_with fail
                refine (Timeout_any hL2.out.ok (2 * (k + (1 + (r : Int)))) _).mono ?_
                rintro e w8 ⟨rfl, hb⟩
                rw [E.out]
                have Bx := (cthen hL2.out.B hb hL2.out.B.size).alloc (by have := hL2.out.B.size; have := hb.size; omega) (.cells g'.row.toArray 30)
                have Gx := GmAt.new w8 30 g'
                obtain ⟨-, -, -, -, cw, -, -⟩ := Gx.facts ok'.s
                clear cgz hb Gx
                go_wp2_with fail
                refine (num_any _ _).mono ?_
                rintro e w9 ⟨rfl, rfl⟩
                rcases wn' with hw' | hw'
                · rw [hw'] at cw
                  go_wp2_with fail
                  go_ret
                  exact ⟨rfl, Bx⟩
                · rw [hw'] at cw
                  go_wp2_with fail
                  go_ret
                  exact ⟨rfl, Bx⟩
            · obtain ⟨h1, h2⟩ := Prod.mk.inj e1
              subst h1
              subst h2
              have hL2 := Lib.hid (show LG w b k now2 (i + 1) bb (w7.setCells b 0 bb.row) from ⟨below_setCells' b I.out.2.2.2 bb.row 0 K6.out, I.out.2.2.2, G6.setAll hl hlb, hB, N.wn, N.rr, by rw [N.t]; exact N.t0, by rw [N.t]; exact Int.le_refl _, by omega, by omega, by rw [N.t, N.sum]; exact I.out.2.2.1⟩)
              have th := G6.there hl (o := 0) (n := 103) (by omega)
              have ca := A6.whole hlb
              clear e1 PC A6 K6 I N
              refine (num_any _ _).mono ?_
              rintro e w6 ⟨rfl, h6⟩
              obtain rfl := h6.symm
              clear h6
              go_wp2_with fail
              go_roundw
              case rel => exact ⟨i + 1, now2, _, rfl, by go_num, hL2⟩
              case measure => simp [intOf]; omega
        · have hil' : (l : Int) ≤ (i : Int) := by omega
          have zl := zero32_len
          have hX : List.length (zero32) = 32 := zero32_len
          have hg := hL.out.ok
          have hl := hg.s.len
          have G3 := hL.out.G.alloc (.cells (hc (zero32)).toArray 25)
          have cg3 := G3.whole hl
          have ch := (HashAt.new wr (zero32)).row hX
          go_wp2_with fail
          obtain ⟨now2, hn2⟩ : ∃ x, x = now := ⟨_, rfl⟩
          rw [← hn2]
          have q0 : now ≤ now2 := by omega
          have q1 : now2 ≤ now + 19 := by omega
          clear hn2
          have K3 := Lib.hid (hL.out.B.alloc hL.out.B.size (.cells (hc (zero32)).toArray 25))
          generalize wr.alloc (.cells (hc (zero32)).toArray 25) = wh at G3 K3 cg3 ch ⊢
          generalize (zero32) = X at hX ch ⊢
          refine (GmPost_any hg hX now2 _).mono ?_
          rintro e w4 ⟨rfl, hb⟩
          have ha := Gm.post_fine hg (now := now2) hX
          have PC := Lib.hid (post_next (g := g) (now := now2) (F := X))
          generalize g.post now2 X = pa at ha PC ⊢
          obtain ⟨a, ea⟩ := pa
          simp only at ha ⊢
          have hla := ha.s.len
          have G4 := (G3.on hb).alloc (.cells a.row.toArray 30)
          have K4 := Lib.hid ((cthen K3.out hb K3.out.size).alloc (by have := K3.out.size; have := hb.size; omega) (.cells a.row.toArray 30))
          have A4 := GmAt.new w4 30 a
          have sz : b < w4.heap.size := by have := G3.lt; have := hb.size; omega
          clear G3 K3 ch hb cg3 c102 cg
          have cg4 := G4.whole hl
          go_wp2_with fail
          generalize hnb : w4.heap.size = nb at A4 sz ⊢
          generalize w4.alloc (.cells a.row.toArray 30) = wi at G4 K4 A4 cg4 ⊢
          refine (Turn_any hg _).mono ?_
          rintro e w5 ⟨rfl, hb⟩
          have G5 := G4.on hb
          have A5 := A4.on hb
          have K5 := Lib.hid (cthen K4.out hb K4.out.size)
          have I := Lib.hid (show g.wn = -1 ∧ g.right = true ∧ g.c0 + g.c1 + g.at_ = 2 * k ∧ w.heap.size ≤ b from ⟨hL.out.wn, hL.out.rr, hL.out.sum, hL.out.bb⟩)
          clear G4 K4 A4 cg4 hb hL hnb
          have cg5 := G5.whole hl
          have tl : g.turn = 0 ∨ g.turn = 1 := by
            have hw := I.out.1
            have hr := I.out.2.1
            unfold Gm.turn
            rw [hr, hw]
            cases g.s.p || g.s.last <;> simp
          rcases tl with ht | ht
          · rw [ht]
            go_wp2_with fail
            have G6 := G5
            have cg6 := cg5
            rcases PC.out with ⟨h, c, e1, e2⟩ | ⟨h, e1, N⟩
            · obtain ⟨h1, h2⟩ := Prod.mk.inj e1
              have n1' : (ea != 0) = true := by rw [h2]; simpa using e2
              have hL2 := Lib.hid (show LG w b k now2 (i + 1) g w5 from ⟨K5.out, I.out.2.2.2, G6, hg, I.out.1, I.out.2.1, t0, by omega, by omega, by omega, I.out.2.2.1⟩)
              clear e1 e2 h1 h2 PC A5 K5 G6 cg6 I
              obtain ⟨-, -, -, -, c102, cg, -⟩ := hL2.out.G.facts hL2.out.ok.s
              rw [hL2.out.wn] at c102
              refine (num_any _ _).mono ?_
              rintro e w6 ⟨rfl, h6⟩
              obtain rfl := h6.symm
              clear h6
              go_wp2_with fail
              refine (Longest_ok n1 (by omega) k1 (by omega) _).mono ?_
              rintro e w7 ⟨⟨r, hr, rfl⟩, h7⟩
              obtain rfl := h7.symm
              clear h7
              have hlz := hL2.out.ok.s.len
              have cgz := hL2.out.G.whole hlz
              by_cases hmx : 2 * (k + (1 + (r : Int))) ≤ now2
              · obtain ⟨g', E, ok', wn'⟩ := bounds_end (r := r) (T := now2) hL2.out.ok hL2.out.wn hL2.out.rr hL2.out.t0 hL2.out.t1 hL2.out.sum (by omega) (by omega) (by omega)
                have E := Lib.hid E
                have hlx := ok'.s.len
                go_wp2_with fail
                refine (Timeout_any hL2.out.ok now2 _).mono ?_
                rintro e w8 ⟨rfl, hb⟩
                rw [E.out]
                have Bx := (cthen hL2.out.B hb hL2.out.B.size).alloc (by have := hL2.out.B.size; have := hb.size; omega) (.cells g'.row.toArray 30)
                have Gx := GmAt.new w8 30 g'
                obtain ⟨-, -, -, -, cw, -, -⟩ := Gx.facts ok'.s
                clear cgz hb Gx
                go_wp2_with fail
                refine (num_any _ _).mono ?_
                rintro e w9 ⟨rfl, rfl⟩
                rcases wn' with hw' | hw'
                · rw [hw'] at cw
                  go_wp2_with fail
                  go_ret
                  exact ⟨rfl, Bx⟩
                · rw [hw'] at cw
                  go_wp2_with fail
                  go_ret
                  exact ⟨rfl, Bx⟩
              · obtain ⟨g', E, ok', wn'⟩ := bounds_end (r := r) (T := (2 * (k + (1 + (r : Int))))) hL2.out.ok hL2.out.wn hL2.out.rr hL2.out.t0 hL2.out.t1 hL2.out.sum (by omega) (by omega) (by omega)
                have E := Lib.hid E
                have hlx := ok'.s.len
                go_wp2_with fail
                refine (Timeout_any hL2.out.ok (2 * (k + (1 + (r : Int)))) _).mono ?_
                rintro e w8 ⟨rfl, hb⟩
                rw [E.out]
                have Bx := (cthen hL2.out.B hb hL2.out.B.size).alloc (by have := hL2.out.B.size; have := hb.size; omega) (.cells g'.row.toArray 30)
                have Gx := GmAt.new w8 30 g'
                obtain ⟨-, -, -, -, cw, -, -⟩ := Gx.facts ok'.s
                clear cgz hb Gx
                go_wp2_with fail
                refine (num_any _ _).mono ?_
                rintro e w9 ⟨rfl, rfl⟩
                rcases wn' with hw' | hw'
                · rw [hw'] at cw
                  go_wp2_with fail
                  go_ret
                  exact ⟨rfl, Bx⟩
                · rw [hw'] at cw
                  go_wp2_with fail
                  go_ret
                  exact ⟨rfl, Bx⟩
            · obtain ⟨h1, h2⟩ := Prod.mk.inj e1
              subst h1
              subst h2
              have hL2 := Lib.hid (show LG w b k now2 (i + 1) a (w5.setCells b 0 a.row) from ⟨below_setCells' b I.out.2.2.2 a.row 0 K5.out, I.out.2.2.2, G6.setAll hl hla, ha, N.wn, N.rr, by rw [N.t]; exact N.t0, by rw [N.t]; exact Int.le_refl _, by omega, by omega, by rw [N.t, N.sum]; exact I.out.2.2.1⟩)
              have th := G6.there hl (o := 0) (n := 103) (by omega)
              have ca := A5.whole hla
              clear e1 PC A5 K5 I N
              refine (num_any _ _).mono ?_
              rintro e w6 ⟨rfl, h6⟩
              obtain rfl := h6.symm
              clear h6
              go_wp2_with fail
              go_roundw
              case rel => exact ⟨i + 1, now2, _, rfl, by go_num, hL2⟩
              case measure => simp [intOf]; omega
          · rw [ht]
            clear PC
            go_wp2_with fail
            refine (GmChoose_any hg _ now2 _).mono ?_
            rintro e w6 ⟨rfl, hb⟩
            generalize ((i : Int) % 2 == 0) = ag
            have hB := Gm.choose_fine hg (now := now2) (a := ag)
            have PC := Lib.hid (choose_next (g := g) (now := now2) (a := ag))
            generalize g.choose now2 ag = pb at hB PC ⊢
            obtain ⟨bb, eb⟩ := pb
            simp only at hB ⊢
            have hlb := hB.s.len
            have G6 := (G5.on hb).others (c := nb) (by omega) 0 bb.row
            have th := (A5.on hb).there hla (o := 0) (n := 103) (by omega)
            have A6 := (A5.on hb).setAll hla (g' := bb) hlb
            have K6 := Lib.hid (below_setCells' (B := w.heap.size) nb (by have := I.out.2.2.2; omega) bb.row 0 (cthen K5.out hb K5.out.size))
            clear G5 A5 K5 hb cg5
            have cg6 := G6.whole hl
            go_wp2_with fail
            generalize w6.setCells nb 0 bb.row = w7 at G6 A6 K6 cg6 ⊢
            rcases PC.out with ⟨h, c, e1, e2⟩ | ⟨h, e1, N⟩
            · obtain ⟨h1, h2⟩ := Prod.mk.inj e1
              have n1' : (eb != 0) = true := by rw [h2]; simpa using e2
              have hL2 := Lib.hid (show LG w b k now2 (i + 1) g w7 from ⟨K6.out, I.out.2.2.2, G6, hg, I.out.1, I.out.2.1, t0, by omega, by omega, by omega, I.out.2.2.1⟩)
              clear e1 e2 h1 h2 PC A6 K6 G6 cg6 I
              obtain ⟨-, -, -, -, c102, cg, -⟩ := hL2.out.G.facts hL2.out.ok.s
              rw [hL2.out.wn] at c102
              refine (num_any _ _).mono ?_
              rintro e w6 ⟨rfl, h6⟩
              obtain rfl := h6.symm
              clear h6
              go_wp2_with fail
              refine (Longest_ok n1 (by omega) k1 (by omega) _).mono ?_
              rintro e w7 ⟨⟨r, hr, rfl⟩, h7⟩
              obtain rfl := h7.symm
              clear h7
              have hlz := hL2.out.ok.s.len
              have cgz := hL2.out.G.whole hlz
              by_cases hmx : 2 * (k + (1 + (r : Int))) ≤ now2
              · obtain ⟨g', E, ok', wn'⟩ := bounds_end (r := r) (T := now2) hL2.out.ok hL2.out.wn hL2.out.rr hL2.out.t0 hL2.out.t1 hL2.out.sum (by omega) (by omega) (by omega)
                have E := Lib.hid E
                have hlx := ok'.s.len
                go_wp2_with fail
                refine (Timeout_any hL2.out.ok now2 _).mono ?_
                rintro e w8 ⟨rfl, hb⟩
                rw [E.out]
                have Bx := (cthen hL2.out.B hb hL2.out.B.size).alloc (by have := hL2.out.B.size; have := hb.size; omega) (.cells g'.row.toArray 30)
                have Gx := GmAt.new w8 30 g'
                obtain ⟨-, -, -, -, cw, -, -⟩ := Gx.facts ok'.s
                clear cgz hb Gx
                go_wp2_with fail
                refine (num_any _ _).mono ?_
                rintro e w9 ⟨rfl, rfl⟩
                rcases wn' with hw' | hw'
                · rw [hw'] at cw
                  go_wp2_with fail
                  go_ret
                  exact ⟨rfl, Bx⟩
                · rw [hw'] at cw
                  go_wp2_with fail
                  go_ret
                  exact ⟨rfl, Bx⟩
              · obtain ⟨g', E, ok', wn'⟩ := bounds_end (r := r) (T := (2 * (k + (1 + (r : Int))))) hL2.out.ok hL2.out.wn hL2.out.rr hL2.out.t0 hL2.out.t1 hL2.out.sum (by omega) (by omega) (by omega)
                have E := Lib.hid E
                have hlx := ok'.s.len
                go_wp2_with fail
                refine (Timeout_any hL2.out.ok (2 * (k + (1 + (r : Int)))) _).mono ?_
                rintro e w8 ⟨rfl, hb⟩
                rw [E.out]
                have Bx := (cthen hL2.out.B hb hL2.out.B.size).alloc (by have := hL2.out.B.size; have := hb.size; omega) (.cells g'.row.toArray 30)
                have Gx := GmAt.new w8 30 g'
                obtain ⟨-, -, -, -, cw, -, -⟩ := Gx.facts ok'.s
                clear cgz hb Gx
                go_wp2_with fail
                refine (num_any _ _).mono ?_
                rintro e w9 ⟨rfl, rfl⟩
                rcases wn' with hw' | hw'
                · rw [hw'] at cw
                  go_wp2_with fail
                  go_ret
                  exact ⟨rfl, Bx⟩
                · rw [hw'] at cw
                  go_wp2_with fail
                  go_ret
                  exact ⟨rfl, Bx⟩
            · obtain ⟨h1, h2⟩ := Prod.mk.inj e1
              subst h1
              subst h2
              have hL2 := Lib.hid (show LG w b k now2 (i + 1) bb (w7.setCells b 0 bb.row) from ⟨below_setCells' b I.out.2.2.2 bb.row 0 K6.out, I.out.2.2.2, G6.setAll hl hlb, hB, N.wn, N.rr, by rw [N.t]; exact N.t0, by rw [N.t]; exact Int.le_refl _, by omega, by omega, by rw [N.t, N.sum]; exact I.out.2.2.1⟩)
              have th := G6.there hl (o := 0) (n := 103) (by omega)
              have ca := A6.whole hlb
              clear e1 PC A6 K6 I N
              refine (num_any _ _).mono ?_
              rintro e w6 ⟨rfl, h6⟩
              obtain rfl := h6.symm
              clear h6
              go_wp2_with fail
              go_roundw
              case rel => exact ⟨i + 1, now2, _, rfl, by go_num, hL2⟩
              case measure => simp [intOf]; omega
end Go.Proofs.Ytkdhhdbgngegfaa
