/-
  The walks of package game: New where its arguments may be, Timeout; basculelaw17.Own.
-/
import Derived.Test.YtkdhhdbgngegfaaGreatDoorGmPost
namespace Go.Proofs.YtkdhhdbgngegfaaGreatDoor
set_option maxRecDepth 100000
open Go.RowKit

def Gm.new (n clock now : Int) (F G : List Int) : Gm := ⟨⟨0, n, F, G, zero32, false⟩, clock, clock, now, -1⟩
theorem Gm.new_ok {n clock now : Int} {F G : List Int} (hF : F.length = 32) (hG : G.length = 32) (n1 : 1 ≤ n) (n2 : n ≤ 4096) (k1 : 1 ≤ clock) (k2 : clock ≤ 1048576) (t1 : 0 ≤ now) (t2 : now ≤ 1099511627776) : (Gm.new n clock now F G).ok :=
  ⟨⟨by show _ ≤ (0 : Int); omega, by show (0 : Int) < _; omega, by show _ ≤ n; omega, by show n < _; omega, hF, hG, zero32_len⟩, ⟨by show _ ≤ clock; omega, by show clock < _; omega⟩, ⟨by show _ ≤ clock; omega, by show clock < _; omega⟩, ⟨by show _ ≤ now; omega, by show now < _; omega⟩, ⟨by show _ ≤ (-1 : Int); omega, by show (-1 : Int) < _; omega⟩⟩

set_option maxHeartbeats 2000000 in
theorem New_ok {n clock now : Int} {F G : List Int} (hF : F.length = 32) (hG : G.length = 32) (n1 : 1 ≤ n) (n2 : n ≤ 4096) (k1 : 1 ≤ clock) (k2 : clock ≤ 1048576) (t1 : 0 ≤ now) (t2 : now ≤ 1099511627776) (w : World) :
    Calls Tryz.prog 25 #[.int .i64 n, .agg (hc F).toArray, .agg (hc G).toArray, .int .i64 clock, .int .i64 now] w
      fun e w' => e = .returned (.tuple #[.agg (Gm.new n clock now F G).row.toArray, .int .i64 0]) ∧ Below w.heap.size w w' := by
  have hz : gm0.s.row.length = 99 := seg0_len
  have hok := Gm.new_ok hF hG n1 n2 k1 k2 t1 t2
  have hl := hok.s.len
  have HF := ((HashAt.new w F).alloc (.cells (hc G).toArray 23)).alloc (.cells gm0.row.toArray 31)
  have HG := (HashAt.new (w.alloc (.cells (hc F).toArray 23)) G).alloc (.cells gm0.row.toArray 31)
  have R := GmAt.new ((w.alloc (.cells (hc F).toArray 23)).alloc (.cells (hc G).toArray 23)) 31 gm0
  have B : Below w.heap.size w (((w.alloc (.cells (hc F).toArray 23)).alloc (.cells (hc G).toArray 23)).alloc (.cells gm0.row.toArray 31)) := by
    repeat (first | with_reducible exact Below.refl _ _ | with_reducible refine Below.alloc ?_ (by simp; try omega) _)
  simp only [World.size_alloc] at HG R
  have cf := HF.row hF
  have cg := HG.row hG
  go_enter Tryz.func25, Tryz.ntmps25
  go_wp2_with fail
  generalize ((w.alloc (.cells (hc F).toArray 23)).alloc (.cells (hc G).toArray 23)).alloc (.cells gm0.row.toArray 31) = wa at HF HG R B cf cg ⊢
  refine (rightTime_any _ _).mono ?_
  rintro e w1 ⟨rfl, rfl⟩
  rw [show timeOk now = true by simp [timeOk, t1, t2]]
  go_wp2_with fail
  refine (Open_any hF hG _).mono ?_
  rintro e w2 ⟨rfl, hb⟩
  have R2 := R.on hb
  have B2 := B.trans (hb.mono B.size)
  clear R B cf cg HF HG hb
  have E : Seg.opened n F G = (⟨0, n, F, G, zero32, false⟩, 0) := if_neg (by omega)
  rw [E]
  have hgn : Gm.new n clock now F G = ⟨⟨0, n, F, G, zero32, false⟩, clock, clock, now, -1⟩ := rfl
  rw [hgn] at hl hok
  generalize hs : (⟨0, n, F, G, zero32, false⟩ : Seg) = s at hl hok hgn ⊢
  simp only at hl
  have hl2 := hl
  clear E
  have S := SegAt.new w2 29 s
  have hso : s.ok := hok.s
  have cs := S.whole hso
  have R3 := R2.alloc (.cells s.row.toArray 29)
  have B3 : Below w.heap.size w (w2.alloc (.cells s.row.toArray 29)) := B2.alloc B2.size _
  have rt := R3.there seg0_len (o := 0) (n := 103) (by omega)
  have R9 := R3.setAll seg0_len (g' := ⟨s, clock, clock, now, -1⟩) hl
  have cr := R9.whole hl
  have B9 := below_setCells' (w.heap.size + 1 + 1) (by omega) (Gm.row ⟨s, clock, clock, now, -1⟩) 0 B3
  generalize hg : (⟨s, clock, clock, now, -1⟩ : Gm) = g at cr B9 hgn ⊢
  have hlg : g.s.row.length = 99 := by rw [← hg]; exact hl
  have hb := Tryz.run_gm_all
  have hbb : ∀ W : World, (rowBuild 31 #[(0, .agg s.row.toArray), (1, .agg #[.int .i64 clock, .int .i64 clock]), (2, .int .i64 now), (3, .int .i64 (-1))]).run Tryz.prog W = .ok (.agg g.row.toArray) W := fun W => by
    rw [← hg]; exact Tryz.run_gm_all W s clock clock now (-1) hl
  have hgn := Lib.hid hgn
  clear hb hg R2 R3 R9 S B2 hs
  go_wp2_with fail
  rw [hgn.out]
  refine bodyPost_ret (v := .tuple #[.agg g.row.toArray, .int .i64 0]) (by simp [results, Tryz.results25, go_sem, cr, hlg]) rfl ⟨rfl, B9⟩

def Gm.timeout (g : Gm) (now : Int) : Gm × Int := bif g.ready now != 0 then (gm0, g.ready now) else bif decide (now - g.at_ ≤ (bif g.turn == 0 then g.c0 else g.c1)) then (gm0, 50) else ({ g with wn := 1 - g.turn }, 0)

theorem Gm.turn_live {g : Gm} {now : Int} (L : g.live now) : g.turn = 0 ∨ g.turn = 1 := by
  unfold Gm.turn
  rw [L.r, L.w]
  cases g.s.p || g.s.last <;> simp

set_option maxHeartbeats 2000000 in
theorem Timeout_any {g : Gm} (hg : g.ok) (now : Int) (w : World) : Calls Tryz.prog 9 #[.agg g.row.toArray, .int .i64 now] w
    fun e w' => e = .returned (.tuple #[.agg (g.timeout now).1.row.toArray, .int .i64 (g.timeout now).2]) ∧ Below w.heap.size w w' := by
  have hl := hg.s.len
  have hz : gm0.s.row.length = 99 := seg0_len
  have G := (GmAt.new w 31 g).alloc (.cells gm0.row.toArray 31)
  have R := GmAt.new (w.alloc (.cells g.row.toArray 31)) 31 gm0
  have B : Below w.heap.size w ((w.alloc (.cells g.row.toArray 31)).alloc (.cells gm0.row.toArray 31)) := by
    repeat (first | with_reducible exact Below.refl _ _ | with_reducible refine Below.alloc ?_ (by simp; try omega) _)
  simp only [World.size_alloc] at R
  obtain ⟨-, -, -, -, -, cg, -⟩ := G.facts hg.s
  go_enter Tryz.func9, Tryz.ntmps9
  go_wp2_with fail
  generalize (w.alloc (.cells g.row.toArray 31)).alloc (.cells gm0.row.toArray 31) = wa at G R B cg ⊢
  refine (ready_any hg now _).mono ?_
  rintro e w1 ⟨rfl, hb⟩
  have G1 := G.on hb
  have R1 := R.on hb
  have B1 := B.trans (hb.mono (by have := G.lt; omega))
  clear G R B hb cg
  by_cases hr : g.ready now = 0
  · rw [hr]
    have L := Gm.live_of hr
    obtain ⟨-, -, -, -, -, cg, -⟩ := G1.facts hg.s
    go_wp2_with fail
    refine (Turn_any hg _).mono ?_
    rintro e w2 ⟨rfl, hb⟩
    have G2 := G1.on hb
    have R2 := R1.on hb
    have B2 := B1.trans (hb.mono (by have := G1.lt; omega))
    clear G1 R1 B1 hb cg
    obtain ⟨-, c99, c100, c101, -, -, -⟩ := G2.facts hg.s
    have t0 := L.t0
    have t1 := L.t1
    have t2 := L.t2
    have a0 := L.a0
    have a1 := L.a1
    have b0 := L.b0
    have b1 := L.b1
    have L' := Lib.hid L
    rcases Gm.turn_live L with ht | ht
    · rw [ht]
      clear L
      by_cases hc : now - g.at_ ≤ g.c0
      · have E := Lib.hid (show g.timeout now = (gm0, 50) by
          have hdc : decide (now - g.at_ ≤ g.c0) = true := decide_eq_true hc
          simp [Gm.timeout, hr, ht, hdc])
        go_wp2_with fail
        go_region
        have R3 := R2.drew
        have B3 := B2.drew
        clear c99 c100 c101 G2 R2 B2
        generalize w2.drew = w3 at R3 B3 ⊢
        have rt := R3.there seg0_len (o := 0) (n := 103) (by omega)
        have R9 := R3.setAll seg0_len (g' := gm0) seg0_len
        have cr := R9.whole seg0_len
        have B9 := below_setCells' (w.heap.size + 1) (by omega) gm0.row 0 B3
        clear R9
        go_wp2_with fail
        rw [E.out]
        refine bodyPost_ret (v := .tuple #[.agg gm0.row.toArray, .int .i64 50]) (by simp [results, Tryz.results9, go_sem, cr, hz]) rfl ⟨rfl, B9⟩
      · have E := Lib.hid (show g.timeout now = ({ g with wn := 1 }, 0) by
          have hdc : decide (now - g.at_ ≤ g.c0) = false := decide_eq_false (by omega)
          simp [Gm.timeout, hr, ht, hdc])
        go_wp2_with fail
        go_region
        have G3 := G2.drew
        have R3 := R2.drew
        have B3 := B2.drew
        clear c99 c100 c101 G2 R2 B2
        generalize w2.drew = w3 at G3 R3 B3 ⊢
        obtain ⟨-, -, -, -, c102, -, -⟩ := G3.facts hg.s
        have f102 := G3.free 102
        have G4 := G3.setW hl 1
        have R4 := R3.other (a := ⟨w.heap.size, 102, none⟩) (by simp) (.int .i64 1)
        have B4 := B3.setCell (p := ⟨w.heap.size, 102, none⟩) (Nat.le_refl _) (.int .i64 1)
        have hlf : (Gm.s { g with wn := 1 }).row.length = 99 := hl
        generalize ({ g with wn := 1 } : Gm) = gf at G4 E hlf
        have cg := G4.whole hlf
        have rt := R4.there seg0_len (o := 0) (n := 103) (by omega)
        have R9 := R4.setAll seg0_len (g' := gf) hlf
        have cr := R9.whole hlf
        have B9 := below_setCells' (w.heap.size + 1) (by omega) gf.row 0 B4
        clear R9 G3 R3 B3
        go_wp2_with fail
        rw [E.out]
        refine bodyPost_ret (v := .tuple #[.agg gf.row.toArray, .int .i64 0]) (by simp [results, Tryz.results9, go_sem, cr, hlf]) rfl ⟨rfl, B9⟩
    · rw [ht]
      clear L
      by_cases hc : now - g.at_ ≤ g.c1
      · have E := Lib.hid (show g.timeout now = (gm0, 50) by
          have hdc : decide (now - g.at_ ≤ g.c1) = true := decide_eq_true hc
          simp [Gm.timeout, hr, ht, hdc])
        go_wp2_with fail
        go_region
        have R3 := R2.drew
        have B3 := B2.drew
        clear c99 c100 c101 G2 R2 B2
        generalize w2.drew = w3 at R3 B3 ⊢
        have rt := R3.there seg0_len (o := 0) (n := 103) (by omega)
        have R9 := R3.setAll seg0_len (g' := gm0) seg0_len
        have cr := R9.whole seg0_len
        have B9 := below_setCells' (w.heap.size + 1) (by omega) gm0.row 0 B3
        clear R9
        go_wp2_with fail
        rw [E.out]
        refine bodyPost_ret (v := .tuple #[.agg gm0.row.toArray, .int .i64 50]) (by simp [results, Tryz.results9, go_sem, cr, hz]) rfl ⟨rfl, B9⟩
      · have E := Lib.hid (show g.timeout now = ({ g with wn := 0 }, 0) by
          have hdc : decide (now - g.at_ ≤ g.c1) = false := decide_eq_false (by omega)
          simp [Gm.timeout, hr, ht, hdc])
        go_wp2_with fail
        go_region
        have G3 := G2.drew
        have R3 := R2.drew
        have B3 := B2.drew
        clear c99 c100 c101 G2 R2 B2
        generalize w2.drew = w3 at G3 R3 B3 ⊢
        obtain ⟨-, -, -, -, c102, -, -⟩ := G3.facts hg.s
        have f102 := G3.free 102
        have G4 := G3.setW hl 0
        have R4 := R3.other (a := ⟨w.heap.size, 102, none⟩) (by simp) (.int .i64 0)
        have B4 := B3.setCell (p := ⟨w.heap.size, 102, none⟩) (Nat.le_refl _) (.int .i64 0)
        have hlf : (Gm.s { g with wn := 0 }).row.length = 99 := hl
        generalize ({ g with wn := 0 } : Gm) = gf at G4 E hlf
        have cg := G4.whole hlf
        have rt := R4.there seg0_len (o := 0) (n := 103) (by omega)
        have R9 := R4.setAll seg0_len (g' := gf) hlf
        have cr := R9.whole hlf
        have B9 := below_setCells' (w.heap.size + 1) (by omega) gf.row 0 B4
        clear R9 G3 R3 B3
        go_wp2_with fail
        rw [E.out]
        refine bodyPost_ret (v := .tuple #[.agg gf.row.toArray, .int .i64 0]) (by simp [results, Tryz.results9, go_sem, cr, hlf]) rfl ⟨rfl, B9⟩
  · have hd : decide (g.ready now = 0) = false := by simpa using hr
    have E : g.timeout now = (gm0, g.ready now) := by
      have hb : (g.ready now != 0) = true := by simpa using hr
      simp only [Gm.timeout, hb, cond_true]
    generalize g.ready now = c at hr hd E ⊢
    have hb : (c != 0) = true := by simpa using hr
    have E := Lib.hid E
    clear hd hr
    have R3 := R1
    have B3 := B1
    have rt := R3.there seg0_len (o := 0) (n := 103) (by omega)
    have R9 := R3.setAll seg0_len (g' := gm0) seg0_len
    have cr := R9.whole seg0_len
    have B9 := below_setCells' (w.heap.size + 1) (by omega) gm0.row 0 B3
    clear R9
    go_wp2_with fail
    rw [E.out]
    refine bodyPost_ret (v := .tuple #[.agg gm0.row.toArray, .int .i64 c]) (by simp [results, Tryz.results9, go_sem, cr, hz]) rfl ⟨rfl, B9⟩

set_option maxHeartbeats 2000000 in
theorem GmOwn_any {g : Gm} (hg : g.ok) (w : World) : Calls Tryz.prog 5 #[.agg g.row.toArray] w fun e w' => e = .returned (.agg g.row.toArray) ∧ Below w.heap.size w w' := by
  have hl := hg.s.len
  have hz : gm0.s.row.length = 99 := seg0_len
  have G := (GmAt.new w 28 g).alloc (.cells gm0.row.toArray 31)
  have R := GmAt.new (w.alloc (.cells g.row.toArray 28)) 31 gm0
  have B : Below w.heap.size w ((w.alloc (.cells g.row.toArray 28)).alloc (.cells gm0.row.toArray 31)) := by
    repeat (first | with_reducible exact Below.refl _ _ | with_reducible refine Below.alloc ?_ (by simp; try omega) _)
  simp only [World.size_alloc] at R
  go_enter Tryz.func5, Tryz.ntmps5
  go_wp2_with fail
  generalize (w.alloc (.cells g.row.toArray 28)).alloc (.cells gm0.row.toArray 31) = wa at G R B ⊢
  refine wp_region_held_drew (S := fun W => GmAt W w.heap.size 28 g) (by kernel_rfl) (G.drew) (fun h0 => ?_)
  refine wpAnyH_take (i := 0) (v := ?_) (by rw [List.getElem?_toArray]; rfl) (by kernel_rfl) (by kernel_rfl) (by kernel_rfl) (by exact fun _ _ _ h => h) (Or.inl ⟨by rfl, ?_⟩) h0 ?_
  rotate_left
  · intro W hW
    obtain ⟨-, c99, c100, c101, c102, -, cs⟩ := GmAt.facts hW hg.s
    go_simp
    all_goals with_reducible rfl
  simp only [Act.put, List.setIfInBounds_toArray, List.set_cons_zero, List.set_cons_succ]
  refine wpAnyH_take (i := 1) (v := ?_) (by rw [List.getElem?_toArray]; rfl) (by kernel_rfl) (by kernel_rfl) (by kernel_rfl) (by exact fun _ _ _ h => h) (Or.inl ⟨by rfl, ?_⟩) h0 ?_
  rotate_left
  · intro W hW
    obtain ⟨-, c99, c100, c101, c102, -, cs⟩ := GmAt.facts hW hg.s
    go_simp
    all_goals with_reducible rfl
  simp only [Act.put, List.setIfInBounds_toArray, List.set_cons_zero, List.set_cons_succ]
  refine wpAnyH_take (i := 3) (v := ?_) (by rw [List.getElem?_toArray]; rfl) (by kernel_rfl) (by kernel_rfl) (by kernel_rfl) (by exact fun _ _ _ h => h) (Or.inl ⟨by rfl, ?_⟩) h0 ?_
  rotate_left
  · intro W hW
    obtain ⟨-, c99, c100, c101, c102, -, cs⟩ := GmAt.facts hW hg.s
    go_simp
    all_goals with_reducible rfl
  simp only [Act.put, List.setIfInBounds_toArray, List.set_cons_zero, List.set_cons_succ]
  refine wpAnyH_take (i := 4) (v := ?_) (by rw [List.getElem?_toArray]; rfl) (by kernel_rfl) (by kernel_rfl) (by kernel_rfl) (by exact fun _ _ _ h => h) (Or.inl ⟨by rfl, ?_⟩) h0 ?_
  rotate_left
  · intro W hW
    obtain ⟨-, c99, c100, c101, c102, -, cs⟩ := GmAt.facts hW hg.s
    go_simp
    all_goals with_reducible rfl
  simp only [Act.put, List.setIfInBounds_toArray, List.set_cons_zero, List.set_cons_succ]
  refine wpAnyH_take (i := 5) (v := ?_) (by rw [List.getElem?_toArray]; rfl) (by kernel_rfl) (by kernel_rfl) (by kernel_rfl) (by exact fun _ _ _ h => h) (Or.inl ⟨by rfl, ?_⟩) h0 ?_
  rotate_left
  · intro W hW
    obtain ⟨-, c99, c100, c101, c102, -, cs⟩ := GmAt.facts hW hg.s
    go_simp
    all_goals with_reducible rfl
  simp only [Act.put, List.setIfInBounds_toArray, List.set_cons_zero, List.set_cons_succ]
  refine wpAnyH_take (i := 6) (v := ?_) (by rw [List.getElem?_toArray]; rfl) (by kernel_rfl) (by kernel_rfl) (by kernel_rfl) (by exact fun _ _ _ h => h) (Or.inl ⟨by rfl, ?_⟩) h0 ?_
  rotate_left
  · intro W hW
    obtain ⟨-, c99, c100, c101, c102, -, cs⟩ := GmAt.facts hW hg.s
    go_simp
    all_goals with_reducible rfl
  simp only [Act.put, List.setIfInBounds_toArray, List.set_cons_zero, List.set_cons_succ]
  refine wpAnyH_take (i := 7) (v := ?_) (by rw [List.getElem?_toArray]; rfl) (by kernel_rfl) (by kernel_rfl) (by kernel_rfl) (by exact fun _ _ _ h => h) (Or.inl ⟨by rfl, ?_⟩) h0 ?_
  rotate_left
  · intro W hW
    obtain ⟨-, c99, c100, c101, c102, -, cs⟩ := GmAt.facts hW hg.s
    go_simp
    all_goals with_reducible rfl
  simp only [Act.put, List.setIfInBounds_toArray, List.set_cons_zero, List.set_cons_succ]
  refine wpAnyH_take (i := 8) (v := ?_) (by rw [List.getElem?_toArray]; rfl) (by kernel_rfl) (by kernel_rfl) (by kernel_rfl) (by exact fun _ _ _ h => h) (Or.inl ⟨by rfl, ?_⟩) h0 ?_
  rotate_left
  · intro W hW
    obtain ⟨-, c99, c100, c101, c102, -, cs⟩ := GmAt.facts hW hg.s
    go_simp
    all_goals with_reducible rfl
  simp only [Act.put, List.setIfInBounds_toArray, List.set_cons_zero, List.set_cons_succ]
  refine wpAnyH_ready (rs := [2]) (by kernel_rfl) (by simp) ?_
  refine AllReadyH.cons (by rw [List.getElem?_toArray]; rfl) (fun K hK => ?_) AllReadyH.nil
  rw [if_pos (by rfl)]
  go_wp2_with fail
  refine (Own_any hg.s _).mono ?_
  rintro e w1 ⟨rfl, hb⟩
  go_wp2_with fail
  refine hK.out _ _ (GmAt.on h0 hb) (fun h01 => ?_)
  clear hK K
  have R1 := R.drew.on hb
  have B1 : Below w.heap.size w w1 := B.drew.trans (hb.mono B.drew.size)
  clear hb R B
  have th := R1.there seg0_len (o := 0) (n := 103) (by omega)
  have hlg := Gm.len hl
  refine wpAnyH_take (i := 9) (v := ?_) (by rw [List.getElem?_toArray]; rfl) (by kernel_rfl) (by kernel_rfl) (by kernel_rfl) (by exact fun _ _ _ h => h) (Or.inl ⟨by rfl, ?_⟩) h01 ?_
  rotate_left
  · intro W hW
    obtain ⟨-, c99, c100, c101, c102, -, cs⟩ := GmAt.facts hW hg.s
    go_simp
    all_goals with_reducible rfl
  simp only [Act.put, List.setIfInBounds_toArray, List.set_cons_zero, List.set_cons_succ]
  rw [show (⟨g.s, g.c0, g.c1, g.at_, g.wn⟩ : Gm) = g from rfl]
  refine wpAnyH_ready (rs := [10]) (by kernel_rfl) (by simp) ?_
  refine AllReadyH.cons (by rw [List.getElem?_toArray]; rfl) (fun K hK => ?_) AllReadyH.nil
  rw [if_pos (by rfl)]
  refine wp_store_mid _ _ _ rfl _ _ (List.toArray g.row) rfl rfl (by simpa [hlg] using th) (by rw [List.size_toArray, hlg]; kernel_rfl) (Gm.one g) ?_
  refine hK.out _ _ (GmAt.others h01 (by omega) _ _) (fun h02 => ?_)
  clear hK K
  simp only [Act.put]
  refine wpAnyH_done (by kernel_rfl) ?_ _
  have R3 := R1.setAll seg0_len (g' := g) hl
  have cr := R3.whole hl
  have B3 := below_setCells' (w.heap.size + 1) (by omega) g.row 0 B1
  clear R1 B1 R3 h0 h01 h02
  go_wp2_with fail
  refine bodyPost_ret (v := .agg g.row.toArray) (by simp [results, Tryz.results5, go_sem, cr, hl]) rfl ⟨rfl, B3⟩
end Go.Proofs.YtkdhhdbgngegfaaGreatDoor
