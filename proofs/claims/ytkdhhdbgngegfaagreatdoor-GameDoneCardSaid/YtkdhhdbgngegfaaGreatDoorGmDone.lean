/-
  GameDone returns true for every game, time and hash, and leaves its arguments: a game that is won takes no more moves.
-/
import Derived.Test.YtkdhhdbgngegfaaGreatDoorGmKnows
import Derived.Test.YtkdhhdbgngegfaaGreatDoorGmProve
import Derived.Test.YtkdhhdbgngegfaaGreatDoorGmInput
import Derived.Deep.CutRange
namespace Go.Proofs.YtkdhhdbgngegfaaGreatDoor
set_option maxRecDepth 100000
open Go.RowKit

theorem cthen {B : Nat} {a w w' : World} (h : Below B a w) (k : Below w.heap.size w w') (hB : B ≤ w.heap.size) : Below B a w' := h.trans (k.mono hB)
theorem wrapmod (n : Int) {d : Int} (h1 : 0 < d) (h2 : d ≤ 1000) : ∃ c, (wrap64 (n.tmod d + d)).tmod d = c ∧ 0 ≤ c ∧ c < d := by
  have a := Int.tmod_lt_of_pos n h1
  have b := Int.lt_tmod_of_pos n h1
  have e : wrap64 (n.tmod d + d) = n.tmod d + d := by unfold wrap64; omega
  rw [e]
  exact ⟨_, rfl, Int.tmod_nonneg d (by omega), Int.tmod_lt_of_pos _ h1⟩

section
variable {g : Gm} {now : Int}
theorem moved_done (hr : g.ready now = 53) (side mine : Bool) (x : Seg × Int) : g.moved now side mine x = (gm0, 53) := by
  unfold Gm.moved; rw [hr]; rfl
theorem Post_done (hg : g.ok) {F : List Int} (hF : F.length = 32) (hr : g.ready now = 53) (w : World) :
    Calls Tryz.prog 4 #[.agg g.row.toArray, .int .i64 now, .agg (hc F).toArray] w
      fun e w' => e = .returned (.tuple #[.agg gm0.row.toArray, .int .i64 53]) ∧ Below w.heap.size w w' :=
  (GmPost_any hg hF now w).mono fun e w' ⟨he, hb⟩ => by rw [Gm.post, moved_done hr] at he; exact ⟨he, hb⟩
theorem Choose_done (hg : g.ok) (agree : Bool) (hr : g.ready now = 53) (w : World) :
    Calls Tryz.prog 6 #[.agg g.row.toArray, .int .i64 now, .bool agree] w
      fun e w' => e = .returned (.tuple #[.agg gm0.row.toArray, .int .i64 53]) ∧ Below w.heap.size w w' :=
  (GmChoose_any hg agree now w).mono fun e w' ⟨he, hb⟩ => by rw [Gm.choose, moved_done hr] at he; exact ⟨he, hb⟩
theorem Timeout_done (hg : g.ok) (hr : g.ready now = 53) (w : World) :
    Calls Tryz.prog 9 #[.agg g.row.toArray, .int .i64 now] w
      fun e w' => e = .returned (.tuple #[.agg gm0.row.toArray, .int .i64 53]) ∧ Below w.heap.size w w' :=
  (Timeout_any hg now w).mono fun e w' ⟨he, hb⟩ => by rw [Gm.timeout, hr] at he; exact ⟨he, hb⟩
theorem Turn_done (hg : g.ok) (hr : g.ready now = 53) (w : World) :
    Calls Tryz.prog 11 #[.agg g.row.toArray] w fun e w' => e = .returned (.int .i64 (-1)) ∧ Below w.heap.size w w' :=
  (Turn_any hg w).mono fun e w' ⟨he, hb⟩ => by
    have : g.turn = -1 := by
      unfold Gm.ready at hr; unfold Gm.turn
      cases h1 : g.right
      · rfl
      · cases h2 : (g.wn != -1)
        · cases h3 : timeOk now <;> cases h4 : decide (now < g.at_) <;> simp [h1, h2, h3, h4] at hr
        · simp
    rw [this] at he; exact ⟨he, hb⟩
end

/-- What is there between the moves. -/
def DS (g : Gm) (F : List Int) (b m : Nat) (w W : World) : Prop := GmAt W b 28 g ∧ HashAt W m F ∧ Below w.heap.size w W
section
variable {g : Gm} {F : List Int} {b m : Nat} {w W W' : World}
theorem DS.on (h : DS g F b m w W) (hb : Below W.heap.size W W') : DS g F b m w W' := ⟨h.1.on hb, h.2.1.on hb, cthen h.2.2 hb h.2.2.size⟩
theorem DS.drew (h : DS g F b m w W) : DS g F b m w W.drew := ⟨h.1, h.2.1, h.2.2.drew⟩
theorem DS.alloc (h : DS g F b m w W) (o : Obj) : DS g F b m w (W.alloc o) := h.on ((Below.refl _ _).alloc (Nat.le_refl _) _)
theorem HashAt.others {c : Nat} (h : HashAt W m F) (hc : m ≠ c) (o : Nat) (vs : List Value) : HashAt (W.setCells c o vs) m F := by
  unfold HashAt; rw [setCells_other hc]; exact h
theorem DS.set (h : DS g F b m w W) {c : Nat} (hb : b ≠ c) (hm : m ≠ c) (hw : w.heap.size ≤ c) (o : Nat) (vs : List Value) : DS g F b m w (W.setCells c o vs) :=
  ⟨h.1.others hb o vs, h.2.1.others hm o vs, below_setCells' c hw vs o h.2.2⟩
end

set_option maxHeartbeats 8000000 in
theorem Done_walk {g : Gm} (hg : g.ok) {F : List Int} (hF : F.length = 32) (n : Int) (w : World) :
    Calls Tryz.prog 3 #[.agg g.row.toArray, .int .i64 n, .agg (hc F).toArray] w fun e w' => e = .returned (.bool true) ∧ Below w.heap.size w w' := by
  obtain ⟨c, hc1, c0, c1⟩ := wrapmod n (d := 1000) (by omega) (by omega)
  obtain ⟨k, hk1, k0, k1⟩ := wrapmod g.wn (d := 2) (by omega) (by omega)
  have hl := hg.s.len
  have hz : gm0.s.row.length = 99 := seg0_len
  have G := (GmAt.new w 28 g).alloc (.cells (hc F).toArray 23)
  have H := HashAt.new (w.alloc (.cells g.row.toArray 28)) F
  have B : Below w.heap.size w ((w.alloc (.cells g.row.toArray 28)).alloc (.cells (hc F).toArray 23)) := by
    repeat (first | with_reducible exact Below.refl _ _ | with_reducible refine Below.alloc ?_ (by simp; try omega) _)
  simp only [World.size_alloc] at H
  obtain ⟨-, -, -, -, c102, -, -⟩ := G.facts hg.s
  have f102 := G.free 102
  have hgk : Gm.ok { g with wn := k } := ⟨hg.s, hg.c0, hg.c1, hg.at_, by show i64ok k; exact i64ok_lit (by omega)⟩
  have hr : Gm.ready { g with wn := k } c = 53 := by
    have e : k = 0 ∨ k = 1 := by omega
    have t : timeOk c = true := by simp [timeOk]; omega
    unfold Gm.ready Gm.right
    rcases e with rfl | rfl <;> simp [t]
  have er : g.row.set 102 (.int .i64 k) = Gm.row { g with wn := k } := by
    simp [Gm.row, hl]
  have S0 : DS { g with wn := k } F w.heap.size (w.heap.size + 1) w ((w.alloc (.cells (Gm.row { g with wn := k }).toArray 28)).alloc (.cells (hc F).toArray 23)) :=
    ⟨(GmAt.new w 28 { g with wn := k }).alloc _, by simpa using HashAt.new (w.alloc (.cells (Gm.row { g with wn := k }).toArray 28)) F, by repeat (first | with_reducible exact Below.refl _ _ | with_reducible refine Below.alloc ?_ (by simp; try omega) _)⟩
  clear G H B
  go_enter Tryz.func3, Tryz.ntmps3
  go_upto_region 3 with fail
  clear hc1 hk1 c102 f102
  clear er
  generalize (Gm.mk g.s g.c0 g.c1 g.at_ k) = g' at S0 hgk hr ⊢
  clear hg hl k0 k1
  have hl := hgk.s.len
  generalize (w.alloc (.cells g'.row.toArray 28)).alloc (.cells (hc F).toArray 23) = W0 at S0 ⊢
  replace hr := Lib.hid hr
  replace S0 := Lib.hid S0
  go_cut [7, 8] from 25 to 32 (fun s7 s8 wx => s8 = .int .i64 53 ∧ Hid (DS g' F w.heap.size (w.heap.size + 1) w wx))
  case first =>
    refine wp_region_held_drew (S := DS g' F w.heap.size (w.heap.size + 1) w) (by kernel_rfl) (S0.out.drew) (fun h0 => ?_)
    refine wpAnyH_take (i := 0) (v := ?_) (by rw [List.getElem?_toArray]; rfl) (by kernel_rfl) (by kernel_rfl) (by kernel_rfl) (by exact fun _ _ _ h => h) (Or.inl ⟨by rfl, ?_⟩) h0 ?_
    rotate_left
    · intro W hW
      obtain ⟨dG, dH, -⟩ := hW
      have eG := dG.whole hl
      have eH := dH.row hF
      go_simp
      all_goals with_reducible rfl
    simp only [Act.put, List.setIfInBounds_toArray, List.set_cons_zero, List.set_cons_succ]
    refine wpAnyH_take (i := 2) (v := ?_) (by rw [List.getElem?_toArray]; rfl) (by kernel_rfl) (by kernel_rfl) (by kernel_rfl) (by exact fun _ _ _ h => h) (Or.inl ⟨by rfl, ?_⟩) h0 ?_
    rotate_left
    · intro W hW
      obtain ⟨dG, dH, -⟩ := hW
      have eG := dG.whole hl
      have eH := dH.row hF
      go_simp
      all_goals with_reducible rfl
    simp only [Act.put, List.setIfInBounds_toArray, List.set_cons_zero, List.set_cons_succ]
    refine wpAnyH_take (i := 3) (v := ?_) (by rw [List.getElem?_toArray]; rfl) (by kernel_rfl) (by kernel_rfl) (by kernel_rfl) (by exact fun _ _ _ h => h) (Or.inl ⟨by rfl, ?_⟩) h0 ?_
    rotate_left
    · intro W hW
      obtain ⟨dG, dH, -⟩ := hW
      have eG := dG.whole hl
      have eH := dH.row hF
      go_simp
      all_goals with_reducible rfl
    simp only [Act.put, List.setIfInBounds_toArray, List.set_cons_zero, List.set_cons_succ]
    refine wpAnyH_ready (rs := [1, 8]) (by kernel_rfl) (by simp) ?_
    refine AllReadyH.cons (by rw [List.getElem?_toArray]; rfl) (fun K hK => ?_) (AllReadyH.cons (by rw [List.getElem?_toArray]; rfl) (fun K hK => ?_) AllReadyH.nil)
    · rw [if_pos (by rfl)]
      go_wp2_with fail
      refine (GmOwn_any hgk _).mono ?_
      rintro e w1 ⟨rfl, hb1⟩
      go_wp2_with fail
      refine hK.out _ _ (h0.on hb1) (fun h1 => ?_)
      clear hK K
      try simp only [Act.put, List.setIfInBounds_toArray, List.set_cons_zero, List.set_cons_succ]
      refine wpAnyH_ready (rs := [4, 8]) (by kernel_rfl) (by simp) ?_
      refine AllReadyH.cons (by rw [List.getElem?_toArray]; rfl) (fun K hK => ?_) (AllReadyH.cons (by rw [List.getElem?_toArray]; rfl) (fun K hK => ?_) AllReadyH.nil)
      · rw [if_pos (by rfl)]
        go_wp2_with fail
        refine (Post_done hgk hF hr.out _).mono ?_
        rintro e w2 ⟨rfl, hb2⟩
        go_wp2_with fail
        refine hK.out _ _ (h1.on hb2) (fun h2 => ?_)
        clear hK K
        try simp only [Act.put, List.setIfInBounds_toArray, List.set_cons_zero, List.set_cons_succ]
        refine wpAnyH_take (i := 5) (v := ?_) (by rw [List.getElem?_toArray]; rfl) (by kernel_rfl) (by kernel_rfl) (by kernel_rfl) (by exact fun _ _ _ h => h) (Or.inl ⟨by rfl, ?_⟩) h2 ?_
        rotate_left
        · intro W hW
          obtain ⟨dG, dH, -⟩ := hW
          have eG := dG.whole hl
          have eH := dH.row hF
          go_simp
          all_goals with_reducible rfl
        simp only [Act.put, List.setIfInBounds_toArray, List.set_cons_zero, List.set_cons_succ]
        refine wpAnyH_take (i := 6) (v := ?_) (by rw [List.getElem?_toArray]; rfl) (by kernel_rfl) (by kernel_rfl) (by kernel_rfl) (by exact fun _ _ _ h => h) (Or.inl ⟨by rfl, ?_⟩) h2 ?_
        rotate_left
        · intro W hW
          obtain ⟨dG, dH, -⟩ := hW
          have eG := dG.whole hl
          have eH := dH.row hF
          go_simp
          all_goals with_reducible rfl
        simp only [Act.put, List.setIfInBounds_toArray, List.set_cons_zero, List.set_cons_succ]
        refine wpAnyH_take (i := 7) (v := ?_) (by rw [List.getElem?_toArray]; rfl) (by kernel_rfl) (by kernel_rfl) (by kernel_rfl) (by exact fun _ _ _ h => h) (Or.inl ⟨by rfl, ?_⟩) h2 ?_
        rotate_left
        · intro W hW
          obtain ⟨dG, dH, -⟩ := hW
          have eG := dG.whole hl
          have eH := dH.row hF
          go_simp
          all_goals with_reducible rfl
        simp only [Act.put, List.setIfInBounds_toArray, List.set_cons_zero, List.set_cons_succ]
        refine wpAnyH_ready (rs := [8]) (by kernel_rfl) (by simp) ?_
        refine AllReadyH.cons (by rw [List.getElem?_toArray]; rfl) (fun K hK => ?_) AllReadyH.nil
        rw [if_pos (by rfl)]
        go_wp2_with fail
        refine hK.out _ _ (h2.alloc _) (fun h3 => ?_)
        clear hK K
        have X3 := GmAt.new w2 31 gm0
        have hx3 : w.heap.size ≤ w2.heap.size ∧ w.heap.size < w2.heap.size ∧ w.heap.size + 1 < w2.heap.size := ⟨h2.2.2.size, h2.1.lt, h2.2.1.lt⟩
        try simp only [Act.put, List.setIfInBounds_toArray, List.set_cons_zero, List.set_cons_succ]
        have th := X3.there hz (o := 0) (n := 103) (by omega)
        have hlg := Gm.len hz
        refine wpAnyH_ready (rs := [9]) (by kernel_rfl) (by simp) ?_
        refine AllReadyH.cons (by rw [List.getElem?_toArray]; rfl) (fun K hK => ?_) AllReadyH.nil
        rw [if_pos (by rfl)]
        refine wp_store_mid _ _ _ rfl _ _ (List.toArray gm0.row) rfl rfl (by simpa [hlg] using th) (by rw [List.size_toArray, hlg]; kernel_rfl) (Gm.one gm0) ?_
        refine hK.out _ _ (h3.set (by omega) (by omega) (by omega) _ _) (fun h4 => ?_)
        clear hK K
        simp only [Act.put]
        refine wpAnyH_take (i := 10) (v := ?_) (by rw [List.getElem?_toArray]; rfl) (by kernel_rfl) (by kernel_rfl) (by kernel_rfl) (by exact fun _ _ _ h => h) (Or.inl ⟨by rfl, ?_⟩) h4 ?_
        rotate_left
        · intro W hW
          go_simp
          all_goals with_reducible rfl
        simp only [Act.put, List.setIfInBounds_toArray, List.set_cons_zero, List.set_cons_succ]
        refine wpAnyH_done (by kernel_rfl) ?_ _
        go_wp2_with fail
        go_meet
        exact ⟨rfl, Lib.hid h4⟩
      · rw [if_pos (by rfl)]
        go_wp2_with fail
        refine hK.out _ _ (h1.alloc _) (fun h5 => ?_)
        clear hK K
        have X5 := GmAt.new w1 31 gm0
        have hx5 : w.heap.size ≤ w1.heap.size ∧ w.heap.size < w1.heap.size ∧ w.heap.size + 1 < w1.heap.size := ⟨h1.2.2.size, h1.1.lt, h1.2.1.lt⟩
        try simp only [Act.put, List.setIfInBounds_toArray, List.set_cons_zero, List.set_cons_succ]
        refine wpAnyH_ready (rs := [4]) (by kernel_rfl) (by simp) ?_
        refine AllReadyH.cons (by rw [List.getElem?_toArray]; rfl) (fun K hK => ?_) AllReadyH.nil
        rw [if_pos (by rfl)]
        go_wp2_with fail
        refine (Post_done hgk hF hr.out _).mono ?_
        rintro e w6 ⟨rfl, hb6⟩
        go_wp2_with fail
        refine hK.out _ _ (h5.on hb6) (fun h6 => ?_)
        clear hK K
        try simp only [Act.put, List.setIfInBounds_toArray, List.set_cons_zero, List.set_cons_succ]
        have X6 := X5.on hb6
        refine wpAnyH_take (i := 5) (v := ?_) (by rw [List.getElem?_toArray]; rfl) (by kernel_rfl) (by kernel_rfl) (by kernel_rfl) (by exact fun _ _ _ h => h) (Or.inl ⟨by rfl, ?_⟩) h6 ?_
        rotate_left
        · intro W hW
          obtain ⟨dG, dH, -⟩ := hW
          have eG := dG.whole hl
          have eH := dH.row hF
          go_simp
          all_goals with_reducible rfl
        simp only [Act.put, List.setIfInBounds_toArray, List.set_cons_zero, List.set_cons_succ]
        refine wpAnyH_take (i := 6) (v := ?_) (by rw [List.getElem?_toArray]; rfl) (by kernel_rfl) (by kernel_rfl) (by kernel_rfl) (by exact fun _ _ _ h => h) (Or.inl ⟨by rfl, ?_⟩) h6 ?_
        rotate_left
        · intro W hW
          obtain ⟨dG, dH, -⟩ := hW
          have eG := dG.whole hl
          have eH := dH.row hF
          go_simp
          all_goals with_reducible rfl
        simp only [Act.put, List.setIfInBounds_toArray, List.set_cons_zero, List.set_cons_succ]
        refine wpAnyH_take (i := 7) (v := ?_) (by rw [List.getElem?_toArray]; rfl) (by kernel_rfl) (by kernel_rfl) (by kernel_rfl) (by exact fun _ _ _ h => h) (Or.inl ⟨by rfl, ?_⟩) h6 ?_
        rotate_left
        · intro W hW
          obtain ⟨dG, dH, -⟩ := hW
          have eG := dG.whole hl
          have eH := dH.row hF
          go_simp
          all_goals with_reducible rfl
        simp only [Act.put, List.setIfInBounds_toArray, List.set_cons_zero, List.set_cons_succ]
        have th := X6.there hz (o := 0) (n := 103) (by omega)
        have hlg := Gm.len hz
        refine wpAnyH_ready (rs := [9]) (by kernel_rfl) (by simp) ?_
        refine AllReadyH.cons (by rw [List.getElem?_toArray]; rfl) (fun K hK => ?_) AllReadyH.nil
        rw [if_pos (by rfl)]
        refine wp_store_mid _ _ _ rfl _ _ (List.toArray gm0.row) rfl rfl (by simpa [hlg] using th) (by rw [List.size_toArray, hlg]; kernel_rfl) (Gm.one gm0) ?_
        refine hK.out _ _ (h6.set (by omega) (by omega) (by omega) _ _) (fun h7 => ?_)
        clear hK K
        simp only [Act.put]
        refine wpAnyH_take (i := 10) (v := ?_) (by rw [List.getElem?_toArray]; rfl) (by kernel_rfl) (by kernel_rfl) (by kernel_rfl) (by exact fun _ _ _ h => h) (Or.inl ⟨by rfl, ?_⟩) h7 ?_
        rotate_left
        · intro W hW
          go_simp
          all_goals with_reducible rfl
        simp only [Act.put, List.setIfInBounds_toArray, List.set_cons_zero, List.set_cons_succ]
        refine wpAnyH_done (by kernel_rfl) ?_ _
        go_wp2_with fail
        go_meet
        exact ⟨rfl, Lib.hid h7⟩
    · rw [if_pos (by rfl)]
      go_wp2_with fail
      refine hK.out _ _ (h0.alloc _) (fun h8 => ?_)
      clear hK K
      have X8 := GmAt.new W0.drew 31 gm0
      have hx8 : w.heap.size ≤ W0.heap.size ∧ w.heap.size < W0.heap.size ∧ w.heap.size + 1 < W0.heap.size := ⟨h0.2.2.size, h0.1.lt, h0.2.1.lt⟩
      try simp only [Act.put, List.setIfInBounds_toArray, List.set_cons_zero, List.set_cons_succ]
      refine wpAnyH_ready (rs := [1]) (by kernel_rfl) (by simp) ?_
      refine AllReadyH.cons (by rw [List.getElem?_toArray]; rfl) (fun K hK => ?_) AllReadyH.nil
      rw [if_pos (by rfl)]
      go_wp2_with fail
      refine (GmOwn_any hgk _).mono ?_
      rintro e w9 ⟨rfl, hb9⟩
      go_wp2_with fail
      refine hK.out _ _ (h8.on hb9) (fun h9 => ?_)
      clear hK K
      try simp only [Act.put, List.setIfInBounds_toArray, List.set_cons_zero, List.set_cons_succ]
      have X9 := X8.on hb9
      refine wpAnyH_ready (rs := [4]) (by kernel_rfl) (by simp) ?_
      refine AllReadyH.cons (by rw [List.getElem?_toArray]; rfl) (fun K hK => ?_) AllReadyH.nil
      rw [if_pos (by rfl)]
      go_wp2_with fail
      refine (Post_done hgk hF hr.out _).mono ?_
      rintro e w10 ⟨rfl, hb10⟩
      go_wp2_with fail
      refine hK.out _ _ (h9.on hb10) (fun h10 => ?_)
      clear hK K
      try simp only [Act.put, List.setIfInBounds_toArray, List.set_cons_zero, List.set_cons_succ]
      have X10 := X9.on hb10
      refine wpAnyH_take (i := 5) (v := ?_) (by rw [List.getElem?_toArray]; rfl) (by kernel_rfl) (by kernel_rfl) (by kernel_rfl) (by exact fun _ _ _ h => h) (Or.inl ⟨by rfl, ?_⟩) h10 ?_
      rotate_left
      · intro W hW
        obtain ⟨dG, dH, -⟩ := hW
        have eG := dG.whole hl
        have eH := dH.row hF
        go_simp
        all_goals with_reducible rfl
      simp only [Act.put, List.setIfInBounds_toArray, List.set_cons_zero, List.set_cons_succ]
      refine wpAnyH_take (i := 6) (v := ?_) (by rw [List.getElem?_toArray]; rfl) (by kernel_rfl) (by kernel_rfl) (by kernel_rfl) (by exact fun _ _ _ h => h) (Or.inl ⟨by rfl, ?_⟩) h10 ?_
      rotate_left
      · intro W hW
        obtain ⟨dG, dH, -⟩ := hW
        have eG := dG.whole hl
        have eH := dH.row hF
        go_simp
        all_goals with_reducible rfl
      simp only [Act.put, List.setIfInBounds_toArray, List.set_cons_zero, List.set_cons_succ]
      refine wpAnyH_take (i := 7) (v := ?_) (by rw [List.getElem?_toArray]; rfl) (by kernel_rfl) (by kernel_rfl) (by kernel_rfl) (by exact fun _ _ _ h => h) (Or.inl ⟨by rfl, ?_⟩) h10 ?_
      rotate_left
      · intro W hW
        obtain ⟨dG, dH, -⟩ := hW
        have eG := dG.whole hl
        have eH := dH.row hF
        go_simp
        all_goals with_reducible rfl
      simp only [Act.put, List.setIfInBounds_toArray, List.set_cons_zero, List.set_cons_succ]
      have th := X10.there hz (o := 0) (n := 103) (by omega)
      have hlg := Gm.len hz
      refine wpAnyH_ready (rs := [9]) (by kernel_rfl) (by simp) ?_
      refine AllReadyH.cons (by rw [List.getElem?_toArray]; rfl) (fun K hK => ?_) AllReadyH.nil
      rw [if_pos (by rfl)]
      refine wp_store_mid _ _ _ rfl _ _ (List.toArray gm0.row) rfl rfl (by simpa [hlg] using th) (by rw [List.size_toArray, hlg]; kernel_rfl) (Gm.one gm0) ?_
      refine hK.out _ _ (h10.set (by omega) (by omega) (by omega) _ _) (fun h11 => ?_)
      clear hK K
      simp only [Act.put]
      refine wpAnyH_take (i := 10) (v := ?_) (by rw [List.getElem?_toArray]; rfl) (by kernel_rfl) (by kernel_rfl) (by kernel_rfl) (by exact fun _ _ _ h => h) (Or.inl ⟨by rfl, ?_⟩) h11 ?_
      rotate_left
      · intro W hW
        go_simp
        all_goals with_reducible rfl
      simp only [Act.put, List.setIfInBounds_toArray, List.set_cons_zero, List.set_cons_succ]
      refine wpAnyH_done (by kernel_rfl) ?_ _
      go_wp2_with fail
      go_meet
      exact ⟨rfl, Lib.hid h11⟩
  case rest =>
    obtain ⟨rfl, hS⟩ := hcut
    clear S0
    have cg := hS.out.1.whole hl
    go_wp2_with fail
    refine (GmOwn_any hgk _).mono ?_
    rintro e w1 ⟨rfl, hb⟩
    have S1 := Lib.hid (hS.out.on hb)
    clear hb cg hS
    go_wp2_with fail
    refine (Choose_done hgk true hr.out _).mono ?_
    rintro e w2 ⟨rfl, hb⟩
    have S2 := Lib.hid ((S1.out.on hb).alloc (.cells gm0.row.toArray 31))
    clear hb S1
    have cg := S2.out.1.whole hl
    go_wp2_with fail
    generalize w2.alloc (.cells gm0.row.toArray 31) = w3 at S2 cg ⊢
    refine (GmOwn_any hgk _).mono ?_
    rintro e w4 ⟨rfl, hb⟩
    have S4 := Lib.hid (S2.out.on hb)
    clear hb cg S2
    go_wp2_with fail
    refine (input_any _).mono ?_
    rintro e w5 ⟨⟨x, rfl⟩, hb⟩
    have S5 := Lib.hid (S4.out.on hb)
    clear hb S4
    go_wp2_with fail
    refine (Prove_early hgk c x _ 53 hr.out (by omega) _).mono ?_
    rintro e w6 ⟨rfl, hb⟩
    have S6 := Lib.hid ((S5.out.on hb).alloc (.cells gm0.row.toArray 31))
    clear hb S5
    have cg := S6.out.1.whole hl
    go_wp2_with fail
    generalize w6.alloc (.cells gm0.row.toArray 31) = w7 at S6 cg ⊢
    refine (GmOwn_any hgk _).mono ?_
    rintro e w8 ⟨rfl, hb⟩
    have S8 := Lib.hid (S6.out.on hb)
    clear hb cg S6
    go_wp2_with fail
    refine (Timeout_done hgk hr.out _).mono ?_
    rintro e w9 ⟨rfl, hb⟩
    have S9 := Lib.hid ((S8.out.on hb).alloc (.cells gm0.row.toArray 31))
    clear hb S8
    have cg := S9.out.1.whole hl
    go_wp2_with fail
    generalize w9.alloc (.cells gm0.row.toArray 31) = w10 at S9 cg ⊢
    iterate 4 (refine (num_any _ _).mono ?_; rintro e wn ⟨rfl, h5⟩; obtain rfl := h5.symm; clear h5; go_wp2_with fail)
    refine (GmOwn_any hgk _).mono ?_
    rintro e w11 ⟨rfl, hb⟩
    have S11 := Lib.hid (S9.out.on hb)
    clear hb cg S9
    go_wp2_with fail
    refine (Turn_done hgk hr.out _).mono ?_
    rintro e w12 ⟨rfl, hb⟩
    have S12 := Lib.hid (S11.out.on hb)
    clear hb S11
    go_wp2_with fail
    refine (knows_any _).mono ?_
    rintro e w13 ⟨rfl, hb⟩
    have S13 := Lib.hid (S12.out.on hb)
    clear hb S12
    go_wp2_with fail
    go_ret
    exact ⟨rfl, S13.out.2.2⟩
end Go.Proofs.YtkdhhdbgngegfaaGreatDoor
