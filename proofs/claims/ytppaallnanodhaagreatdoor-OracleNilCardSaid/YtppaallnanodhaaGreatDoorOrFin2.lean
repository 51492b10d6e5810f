/-
  Package oracle: Finalise.
-/
import Derived.Test.YtppaallnanodhaaGreatDoorOrFin
import Derived.WalkSmall
namespace Go.Proofs.YtppaallnanodhaaGreatDoor
set_option maxRecDepth 100000
open Go.RowKit

@[simp, go_sem] theorem rowOf_drewN (w : World) (n b o m : Nat) : rowOf (w.drewN n) b o m = rowOf w b o m := rfl
def FinS (p b : Nat) (wait num at_ bs : Int) (W : World) : Prop := W.cell? ⟨b, 1, none⟩ = some (.int .i64 bs) ∧ W.cell? ⟨b, 2, none⟩ = some (.int .i64 at_) ∧ W.cell? ⟨p, 0, none⟩ = some (.int .i64 wait) ∧ W.cell? ⟨p, 2, none⟩ = some (.int .i64 num)

set_option maxHeartbeats 4000000 in
/-- It becomes final. -/
theorem Finalise_done {a w : World} {p : Nat} {o : Or} {L : List Pr} {Y : List (Int × Int)} (h : OSt a w p o L Y) (hw : 0 < o.wait ∧ o.wait ≤ 1000) {now n : Int} (hn : 0 ≤ now ∧ now ≤ 1000) {i : Nat} (hi : i < L.length) (hni : n = i)
    {nb bs at_ who : Int} {rt fr : List Int} (hx : L[i] = ⟨nb, bs, at_, 0, rt, fr, who⟩) (ht : 0 ≤ at_ ∧ at_ ≤ 1000) (hlt : at_ + o.wait ≤ now) (hne : bs = o.num) (hfr : fr = o.root) (hY : Y.length ≤ 1000) (hb : 0 < o.bonds ∧ o.bonds ≤ 1000) :
    Calls Tryz.prog 17 #[.pointer (some ⟨p, 0, none⟩), .int .i64 now, .int .i64 n] w fun e w' => e = .returned (.int .i64 0) ∧ ∃ v, OSt a w' p { o with num := nb, root := rt, vY := v, bonds := o.bonds - 1 } (L.set i ⟨nb, bs, at_, 1, rt, fr, who⟩) (Y ++ [(who, 1)]) := by
  subst hni
  have hok : Pr.ok ⟨nb, bs, at_, 0, rt, fr, who⟩ := by rw [← hx]; exact h.all _ (List.getElem_mem hi)
  have hlen := hok.len
  have hr := h.root
  obtain ⟨hw1, hw2⟩ := hw
  go_enter Tryz.func17, Tryz.ntmps17
  go_wp2_with fail
  refine (ready_any h.blk hr hw1 hn.1 hn.2).mono ?_
  rintro e wx ⟨rfl, rfl⟩
  go_wp2_with fail
  refine (Proposal_any h hw1 hi).mono ?_
  rintro e w1 ⟨rfl, B1⟩
  rw [hx]
  have h1 := h.on B1
  have R := heap_alloc_last w1 (.cells pr0.row.toArray 54)
  have ct := pr_there pr0_ok R
  have hvb : Hid (∀ k, o.vP.ownBlock = some k → k < w1.heap.size) := fun k => own_lt h1.pr
  have RX := pr_set pr0_ok hok R
  have BX : Below w1.heap.size w1 ((w1.alloc (.cells pr0.row.toArray 54)).setCells w1.heap.size 0 (Pr.row ⟨nb, bs, at_, 0, rt, fr, who⟩)) := below_setCells' _ (Nat.le_refl _) _ _ ((Below.refl _ _).alloc (Nat.le_refl _) _)
  have HX := h1.on BX
  obtain ⟨p0, p1, p2, p3, p4, p36, p68⟩ := pr_facts hok RX
  obtain ⟨o0, o2, o3, o35, -, -, o38⟩ := HX.blk.facts hr
  have BW : Hid (Below wx.heap.size wx ((w1.alloc (.cells pr0.row.toArray 54)).setCells w1.heap.size 0 (Pr.row ⟨nb, bs, at_, 0, rt, fr, who⟩))) := B1.trans (BX.mono B1.size)
  have HX' := Lib.hid HX
  have RX' := Lib.hid RX
  simp only at p0 p1 p2 p3 p4 p36 p68
  generalize hpr : Pr.mk nb bs at_ 0 rt fr who = x at p0 p1 p2 p3 p4 p36 p68 o0 o2 o3 o35 o38 hok hlen BW HX' RX' ⊢
  clear HX RX R BX h1 B1 h
  go_wp2_with fail
  generalize (w1.alloc (.cells pr0.row.toArray 54)).setCells w1.heap.size 0 x.row = W at p0 p1 p2 p3 p4 p36 p68 o0 o2 o3 o35 o38 BW HX' RX' ⊢
  generalize w1.heap.size = b at p0 p1 p2 p3 p4 p36 p68 RX' hvb ⊢
  clear ct
  obtain ⟨ht1, ht2⟩ := ht
  have hrt : rt.length = 32 := by rw [← hpr] at hok; exact hok.rt
  have hfr2 : fr.length = 32 := by rw [hfr]; exact hr
  have hd : decide (now < at_ + o.wait) = false := by simpa using hlt
  have he : (bs == o.num) = true := by simpa using hne
  have hwr : IntKind.i64.wrap (at_ + o.wait) = at_ + o.wait := IntWalk.i64_in _ (by omega)
  have S0 : FinS p b o.wait o.num at_ bs W := ⟨p1, p2, o0, o2⟩
  refine wp_region_held_drew (S := FinS p b o.wait o.num at_ bs) (by kernel_rfl) (by exact S0) (fun h0 => ?_)
  refine wpAnyH_take (i := 0) (v := ?_) (by rw [List.getElem?_toArray]; rfl) (by kernel_rfl) (by kernel_rfl) (by kernel_rfl) (by exact fun _ _ _ h => h) (Or.inl ⟨by rfl, ?_⟩) h0 ?_
  rotate_left
  · intro W hW
    obtain ⟨hW1, hW2, hW3, hW4⟩ := hW
    go_simp
    all_goals with_reducible rfl
  try simp only [Act.put, List.setIfInBounds_toArray, List.set_cons_zero, List.set_cons_succ]
  refine wpAnyH_take (i := 1) (v := ?_) (by rw [List.getElem?_toArray]; rfl) (by kernel_rfl) (by kernel_rfl) (by kernel_rfl) (by exact fun _ _ _ h => h) (Or.inl ⟨by rfl, ?_⟩) h0 ?_
  rotate_left
  · intro W hW
    obtain ⟨hW1, hW2, hW3, hW4⟩ := hW
    go_simp
    all_goals with_reducible rfl
  try simp only [Act.put, List.setIfInBounds_toArray, List.set_cons_zero, List.set_cons_succ]
  refine wpAnyH_take (i := 2) (v := ?_) (by rw [List.getElem?_toArray]; rfl) (by kernel_rfl) (by kernel_rfl) (by kernel_rfl) (by exact fun _ _ _ h => h) (Or.inl ⟨by rfl, ?_⟩) h0 ?_
  rotate_left
  · intro W hW
    obtain ⟨hW1, hW2, hW3, hW4⟩ := hW
    go_simp
    all_goals with_reducible rfl
  try simp only [Act.put, List.setIfInBounds_toArray, List.set_cons_zero, List.set_cons_succ]
  refine wpAnyH_take (i := 3) (v := ?_) (by rw [List.getElem?_toArray]; rfl) (by kernel_rfl) (by kernel_rfl) (by kernel_rfl) (by exact fun _ _ _ h => h) (Or.inl ⟨by rfl, ?_⟩) h0 ?_
  rotate_left
  · intro W hW
    obtain ⟨hW1, hW2, hW3, hW4⟩ := hW
    go_simp
    all_goals with_reducible rfl
  try simp only [Act.put, List.setIfInBounds_toArray, List.set_cons_zero, List.set_cons_succ]
  refine wpAnyH_take (i := 4) (v := ?_) (by rw [List.getElem?_toArray]; rfl) (by kernel_rfl) (by kernel_rfl) (by kernel_rfl) (by exact fun _ _ _ h => h) (Or.inl ⟨by rfl, ?_⟩) h0 ?_
  rotate_left
  · intro W hW
    obtain ⟨hW1, hW2, hW3, hW4⟩ := hW
    go_simp
    all_goals with_reducible rfl
  try simp only [Act.put, List.setIfInBounds_toArray, List.set_cons_zero, List.set_cons_succ]
  refine wpAnyH_take (i := 5) (v := ?_) (by rw [List.getElem?_toArray]; rfl) (by kernel_rfl) (by kernel_rfl) (by kernel_rfl) (by exact fun _ _ _ h => h) (Or.inl ⟨by rfl, ?_⟩) h0 ?_
  rotate_left
  · intro W hW
    obtain ⟨hW1, hW2, hW3, hW4⟩ := hW
    go_simp
    all_goals with_reducible rfl
  try simp only [Act.put, List.setIfInBounds_toArray, List.set_cons_zero, List.set_cons_succ]
  refine wpAnyH_take (i := 6) (v := ?_) (by rw [List.getElem?_toArray]; rfl) (by kernel_rfl) (by kernel_rfl) (by kernel_rfl) (by exact fun _ _ _ h => h) (Or.inl ⟨by rfl, ?_⟩) h0 ?_
  rotate_left
  · intro W hW
    obtain ⟨hW1, hW2, hW3, hW4⟩ := hW
    go_simp
    all_goals with_reducible rfl
  try simp only [Act.put, List.setIfInBounds_toArray, List.set_cons_zero, List.set_cons_succ]
  refine wpAnyH_take (i := 7) (v := ?_) (by rw [List.getElem?_toArray]; rfl) (by kernel_rfl) (by kernel_rfl) (by kernel_rfl) (by exact fun _ _ _ h => h) (Or.inl ⟨by rfl, ?_⟩) h0 ?_
  rotate_left
  · intro W hW
    obtain ⟨hW1, hW2, hW3, hW4⟩ := hW
    go_simp
    all_goals with_reducible rfl
  try simp only [Act.put, List.setIfInBounds_toArray, List.set_cons_zero, List.set_cons_succ]
  refine wpAnyH_take (i := 8) (v := ?_) (by rw [List.getElem?_toArray]; rfl) (by kernel_rfl) (by kernel_rfl) (by kernel_rfl) (by exact fun _ _ _ h => h) (Or.inl ⟨by rfl, ?_⟩) h0 ?_
  rotate_left
  · intro W hW
    obtain ⟨hW1, hW2, hW3, hW4⟩ := hW
    go_simp
    all_goals with_reducible rfl
  try simp only [Act.put, List.setIfInBounds_toArray, List.set_cons_zero, List.set_cons_succ]
  refine wpAnyH_take (i := 9) (v := ?_) (by rw [List.getElem?_toArray]; rfl) (by kernel_rfl) (by kernel_rfl) (by kernel_rfl) (by exact fun _ _ _ h => h) (Or.inl ⟨by rfl, ?_⟩) h0 ?_
  rotate_left
  · intro W hW
    obtain ⟨hW1, hW2, hW3, hW4⟩ := hW
    go_simp
    all_goals with_reducible rfl
  try simp only [Act.put, List.setIfInBounds_toArray, List.set_cons_zero, List.set_cons_succ]
  refine wpAnyH_take (i := 10) (v := ?_) (by rw [List.getElem?_toArray]; rfl) (by kernel_rfl) (by kernel_rfl) (by kernel_rfl) (by exact fun _ _ _ h => h) (Or.inl ⟨by rfl, ?_⟩) h0 ?_
  rotate_left
  · intro W hW
    obtain ⟨hW1, hW2, hW3, hW4⟩ := hW
    go_simp
    all_goals with_reducible rfl
  try simp only [Act.put, List.setIfInBounds_toArray, List.set_cons_zero, List.set_cons_succ]
  refine wpAnyH_take (i := 11) (v := ?_) (by rw [List.getElem?_toArray]; rfl) (by kernel_rfl) (by kernel_rfl) (by kernel_rfl) (by exact fun _ _ _ h => h) (Or.inl ⟨by rfl, ?_⟩) h0 ?_
  rotate_left
  · intro W hW
    obtain ⟨hW1, hW2, hW3, hW4⟩ := hW
    go_simp
    all_goals with_reducible rfl
  try simp only [Act.put, List.setIfInBounds_toArray, List.set_cons_zero, List.set_cons_succ]
  refine wpAnyH_take (i := 12) (v := ?_) (by rw [List.getElem?_toArray]; rfl) (by kernel_rfl) (by kernel_rfl) (by kernel_rfl) (by exact fun _ _ _ h => h) (Or.inl ⟨by rfl, ?_⟩) h0 ?_
  rotate_left
  · intro W hW
    obtain ⟨hW1, hW2, hW3, hW4⟩ := hW
    go_simp
    all_goals with_reducible rfl
  try simp only [Act.put, List.setIfInBounds_toArray, List.set_cons_zero, List.set_cons_succ]
  refine wpAnyH_take (i := 13) (v := ?_) (by rw [List.getElem?_toArray]; rfl) (by kernel_rfl) (by kernel_rfl) (by kernel_rfl) (by exact fun _ _ _ h => h) (Or.inl ⟨by rfl, ?_⟩) h0 ?_
  rotate_left
  · intro W hW
    obtain ⟨hW1, hW2, hW3, hW4⟩ := hW
    go_simp
    all_goals with_reducible rfl
  try simp only [Act.put, List.setIfInBounds_toArray, List.set_cons_zero, List.set_cons_succ]
  refine wpAnyH_take (i := 14) (v := ?_) (by rw [List.getElem?_toArray]; rfl) (by kernel_rfl) (by kernel_rfl) (by kernel_rfl) (by exact fun _ _ _ h => h) (Or.inl ⟨by rfl, ?_⟩) h0 ?_
  rotate_left
  · intro W hW
    obtain ⟨hW1, hW2, hW3, hW4⟩ := hW
    go_simp
    all_goals with_reducible rfl
  try simp only [Act.put, List.setIfInBounds_toArray, List.set_cons_zero, List.set_cons_succ]
  refine wpAnyH_take (i := 15) (v := ?_) (by rw [List.getElem?_toArray]; rfl) (by kernel_rfl) (by kernel_rfl) (by kernel_rfl) (by exact fun _ _ _ h => h) (Or.inl ⟨by rfl, ?_⟩) h0 ?_
  rotate_left
  · intro W hW
    obtain ⟨hW1, hW2, hW3, hW4⟩ := hW
    go_simp
    all_goals with_reducible rfl
  try simp only [Act.put, List.setIfInBounds_toArray, List.set_cons_zero, List.set_cons_succ]
  refine wpAnyH_take (i := 16) (v := ?_) (by rw [List.getElem?_toArray]; rfl) (by kernel_rfl) (by kernel_rfl) (by kernel_rfl) (by exact fun _ _ _ h => h) (Or.inl ⟨by rfl, ?_⟩) h0 ?_
  rotate_left
  · intro W hW
    obtain ⟨hW1, hW2, hW3, hW4⟩ := hW
    go_simp
    all_goals with_reducible rfl
  try simp only [Act.put, List.setIfInBounds_toArray, List.set_cons_zero, List.set_cons_succ]
  refine wpAnyH_take (i := 17) (v := ?_) (by rw [List.getElem?_toArray]; rfl) (by kernel_rfl) (by kernel_rfl) (by kernel_rfl) (by exact fun _ _ _ h => h) (Or.inl ⟨by rfl, ?_⟩) h0 ?_
  rotate_left
  · intro W hW
    obtain ⟨hW1, hW2, hW3, hW4⟩ := hW
    go_simp
    all_goals with_reducible rfl
  try simp only [Act.put, List.setIfInBounds_toArray, List.set_cons_zero, List.set_cons_succ]
  refine wpAnyH_take (i := 18) (v := ?_) (by rw [List.getElem?_toArray]; rfl) (by kernel_rfl) (by kernel_rfl) (by kernel_rfl) (by exact fun _ _ _ h => h) (Or.inl ⟨by rfl, ?_⟩) h0 ?_
  rotate_left
  · intro W hW
    obtain ⟨hW1, hW2, hW3, hW4⟩ := hW
    go_simp
    all_goals with_reducible rfl
  try simp only [Act.put, List.setIfInBounds_toArray, List.set_cons_zero, List.set_cons_succ]
  refine wpAnyH_take (i := 19) (v := ?_) (by rw [List.getElem?_toArray]; rfl) (by kernel_rfl) (by kernel_rfl) (by kernel_rfl) (by exact fun _ _ _ h => h) (Or.inl ⟨by rfl, ?_⟩) h0 ?_
  rotate_left
  · intro W hW
    obtain ⟨hW1, hW2, hW3, hW4⟩ := hW
    go_simp
    all_goals with_reducible rfl
  try simp only [Act.put, List.setIfInBounds_toArray, List.set_cons_zero, List.set_cons_succ]
  refine wpAnyH_ready (rs := [20]) (by kernel_rfl) (by simp) ?_
  refine AllReadyH.cons (by rw [List.getElem?_toArray]; rfl) (fun K hK => ?_) AllReadyH.nil
  rw [if_pos (by rfl)]
  go_wp2_with fail
  refine (disputed_any HX'.out.drew.blk hr _).mono ?_
  rintro e w5 ⟨rfl, B5⟩
  have HX5 := HX'.out.drew.on B5
  have RX5 : w5.heap[b]? = some (.cells x.row.toArray 54 (0, 0)) := by
    rw [B5.block b (Array.getElem?_eq_some_iff.1 RX'.out).1]
    exact RX'.out
  have S5 : FinS p b o.wait o.num at_ bs w5 := by
    obtain ⟨-, s1, s2, -⟩ := pr_facts hok RX5
    obtain ⟨s3, s4, -⟩ := HX5.blk.facts hr
    rw [← hpr] at s1 s2
    exact ⟨s1, s2, s3, s4⟩
  go_wp2_with fail
  refine hK.out _ _ (by exact S5) (fun h5 => ?_)
  clear hK K
  try simp only [Act.put, List.setIfInBounds_toArray, List.set_cons_zero, List.set_cons_succ]
  refine wpAnyH_take (i := 21) (v := ?_) (by rw [List.getElem?_toArray]; rfl) (by kernel_rfl) (by kernel_rfl) (by kernel_rfl) (by exact fun _ _ _ h => h) (Or.inl ⟨by rfl, ?_⟩) h5 ?_
  rotate_left
  · intro W hW
    obtain ⟨hW1, hW2, hW3, hW4⟩ := hW
    go_simp
    all_goals with_reducible rfl
  try simp only [Act.put, List.setIfInBounds_toArray, List.set_cons_zero, List.set_cons_succ]
  refine wpAnyH_take (i := 22) (v := ?_) (by rw [List.getElem?_toArray]; rfl) (by kernel_rfl) (by kernel_rfl) (by kernel_rfl) (by exact fun _ _ _ h => h) (Or.inl ⟨by rfl, ?_⟩) h5 ?_
  rotate_left
  · intro W hW
    obtain ⟨hW1, hW2, hW3, hW4⟩ := hW
    go_simp
    all_goals with_reducible rfl
  try simp only [Act.put, List.setIfInBounds_toArray, List.set_cons_zero, List.set_cons_succ]
  refine wpAnyH_take (i := 23) (v := ?_) (by rw [List.getElem?_toArray]; rfl) (by kernel_rfl) (by kernel_rfl) (by kernel_rfl) (by exact fun _ _ _ h => h) (Or.inl ⟨by rfl, ?_⟩) h5 ?_
  rotate_left
  · intro W hW
    obtain ⟨hW1, hW2, hW3, hW4⟩ := hW
    go_simp
    all_goals with_reducible rfl
  try simp only [Act.put, List.setIfInBounds_toArray, List.set_cons_zero, List.set_cons_succ]
  refine wpAnyH_done (by kernel_rfl) ?_ _
  clear S0 S5 h0 h5
  clear p0 p1 p2 p3 p4 p36 p68 o0 o2 o3 o35 o38
  have t68 : w5.cell? ⟨b, 68, none⟩ = some (.int .u64 who) := by
    have := (pr_facts hok RX5).2.2.2.2.2.2
    rw [← hpr] at this
    exact this
  go_wp2_with fail
  have HXD := HX5
  have RXD := RX5
  refine (pay_any HXD hY hb who).mono ?_
  rintro e w6 ⟨rfl, v6, S6, C6⟩
  have RX6 : w6.heap[b]? = some (.cells x.row.toArray 54 (0, 0)) := by
    rw [C6.block b (Array.getElem?_eq_some_iff.1 RXD).1 ?_]
    · exact RXD
    · intro hm
      rcases List.mem_cons.1 hm with e | hm
      · have := HXD.blk
        unfold OrB at this
        have h3 := RXD
        rw [e, this] at h3
        simp at h3
      · exact own_ne HXD.pay RXD (by decide) (by simpa using hm)
  obtain ⟨q0, q1, q2, q3, q4, q36, q68⟩ := pr_facts hok RX6
  obtain ⟨g, c, eg, hgl, hgp, cg, cg3, fg3⟩ := S6.at hi
  obtain ⟨r0, r2, r3, r35, -, -, r38⟩ := S6.blk.facts hr
  simp only at eg
  rw [← hpr] at q0 q1 q2 q3 q4 q36 q68
  simp only [eg] at r0 r2 r3 r35 r38
  simp only at q0 q1 q2 q3 q4 q36 q68
  rw [hx] at cg3
  simp only at cg3
  have hn0 : (bs == o.num) = true := he
  have hrr := hr
  have S6' := Lib.hid S6
  have R6' := Lib.hid RX6
  have ef : (fr == o.root) = true := by simpa using hfr
  clear S6 C6 RX6
  go_wp2_with fail
  go_quiet (fail)
  have SD := S6'.out.on (below_drewN (Below.refl _ _) nq)
  have HS := Lib.hid (SD.setSt hi eg 1)
  have hgb : g ≠ b := by
    have := hvb.out g (by rw [eg]; rfl)
    omega
  have R8 : ((w6.drewN nq).setCell ⟨g, i * 69 + 3, none⟩ (.int .i64 1)).heap[b]? = some (.cells x.row.toArray 54 (0, 0)) := by
    rw [Below.heap_setCell _ _ _ _ (fun e => hgb e.symm)]
    exact R6'.out
  rw [hx] at HS
  go_wp2_with fail
  generalize (w6.drewN nq).setCell ⟨g, i * 69 + 3, none⟩ (.int .i64 1) = W8 at HS R8 ⊢
  clear r0 r2 r3 r35 r38 q0 q1 q2 q3 q4 q36 q68 cg cg3 fg3 SD
  obtain ⟨q0, -, -, -, q4, -, -⟩ := pr_facts hok R8
  rw [← hpr] at q0 q4
  simp only at q0 q4
  obtain ⟨-, r2, -⟩ := HS.out.blk.facts hrr
  have f2 := HS.out.blk.free 2
  have cta := HS.out.blk.there hrr (i := 3) (n := 32) (by omega)
  have ctb := (HS.out.setN nb).blk.there hrr (i := 3) (n := 32) (by omega)
  obtain ⟨-, r2b, -⟩ := (HS.out.setR hrt).blk.facts hrt
  have f2b := (HS.out.setR hrt).blk.free 2
  have hbp : b ≠ p := by
    intro e
    have h3 := HS.out.blk
    unfold OrB at h3
    rw [← e, R8] at h3
    simp at h3
  have RA : (W8.setCell ⟨p, 2, none⟩ (.int .i64 nb)).heap[b]? = some (.cells x.row.toArray 54 (0, 0)) := by
    rw [Below.heap_setCell _ _ _ _ (by exact hbp)]
    exact R8
  have RB : (W8.setCells p 3 (hc rt)).heap[b]? = some (.cells x.row.toArray 54 (0, 0)) := by
    rw [setCells_other hbp]
    exact R8
  obtain ⟨q0a, -, -, -, q4a, -, -⟩ := pr_facts hok RA
  obtain ⟨q0b, -, -, -, q4b, -, -⟩ := pr_facts hok RB
  rw [← hpr] at q0a q4a q0b q4b
  simp only at q0a q4a q0b q4b
  have HA := Lib.hid ((HS.out.setN nb).setR hrt)
  have HB := Lib.hid ((HS.out.setR hrt).setN nb)
  have HC := Lib.hid ((HS.out.setN nb).drew.setR hrt)
  have HD := Lib.hid ((HS.out.setR hrt).drew.setN nb)
  clear eg hne hfr he hn0 ef HS S6'
  go_region
  all_goals go_wp2_with fail
  all_goals go_ret
  all_goals first
    | exact ⟨rfl, _, HA.out⟩
    | exact ⟨rfl, _, HB.out⟩
    | exact ⟨rfl, _, HC.out⟩
    | exact ⟨rfl, _, HD.out⟩
    | exact ⟨rfl, _, HA.out.drew⟩
    | exact ⟨rfl, _, HB.out.drew⟩
end Go.Proofs.YtppaallnanodhaaGreatDoor
