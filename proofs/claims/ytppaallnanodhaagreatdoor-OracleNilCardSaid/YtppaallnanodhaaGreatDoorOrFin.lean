/-
  Package oracle: Finalise.
-/
import Derived.Test.YtppaallnanodhaaGreatDoorOrSet
import Derived.WalkSmall
namespace Go.Proofs.YtppaallnanodhaaGreatDoor
set_option maxRecDepth 100000
open Go.RowKit

set_option maxHeartbeats 4000000 in
/-- Not yet. -/
theorem Finalise_early {a w : World} {p : Nat} {o : Or} {L : List Pr} {Y : List (Int × Int)} (h : OSt a w p o L Y) (hw : 0 < o.wait ∧ o.wait ≤ 1000) {now n : Int} (hn : 0 ≤ now ∧ now ≤ 1000) {i : Nat} (hi : i < L.length) (hni : n = i)
    {nb bs at_ who : Int} {rt fr : List Int} (hx : L[i] = ⟨nb, bs, at_, 0, rt, fr, who⟩) (ht : 0 ≤ at_ ∧ at_ ≤ 1000) (hlt : now < at_ + o.wait) :
    Calls Tryz.prog 17 #[.pointer (some ⟨p, 0, none⟩), .int .i64 now, .int .i64 n] w fun e w' => e = .returned (.int .i64 50) ∧ Below w.heap.size w w' := by
  subst hni
  have hok : Pr.ok ⟨nb, bs, at_, 0, rt, fr, who⟩ := by rw [← hx]; exact h.all _ (List.getElem_mem hi)
  have hlen := hok.len
  have hr := h.root
  obtain ⟨hw1, hw2⟩ := hw
  go_enter Tryz.func17, Tryz.ntmps17
  go_wp2_with fail
  refine (ready_any h.blk hr hw1 hn.1 hn.2).mono ?_
  rintro e wx ⟨rfl, rfl⟩
  go_wp2_with fail
  refine (Proposal_any h hw1 hi).mono ?_
  rintro e w1 ⟨rfl, B1⟩
  rw [hx]
  have h1 := h.on B1
  have R := heap_alloc_last w1 (.cells pr0.row.toArray 54)
  have ct := pr_there pr0_ok R
  have hvb : Hid (∀ k, o.vP.ownBlock = some k → k < w1.heap.size) := fun k => own_lt h1.pr
  have RX := pr_set pr0_ok hok R
  have BX : Below w1.heap.size w1 ((w1.alloc (.cells pr0.row.toArray 54)).setCells w1.heap.size 0 (Pr.row ⟨nb, bs, at_, 0, rt, fr, who⟩)) := below_setCells' _ (Nat.le_refl _) _ _ ((Below.refl _ _).alloc (Nat.le_refl _) _)
  have HX := h1.on BX
  obtain ⟨p0, p1, p2, p3, p4, p36, p68⟩ := pr_facts hok RX
  obtain ⟨o0, o2, o3, o35, -, -, o38⟩ := HX.blk.facts hr
  have BW : Hid (Below wx.heap.size wx ((w1.alloc (.cells pr0.row.toArray 54)).setCells w1.heap.size 0 (Pr.row ⟨nb, bs, at_, 0, rt, fr, who⟩))) := B1.trans (BX.mono B1.size)
  have HX' := Lib.hid HX
  have RX' := Lib.hid RX
  simp only at p0 p1 p2 p3 p4 p36 p68
  generalize hpr : Pr.mk nb bs at_ 0 rt fr who = x at p0 p1 p2 p3 p4 p36 p68 o0 o2 o3 o35 o38 hok hlen BW HX' RX' ⊢
  clear HX RX R BX h1 B1 h
  go_wp2_with fail
  generalize (w1.alloc (.cells pr0.row.toArray 54)).setCells w1.heap.size 0 x.row = W at p0 p1 p2 p3 p4 p36 p68 o0 o2 o3 o35 o38 BW HX' RX' ⊢
  generalize w1.heap.size = b at p0 p1 p2 p3 p4 p36 p68 RX' hvb ⊢
  clear ct
  obtain ⟨ht1, ht2⟩ := ht
  have hd : decide (now < at_ + o.wait) = true := by simpa using hlt
  go_quiet (fail)
  go_wp2_with fail
  go_ret
  exact ⟨rfl, below_drewN BW.out _⟩

set_option maxHeartbeats 4000000 in
/-- It is stale already. -/
theorem Finalise_over {a w : World} {p : Nat} {o : Or} {L : List Pr} {Y : List (Int × Int)} (h : OSt a w p o L Y) (hw : 0 < o.wait ∧ o.wait ≤ 1000) {now n : Int} (hn : 0 ≤ now ∧ now ≤ 1000) {i : Nat} (hi : i < L.length) (hni : n = i)
    {nb bs at_ who : Int} {rt fr : List Int} (hx : L[i] = ⟨nb, bs, at_, 3, rt, fr, who⟩)  :
    Calls Tryz.prog 17 #[.pointer (some ⟨p, 0, none⟩), .int .i64 now, .int .i64 n] w fun e w' => e = .returned (.int .i64 53) ∧ Below w.heap.size w w' := by
  subst hni
  have hok : Pr.ok ⟨nb, bs, at_, 3, rt, fr, who⟩ := by rw [← hx]; exact h.all _ (List.getElem_mem hi)
  have hlen := hok.len
  have hr := h.root
  obtain ⟨hw1, hw2⟩ := hw
  go_enter Tryz.func17, Tryz.ntmps17
  go_wp2_with fail
  refine (ready_any h.blk hr hw1 hn.1 hn.2).mono ?_
  rintro e wx ⟨rfl, rfl⟩
  go_wp2_with fail
  refine (Proposal_any h hw1 hi).mono ?_
  rintro e w1 ⟨rfl, B1⟩
  rw [hx]
  have h1 := h.on B1
  have R := heap_alloc_last w1 (.cells pr0.row.toArray 54)
  have ct := pr_there pr0_ok R
  have hvb : Hid (∀ k, o.vP.ownBlock = some k → k < w1.heap.size) := fun k => own_lt h1.pr
  have RX := pr_set pr0_ok hok R
  have BX : Below w1.heap.size w1 ((w1.alloc (.cells pr0.row.toArray 54)).setCells w1.heap.size 0 (Pr.row ⟨nb, bs, at_, 3, rt, fr, who⟩)) := below_setCells' _ (Nat.le_refl _) _ _ ((Below.refl _ _).alloc (Nat.le_refl _) _)
  have HX := h1.on BX
  obtain ⟨p0, p1, p2, p3, p4, p36, p68⟩ := pr_facts hok RX
  obtain ⟨o0, o2, o3, o35, -, -, o38⟩ := HX.blk.facts hr
  have BW : Hid (Below wx.heap.size wx ((w1.alloc (.cells pr0.row.toArray 54)).setCells w1.heap.size 0 (Pr.row ⟨nb, bs, at_, 3, rt, fr, who⟩))) := B1.trans (BX.mono B1.size)
  have HX' := Lib.hid HX
  have RX' := Lib.hid RX
  simp only at p0 p1 p2 p3 p4 p36 p68
  generalize hpr : Pr.mk nb bs at_ 3 rt fr who = x at p0 p1 p2 p3 p4 p36 p68 o0 o2 o3 o35 o38 hok hlen BW HX' RX' ⊢
  clear HX RX R BX h1 B1 h
  go_wp2_with fail
  go_ret
  exact ⟨rfl, BW.out⟩

set_option maxHeartbeats 4000000 in
/-- On another number. -/
theorem Finalise_stale {a w : World} {p : Nat} {o : Or} {L : List Pr} {Y : List (Int × Int)} (h : OSt a w p o L Y) (hw : 0 < o.wait ∧ o.wait ≤ 1000) {now n : Int} (hn : 0 ≤ now ∧ now ≤ 1000) {i : Nat} (hi : i < L.length) (hni : n = i)
    {nb bs at_ who : Int} {rt fr : List Int} (hx : L[i] = ⟨nb, bs, at_, 0, rt, fr, who⟩) (ht : 0 ≤ at_ ∧ at_ ≤ 1000) (hlt : at_ + o.wait ≤ now) (hne : bs ≠ o.num) (hY : Y.length ≤ 1000) (hb : 0 < o.bonds ∧ o.bonds ≤ 1000) :
    Calls Tryz.prog 17 #[.pointer (some ⟨p, 0, none⟩), .int .i64 now, .int .i64 n] w fun e w' => e = .returned (.int .i64 0) ∧ ∃ v, OSt a w' p { o with vY := v, bonds := o.bonds - 1 } (L.set i ⟨nb, bs, at_, 3, rt, fr, who⟩) (Y ++ [(who, 1)]) := by
  subst hni
  have hok : Pr.ok ⟨nb, bs, at_, 0, rt, fr, who⟩ := by rw [← hx]; exact h.all _ (List.getElem_mem hi)
  have hlen := hok.len
  have hr := h.root
  obtain ⟨hw1, hw2⟩ := hw
  go_enter Tryz.func17, Tryz.ntmps17
  go_wp2_with fail
  refine (ready_any h.blk hr hw1 hn.1 hn.2).mono ?_
  rintro e wx ⟨rfl, rfl⟩
  go_wp2_with fail
  refine (Proposal_any h hw1 hi).mono ?_
  rintro e w1 ⟨rfl, B1⟩
  rw [hx]
  have h1 := h.on B1
  have R := heap_alloc_last w1 (.cells pr0.row.toArray 54)
  have ct := pr_there pr0_ok R
  have hvb : Hid (∀ k, o.vP.ownBlock = some k → k < w1.heap.size) := fun k => own_lt h1.pr
  have RX := pr_set pr0_ok hok R
  have BX : Below w1.heap.size w1 ((w1.alloc (.cells pr0.row.toArray 54)).setCells w1.heap.size 0 (Pr.row ⟨nb, bs, at_, 0, rt, fr, who⟩)) := below_setCells' _ (Nat.le_refl _) _ _ ((Below.refl _ _).alloc (Nat.le_refl _) _)
  have HX := h1.on BX
  obtain ⟨p0, p1, p2, p3, p4, p36, p68⟩ := pr_facts hok RX
  obtain ⟨o0, o2, o3, o35, -, -, o38⟩ := HX.blk.facts hr
  have BW : Hid (Below wx.heap.size wx ((w1.alloc (.cells pr0.row.toArray 54)).setCells w1.heap.size 0 (Pr.row ⟨nb, bs, at_, 0, rt, fr, who⟩))) := B1.trans (BX.mono B1.size)
  have HX' := Lib.hid HX
  have RX' := Lib.hid RX
  simp only at p0 p1 p2 p3 p4 p36 p68
  generalize hpr : Pr.mk nb bs at_ 0 rt fr who = x at p0 p1 p2 p3 p4 p36 p68 o0 o2 o3 o35 o38 hok hlen BW HX' RX' ⊢
  clear HX RX R BX h1 B1 h
  go_wp2_with fail
  generalize (w1.alloc (.cells pr0.row.toArray 54)).setCells w1.heap.size 0 x.row = W at p0 p1 p2 p3 p4 p36 p68 o0 o2 o3 o35 o38 BW HX' RX' ⊢
  generalize w1.heap.size = b at p0 p1 p2 p3 p4 p36 p68 RX' hvb ⊢
  clear ct
  obtain ⟨ht1, ht2⟩ := ht
  have hd : decide (now < at_ + o.wait) = false := by simpa using hlt
  have he : (bs == o.num) = false := by simpa using hne
  go_quiet (fail)
  rename_i nq
  go_wp2_with fail
  have HXD := HX'.out.on (below_drewN (Below.refl _ _) nq)
  have RXD : (W.drewN nq).heap[b]? = some (.cells x.row.toArray 54 (0, 0)) := RX'.out
  refine (pay_any HXD hY hb who).mono ?_
  rintro e w6 ⟨rfl, v6, S6, C6⟩
  have RX6 : w6.heap[b]? = some (.cells x.row.toArray 54 (0, 0)) := by
    rw [C6.block b (Array.getElem?_eq_some_iff.1 RXD).1 ?_]
    · exact RXD
    · intro hm
      rcases List.mem_cons.1 hm with e | hm
      · have := HXD.blk
        unfold OrB at this
        have h3 := RXD
        rw [e, this] at h3
        simp at h3
      · exact own_ne HXD.pay RXD (by decide) (by simpa using hm)
  obtain ⟨q0, q1, q2, q3, q4, q36, q68⟩ := pr_facts hok RX6
  obtain ⟨g, c, eg, hgl, hgp, cg, cg3, fg3⟩ := S6.at hi
  obtain ⟨r0, r2, r3, r35, -, -, r38⟩ := S6.blk.facts hr
  simp only at eg
  rw [← hpr] at q0 q1 q2 q3 q4 q36 q68
  simp only [eg] at r0 r2 r3 r35 r38
  simp only at q0 q1 q2 q3 q4 q36 q68
  rw [hx] at cg3
  simp only at cg3
  clear p0 p1 p2 p3 p4 p36 p68 o0 o2 o3 o35 o38
  have S6' := Lib.hid S6
  have hrr := hr
  clear S6 C6 RX6
  go_wp2_with fail
  go_quiet (fail)
  have HS := Lib.hid ((S6'.out.on (below_drewN (Below.refl _ _) nq)).setSt hi eg 3)
  go_wp2_with fail
  refine (payBack_any HS.out.blk hrr _).mono ?_
  rintro e w7 ⟨rfl, rfl⟩
  go_wp2_with fail
  go_ret
  refine ⟨rfl, v6, ?_⟩
  have := HS.out
  rw [hx] at this
  exact this
end Go.Proofs.YtppaallnanodhaaGreatDoor
