/-
  Package oracle: Propose.
-/
import Derived.Test.YtppaallnanodhaaGreatDoorOrDo
namespace Go.Proofs.YtppaallnanodhaaGreatDoor
set_option maxRecDepth 100000
open Go.RowKit

theorem own_slice {w : World} {e : TypeId} {size : Nat} {v : Value} {n : Nat} {xs : List Value} (h : w.ownsRow 0 e size v n xs) : ∃ q c, v = .slice q n c := by
  rcases h.2 with ⟨rfl, rfl⟩ | ⟨g, cap, cur, rfl, _⟩
  · exact ⟨_, _, rfl⟩
  · exact ⟨_, _, rfl⟩
theorem Tryz.infoPr : (Tryz.prog.info? 54).map (fun i => (i.zero, i.size, i.bytes)) = some (some (.agg pr0.row.toArray), 69, 104) := by kernel_rfl
def PropS (p b : Nat) (num : Int) (R H : List Int) (W : World) : Prop := W.cell? ⟨p, 2, none⟩ = some (.int .i64 num) ∧ rowOf W p 3 32 = hc R ∧ rowOf W b 0 32 = hc H
theorem hash_chg {w w' : World} {S : List Nat} {b : Nat} {F : List Int} (h : HashAt w b F) (hc : Chg w w' S) (hb : b ∉ S) : HashAt w' b F := by
  unfold HashAt
  rw [hc.block b h.lt hb]; exact h
theorem propS {W : World} {p b : Nat} {o : Or} {H : List Int} (h : OrB W p o) (hr : o.root.length = 32) (hb : HashAt W b H) (hH : H.length = 32) : PropS p b o.num o.root H W :=
  ⟨(h.facts hr).2.1, (h.facts hr).2.2.1, hb.row hH⟩

set_option maxHeartbeats 4000000 in
theorem Propose_any {a w : World} {p : Nat} {o : Or} {L : List Pr} {Y : List (Int × Int)} (h : OSt a w p o L Y) (hw : 0 < o.wait) (hL : L.length ≤ 1000) {now who nb : Int} (hn : 0 ≤ now ∧ now ≤ 1000) (hnb : o.num < nb ∧ nb ≤ 1000)
    (hb : 0 ≤ o.bonds ∧ o.bonds ≤ 1000) {F : List Int} (hF : F.length = 32) :
    Calls Tryz.prog 6 #[.pointer (some ⟨p, 0, none⟩), .int .i64 now, .int .u64 who, .int .i64 nb, .agg (hc F).toArray] w fun e w' => e = .returned (.tuple #[.int .i64 L.length, .int .i64 0]) ∧
      ∃ v, OSt a w' p { o with vP := v, bonds := o.bonds + 1 } (L ++ [⟨nb, o.num, now, 0, F, o.root, who⟩]) Y := by
  obtain ⟨i0, hi, hz0, hz1, hz2⟩ := info_parts Tryz.infoPr
  obtain ⟨wait, clock, num, root, vP, vY, bonds⟩ := o
  obtain ⟨q0, k0, e0⟩ := own_slice h.pr
  simp only at e0 hw hnb hb
  subst e0
  have hx : Pr.ok ⟨nb, num, now, 0, F, root, who⟩ := ⟨hF, h.root⟩
  have h1 := h.alloc (.cells (hc F).toArray 24)
  have R := HashAt.new w F
  have h1b := h1.blk
  have hr : root.length = 32 := h.root
  have hl := hc_len root
  have hlF := hc_len F
  have lt1 : p < w.heap.size := h.blk.lt
  clear h
  have hs : (Or.mk wait clock num root (.slice q0 L.length k0) vY bonds).root.length = 32 := hr
  obtain ⟨-, c2, cr, c35, -, -, c38⟩ := h1b.facts hs
  simp only at c2 cr c35 c38
  obtain ⟨hnb1, hnb2⟩ := hnb
  obtain ⟨hb1, hb2⟩ := hb
  have d1 : decide (nb ≤ num) = false := by simp; omega
  have d2 : decide (nb > 1099511627776) = false := by simp; omega
  replace hi := Lib.hid hi
  replace hz0 := Lib.hid hz0
  replace hz1 := Lib.hid hz1
  replace hz2 := Lib.hid hz2
  go_enter Tryz.func6, Tryz.ntmps6
  go_wp2_with fail
  generalize w.alloc (.cells (hc F).toArray 24) = w1 at R h1 h1b c2 cr c35 c38 ⊢
  refine (ready_any h1b hs hw hn.1 hn.2).mono ?_
  rintro e wx ⟨rfl, rfl⟩
  go_wp2_with fail
  have hR : Hid (HashAt wx w.heap.size F) := R
  clear R
  have H1 : Hid (OSt a wx p ⟨wait, clock, num, root, .slice q0 L.length k0, vY, bonds⟩ L Y) := h1
  have S0 : PropS p w.heap.size num root F wx := propS h1b hs hR hF
  have H1b : Hid (OrB wx p ⟨wait, clock, num, root, .slice q0 L.length k0, vY, bonds⟩) := h1b
  clear h1 h1b
  refine wp_region_held_drew (S := PropS p w.heap.size num root F) (by kernel_rfl) (by exact S0) (fun h0 => ?_)
  refine wpAnyH_take (i := 0) (v := ?_) (by rw [List.getElem?_toArray]; rfl) (by kernel_rfl) (by kernel_rfl) (by kernel_rfl) (by exact fun _ _ _ h => h) (Or.inl ⟨by rfl, ?_⟩) h0 ?_
  rotate_left
  · intro W hW
    obtain ⟨hW1, hW2, hW3⟩ := hW
    go_simp
    all_goals with_reducible rfl
  try simp only [Act.put, List.setIfInBounds_toArray, List.set_cons_zero, List.set_cons_succ]
  refine wpAnyH_take (i := 1) (v := ?_) (by rw [List.getElem?_toArray]; rfl) (by kernel_rfl) (by kernel_rfl) (by kernel_rfl) (by exact fun _ _ _ h => h) (Or.inl ⟨by rfl, ?_⟩) h0 ?_
  rotate_left
  · intro W hW
    obtain ⟨hW1, hW2, hW3⟩ := hW
    go_simp
    all_goals with_reducible rfl
  try simp only [Act.put, List.setIfInBounds_toArray, List.set_cons_zero, List.set_cons_succ]
  refine wpAnyH_take (i := 2) (v := ?_) (by rw [List.getElem?_toArray]; rfl) (by kernel_rfl) (by kernel_rfl) (by kernel_rfl) (by exact fun _ _ _ h => h) (Or.inl ⟨by rfl, ?_⟩) h0 ?_
  rotate_left
  · intro W hW
    obtain ⟨hW1, hW2, hW3⟩ := hW
    go_simp
    all_goals with_reducible rfl
  try simp only [Act.put, List.setIfInBounds_toArray, List.set_cons_zero, List.set_cons_succ]
  refine wpAnyH_take (i := 3) (v := ?_) (by rw [List.getElem?_toArray]; rfl) (by kernel_rfl) (by kernel_rfl) (by kernel_rfl) (by exact fun _ _ _ h => h) (Or.inl ⟨by rfl, ?_⟩) h0 ?_
  rotate_left
  · intro W hW
    obtain ⟨hW1, hW2, hW3⟩ := hW
    go_simp
    all_goals with_reducible rfl
  try simp only [Act.put, List.setIfInBounds_toArray, List.set_cons_zero, List.set_cons_succ]
  refine wpAnyH_take (i := 5) (v := ?_) (by rw [List.getElem?_toArray]; rfl) (by kernel_rfl) (by kernel_rfl) (by kernel_rfl) (by exact fun _ _ _ h => h) (Or.inl ⟨by rfl, ?_⟩) h0 ?_
  rotate_left
  · intro W hW
    obtain ⟨hW1, hW2, hW3⟩ := hW
    go_simp
    all_goals with_reducible rfl
  try simp only [Act.put, List.setIfInBounds_toArray, List.set_cons_zero, List.set_cons_succ]
  refine wpAnyH_take (i := 6) (v := ?_) (by rw [List.getElem?_toArray]; rfl) (by kernel_rfl) (by kernel_rfl) (by kernel_rfl) (by exact fun _ _ _ h => h) (Or.inl ⟨by rfl, ?_⟩) h0 ?_
  rotate_left
  · intro W hW
    obtain ⟨hW1, hW2, hW3⟩ := hW
    go_simp
    all_goals with_reducible rfl
  try simp only [Act.put, List.setIfInBounds_toArray, List.set_cons_zero, List.set_cons_succ]
  refine wpAnyH_take (i := 7) (v := ?_) (by rw [List.getElem?_toArray]; rfl) (by kernel_rfl) (by kernel_rfl) (by kernel_rfl) (by exact fun _ _ _ h => h) (Or.inl ⟨by rfl, ?_⟩) h0 ?_
  rotate_left
  · intro W hW
    obtain ⟨hW1, hW2, hW3⟩ := hW
    go_simp
    all_goals with_reducible rfl
  try simp only [Act.put, List.setIfInBounds_toArray, List.set_cons_zero, List.set_cons_succ]
  refine wpAnyH_take (i := 8) (v := ?_) (by rw [List.getElem?_toArray]; rfl) (by kernel_rfl) (by kernel_rfl) (by kernel_rfl) (by exact fun _ _ _ h => h) (Or.inl ⟨by rfl, ?_⟩) h0 ?_
  rotate_left
  · intro W hW
    obtain ⟨hW1, hW2, hW3⟩ := hW
    go_simp
    all_goals with_reducible rfl
  try simp only [Act.put, List.setIfInBounds_toArray, List.set_cons_zero, List.set_cons_succ]
  refine wpAnyH_take (i := 9) (v := ?_) (by rw [List.getElem?_toArray]; rfl) (by kernel_rfl) (by kernel_rfl) (by kernel_rfl) (by exact fun _ _ _ h => h) (Or.inl ⟨by rfl, ?_⟩) h0 ?_
  rotate_left
  · intro W hW
    obtain ⟨hW1, hW2, hW3⟩ := hW
    go_simp
    all_goals with_reducible rfl
  try simp only [Act.put, List.setIfInBounds_toArray, List.set_cons_zero, List.set_cons_succ]
  refine wpAnyH_take (i := 10) (v := ?_) (by rw [List.getElem?_toArray]; rfl) (by kernel_rfl) (by kernel_rfl) (by kernel_rfl) (by exact fun _ _ _ h => h) (Or.inl ⟨by rfl, ?_⟩) h0 ?_
  rotate_left
  · intro W hW
    obtain ⟨hW1, hW2, hW3⟩ := hW
    go_simp
    all_goals with_reducible rfl
  try simp only [Act.put, List.setIfInBounds_toArray, List.set_cons_zero, List.set_cons_succ]
  refine wpAnyH_take (i := 11) (v := ?_) (by rw [List.getElem?_toArray]; rfl) (by kernel_rfl) (by kernel_rfl) (by kernel_rfl) (by exact fun _ _ _ h => h) (Or.inl ⟨by rfl, ?_⟩) h0 ?_
  rotate_left
  · intro W hW
    obtain ⟨hW1, hW2, hW3⟩ := hW
    go_simp
    all_goals with_reducible rfl
  try simp only [Act.put, List.setIfInBounds_toArray, List.set_cons_zero, List.set_cons_succ]
  refine wpAnyH_take (i := 12) (v := ?_) (by rw [List.getElem?_toArray]; rfl) (by kernel_rfl) (by kernel_rfl) (by kernel_rfl) (by exact fun _ _ _ h => h) (Or.inl ⟨by rfl, ?_⟩) h0 ?_
  rotate_left
  · intro W hW
    obtain ⟨hW1, hW2, hW3⟩ := hW
    go_simp
    all_goals with_reducible rfl
  try simp only [Act.put, List.setIfInBounds_toArray, List.set_cons_zero, List.set_cons_succ]
  refine wpAnyH_take (i := 13) (v := ?_) (by rw [List.getElem?_toArray]; rfl) (by kernel_rfl) (by kernel_rfl) (by kernel_rfl) (by exact fun _ _ _ h => h) (Or.inl ⟨by rfl, ?_⟩) h0 ?_
  rotate_left
  · intro W hW
    obtain ⟨hW1, hW2, hW3⟩ := hW
    go_simp
    all_goals with_reducible rfl
  try simp only [Act.put, List.setIfInBounds_toArray, List.set_cons_zero, List.set_cons_succ]
  refine wpAnyH_take (i := 14) (v := ?_) (by rw [List.getElem?_toArray]; rfl) (by kernel_rfl) (by kernel_rfl) (by kernel_rfl) (by exact fun _ _ _ h => h) (Or.inl ⟨by rfl, ?_⟩) h0 ?_
  rotate_left
  · intro W hW
    obtain ⟨hW1, hW2, hW3⟩ := hW
    go_simp
    all_goals with_reducible rfl
  try simp only [Act.put, List.setIfInBounds_toArray, List.set_cons_zero, List.set_cons_succ]
  refine wpAnyH_take (i := 15) (v := ?_) (by rw [List.getElem?_toArray]; rfl) (by kernel_rfl) (by kernel_rfl) (by kernel_rfl) (by exact fun _ _ _ h => h) (Or.inl ⟨by rfl, ?_⟩) h0 ?_
  rotate_left
  · intro W hW
    obtain ⟨hW1, hW2, hW3⟩ := hW
    go_simp
    all_goals with_reducible rfl
  try simp only [Act.put, List.setIfInBounds_toArray, List.set_cons_zero, List.set_cons_succ]
  refine wpAnyH_take (i := 16) (v := ?_) (by rw [List.getElem?_toArray]; rfl) (by kernel_rfl) (by kernel_rfl) (by kernel_rfl) (by exact fun _ _ _ h => h) (Or.inl ⟨by rfl, ?_⟩) h0 ?_
  rotate_left
  · intro W hW
    obtain ⟨hW1, hW2, hW3⟩ := hW
    go_simp
    all_goals with_reducible rfl
  try simp only [Act.put, List.setIfInBounds_toArray, List.set_cons_zero, List.set_cons_succ]
  refine wpAnyH_take (i := 17) (v := ?_) (by rw [List.getElem?_toArray]; rfl) (by kernel_rfl) (by kernel_rfl) (by kernel_rfl) (by exact fun _ _ _ h => h) (Or.inl ⟨by rfl, ?_⟩) h0 ?_
  rotate_left
  · intro W hW
    obtain ⟨hW1, hW2, hW3⟩ := hW
    go_simp
    all_goals with_reducible rfl
  try simp only [Act.put, List.setIfInBounds_toArray, List.set_cons_zero, List.set_cons_succ]
  refine wpAnyH_ready (rs := [4, 18]) (by kernel_rfl) (by simp) ?_
  refine AllReadyH.cons (by rw [List.getElem?_toArray]; rfl) (fun K hK => ?_) (AllReadyH.cons (by rw [List.getElem?_toArray]; rfl) (fun K hK => ?_) AllReadyH.nil)
  · rw [if_pos (by rfl)]
    go_wp2_with fail
    refine hK.out _ _ (by exact S0) (fun _ => ?_)
    clear hK K
    try simp only [Act.put, List.setIfInBounds_toArray, List.set_cons_zero, List.set_cons_succ]
    refine wpAnyH_ready (rs := [18]) (by kernel_rfl) (by simp) ?_
    refine AllReadyH.cons (by rw [List.getElem?_toArray]; rfl) (fun K hK => ?_) AllReadyH.nil
    rw [if_pos (by rfl)]
    go_wp2_with fail
    refine hK.out _ _ (by exact propS (H1b.out.alloc _) hs (HashAt.alloc (w := wx) hR _) hF) (fun _ => ?_)
    clear hK K
    try simp only [Act.put, List.setIfInBounds_toArray, List.set_cons_zero, List.set_cons_succ]
    refine wpAnyH_ready (rs := [19]) (by kernel_rfl) (by simp) ?_
    refine AllReadyH.cons (by rw [List.getElem?_toArray]; rfl) (fun K hK => ?_) AllReadyH.nil
    rw [if_pos (by rfl)]
    refine wp_append_row _ _ rfl Tryz.underlying83 hi.out hz0.out hz1.out hz2.out rfl (H1.out.alloc (.cells (Pr.row ⟨nb, num, now, 0, F, root, who⟩).toArray 54)).drew.pr (news := Pr.row ⟨nb, num, now, 0, F, root, who⟩) (m := 1) ?rd ?b1 ?b2 ?_
    case rd =>
      refine Src.ofSlice _ Tryz.underlying83 _ _ _ _ hx.len (fun j u hu => ?_) (fun u hu => ?_)
      · rw [addr_add, Nat.zero_add]
        rw [World.cell?_drew, cell_of_row _ _ _ _ _ _ (heap_alloc_last wx (.cells (Pr.row ⟨nb, num, now, 0, F, root, who⟩).toArray 54))]
        simpa using hu
      · exact (Array.all_eq_true_iff_forall_mem.1 (Pr.one _)) u (by simpa using hu)
    case b1 => unfold maxLen; omega
    case b2 => omega
    intro q2 k2 w2 own2 grow2 fr2
    obtain ⟨B2, S2, C2⟩ := (H1.out.alloc (.cells (Pr.row ⟨nb, num, now, 0, F, root, who⟩).toArray 54)).drew.appP hx own2 grow2 (by exact fr2)
    have RA : HashAt (World.drew (wx.alloc (.cells (Pr.row ⟨nb, num, now, 0, F, root, who⟩).toArray 54))) w.heap.size F := HashAt.alloc (w := wx) hR (.cells (Pr.row ⟨nb, num, now, 0, F, root, who⟩).toArray 54)
    have R2 := hash_chg RA C2 (by
      have := own_ne (H1.out.alloc (.cells (Pr.row ⟨nb, num, now, 0, F, root, who⟩).toArray 54)).drew.pr RA (by decide)
      intro hm
      simp only [Option.mem_toList] at hm
      exact this hm)
    have SA : PropS p w.heap.size num root F w2 := propS B2 hs R2 hF
    have SB : PropS p w.heap.size num root F (w2.setCell ⟨p, 35, none⟩ (.slice q2 (L.length + 1) k2)) := propS S2.blk hs (hash_chg (S := [p]) R2 ((Chg.refl w2 [p]).setCell (.inl (by simp)) _) (by simp; omega)) hF
    have f35 := B2.free 35
    have f38 := B2.free 38
    obtain ⟨-, -, -, d35, -, -, d38⟩ := B2.facts hs
    have HS := Lib.hid (S2.setB (bonds + 1))
    clear own2 grow2 fr2 B2 S2 C2 RA R2 c35 c38 c2 cr
    refine hK.out _ _ (by exact SA) (fun h2 => ?_)
    clear hK K
    try simp only [Act.put, List.setIfInBounds_toArray, List.set_cons_zero, List.set_cons_succ]
    refine wpAnyH_take (i := 20) (v := ?_) (by rw [List.getElem?_toArray]; rfl) (by kernel_rfl) (by kernel_rfl) (by kernel_rfl) (by exact fun _ _ _ h => h) (Or.inl ⟨by rfl, ?_⟩) h2 ?_
    rotate_left
    · intro W hW
      go_simp
      all_goals with_reducible rfl
    try simp only [Act.put, List.setIfInBounds_toArray, List.set_cons_zero, List.set_cons_succ]
    refine wpAnyH_take (i := 21) (v := ?_) (by rw [List.getElem?_toArray]; rfl) (by kernel_rfl) (by kernel_rfl) (by kernel_rfl) (by exact fun _ _ _ h => h) (Or.inl ⟨by rfl, ?_⟩) h2 ?_
    rotate_left
    · intro W hW
      go_simp
      all_goals with_reducible rfl
    try simp only [Act.put, List.setIfInBounds_toArray, List.set_cons_zero, List.set_cons_succ]
    refine wpAnyH_ready (rs := [22]) (by kernel_rfl) (by simp) ?_
    refine AllReadyH.cons (by rw [List.getElem?_toArray]; rfl) (fun K hK => ?_) AllReadyH.nil
    rw [if_pos (by rfl)]
    go_wp2_with fail
    refine hK.out _ _ (by exact SB) (fun _ => ?_)
    clear hK K
    try simp only [Act.put, List.setIfInBounds_toArray, List.set_cons_zero, List.set_cons_succ]
    refine wpAnyH_done (by kernel_rfl) ?_ _
    clear S0 SA SB
    go_wp2_with fail
    refine bodyPost_ret (v := .tuple #[.int .i64 L.length, .int .i64 0]) (by simp [results, Tryz.results6, go_sem]) rfl ⟨rfl, _, HS.out⟩
  · rw [if_pos (by rfl)]
    go_wp2_with fail
    refine hK.out _ _ (by exact propS (H1b.out.alloc _) hs (HashAt.alloc (w := wx) hR _) hF) (fun _ => ?_)
    clear hK K
    try simp only [Act.put, List.setIfInBounds_toArray, List.set_cons_zero, List.set_cons_succ]
    replace c35 := ((H1b.out.alloc (.cells (Pr.row ⟨nb, num, now, 0, F, root, who⟩).toArray 54)).facts hs).2.2.2.1
    refine wpAnyH_ready (rs := [4]) (by kernel_rfl) (by simp) ?_
    refine AllReadyH.cons (by rw [List.getElem?_toArray]; rfl) (fun K hK => ?_) AllReadyH.nil
    rw [if_pos (by rfl)]
    go_wp2_with fail
    refine hK.out _ _ (by exact propS (H1b.out.alloc _) hs (HashAt.alloc (w := wx) hR _) hF) (fun _ => ?_)
    clear hK K
    try simp only [Act.put, List.setIfInBounds_toArray, List.set_cons_zero, List.set_cons_succ]
    refine wpAnyH_ready (rs := [19]) (by kernel_rfl) (by simp) ?_
    refine AllReadyH.cons (by rw [List.getElem?_toArray]; rfl) (fun K hK => ?_) AllReadyH.nil
    rw [if_pos (by rfl)]
    refine wp_append_row _ _ rfl Tryz.underlying83 hi.out hz0.out hz1.out hz2.out rfl (H1.out.alloc (.cells (Pr.row ⟨nb, num, now, 0, F, root, who⟩).toArray 54)).drew.pr (news := Pr.row ⟨nb, num, now, 0, F, root, who⟩) (m := 1) ?rd ?b1 ?b2 ?_
    case rd =>
      refine Src.ofSlice _ Tryz.underlying83 _ _ _ _ hx.len (fun j u hu => ?_) (fun u hu => ?_)
      · rw [addr_add, Nat.zero_add]
        rw [World.cell?_drew, cell_of_row _ _ _ _ _ _ (heap_alloc_last wx (.cells (Pr.row ⟨nb, num, now, 0, F, root, who⟩).toArray 54))]
        simpa using hu
      · exact (Array.all_eq_true_iff_forall_mem.1 (Pr.one _)) u (by simpa using hu)
    case b1 => unfold maxLen; omega
    case b2 => omega
    intro q2 k2 w2 own2 grow2 fr2
    obtain ⟨B2, S2, C2⟩ := (H1.out.alloc (.cells (Pr.row ⟨nb, num, now, 0, F, root, who⟩).toArray 54)).drew.appP hx own2 grow2 (by exact fr2)
    have RA : HashAt (World.drew (wx.alloc (.cells (Pr.row ⟨nb, num, now, 0, F, root, who⟩).toArray 54))) w.heap.size F := HashAt.alloc (w := wx) hR (.cells (Pr.row ⟨nb, num, now, 0, F, root, who⟩).toArray 54)
    have R2 := hash_chg RA C2 (by
      have := own_ne (H1.out.alloc (.cells (Pr.row ⟨nb, num, now, 0, F, root, who⟩).toArray 54)).drew.pr RA (by decide)
      intro hm
      simp only [Option.mem_toList] at hm
      exact this hm)
    have SA : PropS p w.heap.size num root F w2 := propS B2 hs R2 hF
    have SB : PropS p w.heap.size num root F (w2.setCell ⟨p, 35, none⟩ (.slice q2 (L.length + 1) k2)) := propS S2.blk hs (hash_chg (S := [p]) R2 ((Chg.refl w2 [p]).setCell (.inl (by simp)) _) (by simp; omega)) hF
    have f35 := B2.free 35
    have f38 := B2.free 38
    obtain ⟨-, -, -, d35, -, -, d38⟩ := B2.facts hs
    have HS := Lib.hid (S2.setB (bonds + 1))
    clear own2 grow2 fr2 B2 S2 C2 RA R2 c35 c38 c2 cr
    refine hK.out _ _ (by exact SA) (fun h2 => ?_)
    clear hK K
    try simp only [Act.put, List.setIfInBounds_toArray, List.set_cons_zero, List.set_cons_succ]
    refine wpAnyH_take (i := 20) (v := ?_) (by rw [List.getElem?_toArray]; rfl) (by kernel_rfl) (by kernel_rfl) (by kernel_rfl) (by exact fun _ _ _ h => h) (Or.inl ⟨by rfl, ?_⟩) h2 ?_
    rotate_left
    · intro W hW
      go_simp
      all_goals with_reducible rfl
    try simp only [Act.put, List.setIfInBounds_toArray, List.set_cons_zero, List.set_cons_succ]
    refine wpAnyH_take (i := 21) (v := ?_) (by rw [List.getElem?_toArray]; rfl) (by kernel_rfl) (by kernel_rfl) (by kernel_rfl) (by exact fun _ _ _ h => h) (Or.inl ⟨by rfl, ?_⟩) h2 ?_
    rotate_left
    · intro W hW
      go_simp
      all_goals with_reducible rfl
    try simp only [Act.put, List.setIfInBounds_toArray, List.set_cons_zero, List.set_cons_succ]
    refine wpAnyH_ready (rs := [22]) (by kernel_rfl) (by simp) ?_
    refine AllReadyH.cons (by rw [List.getElem?_toArray]; rfl) (fun K hK => ?_) AllReadyH.nil
    rw [if_pos (by rfl)]
    go_wp2_with fail
    refine hK.out _ _ (by exact SB) (fun _ => ?_)
    clear hK K
    try simp only [Act.put, List.setIfInBounds_toArray, List.set_cons_zero, List.set_cons_succ]
    refine wpAnyH_done (by kernel_rfl) ?_ _
    clear S0 SA SB
    go_wp2_with fail
    refine bodyPost_ret (v := .tuple #[.int .i64 L.length, .int .i64 0]) (by simp [results, Tryz.results6, go_sem]) rfl ⟨rfl, _, HS.out⟩
end Go.Proofs.YtppaallnanodhaaGreatDoor
