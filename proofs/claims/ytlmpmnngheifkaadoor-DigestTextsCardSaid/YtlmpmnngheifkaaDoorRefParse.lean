/-
  basculeref02.Parse.
-/
import Derived.Test.YtlmpmnngheifkaaDoorParse
namespace Go.Proofs.YtlmpmnngheifkaaDoor
open Go.RowKit
set_option maxRecDepth 100000

set_option maxHeartbeats 4000000 in
theorem refParse_any (w : World) {s : ByteArray} (hs : s.size ≤ maxLen) :
    Calls Tryd.prog 23 #[.string s] w fun e w' => e = .returned (.tuple #[.agg (hc (prsF (sn s))).toArray, .int .i64 (prsE (sn s))]) ∧ Below w.heap.size w w' := by
  unfold maxLen at hs
  have hsl := sn_len s
  have H0 := Lib.hid (PsS.start w (sn s))
  have H1 := HashAt.new (w.alloc (.cells (hc zero32).toArray 26)) zero32
  rw [World.size_alloc] at H1
  have HSL := Lib.hid hsl
  clear hsl
  obtain ⟨W0, hW0⟩ : ∃ W0, (w.alloc (.cells (hc zero32).toArray 26)).alloc (.cells (hc zero32).toArray 26) = W0 := ⟨_, rfl⟩
  rw [hW0] at H0 H1
  replace H1 := Lib.hid H1
  go_enter Tryd.func23, Tryd.ntmps23
  by_cases hl : s.size = 64
  · have HL := Lib.hid hl
    have hl2 : ((s.size : Int) != 64) = false := by rw [bne_eq_false_iff_eq]; omega
    clear hl H1
    go_wp2_with fail
    clear hW0
    go_loopw [5] (fun iv wr => ∃ i : Nat, iv = .int .i64 i ∧ i ≤ 64 ∧ Hid (PsS w wr (sn s) i) ∧ Hid (∀ k, k < i → (dgt ((sn s).getD k 0)).isSome = true)) (fun iv _ => 64 - (intOf iv).toNat)
    case atStart => exact ⟨0, rfl, by omega, H0, Lib.hid (fun k hk => absurd hk (by omega))⟩
    case round =>
      clear H0
      obtain ⟨i, rfl, hi, hP, hD⟩ := hrel
      by_cases hlt : i < 64
      · have i0 : (0 : Int) ≤ (i : Int) := by omega
        have i1 : (i : Int) < (s.size : Int) := by have := HL.out; omega
        have i2 : (i : Int) < 64 := by omega
        have hi2 : i < s.size := by have := HL.out; omega
        have ec := sn_idx hi2
        have hcb : 0 ≤ (sn s).getD i 0 ∧ (sn s).getD i 0 < 256 := by
          have h : (sn s).getD i 0 ∈ sn s := by have := HSL.out; simp [List.getD, show i < (sn s).length by omega]
          exact sn_bytes s _ h
        obtain ⟨c, hc⟩ : ∃ c, (sn s).getD i 0 = c := ⟨_, rfl⟩
        rw [hc] at ec hcb
        obtain ⟨hc0, hc1⟩ := hcb
        have HC := Lib.hid hc
        clear hc
        by_cases a1 : 48 ≤ c
        · by_cases a2 : c ≤ 57
          · have EDG : dgt c = some (c - 48) := by unfold dgt; rw [if_pos ⟨a1, a2⟩]
            have ew0 : IntKind.u8.wrap (c - 48) = c - 48 := by rw [IntKind.wrap_u8]; omega
            have edv : dv c = c - 48 := by unfold dv; rw [EDG]; rfl
            have hD2 : Hid (∀ k, k < i + 1 → (dgt ((sn s).getD k 0)).isSome = true) := Lib.hid (fun k hk => by
              by_cases h : k = i
              · subst h; rw [HC.out, EDG]; rfl
              · exact hD.out k (by omega))
            have HN := Lib.hid (hP.out.step hlt)
            rw [HC.out, edv] at HN
            have hs1 := pf_small (sn s) i
            have hcell := hP.out.row.cell (i / 2) (by omega)
            obtain ⟨x, hx⟩ : ∃ x, pf (sn s) i (i / 2) = x := ⟨_, rfl⟩
            rw [hx] at HN hcell hs1
            obtain ⟨q, hq⟩ : ∃ q, i / 2 = q := ⟨_, rfl⟩
            rw [hq] at HN hcell
            have eq1 : (i : Int) / 2 = (q : Int) := by rw [← hq]; omega
            have q0 : (0 : Int) ≤ (q : Int) := by omega
            have q1 : (q : Int) < 32 := by omega
            have hth := hP.out.row.free q
            obtain ⟨hx0, hx1⟩ := hs1
            rw [show x * 16 % 256 + (c - 48) = x * 16 + (c - 48) by omega] at HN
            have ew1 : IntKind.u8.wrap (x * 16) = x * 16 := by rw [IntKind.wrap_u8]; omega
            have ew2 : IntKind.u8.wrap (c - 48) = c - 48 := by rw [IntKind.wrap_u8]; omega
            have ew3 : IntKind.u8.wrap (x * 16 + (c - 48)) = x * 16 + (c - 48) := by rw [IntKind.wrap_u8]; omega
            clear hx hq hD EDG edv
            go_wp2_with fail
            go_roundw
            case rel => exact ⟨i + 1, by go_num, by omega, by first | exact HN | (simpa using HN), hD2⟩
            case measure => simp [intOf]; omega
          · by_cases b1 : 97 ≤ c
            · by_cases b2 : c ≤ 102
              · have EDG : dgt c = some (c - 87) := by unfold dgt; rw [if_neg (by omega), if_pos ⟨b1, b2⟩]
                have ew0 : IntKind.u8.wrap (c - 97) = c - 97 := by rw [IntKind.wrap_u8]; omega
                have ew9 : c - 97 + 10 = c - 87 := by omega
                have edv : dv c = c - 87 := by unfold dv; rw [EDG]; rfl
                have hD2 : Hid (∀ k, k < i + 1 → (dgt ((sn s).getD k 0)).isSome = true) := Lib.hid (fun k hk => by
                  by_cases h : k = i
                  · subst h; rw [HC.out, EDG]; rfl
                  · exact hD.out k (by omega))
                have HN := Lib.hid (hP.out.step hlt)
                rw [HC.out, edv] at HN
                have hs1 := pf_small (sn s) i
                have hcell := hP.out.row.cell (i / 2) (by omega)
                obtain ⟨x, hx⟩ : ∃ x, pf (sn s) i (i / 2) = x := ⟨_, rfl⟩
                rw [hx] at HN hcell hs1
                obtain ⟨q, hq⟩ : ∃ q, i / 2 = q := ⟨_, rfl⟩
                rw [hq] at HN hcell
                have eq1 : (i : Int) / 2 = (q : Int) := by rw [← hq]; omega
                have q0 : (0 : Int) ≤ (q : Int) := by omega
                have q1 : (q : Int) < 32 := by omega
                have hth := hP.out.row.free q
                obtain ⟨hx0, hx1⟩ := hs1
                rw [show x * 16 % 256 + (c - 87) = x * 16 + (c - 87) by omega] at HN
                have ew1 : IntKind.u8.wrap (x * 16) = x * 16 := by rw [IntKind.wrap_u8]; omega
                have ew2 : IntKind.u8.wrap (c - 87) = c - 87 := by rw [IntKind.wrap_u8]; omega
                have ew3 : IntKind.u8.wrap (x * 16 + (c - 87)) = x * 16 + (c - 87) := by rw [IntKind.wrap_u8]; omega
                clear hx hq hD EDG edv
                go_wp2_with fail
                go_roundw
                case rel => exact ⟨i + 1, by go_num, by omega, by first | exact HN | (simpa using HN), hD2⟩
                case measure => simp [intOf]; omega
              · have EDG : dgt c = none := by unfold dgt; rw [if_neg (by omega), if_neg (by omega)]
                have hp := prs_no hlt (by rw [HC.out, EDG]; rfl)
                have EF : Hid (prsF (sn s) = zero32) := (show prsF (sn s) = zero32 by unfold prsF; rw [if_neg (by rw [hp]; decide)])
                have EE : Hid (prsE (sn s) = 21) := (show prsE (sn s) = 21 by unfold prsE; rw [if_neg (by rw [hp]; decide)])
                have hth := hP.out.res.there zero32_len
                have hput := (hP.out.res.put zero32_len zero32_len).row zero32_len
                have HB := Lib.hid (below_setCells' (B := w.heap.size) w.heap.size (Nat.le_refl _) (hc zero32) 0 hP.out.below)
                clear hp hP hD EDG
                go_wp2_with fail
                refine bodyPost_ret (v := .tuple #[.agg (hc zero32).toArray, .int .i64 21]) (by simp [results, Tryd.results23, go_sem, hput]) rfl ⟨by rw [EF.out, EE.out], HB.out⟩
            · have EDG : dgt c = none := by unfold dgt; rw [if_neg (by omega), if_neg (by omega)]
              have hp := prs_no hlt (by rw [HC.out, EDG]; rfl)
              have EF : Hid (prsF (sn s) = zero32) := (show prsF (sn s) = zero32 by unfold prsF; rw [if_neg (by rw [hp]; decide)])
              have EE : Hid (prsE (sn s) = 21) := (show prsE (sn s) = 21 by unfold prsE; rw [if_neg (by rw [hp]; decide)])
              have hth := hP.out.res.there zero32_len
              have hput := (hP.out.res.put zero32_len zero32_len).row zero32_len
              have HB := Lib.hid (below_setCells' (B := w.heap.size) w.heap.size (Nat.le_refl _) (hc zero32) 0 hP.out.below)
              clear hp hP hD EDG
              go_wp2_with fail
              refine bodyPost_ret (v := .tuple #[.agg (hc zero32).toArray, .int .i64 21]) (by simp [results, Tryd.results23, go_sem, hput]) rfl ⟨by rw [EF.out, EE.out], HB.out⟩
        · have EDG : dgt c = none := by unfold dgt; rw [if_neg (by omega), if_neg (by omega)]
          have b1 : ¬ 97 ≤ c := by omega
          have hp := prs_no hlt (by rw [HC.out, EDG]; rfl)
          have EF : Hid (prsF (sn s) = zero32) := (show prsF (sn s) = zero32 by unfold prsF; rw [if_neg (by rw [hp]; decide)])
          have EE : Hid (prsE (sn s) = 21) := (show prsE (sn s) = 21 by unfold prsE; rw [if_neg (by rw [hp]; decide)])
          have hth := hP.out.res.there zero32_len
          have hput := (hP.out.res.put zero32_len zero32_len).row zero32_len
          have HB := Lib.hid (below_setCells' (B := w.heap.size) w.heap.size (Nat.le_refl _) (hc zero32) 0 hP.out.below)
          clear hp hP hD EDG
          go_wp2_with fail
          refine bodyPost_ret (v := .tuple #[.agg (hc zero32).toArray, .int .i64 21]) (by simp [results, Tryd.results23, go_sem, hput]) rfl ⟨by rw [EF.out, EE.out], HB.out⟩
      · obtain rfl : i = 64 := by omega
        have hp := prs_yes (by rw [HSL.out]; exact HL.out) hD.out
        have hrow := (hP.out.all hp).row (prsF_len _)
        have EE : Hid (prsE (sn s) = 0) := (show prsE (sn s) = 0 by unfold prsE; rw [if_pos hp])
        have hth := hP.out.res.there zero32_len
        have hlF := prsF_len (sn s)
        have hput := (hP.out.res.put zero32_len hlF).row hlF
        have HB := Lib.hid (below_setCells' (B := w.heap.size) w.heap.size (Nat.le_refl _) (hc (prsF (sn s))) 0 hP.out.below)
        clear hp hP hD
        obtain ⟨F, hF⟩ : ∃ F, prsF (sn s) = F := ⟨_, rfl⟩
        rw [hF] at hrow hput HB hlF
        have EF := Lib.hid hF
        clear hF
        go_wp2_with fail
        refine bodyPost_ret (v := .tuple #[.agg (hc F).toArray, .int .i64 0]) (by simp [results, Tryd.results23, go_sem, hput, hlF]) rfl ⟨by rw [EF.out, EE.out], HB.out⟩
  · have hl2 : ((s.size : Int) != 64) = true := by rw [bne_iff_ne]; omega
    have hp := prs_len (xs := sn s) (by rw [HSL.out]; exact hl)
    rw [show prsF (sn s) = zero32 by unfold prsF; rw [if_neg (by rw [hp]; decide)], show prsE (sn s) = 21 by unfold prsE; rw [if_neg (by rw [hp]; decide)]]
    have hth := H0.out.res.there zero32_len
    have hrow := H1.out.row zero32_len
    have hput := (H0.out.res.put zero32_len zero32_len).row zero32_len
    have HB := Lib.hid (below_setCells' (B := w.heap.size) w.heap.size (Nat.le_refl _) (hc zero32) 0 H0.out.below)
    clear hl hp H0
    go_wp2_with fail
    refine bodyPost_ret (v := .tuple #[.agg (hc zero32).toArray, .int .i64 21]) (by simp [results, Tryd.results23, go_sem, hput]) rfl ⟨rfl, HB.out⟩
end Go.Proofs.YtlmpmnngheifkaaDoor
