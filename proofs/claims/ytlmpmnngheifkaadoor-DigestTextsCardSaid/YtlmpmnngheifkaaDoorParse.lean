/-
  digest.Parse.
-/
import Derived.Test.YtlmpmnngheifkaaDoorHex
import Derived.Test.YtlmpmnngheifkaaDoorRefSum
namespace Go.Proofs.YtlmpmnngheifkaaDoor
open Go.RowKit
set_option maxRecDepth 100000

structure PsS (w wr : World) (xs : List Int) (i : Nat) : Prop where
  below : Below w.heap.size w wr
  res : HashAt wr w.heap.size zero32
  row : RwK .u8 wr (w.heap.size + 1) 32 26 (pf xs i)
theorem PsS.start (w : World) (xs : List Int) : PsS w ((w.alloc (.cells (hc zero32).toArray 26)).alloc (.cells (hc zero32).toArray 26)) xs 0 := by
  refine ⟨((Below.refl _ _).alloc (Nat.le_refl _) _).alloc (by simp) _, (HashAt.new w zero32).alloc _, ?_⟩
  have h := RwK.newL .u8 (w.alloc (.cells (hc zero32).toArray 26)) zero32 26
  rw [World.size_alloc] at h
  refine RwK.same (n := 32) h (fun j hj => ?_)
  rw [pf_zero]
  have : ∀ j : Fin 32, zero32.getD j.val 0 = 0 := by decide
  exact this ⟨j, hj⟩
theorem PsS.step {w wr : World} {xs : List Int} {i : Nat} (h : PsS w wr xs i) (hi : i < 64) : PsS w (wr.setCell ⟨w.heap.size + 1, i / 2, none⟩ (.int .u8 (pf xs i (i / 2) * 16 % 256 + dv (xs.getD i 0)))) xs (i + 1) :=
  ⟨h.below.setCell (p := ⟨w.heap.size + 1, i / 2, none⟩) (by show w.heap.size ≤ w.heap.size + 1; omega) _, h.res.other (a := ⟨w.heap.size + 1, i / 2, none⟩) (by show w.heap.size ≠ w.heap.size + 1; omega) _,
    (h.row.store (j := i / 2) (by omega) _).same fun j _ => pf_step xs i j⟩
theorem PsS.all {w wr : World} {xs : List Int} (h : PsS w wr xs 64) (hp : prsB xs = true) : HashAt wr (w.heap.size + 1) (prsF xs) := by
  refine RwK.hashL (prsF_len xs) (h.row.same fun j hj => ?_)
  unfold prsF
  rw [if_pos hp]
  simp [List.getD, hj]
theorem sn_at {s : ByteArray} {i : Nat} (hi : i < s.size) : s.data[i]? = some (UInt8.ofNat ((sn s).getD i 0).toNat) := by
  have h : i < s.data.size := hi
  have e : s.data[i]? = some s.data[i] := Array.getElem?_eq_getElem h
  have e2 : (sn s).getD i 0 = (s.data[i].toNat : Int) := by simp [sn, List.getD, e]
  rw [e2, e]
  simp
theorem sn_idx {s : ByteArray} {i : Nat} (hi : i < s.size) : ((s[i]).toNat : Int) = (sn s).getD i 0 := by
  have h : i < s.data.size := hi
  have e : s.data[i]? = some s.data[i] := Array.getElem?_eq_getElem h
  have e2 : (sn s).getD i 0 = (s.data[i].toNat : Int) := by simp [sn, List.getD, e]
  rw [e2]; rfl
/-- Before the step the high half of the byte is empty. -/
theorem pf_small (xs : List Int) (i : Nat) : 0 ≤ pf xs i (i / 2) ∧ pf xs i (i / 2) < 16 := by
  have h1 := dv_bounds (xs.getD (2 * (i / 2)) 0)
  unfold pf
  rw [if_neg (by omega)]
  split <;> omega

set_option maxHeartbeats 4000000 in
theorem Parse_any (w : World) {s : ByteArray} (hs : s.size ≤ maxLen) :
    Calls Tryd.prog 22 #[.string s] w fun e w' => e = .returned (.tuple #[.agg (hc (prsF (sn s))).toArray, .int .i64 (prsE (sn s))]) ∧ Below w.heap.size w w' := by
  unfold maxLen at hs
  have hsl := sn_len s
  have H0 := Lib.hid (PsS.start w (sn s))
  have HSL := Lib.hid hsl
  clear hsl
  obtain ⟨W0, hW0⟩ : ∃ W0, (w.alloc (.cells (hc zero32).toArray 26)).alloc (.cells (hc zero32).toArray 26) = W0 := ⟨_, rfl⟩
  rw [hW0] at H0
  go_enter Tryd.func22, Tryd.ntmps22
  by_cases hl : s.size = 64
  · have HL := Lib.hid hl
    have hl2 : ((s.size : Int) != 64) = false := by rw [bne_eq_false_iff_eq]; omega
    clear hl
    go_wp2_with fail
    clear hW0
    go_loopw [14] (fun iv wr => ∃ i : Nat, iv = .int .i64 i ∧ i ≤ 64 ∧ Hid (PsS w wr (sn s) i) ∧ Hid (∀ k, k < i → (dgt ((sn s).getD k 0)).isSome = true)) (fun iv _ => 64 - (intOf iv).toNat)
    case atStart => exact ⟨0, rfl, by omega, H0, Lib.hid (fun k hk => absurd hk (by omega))⟩
    case round =>
      clear H0
      obtain ⟨i, rfl, hi, hP, hD⟩ := hrel
      by_cases hlt : i < 64
      · have i0 : (0 : Int) ≤ (i : Int) := by omega
        have i1 : (i : Int) < (s.size : Int) := by have := HL.out; omega
        have hi2 : i < s.size := by have := HL.out; omega
        have ec := sn_idx hi2
        have hcb : 0 ≤ (sn s).getD i 0 ∧ (sn s).getD i 0 < 256 := by
          have h : (sn s).getD i 0 ∈ sn s := by have := HSL.out; simp [List.getD, show i < (sn s).length by omega]
          exact sn_bytes s _ h
        obtain ⟨c, hc⟩ : ∃ c, (sn s).getD i 0 = c := ⟨_, rfl⟩
        rw [hc] at ec hcb
        obtain ⟨hc0, hc1⟩ := hcb
        have HC := Lib.hid hc
        clear hc
        cases hd : (dgt c).isSome
        · have hp := prs_no hlt (by rw [HC.out]; exact hd)
          have EF : Hid (prsF (sn s) = zero32) := (show prsF (sn s) = zero32 by unfold prsF; rw [if_neg (by rw [hp]; decide)])
          have EE : Hid (prsE (sn s) = 21) := (show prsE (sn s) = 21 by unfold prsE; rw [if_neg (by rw [hp]; decide)])
          have hth := hP.out.res.there zero32_len
          have hput := (hP.out.res.put zero32_len zero32_len).row zero32_len
          have HB := Lib.hid (below_setCells' (B := w.heap.size) w.heap.size (Nat.le_refl _) (hc zero32) 0 hP.out.below)
          clear hp hP hD
          go_wp2_with fail
          refine (digit_any _ hc0 hc1).mono ?_
          rintro e w1 ⟨rfl, rfl⟩
          go_wp2_with fail
          refine bodyPost_ret (v := .tuple #[.agg (hc zero32).toArray, .int .i64 21]) (by simp [results, Tryd.results22, go_sem, hput]) rfl ⟨by rw [EF.out, EE.out], HB.out⟩
        · have hD2 : Hid (∀ k, k < i + 1 → (dgt ((sn s).getD k 0)).isSome = true) := Lib.hid (fun k hk => by
            by_cases h : k = i
            · subst h; rw [HC.out]; exact hd
            · exact hD.out k (by omega))
          have HN := Lib.hid (hP.out.step hlt)
          rw [HC.out] at HN
          have hs1 := pf_small (sn s) i
          have hs2 := dv_bounds c
          have hcell := hP.out.row.cell (i / 2) (by omega)
          obtain ⟨x, hx⟩ : ∃ x, pf (sn s) i (i / 2) = x := ⟨_, rfl⟩
          rw [hx] at HN hcell hs1
          obtain ⟨q, hq⟩ : ∃ q, i / 2 = q := ⟨_, rfl⟩
          rw [hq] at HN hcell
          have eq1 : (i : Int) / 2 = (q : Int) := by rw [← hq]; omega
          have q0 : (0 : Int) ≤ (q : Int) := by omega
          have q1 : (q : Int) < 32 := by omega
          have hth := hP.out.row.free q
          clear hx hq hD
          go_wp2_with fail
          refine (digit_any _ hc0 hc1).mono ?_
          rintro e w1 ⟨rfl, rfl⟩
          go_wp2_with fail
          refine ⟨⟨i + 1, by go_num, by omega, ?_, hD2⟩, by simp [intOf]; omega⟩
          rw [or_dv hs1.1 hs1.2 hs2.1 hs2.2]
          rw [show x * 16 % 256 = x * 16 by omega] at HN
          exact HN
      · obtain rfl : i = 64 := by omega
        have d64 : decide (64 < (s.size : Int)) = false := by rw [decide_eq_false_iff_not]; have := HL.out; omega
        have hp := prs_yes (by rw [HSL.out]; exact HL.out) hD.out
        have hrow := (hP.out.all hp).row (prsF_len _)
        have EE : Hid (prsE (sn s) = 0) := (show prsE (sn s) = 0 by unfold prsE; rw [if_pos hp])
        have hth := hP.out.res.there zero32_len
        have hlF := prsF_len (sn s)
        have hput := (hP.out.res.put zero32_len hlF).row hlF
        have HB := Lib.hid (below_setCells' (B := w.heap.size) w.heap.size (Nat.le_refl _) (hc (prsF (sn s))) 0 hP.out.below)
        clear hp hP hD
        obtain ⟨F, hF⟩ : ∃ F, prsF (sn s) = F := ⟨_, rfl⟩
        rw [hF] at hrow hput HB hlF
        have EF := Lib.hid hF
        clear hF
        go_wp2_with fail
        refine bodyPost_ret (v := .tuple #[.agg (hc F).toArray, .int .i64 0]) (by simp [results, Tryd.results22, go_sem, hput, hlF]) rfl ⟨by rw [EF.out, EE.out], HB.out⟩
  · have hl2 : ((s.size : Int) != 64) = true := by rw [bne_iff_ne]; omega
    have hp := prs_len (xs := sn s) (by rw [HSL.out]; exact hl)
    rw [show prsF (sn s) = zero32 by unfold prsF; rw [if_neg (by rw [hp]; decide)], show prsE (sn s) = 21 by unfold prsE; rw [if_neg (by rw [hp]; decide)]]
    have hth := H0.out.res.there zero32_len
    have hput := (H0.out.res.put zero32_len zero32_len).row zero32_len
    have HB := Lib.hid (below_setCells' (B := w.heap.size) w.heap.size (Nat.le_refl _) (hc zero32) 0 H0.out.below)
    clear hl hp H0
    go_wp2_with fail
    refine bodyPost_ret (v := .tuple #[.agg (hc zero32).toArray, .int .i64 21]) (by simp [results, Tryd.results22, go_sem, hput]) rfl ⟨rfl, HB.out⟩
end Go.Proofs.YtlmpmnngheifkaaDoor
