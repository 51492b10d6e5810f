/-
  The walk of basculeref02.block.
-/
import Derived.Test.YtjgfjmkfcippcaaDoorShaMix
import Derived.Test.YtjgfjmkfcippcaaDoorRefTurn
import Derived.Test.YtjgfjmkfcippcaaDoorReg
namespace Go.Proofs.YtjgfjmkfcippcaaDoor
open Go.RowKit
set_option maxRecDepth 100000

set_option maxHeartbeats 8000000 in
theorem block_any {w : World} (S : St8) (hS : S.ok) {b off n c kb : Nat} {B : Nat → Int} (hn : 64 ≤ n) (hB : ∀ i, i < 64 → w.cell? ⟨b, off + i, none⟩ = some (.int .u8 (B i))) (hb8 : ∀ i, i < 64 → 0 ≤ B i ∧ B i < 256)
    (hT : ∀ i, i < 64 → w.cell? ⟨kb, i, none⟩ = some (.int .u32 (rt i))) :
    Calls Tryd.prog 115 #[.agg #[.int .u32 S.a, .int .u32 S.b, .int .u32 S.c, .int .u32 S.d, .int .u32 S.e, .int .u32 S.f, .int .u32 S.g, .int .u32 S.h], .slice (some ⟨b, off, none⟩) n c, .pointer (some ⟨kb, 0, none⟩)] w
      fun e w' => e = .returned (.agg #[.int .u32 (S.mix B).a, .int .u32 (S.mix B).b, .int .u32 (S.mix B).c, .int .u32 (S.mix B).d, .int .u32 (S.mix B).e, .int .u32 (S.mix B).f, .int .u32 (S.mix B).g, .int .u32 (S.mix B).h]) ∧ Below w.heap.size w w' := by
  have HB := Lib.hid hB
  have HB8 := Lib.hid hb8
  have HT := Lib.hid hT
  have HSok := Lib.hid hS
  clear hB hb8 hT hS
  have hz := zero64u
  have h0 := Lib.hid (MxSt.start w S)
  go_enter Tryd.func115, Tryd.ntmps115
  go_wp2_with fail
  clear hz
  go_loopw [8] (fun iv wr => ∃ (i : Nat) (f : Nat → Int), iv = .int .i64 i ∧ i ≤ 16 ∧ Hid (MxSt w wr S f) ∧ Hid (∀ j, j < i → f j = W B j)) (fun iv _ => 16 - (intOf iv).toNat)
  case atStart => exact ⟨0, _, rfl, by omega, h0, fun j hj => by omega⟩
  case round =>
    clear h0
    obtain ⟨i, f, rfl, hi, hm, hf⟩ := hrel
    by_cases hlt : i < 16
    · have q (j : Nat) (hj : j < 64) : wr.cell? ⟨b, off + j, none⟩ = some (.int .u8 (B j)) := hm.out.tab (HB.out j hj)
      have c0 := q (4 * i) (by omega)
      have c1 := q (4 * i + 1) (by omega)
      have c2 := q (4 * i + 2) (by omega)
      have c3 := q (4 * i + 3) (by omega)
      have B0 := HB8.out (4 * i) (by omega)
      have B1 := HB8.out (4 * i + 1) (by omega)
      have B2 := HB8.out (4 * i + 2) (by omega)
      have B3 := HB8.out (4 * i + 3) (by omega)
      have cw := hm.out.rw.cell i (by omega)
      have fw := hm.out.rw.free i
      clear q
      have HN : Hid (MxSt w (wr.setCell ⟨w.heap.size + 1 + 1, i, none⟩ (.int .u32 (B (4 * i) * 16777216 + B (4 * i + 1) * 65536 + B (4 * i + 2) * 256 + B (4 * i + 3)))).drew S (updK f i (W B i))) := by
        have := (hm.out.step (j := i) (by omega) (W B i)).drew
        rw [W_low B hlt, wd, wd_sum B0 B1 B2 B3] at this
        rw [W_low B hlt, wd, wd_sum B0 B1 B2 B3]
        exact this
      have HF : Hid (∀ j, j < i + 1 → updK f i (W B i) j = W B j) := by
        intro j hj
        by_cases e : j = i
        · subst e; rw [updK_same]
        · rw [updK_ne _ _ e]; exact hf.out j (by omega)
      obtain ⟨a0, b0⟩ := B0
      obtain ⟨a1, b1⟩ := B1
      obtain ⟨a2, b2⟩ := B2
      obtain ⟨a3, b3⟩ := B3
      generalize B (4 * i) = x0 at c0 a0 b0 HN
      generalize B (4 * i + 1) = x1 at c1 a1 b1 HN
      generalize B (4 * i + 2) = x2 at c2 a2 b2 HN
      generalize B (4 * i + 3) = x3 at c3 a3 b3 HN
      generalize updK f i (W B i) = f' at HN HF
      go_wp2_with fail
      go_region
      go_wp2_with fail
      go_roundw
      case rel => exact ⟨i + 1, f', by go_num, by omega, HN, HF⟩
      case measure => simp [intOf]; omega
    · obtain rfl : i = 16 := by omega
      clear hlt hi
      have hm0 := hm
      have hf0 := hf
      go_wp2_with fail
      clear hm hf
      rw [show ((16 : Nat) : Int) = 16 from rfl]
      obtain ⟨w0, hw0⟩ : ∃ w0 : World, w0 = wr := ⟨_, rfl⟩
      rw [← hw0] at hm0 ⊢
      clear hw0
      go_loopw [9] (fun iv wr => ∃ (i : Nat) (f : Nat → Int), iv = .int .i64 i ∧ 16 ≤ i ∧ i ≤ 64 ∧ Hid (MxSt w wr S f) ∧ Hid (∀ j, j < i → f j = W B j)) (fun iv _ => 64 - (intOf iv).toNat)
      case atStart => exact ⟨16, _, rfl, by omega, by omega, hm0, hf0⟩
      case round =>
        clear hm0 hf0
        obtain ⟨i, f, rfl, hi0, hi, hm, hf⟩ := hrel
        by_cases hlt : i < 64
        · have cx := hm.out.rw.cell (i - 15) (by omega)
          have cy := hm.out.rw.cell (i - 2) (by omega)
          have e15 : ((i : Int) - 15).toNat = i - 15 := by omega
          have e2 : ((i : Int) - 2).toNat = i - 2 := by omega
          have e16 : ((i : Int) - 16).toNat = i - 16 := by omega
          have e7 : ((i : Int) - 7).toNat = i - 7 := by omega
          have g16 : (16 : Int) ≤ (i : Int) := by omega
          have g64 : (i : Int) < 64 := by omega
          have k16 : IntKind.i64.wrap ((i : Int) - 16) = (i : Int) - 16 := IntWalk.i64_in _ (by omega)
          have k7 : IntKind.i64.wrap ((i : Int) - 7) = (i : Int) - 7 := IntWalk.i64_in _ (by omega)
          have l16 : (i : Int) - 16 < 64 := by omega
          have l7 : (i : Int) - 7 < 64 := by omega
          have m7 : (7 : Int) ≤ (i : Int) := by omega
          have m0 : (0 : Int) ≤ (i : Int) := by omega
          have HV : Hid (W B i = (f (i - 16) + bits .xor .u32 (bits .xor .u32 (tnI 7 (f (i - 15))) (tnI 18 (f (i - 15)))) (f (i - 15) / 8) + f (i - 7) + bits .xor .u32 (bits .xor .u32 (tnI 17 (f (i - 2))) (tnI 19 (f (i - 2)))) (f (i - 2) / 1024)) % 4294967296) := by
            have u1 : U32 (f (i - 15)) := by rw [hf.out (i - 15) (by omega)]; exact W_U32 _ _
            have u2 : U32 (f (i - 2)) := by rw [hf.out (i - 2) (by omega)]; exact W_U32 _ _
            show _ = _
            rw [tnI7 u1, tnI18 u1, tnI17 u2, tnI19 u2]
            rw [(W_high B hi0).trans (nxt_cong (g := f) hi0 (fun j hj => (hf.out j hj).symm))]
            rfl
          have HF : Hid (∀ j, j < i + 1 → updK f i (W B i) j = W B j) := by
            intro j hj
            by_cases e : j = i
            · subst e; rw [updK_same]
            · rw [updK_ne _ _ e]; exact hf.out j (by omega)
          go_wp2_with fail
          clear cx cy
          refine wp_region_held_drew (S := fun W => ∃ g, MxSt w W S g ∧ ∀ j, j < i → g j = f j) (by kernel_rfl) (⟨f, hm.out.drew, fun _ _ => rfl⟩) (fun h0 => ?_)
          refine wpAnyH_take (i := 0) (v := ?_) (by rw [List.getElem?_toArray]; rfl) (by kernel_rfl) (by kernel_rfl) (by kernel_rfl) (by exact fun _ _ _ h => h) (Or.inl ⟨by rfl, ?_⟩) h0 ?_
          rotate_left
          · intro W hW
            go_simp
            all_goals with_reducible rfl
          try simp only [Act.put, List.setIfInBounds_toArray, List.set_cons_zero, List.set_cons_succ]
          refine wpAnyH_take (i := 1) (v := ?_) (by rw [List.getElem?_toArray]; rfl) (by kernel_rfl) (by kernel_rfl) (by kernel_rfl) (by exact fun _ _ _ h => h) (Or.inl ⟨by rfl, ?_⟩) h0 ?_
          rotate_left
          · intro W hW
            go_simp
            all_goals with_reducible rfl
          try simp only [Act.put, List.setIfInBounds_toArray, List.set_cons_zero, List.set_cons_succ]
          refine wpAnyH_take (i := 2) (v := ?_) (by rw [List.getElem?_toArray]; rfl) (by kernel_rfl) (by kernel_rfl) (by kernel_rfl) (by exact fun _ _ _ h => h) (Or.inl ⟨by rfl, ?_⟩) h0 ?_
          rotate_left
          · intro W hW
            go_simp
            all_goals with_reducible rfl
          try simp only [Act.put, List.setIfInBounds_toArray, List.set_cons_zero, List.set_cons_succ]
          refine wpAnyH_take (i := 3) (v := ?_) (by rw [List.getElem?_toArray]; rfl) (by kernel_rfl) (by kernel_rfl) (by kernel_rfl) (by exact fun _ _ _ h => h) (Or.inl ⟨by rfl, ?_⟩) h0 ?_
          rotate_left
          · intro W hW
            go_simp
            all_goals with_reducible rfl
          try simp only [Act.put, List.setIfInBounds_toArray, List.set_cons_zero, List.set_cons_succ]
          refine wpAnyH_take (i := 4) (v := ?_) (by rw [List.getElem?_toArray]; rfl) (by kernel_rfl) (by kernel_rfl) (by kernel_rfl) (by exact fun _ _ _ h => h) (Or.inl ⟨by rfl, ?_⟩) h0 ?_
          rotate_left
          · intro W hW
            obtain ⟨g, hg, hgf⟩ := hW
            have cz := hg.rw.cell (i - 16) (by omega)
            have cv := hg.rw.cell (i - 7) (by omega)
            rw [hgf _ (by omega)] at cz cv
            clear hgf
            go_simp
            all_goals with_reducible rfl
          try simp only [Act.put, List.setIfInBounds_toArray, List.set_cons_zero, List.set_cons_succ]
          refine wpAnyH_take (i := 5) (v := ?_) (by rw [List.getElem?_toArray]; rfl) (by kernel_rfl) (by kernel_rfl) (by kernel_rfl) (by exact fun _ _ _ h => h) (Or.inl ⟨by rfl, ?_⟩) h0 ?_
          rotate_left
          · intro W hW
            go_simp
            all_goals with_reducible rfl
          try simp only [Act.put, List.setIfInBounds_toArray, List.set_cons_zero, List.set_cons_succ]
          refine wpAnyH_take (i := 7) (v := ?_) (by rw [List.getElem?_toArray]; rfl) (by kernel_rfl) (by kernel_rfl) (by kernel_rfl) (by exact fun _ _ _ h => h) (Or.inl ⟨by rfl, ?_⟩) h0 ?_
          rotate_left
          · intro W hW
            go_simp
            all_goals with_reducible rfl
          try simp only [Act.put, List.setIfInBounds_toArray, List.set_cons_zero, List.set_cons_succ]
          refine wpAnyH_take (i := 10) (v := ?_) (by rw [List.getElem?_toArray]; rfl) (by kernel_rfl) (by kernel_rfl) (by kernel_rfl) (by exact fun _ _ _ h => h) (Or.inl ⟨by rfl, ?_⟩) h0 ?_
          rotate_left
          · intro W hW
            go_simp
            all_goals with_reducible rfl
          try simp only [Act.put, List.setIfInBounds_toArray, List.set_cons_zero, List.set_cons_succ]
          refine wpAnyH_take (i := 11) (v := ?_) (by rw [List.getElem?_toArray]; rfl) (by kernel_rfl) (by kernel_rfl) (by kernel_rfl) (by exact fun _ _ _ h => h) (Or.inl ⟨by rfl, ?_⟩) h0 ?_
          rotate_left
          · intro W hW
            go_simp
            all_goals with_reducible rfl
          try simp only [Act.put, List.setIfInBounds_toArray, List.set_cons_zero, List.set_cons_succ]
          refine wpAnyH_take (i := 14) (v := ?_) (by rw [List.getElem?_toArray]; rfl) (by kernel_rfl) (by kernel_rfl) (by kernel_rfl) (by exact fun _ _ _ h => h) (Or.inl ⟨by rfl, ?_⟩) h0 ?_
          rotate_left
          · intro W hW
            go_simp
            all_goals with_reducible rfl
          try simp only [Act.put, List.setIfInBounds_toArray, List.set_cons_zero, List.set_cons_succ]
          refine wpAnyH_take (i := 15) (v := ?_) (by rw [List.getElem?_toArray]; rfl) (by kernel_rfl) (by kernel_rfl) (by kernel_rfl) (by exact fun _ _ _ h => h) (Or.inl ⟨by rfl, ?_⟩) h0 ?_
          rotate_left
          · intro W hW
            go_simp
            all_goals with_reducible rfl
          try simp only [Act.put, List.setIfInBounds_toArray, List.set_cons_zero, List.set_cons_succ]
          refine wpAnyH_take (i := 16) (v := ?_) (by rw [List.getElem?_toArray]; rfl) (by kernel_rfl) (by kernel_rfl) (by kernel_rfl) (by exact fun _ _ _ h => h) (Or.inl ⟨by rfl, ?_⟩) h0 ?_
          rotate_left
          · intro W hW
            go_simp
            all_goals with_reducible rfl
          try simp only [Act.put, List.setIfInBounds_toArray, List.set_cons_zero, List.set_cons_succ]
          refine wpAnyH_take (i := 17) (v := ?_) (by rw [List.getElem?_toArray]; rfl) (by kernel_rfl) (by kernel_rfl) (by kernel_rfl) (by exact fun _ _ _ h => h) (Or.inl ⟨by rfl, ?_⟩) h0 ?_
          rotate_left
          · intro W hW
            obtain ⟨g, hg, hgf⟩ := hW
            have cz := hg.rw.cell (i - 16) (by omega)
            have cv := hg.rw.cell (i - 7) (by omega)
            rw [hgf _ (by omega)] at cz cv
            clear hgf
            go_simp
            all_goals with_reducible rfl
          try simp only [Act.put, List.setIfInBounds_toArray, List.set_cons_zero, List.set_cons_succ]
          refine wpAnyH_take (i := 19) (v := ?_) (by rw [List.getElem?_toArray]; rfl) (by kernel_rfl) (by kernel_rfl) (by kernel_rfl) (by exact fun _ _ _ h => h) (Or.inl ⟨by rfl, ?_⟩) h0 ?_
          rotate_left
          · intro W hW
            go_simp
            all_goals with_reducible rfl
          try simp only [Act.put, List.setIfInBounds_toArray, List.set_cons_zero, List.set_cons_succ]
          refine wpAnyH_take (i := 21) (v := ?_) (by rw [List.getElem?_toArray]; rfl) (by kernel_rfl) (by kernel_rfl) (by kernel_rfl) (by exact fun _ _ _ h => h) (Or.inl ⟨by rfl, ?_⟩) h0 ?_
          rotate_left
          · intro W hW
            go_simp
            all_goals with_reducible rfl
          try simp only [Act.put, List.setIfInBounds_toArray, List.set_cons_zero, List.set_cons_succ]
          refine wpAnyH_take (i := 24) (v := ?_) (by rw [List.getElem?_toArray]; rfl) (by kernel_rfl) (by kernel_rfl) (by kernel_rfl) (by exact fun _ _ _ h => h) (Or.inl ⟨by rfl, ?_⟩) h0 ?_
          rotate_left
          · intro W hW
            go_simp
            all_goals with_reducible rfl
          try simp only [Act.put, List.setIfInBounds_toArray, List.set_cons_zero, List.set_cons_succ]
          refine wpAnyH_take (i := 25) (v := ?_) (by rw [List.getElem?_toArray]; rfl) (by kernel_rfl) (by kernel_rfl) (by kernel_rfl) (by exact fun _ _ _ h => h) (Or.inl ⟨by rfl, ?_⟩) h0 ?_
          rotate_left
          · intro W hW
            go_simp
            all_goals with_reducible rfl
          try simp only [Act.put, List.setIfInBounds_toArray, List.set_cons_zero, List.set_cons_succ]
          refine wpAnyH_ready (rs := [6]) (by kernel_rfl) (by simp) ?_
          refine AllReadyH.cons (by rw [List.getElem?_toArray]; rfl) (fun K hK => ?_) AllReadyH.nil
          rw [if_pos (by rfl)]
          go_wp2_with fail
          refine (turn_i _ _ (by omega) (by omega) _).mono ?_
          rintro e w' ⟨rfl, rfl⟩
          go_wp2_with fail
          refine hK.out _ _ (h0) (fun h1 => ?_)
          clear hK K
          try simp only [Act.put, List.setIfInBounds_toArray, List.set_cons_zero, List.set_cons_succ]
          refine wpAnyH_ready (rs := [8]) (by kernel_rfl) (by simp) ?_
          refine AllReadyH.cons (by rw [List.getElem?_toArray]; rfl) (fun K hK => ?_) AllReadyH.nil
          rw [if_pos (by rfl)]
          go_wp2_with fail
          refine (turn_i _ _ (by omega) (by omega) _).mono ?_
          rintro e w' ⟨rfl, rfl⟩
          go_wp2_with fail
          refine hK.out _ _ (h1) (fun h2 => ?_)
          clear hK K
          try simp only [Act.put, List.setIfInBounds_toArray, List.set_cons_zero, List.set_cons_succ]
          refine wpAnyH_take (i := 9) (v := ?_) (by rw [List.getElem?_toArray]; rfl) (by kernel_rfl) (by kernel_rfl) (by kernel_rfl) (by exact fun _ _ _ h => h) (Or.inl ⟨by rfl, ?_⟩) h2 ?_
          rotate_left
          · intro W hW
            go_simp
            all_goals with_reducible rfl
          try simp only [Act.put, List.setIfInBounds_toArray, List.set_cons_zero, List.set_cons_succ]
          refine wpAnyH_take (i := 12) (v := ?_) (by rw [List.getElem?_toArray]; rfl) (by kernel_rfl) (by kernel_rfl) (by kernel_rfl) (by exact fun _ _ _ h => h) (Or.inl ⟨by rfl, ?_⟩) h2 ?_
          rotate_left
          · intro W hW
            go_simp
            all_goals with_reducible rfl
          try simp only [Act.put, List.setIfInBounds_toArray, List.set_cons_zero, List.set_cons_succ]
          refine wpAnyH_take (i := 13) (v := ?_) (by rw [List.getElem?_toArray]; rfl) (by kernel_rfl) (by kernel_rfl) (by kernel_rfl) (by exact fun _ _ _ h => h) (Or.inl ⟨by rfl, ?_⟩) h2 ?_
          rotate_left
          · intro W hW
            go_simp
            all_goals with_reducible rfl
          try simp only [Act.put, List.setIfInBounds_toArray, List.set_cons_zero, List.set_cons_succ]
          refine wpAnyH_take (i := 18) (v := ?_) (by rw [List.getElem?_toArray]; rfl) (by kernel_rfl) (by kernel_rfl) (by kernel_rfl) (by exact fun _ _ _ h => h) (Or.inl ⟨by rfl, ?_⟩) h2 ?_
          rotate_left
          · intro W hW
            go_simp
            all_goals with_reducible rfl
          try simp only [Act.put, List.setIfInBounds_toArray, List.set_cons_zero, List.set_cons_succ]
          refine wpAnyH_ready (rs := [20]) (by kernel_rfl) (by simp) ?_
          refine AllReadyH.cons (by rw [List.getElem?_toArray]; rfl) (fun K hK => ?_) AllReadyH.nil
          rw [if_pos (by rfl)]
          go_wp2_with fail
          refine (turn_i _ _ (by omega) (by omega) _).mono ?_
          rintro e w' ⟨rfl, rfl⟩
          go_wp2_with fail
          refine hK.out _ _ (h2) (fun h3 => ?_)
          clear hK K
          try simp only [Act.put, List.setIfInBounds_toArray, List.set_cons_zero, List.set_cons_succ]
          refine wpAnyH_ready (rs := [22]) (by kernel_rfl) (by simp) ?_
          refine AllReadyH.cons (by rw [List.getElem?_toArray]; rfl) (fun K hK => ?_) AllReadyH.nil
          rw [if_pos (by rfl)]
          go_wp2_with fail
          refine (turn_i _ _ (by omega) (by omega) _).mono ?_
          rintro e w' ⟨rfl, rfl⟩
          go_wp2_with fail
          refine hK.out _ _ (h3) (fun h4 => ?_)
          clear hK K
          try simp only [Act.put, List.setIfInBounds_toArray, List.set_cons_zero, List.set_cons_succ]
          refine wpAnyH_take (i := 23) (v := ?_) (by rw [List.getElem?_toArray]; rfl) (by kernel_rfl) (by kernel_rfl) (by kernel_rfl) (by exact fun _ _ _ h => h) (Or.inl ⟨by rfl, ?_⟩) h4 ?_
          rotate_left
          · intro W hW
            go_simp
            all_goals with_reducible rfl
          try simp only [Act.put, List.setIfInBounds_toArray, List.set_cons_zero, List.set_cons_succ]
          refine wpAnyH_take (i := 26) (v := ?_) (by rw [List.getElem?_toArray]; rfl) (by kernel_rfl) (by kernel_rfl) (by kernel_rfl) (by exact fun _ _ _ h => h) (Or.inl ⟨by rfl, ?_⟩) h4 ?_
          rotate_left
          · intro W hW
            go_simp
            all_goals with_reducible rfl
          try simp only [Act.put, List.setIfInBounds_toArray, List.set_cons_zero, List.set_cons_succ]
          refine wpAnyH_take (i := 27) (v := ?_) (by rw [List.getElem?_toArray]; rfl) (by kernel_rfl) (by kernel_rfl) (by kernel_rfl) (by exact fun _ _ _ h => h) (Or.inl ⟨by rfl, ?_⟩) h4 ?_
          rotate_left
          · intro W hW
            go_simp
            all_goals with_reducible rfl
          try simp only [Act.put, List.setIfInBounds_toArray, List.set_cons_zero, List.set_cons_succ]
          refine wpAnyH_take (i := 28) (v := ?_) (by rw [List.getElem?_toArray]; rfl) (by kernel_rfl) (by kernel_rfl) (by kernel_rfl) (by exact fun _ _ _ h => h) (Or.inl ⟨by rfl, ?_⟩) h4 ?_
          rotate_left
          · intro W hW
            go_simp
            all_goals with_reducible rfl
          try simp only [Act.put, List.setIfInBounds_toArray, List.set_cons_zero, List.set_cons_succ]
          refine wpAnyH_ready (rs := [29]) (by kernel_rfl) (by simp) ?_
          refine AllReadyH.cons (by rw [List.getElem?_toArray]; rfl) (fun K hK => ?_) AllReadyH.nil
          rw [if_pos (by rfl)]
          have hcw := hm.out.rw.cell i (by omega)
          have hfw := hm.out.rw.free i
          have HN := Lib.hid (fun v => (hm.out.step (j := i) hlt v).drew)
          go_wp2_with fail
          refine hK.out _ _ (⟨_, HN.out _, fun j hj => updK_ne _ _ (by omega)⟩) (fun h9 => ?_)
          clear hK K h9
          refine wpAnyH_done (by kernel_rfl) ?_ _
          go_wp2_with fail
          go_roundw
          case rel => exact ⟨i + 1, updK f i (W B i), by go_num, by omega, by omega, by rw [HV.out]; exact HN.out _, HF⟩
          case measure => simp [intOf]; omega
        · obtain rfl : i = 64 := by omega
          clear hlt hi hi0
          have hm0 := hm
          have hf0 := hf
          clear hm hf
          have s0 := hm0.out.rs.cell 0 (by omega)
          have s1 := hm0.out.rs.cell 1 (by omega)
          have s2 := hm0.out.rs.cell 2 (by omega)
          have s3 := hm0.out.rs.cell 3 (by omega)
          have s4 := hm0.out.rs.cell 4 (by omega)
          have s5 := hm0.out.rs.cell 5 (by omega)
          have s6 := hm0.out.rs.cell 6 (by omega)
          have s7 := hm0.out.rs.cell 7 (by omega)
          simp only [St8.lst, List.getD_cons_zero, List.getD_cons_succ] at s0 s1 s2 s3 s4 s5 s6 s7
          go_wp2_with fail
          rw [show ((64 : Nat) : Int) = 64 from rfl]
          have hm1 := hm0
          clear hm0 s0 s1 s2 s3 s4 s5 s6 s7
          obtain ⟨w0, hw0⟩ : ∃ w0 : World, w0 = wr := ⟨_, rfl⟩
          rw [← hw0] at hm1 ⊢
          clear hw0
          go_loopw [20, 12, 13, 14, 15, 16, 17, 18, 19] (fun iv a b' c' d e f' g h wr => ∃ (i : Nat) (s : St8), iv = .int .i64 i ∧ i ≤ 64 ∧ Hid (s = S.rounds B i) ∧ a = .int .u32 s.a ∧ b' = .int .u32 s.b ∧ c' = .int .u32 s.c ∧ d = .int .u32 s.d ∧ e = .int .u32 s.e ∧ f' = .int .u32 s.f ∧ g = .int .u32 s.g ∧ h = .int .u32 s.h ∧ Hid (MxSt w wr S f)) (fun iv _ _ _ _ _ _ _ _ _ => 64 - (intOf iv).toNat)
          case atStart => exact ⟨0, S, rfl, by omega, rfl, rfl, rfl, rfl, rfl, rfl, rfl, rfl, rfl, hm1⟩
          case round =>
            clear hm1
            obtain ⟨i, s, rfl, hi, hs, rfl, rfl, rfl, rfl, rfl, rfl, rfl, rfl, hm⟩ := hrel
            by_cases hlt : i < 64
            · have cw := hm.out.rw.cell i hlt
              rw [hf0.out i hlt] at cw
              have ct := hm.out.tab (HT.out i hlt)
              have hsok : s.ok := by rw [hs.out]; exact HSok.out.rounds B i
              have HOK := Lib.hid hsok
              have HS : Hid (s.rnd (rt i) (W B i) = S.rounds B (i + 1)) := by
                show _ = (S.rounds B i).rnd (rt i) (W B i)
                rw [← hs.out]
              clear hsok
              generalize W B i = wi at cw HS
              generalize rt i = ki at ct HS
              obtain ⟨xa, xb, xc, xd, xe, xf, xg, xh⟩ := s
              simp only []
              go_wp2_with fail
              go_quiet (exact Calls.quiet_of_same (turn_i _ _ (by omega) (by omega) _))
              have hN := Lib.hid (hm.out.drewN nq)
              generalize wr.drewN nq = wz at hN ⊢
              clear cw ct hm
              go_wp2_with (go_at_call 121; refine (turn_i _ _ (by omega) (by omega) _).mono ?_; rintro e w' ⟨rfl, rfl⟩)
              have ua : U32 xa := HOK.out.a
              have ue : U32 xe := HOK.out.e
              go_roundw
              case rel =>
                refine ⟨i + 1, _, by go_num, by omega, HS, ?_, rfl, rfl, rfl, ?_, rfl, rfl, rfl, hN⟩
                · show _ = Value.int .u32 (((xh + fe xe + fch xe xf xg + ki + wi) % 4294967296 + (fa xa + fmj xa xb xc) % 4294967296) % 4294967296)
                  rw [tnI6 ue, tnI11 ue, tnI25 ue, tnI2 ua, tnI13 ua, tnI22 ua, ← notI_sub ue]
                  unfold fe fch fa fmj
                  congr 1
                · show _ = Value.int .u32 ((xd + (xh + fe xe + fch xe xf xg + ki + wi) % 4294967296) % 4294967296)
                  rw [tnI6 ue, tnI11 ue, tnI25 ue, ← notI_sub ue]
                  unfold fe fch
                  congr 1
              case measure => simp [intOf]; omega
            · obtain rfl : i = 64 := by omega
              have HM : Hid (S.add s = S.mix B) := by
                show _ = S.add (S.rounds B 64)
                rw [← hs.out]
              have s0 := hm.out.rs.cell 0 (by omega)
              have s1 := hm.out.rs.cell 1 (by omega)
              have s2 := hm.out.rs.cell 2 (by omega)
              have s3 := hm.out.rs.cell 3 (by omega)
              have s4 := hm.out.rs.cell 4 (by omega)
              have s5 := hm.out.rs.cell 5 (by omega)
              have s6 := hm.out.rs.cell 6 (by omega)
              have s7 := hm.out.rs.cell 7 (by omega)
              simp only [St8.lst, List.getD_cons_zero, List.getD_cons_succ] at s0 s1 s2 s3 s4 s5 s6 s7
              have r0 := hm.out.rr.cell 0 (by omega)
              have r1 := hm.out.rr.cell 1 (by omega)
              have r2 := hm.out.rr.cell 2 (by omega)
              have r3 := hm.out.rr.cell 3 (by omega)
              have r4 := hm.out.rr.cell 4 (by omega)
              have r5 := hm.out.rr.cell 5 (by omega)
              have r6 := hm.out.rr.cell 6 (by omega)
              have r7 := hm.out.rr.cell 7 (by omega)
              have f0 := hm.out.rr.free 0
              have f1 := hm.out.rr.free 1
              have f2 := hm.out.rr.free 2
              have f3 := hm.out.rr.free 3
              have f4 := hm.out.rr.free 4
              have f5 := hm.out.rr.free 5
              have f6 := hm.out.rr.free 6
              have f7 := hm.out.rr.free 7
              clear hs
              obtain ⟨xa, xb, xc, xd, xe, xf, xg, xh⟩ := s
              simp only []
              go_wp2_with fail
              refine bodyPost_ret (v := .agg #[.int .u32 ((S.a + xa) % 4294967296), .int .u32 ((S.b + xb) % 4294967296), .int .u32 ((S.c + xc) % 4294967296), .int .u32 ((S.d + xd) % 4294967296), .int .u32 ((S.e + xe) % 4294967296), .int .u32 ((S.f + xf) % 4294967296), .int .u32 ((S.g + xg) % 4294967296), .int .u32 ((S.h + xh) % 4294967296)]) (by simp [results, Tryd.results115, go_sem, r0, r1, r2, r3, r4, r5, r6, r7]) rfl ⟨?_, ?_⟩
              · rw [← HM.out]; rfl
              · have hb := hm.out.below
                repeat (first | with_reducible exact hb | with_reducible refine Below.setCell ?_ (by simp; try omega) _)
end Go.Proofs.YtjgfjmkfcippcaaDoor
