/-
  The walk of basculeref02.block.; The walks of basculeref02: Table, sum, Sum.; The walk of basculeref02.Sum.; Tagged, in the program and in the reference.
-/
import Derived.Test.YtcpoaalhpjipaaaDoorMd2
import Derived.Test.YtcpoaalhpjipaaaDoorMd5
import Derived.Test.YtcpoaalhpjipaaaDoorMd8
import Derived.Test.YtcpoaalhpjipaaaDoorMd9
namespace Go.Proofs.YtcpoaalhpjipaaaDoor
open Go.RowKit
set_option maxRecDepth 100000

set_option maxHeartbeats 8000000 in
theorem block_any {w : World} (S : St8) (hS : S.ok) {b off n c kb : Nat} {B : Nat → Int} (hn : 64 ≤ n) (hB : ∀ i, i < 64 → w.cell? ⟨b, off + i, none⟩ = some (.int .u8 (B i))) (hb8 : ∀ i, i < 64 → 0 ≤ B i ∧ B i < 256)
    (hT : ∀ i, i < 64 → w.cell? ⟨kb, i, none⟩ = some (.int .u32 (rt i))) :
    Calls Tryd.prog 93 #[.agg #[.int .u32 S.a, .int .u32 S.b, .int .u32 S.c, .int .u32 S.d, .int .u32 S.e, .int .u32 S.f, .int .u32 S.g, .int .u32 S.h], .slice (some ⟨b, off, none⟩) n c, .pointer (some ⟨kb, 0, none⟩)] w
      fun e w' => e = .returned (.agg #[.int .u32 (S.mix B).a, .int .u32 (S.mix B).b, .int .u32 (S.mix B).c, .int .u32 (S.mix B).d, .int .u32 (S.mix B).e, .int .u32 (S.mix B).f, .int .u32 (S.mix B).g, .int .u32 (S.mix B).h]) ∧ Below w.heap.size w w' := by
  have HB := Lib.hid hB
  have HB8 := Lib.hid hb8
  have HT := Lib.hid hT
  have HSok := Lib.hid hS
  clear hB hb8 hT hS
  have hz := zero64u
  have h0 := Lib.hid (MxSt.start w S)
  go_enter Tryd.func93, Tryd.ntmps93
  go_wp2_with fail
  clear hz
  go_loopw [8] (fun iv wr => ∃ (i : Nat) (f : Nat → Int), iv = .int .i64 i ∧ i ≤ 16 ∧ Hid (MxSt w wr S f) ∧ Hid (∀ j, j < i → f j = W B j)) (fun iv _ => 16 - (intOf iv).toNat)
  case atStart => exact ⟨0, _, rfl, by omega, h0, fun j hj => by omega⟩
  case round =>
    clear h0
    obtain ⟨i, f, rfl, hi, hm, hf⟩ := hrel
    by_cases hlt : i < 16
    · have q (j : Nat) (hj : j < 64) : wr.cell? ⟨b, off + j, none⟩ = some (.int .u8 (B j)) := hm.out.tab (HB.out j hj)
      have c0 := q (4 * i) (by omega)
      have c1 := q (4 * i + 1) (by omega)
      have c2 := q (4 * i + 2) (by omega)
      have c3 := q (4 * i + 3) (by omega)
      have B0 := HB8.out (4 * i) (by omega)
      have B1 := HB8.out (4 * i + 1) (by omega)
      have B2 := HB8.out (4 * i + 2) (by omega)
      have B3 := HB8.out (4 * i + 3) (by omega)
      have cw := hm.out.rw.cell i (by omega)
      have fw := hm.out.rw.free i
      clear q
      have HN : Hid (MxSt w (wr.setCell ⟨w.heap.size + 1 + 1, i, none⟩ (.int .u32 (B (4 * i) * 16777216 + B (4 * i + 1) * 65536 + B (4 * i + 2) * 256 + B (4 * i + 3)))).drew S (updK f i (W B i))) := by
        have := (hm.out.step (j := i) (by omega) (W B i)).drew
        rw [W_low B hlt, wd, wd_sum B0 B1 B2 B3] at this
        rw [W_low B hlt, wd, wd_sum B0 B1 B2 B3]
        exact this
      have HF : Hid (∀ j, j < i + 1 → updK f i (W B i) j = W B j) := by
        intro j hj
        by_cases e : j = i
        · subst e; rw [updK_same]
        · rw [updK_ne _ _ e]; exact hf.out j (by omega)
      obtain ⟨a0, b0⟩ := B0
      obtain ⟨a1, b1⟩ := B1
      obtain ⟨a2, b2⟩ := B2
      obtain ⟨a3, b3⟩ := B3
      generalize B (4 * i) = x0 at c0 a0 b0 HN
      generalize B (4 * i + 1) = x1 at c1 a1 b1 HN
      generalize B (4 * i + 2) = x2 at c2 a2 b2 HN
      generalize B (4 * i + 3) = x3 at c3 a3 b3 HN
      generalize updK f i (W B i) = f' at HN HF
      go_wp2_with fail
      go_region
      go_wp2_with fail
      go_roundw
      case rel => exact ⟨i + 1, f', by go_num, by omega, HN, HF⟩
      case measure => simp [intOf]; omega
    · obtain rfl : i = 16 := by omega
      clear hlt hi
      have hm0 := hm
      have hf0 := hf
      go_wp2_with fail
      clear hm hf
      rw [show ((16 : Nat) : Int) = 16 from rfl]
      obtain ⟨w0, hw0⟩ : ∃ w0 : World, w0 = wr := ⟨_, rfl⟩
      rw [← hw0] at hm0 ⊢
      clear hw0
      go_loopw [9] (fun iv wr => ∃ (i : Nat) (f : Nat → Int), iv = .int .i64 i ∧ 16 ≤ i ∧ i ≤ 64 ∧ Hid (MxSt w wr S f) ∧ Hid (∀ j, j < i → f j = W B j)) (fun iv _ => 64 - (intOf iv).toNat)
      case atStart => exact ⟨16, _, rfl, by omega, by omega, hm0, hf0⟩
      case round =>
        clear hm0 hf0
        obtain ⟨i, f, rfl, hi0, hi, hm, hf⟩ := hrel
        by_cases hlt : i < 64
        · have cx := hm.out.rw.cell (i - 15) (by omega)
          have cy := hm.out.rw.cell (i - 2) (by omega)
          have e15 : ((i : Int) - 15).toNat = i - 15 := by omega
          have e2 : ((i : Int) - 2).toNat = i - 2 := by omega
          have e16 : ((i : Int) - 16).toNat = i - 16 := by omega
          have e7 : ((i : Int) - 7).toNat = i - 7 := by omega
          have g16 : (16 : Int) ≤ (i : Int) := by omega
          have g64 : (i : Int) < 64 := by omega
          have k16 : IntKind.i64.wrap ((i : Int) - 16) = (i : Int) - 16 := IntWalk.i64_in _ (by omega)
          have k7 : IntKind.i64.wrap ((i : Int) - 7) = (i : Int) - 7 := IntWalk.i64_in _ (by omega)
          have l16 : (i : Int) - 16 < 64 := by omega
          have l7 : (i : Int) - 7 < 64 := by omega
          have m7 : (7 : Int) ≤ (i : Int) := by omega
          have m0 : (0 : Int) ≤ (i : Int) := by omega
          have HV : Hid (W B i = (f (i - 16) + bits .xor .u32 (bits .xor .u32 (tnI 7 (f (i - 15))) (tnI 18 (f (i - 15)))) (f (i - 15) / 8) + f (i - 7) + bits .xor .u32 (bits .xor .u32 (tnI 17 (f (i - 2))) (tnI 19 (f (i - 2)))) (f (i - 2) / 1024)) % 4294967296) := by
            have u1 : U32 (f (i - 15)) := by rw [hf.out (i - 15) (by omega)]; exact W_U32 _ _
            have u2 : U32 (f (i - 2)) := by rw [hf.out (i - 2) (by omega)]; exact W_U32 _ _
            show _ = _
            rw [tnI7 u1, tnI18 u1, tnI17 u2, tnI19 u2]
            rw [(W_high B hi0).trans (nxt_cong (g := f) hi0 (fun j hj => (hf.out j hj).symm))]
            rfl
          have HF : Hid (∀ j, j < i + 1 → updK f i (W B i) j = W B j) := by
            intro j hj
            by_cases e : j = i
            · subst e; rw [updK_same]
            · rw [updK_ne _ _ e]; exact hf.out j (by omega)
          go_wp2_with fail
          clear cx cy
          refine wp_region_held_drew (S := fun W => ∃ g, MxSt w W S g ∧ ∀ j, j < i → g j = f j) (by kernel_rfl) (⟨f, hm.out.drew, fun _ _ => rfl⟩) (fun h0 => ?_)
          refine wpAnyH_take (i := 0) (v := ?_) (by rw [List.getElem?_toArray]; rfl) (by kernel_rfl) (by kernel_rfl) (by kernel_rfl) (by exact fun _ _ _ h => h) (Or.inl ⟨by rfl, ?_⟩) h0 ?_
          rotate_left
          · intro W hW
            go_simp
            all_goals with_reducible rfl
          try simp only [Act.put, List.setIfInBounds_toArray, List.set_cons_zero, List.set_cons_succ]
          refine wpAnyH_take (i := 1) (v := ?_) (by rw [List.getElem?_toArray]; rfl) (by kernel_rfl) (by kernel_rfl) (by kernel_rfl) (by exact fun _ _ _ h => h) (Or.inl ⟨by rfl, ?_⟩) h0 ?_
          rotate_left
          · intro W hW
            go_simp
            all_goals with_reducible rfl
          try simp only [Act.put, List.setIfInBounds_toArray, List.set_cons_zero, List.set_cons_succ]
          refine wpAnyH_take (i := 2) (v := ?_) (by rw [List.getElem?_toArray]; rfl) (by kernel_rfl) (by kernel_rfl) (by kernel_rfl) (by exact fun _ _ _ h => h) (Or.inl ⟨by rfl, ?_⟩) h0 ?_
          rotate_left
          · intro W hW
            go_simp
            all_goals with_reducible rfl
          try simp only [Act.put, List.setIfInBounds_toArray, List.set_cons_zero, List.set_cons_succ]
          refine wpAnyH_take (i := 3) (v := ?_) (by rw [List.getElem?_toArray]; rfl) (by kernel_rfl) (by kernel_rfl) (by kernel_rfl) (by exact fun _ _ _ h => h) (Or.inl ⟨by rfl, ?_⟩) h0 ?_
          rotate_left
          · intro W hW
            go_simp
            all_goals with_reducible rfl
          try simp only [Act.put, List.setIfInBounds_toArray, List.set_cons_zero, List.set_cons_succ]
          refine wpAnyH_take (i := 4) (v := ?_) (by rw [List.getElem?_toArray]; rfl) (by kernel_rfl) (by kernel_rfl) (by kernel_rfl) (by exact fun _ _ _ h => h) (Or.inl ⟨by rfl, ?_⟩) h0 ?_
          rotate_left
          · intro W hW
            obtain ⟨g, hg, hgf⟩ := hW
            have cz := hg.rw.cell (i - 16) (by omega)
            have cv := hg.rw.cell (i - 7) (by omega)
            rw [hgf _ (by omega)] at cz cv
            clear hgf
            go_simp
            all_goals with_reducible rfl
          try simp only [Act.put, List.setIfInBounds_toArray, List.set_cons_zero, List.set_cons_succ]
          refine wpAnyH_take (i := 5) (v := ?_) (by rw [List.getElem?_toArray]; rfl) (by kernel_rfl) (by kernel_rfl) (by kernel_rfl) (by exact fun _ _ _ h => h) (Or.inl ⟨by rfl, ?_⟩) h0 ?_
          rotate_left
          · intro W hW
            go_simp
            all_goals with_reducible rfl
          try simp only [Act.put, List.setIfInBounds_toArray, List.set_cons_zero, List.set_cons_succ]
          refine wpAnyH_take (i := 7) (v := ?_) (by rw [List.getElem?_toArray]; rfl) (by kernel_rfl) (by kernel_rfl) (by kernel_rfl) (by exact fun _ _ _ h => h) (Or.inl ⟨by rfl, ?_⟩) h0 ?_
          rotate_left
          · intro W hW
            go_simp
            all_goals with_reducible rfl
          try simp only [Act.put, List.setIfInBounds_toArray, List.set_cons_zero, List.set_cons_succ]
          refine wpAnyH_take (i := 10) (v := ?_) (by rw [List.getElem?_toArray]; rfl) (by kernel_rfl) (by kernel_rfl) (by kernel_rfl) (by exact fun _ _ _ h => h) (Or.inl ⟨by rfl, ?_⟩) h0 ?_
          rotate_left
          · intro W hW
            go_simp
            all_goals with_reducible rfl
          try simp only [Act.put, List.setIfInBounds_toArray, List.set_cons_zero, List.set_cons_succ]
          refine wpAnyH_take (i := 11) (v := ?_) (by rw [List.getElem?_toArray]; rfl) (by kernel_rfl) (by kernel_rfl) (by kernel_rfl) (by exact fun _ _ _ h => h) (Or.inl ⟨by rfl, ?_⟩) h0 ?_
          rotate_left
          · intro W hW
            go_simp
            all_goals with_reducible rfl
          try simp only [Act.put, List.setIfInBounds_toArray, List.set_cons_zero, List.set_cons_succ]
          refine wpAnyH_take (i := 14) (v := ?_) (by rw [List.getElem?_toArray]; rfl) (by kernel_rfl) (by kernel_rfl) (by kernel_rfl) (by exact fun _ _ _ h => h) (Or.inl ⟨by rfl, ?_⟩) h0 ?_
          rotate_left
          · intro W hW
            go_simp
            all_goals with_reducible rfl
          try simp only [Act.put, List.setIfInBounds_toArray, List.set_cons_zero, List.set_cons_succ]
          refine wpAnyH_take (i := 15) (v := ?_) (by rw [List.getElem?_toArray]; rfl) (by kernel_rfl) (by kernel_rfl) (by kernel_rfl) (by exact fun _ _ _ h => h) (Or.inl ⟨by rfl, ?_⟩) h0 ?_
          rotate_left
          · intro W hW
            go_simp
            all_goals with_reducible rfl
          try simp only [Act.put, List.setIfInBounds_toArray, List.set_cons_zero, List.set_cons_succ]
          refine wpAnyH_take (i := 16) (v := ?_) (by rw [List.getElem?_toArray]; rfl) (by kernel_rfl) (by kernel_rfl) (by kernel_rfl) (by exact fun _ _ _ h => h) (Or.inl ⟨by rfl, ?_⟩) h0 ?_
          rotate_left
          · intro W hW
            go_simp
            all_goals with_reducible rfl
          try simp only [Act.put, List.setIfInBounds_toArray, List.set_cons_zero, List.set_cons_succ]
          refine wpAnyH_take (i := 17) (v := ?_) (by rw [List.getElem?_toArray]; rfl) (by kernel_rfl) (by kernel_rfl) (by kernel_rfl) (by exact fun _ _ _ h => h) (Or.inl ⟨by rfl, ?_⟩) h0 ?_
          rotate_left
          · intro W hW
            obtain ⟨g, hg, hgf⟩ := hW
            have cz := hg.rw.cell (i - 16) (by omega)
            have cv := hg.rw.cell (i - 7) (by omega)
            rw [hgf _ (by omega)] at cz cv
            clear hgf
            go_simp
            all_goals with_reducible rfl
          try simp only [Act.put, List.setIfInBounds_toArray, List.set_cons_zero, List.set_cons_succ]
          refine wpAnyH_take (i := 19) (v := ?_) (by rw [List.getElem?_toArray]; rfl) (by kernel_rfl) (by kernel_rfl) (by kernel_rfl) (by exact fun _ _ _ h => h) (Or.inl ⟨by rfl, ?_⟩) h0 ?_
          rotate_left
          · intro W hW
            go_simp
            all_goals with_reducible rfl
          try simp only [Act.put, List.setIfInBounds_toArray, List.set_cons_zero, List.set_cons_succ]
          refine wpAnyH_take (i := 21) (v := ?_) (by rw [List.getElem?_toArray]; rfl) (by kernel_rfl) (by kernel_rfl) (by kernel_rfl) (by exact fun _ _ _ h => h) (Or.inl ⟨by rfl, ?_⟩) h0 ?_
          rotate_left
          · intro W hW
            go_simp
            all_goals with_reducible rfl
          try simp only [Act.put, List.setIfInBounds_toArray, List.set_cons_zero, List.set_cons_succ]
          refine wpAnyH_take (i := 24) (v := ?_) (by rw [List.getElem?_toArray]; rfl) (by kernel_rfl) (by kernel_rfl) (by kernel_rfl) (by exact fun _ _ _ h => h) (Or.inl ⟨by rfl, ?_⟩) h0 ?_
          rotate_left
          · intro W hW
            go_simp
            all_goals with_reducible rfl
          try simp only [Act.put, List.setIfInBounds_toArray, List.set_cons_zero, List.set_cons_succ]
          refine wpAnyH_take (i := 25) (v := ?_) (by rw [List.getElem?_toArray]; rfl) (by kernel_rfl) (by kernel_rfl) (by kernel_rfl) (by exact fun _ _ _ h => h) (Or.inl ⟨by rfl, ?_⟩) h0 ?_
          rotate_left
          · intro W hW
            go_simp
            all_goals with_reducible rfl
          try simp only [Act.put, List.setIfInBounds_toArray, List.set_cons_zero, List.set_cons_succ]
          refine wpAnyH_ready (rs := [6]) (by kernel_rfl) (by simp) ?_
          refine AllReadyH.cons (by rw [List.getElem?_toArray]; rfl) (fun K hK => ?_) AllReadyH.nil
          rw [if_pos (by rfl)]
          go_wp2_with fail
          refine (turn_i _ _ (by omega) (by omega) _).mono ?_
          rintro e w' ⟨rfl, rfl⟩
          go_wp2_with fail
          refine hK.out _ _ (h0) (fun h1 => ?_)
          clear hK K
          try simp only [Act.put, List.setIfInBounds_toArray, List.set_cons_zero, List.set_cons_succ]
          refine wpAnyH_ready (rs := [8]) (by kernel_rfl) (by simp) ?_
          refine AllReadyH.cons (by rw [List.getElem?_toArray]; rfl) (fun K hK => ?_) AllReadyH.nil
          rw [if_pos (by rfl)]
          go_wp2_with fail
          refine (turn_i _ _ (by omega) (by omega) _).mono ?_
          rintro e w' ⟨rfl, rfl⟩
          go_wp2_with fail
          refine hK.out _ _ (h1) (fun h2 => ?_)
          clear hK K
          try simp only [Act.put, List.setIfInBounds_toArray, List.set_cons_zero, List.set_cons_succ]
          refine wpAnyH_take (i := 9) (v := ?_) (by rw [List.getElem?_toArray]; rfl) (by kernel_rfl) (by kernel_rfl) (by kernel_rfl) (by exact fun _ _ _ h => h) (Or.inl ⟨by rfl, ?_⟩) h2 ?_
          rotate_left
          · intro W hW
            go_simp
            all_goals with_reducible rfl
          try simp only [Act.put, List.setIfInBounds_toArray, List.set_cons_zero, List.set_cons_succ]
          refine wpAnyH_take (i := 12) (v := ?_) (by rw [List.getElem?_toArray]; rfl) (by kernel_rfl) (by kernel_rfl) (by kernel_rfl) (by exact fun _ _ _ h => h) (Or.inl ⟨by rfl, ?_⟩) h2 ?_
          rotate_left
          · intro W hW
            go_simp
            all_goals with_reducible rfl
          try simp only [Act.put, List.setIfInBounds_toArray, List.set_cons_zero, List.set_cons_succ]
          refine wpAnyH_take (i := 13) (v := ?_) (by rw [List.getElem?_toArray]; rfl) (by kernel_rfl) (by kernel_rfl) (by kernel_rfl) (by exact fun _ _ _ h => h) (Or.inl ⟨by rfl, ?_⟩) h2 ?_
          rotate_left
          · intro W hW
            go_simp
            all_goals with_reducible rfl
          try simp only [Act.put, List.setIfInBounds_toArray, List.set_cons_zero, List.set_cons_succ]
          refine wpAnyH_take (i := 18) (v := ?_) (by rw [List.getElem?_toArray]; rfl) (by kernel_rfl) (by kernel_rfl) (by kernel_rfl) (by exact fun _ _ _ h => h) (Or.inl ⟨by rfl, ?_⟩) h2 ?_
          rotate_left
          · intro W hW
            go_simp
            all_goals with_reducible rfl
          try simp only [Act.put, List.setIfInBounds_toArray, List.set_cons_zero, List.set_cons_succ]
          refine wpAnyH_ready (rs := [20]) (by kernel_rfl) (by simp) ?_
          refine AllReadyH.cons (by rw [List.getElem?_toArray]; rfl) (fun K hK => ?_) AllReadyH.nil
          rw [if_pos (by rfl)]
          go_wp2_with fail
          refine (turn_i _ _ (by omega) (by omega) _).mono ?_
          rintro e w' ⟨rfl, rfl⟩
          go_wp2_with fail
          refine hK.out _ _ (h2) (fun h3 => ?_)
          clear hK K
          try simp only [Act.put, List.setIfInBounds_toArray, List.set_cons_zero, List.set_cons_succ]
          refine wpAnyH_ready (rs := [22]) (by kernel_rfl) (by simp) ?_
          refine AllReadyH.cons (by rw [List.getElem?_toArray]; rfl) (fun K hK => ?_) AllReadyH.nil
          rw [if_pos (by rfl)]
          go_wp2_with fail
          refine (turn_i _ _ (by omega) (by omega) _).mono ?_
          rintro e w' ⟨rfl, rfl⟩
          go_wp2_with fail
          refine hK.out _ _ (h3) (fun h4 => ?_)
          clear hK K
          try simp only [Act.put, List.setIfInBounds_toArray, List.set_cons_zero, List.set_cons_succ]
          refine wpAnyH_take (i := 23) (v := ?_) (by rw [List.getElem?_toArray]; rfl) (by kernel_rfl) (by kernel_rfl) (by kernel_rfl) (by exact fun _ _ _ h => h) (Or.inl ⟨by rfl, ?_⟩) h4 ?_
          rotate_left
          · intro W hW
            go_simp
            all_goals with_reducible rfl
          try simp only [Act.put, List.setIfInBounds_toArray, List.set_cons_zero, List.set_cons_succ]
          refine wpAnyH_take (i := 26) (v := ?_) (by rw [List.getElem?_toArray]; rfl) (by kernel_rfl) (by kernel_rfl) (by kernel_rfl) (by exact fun _ _ _ h => h) (Or.inl ⟨by rfl, ?_⟩) h4 ?_
          rotate_left
          · intro W hW
            go_simp
            all_goals with_reducible rfl
          try simp only [Act.put, List.setIfInBounds_toArray, List.set_cons_zero, List.set_cons_succ]
          refine wpAnyH_take (i := 27) (v := ?_) (by rw [List.getElem?_toArray]; rfl) (by kernel_rfl) (by kernel_rfl) (by kernel_rfl) (by exact fun _ _ _ h => h) (Or.inl ⟨by rfl, ?_⟩) h4 ?_
          rotate_left
          · intro W hW
            go_simp
            all_goals with_reducible rfl
          try simp only [Act.put, List.setIfInBounds_toArray, List.set_cons_zero, List.set_cons_succ]
          refine wpAnyH_take (i := 28) (v := ?_) (by rw [List.getElem?_toArray]; rfl) (by kernel_rfl) (by kernel_rfl) (by kernel_rfl) (by exact fun _ _ _ h => h) (Or.inl ⟨by rfl, ?_⟩) h4 ?_
          rotate_left
          · intro W hW
            go_simp
            all_goals with_reducible rfl
          try simp only [Act.put, List.setIfInBounds_toArray, List.set_cons_zero, List.set_cons_succ]
          refine wpAnyH_ready (rs := [29]) (by kernel_rfl) (by simp) ?_
          refine AllReadyH.cons (by rw [List.getElem?_toArray]; rfl) (fun K hK => ?_) AllReadyH.nil
          rw [if_pos (by rfl)]
          have hcw := hm.out.rw.cell i (by omega)
          have hfw := hm.out.rw.free i
          have HN := Lib.hid (fun v => (hm.out.step (j := i) hlt v).drew)
          go_wp2_with fail
          refine hK.out _ _ (⟨_, HN.out _, fun j hj => updK_ne _ _ (by omega)⟩) (fun h9 => ?_)
          clear hK K h9
          refine wpAnyH_done (by kernel_rfl) ?_ _
          go_wp2_with fail
          go_roundw
          case rel => exact ⟨i + 1, updK f i (W B i), by go_num, by omega, by omega, by rw [HV.out]; exact HN.out _, HF⟩
          case measure => simp [intOf]; omega
        · obtain rfl : i = 64 := by omega
          clear hlt hi hi0
          have hm0 := hm
          have hf0 := hf
          clear hm hf
          have s0 := hm0.out.rs.cell 0 (by omega)
          have s1 := hm0.out.rs.cell 1 (by omega)
          have s2 := hm0.out.rs.cell 2 (by omega)
          have s3 := hm0.out.rs.cell 3 (by omega)
          have s4 := hm0.out.rs.cell 4 (by omega)
          have s5 := hm0.out.rs.cell 5 (by omega)
          have s6 := hm0.out.rs.cell 6 (by omega)
          have s7 := hm0.out.rs.cell 7 (by omega)
          simp only [St8.lst, List.getD_cons_zero, List.getD_cons_succ] at s0 s1 s2 s3 s4 s5 s6 s7
          go_wp2_with fail
          rw [show ((64 : Nat) : Int) = 64 from rfl]
          have hm1 := hm0
          clear hm0 s0 s1 s2 s3 s4 s5 s6 s7
          obtain ⟨w0, hw0⟩ : ∃ w0 : World, w0 = wr := ⟨_, rfl⟩
          rw [← hw0] at hm1 ⊢
          clear hw0
          go_loopw [20, 12, 13, 14, 15, 16, 17, 18, 19] (fun iv a b' c' d e f' g h wr => ∃ (i : Nat) (s : St8), iv = .int .i64 i ∧ i ≤ 64 ∧ Hid (s = S.rounds B i) ∧ a = .int .u32 s.a ∧ b' = .int .u32 s.b ∧ c' = .int .u32 s.c ∧ d = .int .u32 s.d ∧ e = .int .u32 s.e ∧ f' = .int .u32 s.f ∧ g = .int .u32 s.g ∧ h = .int .u32 s.h ∧ Hid (MxSt w wr S f)) (fun iv _ _ _ _ _ _ _ _ _ => 64 - (intOf iv).toNat)
          case atStart => exact ⟨0, S, rfl, by omega, rfl, rfl, rfl, rfl, rfl, rfl, rfl, rfl, rfl, hm1⟩
          case round =>
            clear hm1
            obtain ⟨i, s, rfl, hi, hs, rfl, rfl, rfl, rfl, rfl, rfl, rfl, rfl, hm⟩ := hrel
            by_cases hlt : i < 64
            · have cw := hm.out.rw.cell i hlt
              rw [hf0.out i hlt] at cw
              have ct := hm.out.tab (HT.out i hlt)
              have hsok : s.ok := by rw [hs.out]; exact HSok.out.rounds B i
              have HOK := Lib.hid hsok
              have HS : Hid (s.rnd (rt i) (W B i) = S.rounds B (i + 1)) := by
                show _ = (S.rounds B i).rnd (rt i) (W B i)
                rw [← hs.out]
              clear hsok
              generalize W B i = wi at cw HS
              generalize rt i = ki at ct HS
              obtain ⟨xa, xb, xc, xd, xe, xf, xg, xh⟩ := s
              simp only []
              go_wp2_with fail
              go_quiet (exact Calls.quiet_of_same (turn_i _ _ (by omega) (by omega) _))
              have hN := Lib.hid (hm.out.drewN nq)
              generalize wr.drewN nq = wz at hN ⊢
              clear cw ct hm
              go_wp2_with (go_at_call 94; refine (turn_i _ _ (by omega) (by omega) _).mono ?_; rintro e w' ⟨rfl, rfl⟩)
              have ua : U32 xa := HOK.out.a
              have ue : U32 xe := HOK.out.e
              go_roundw
              case rel =>
                refine ⟨i + 1, _, by go_num, by omega, HS, ?_, rfl, rfl, rfl, ?_, rfl, rfl, rfl, hN⟩
                · show _ = Value.int .u32 (((xh + fe xe + fch xe xf xg + ki + wi) % 4294967296 + (fa xa + fmj xa xb xc) % 4294967296) % 4294967296)
                  rw [tnI6 ue, tnI11 ue, tnI25 ue, tnI2 ua, tnI13 ua, tnI22 ua, ← notI_sub ue]
                  unfold fe fch fa fmj
                  congr 1
                · show _ = Value.int .u32 ((xd + (xh + fe xe + fch xe xf xg + ki + wi) % 4294967296) % 4294967296)
                  rw [tnI6 ue, tnI11 ue, tnI25 ue, ← notI_sub ue]
                  unfold fe fch
                  congr 1
              case measure => simp [intOf]; omega
            · obtain rfl : i = 64 := by omega
              have HM : Hid (S.add s = S.mix B) := by
                show _ = S.add (S.rounds B 64)
                rw [← hs.out]
              have s0 := hm.out.rs.cell 0 (by omega)
              have s1 := hm.out.rs.cell 1 (by omega)
              have s2 := hm.out.rs.cell 2 (by omega)
              have s3 := hm.out.rs.cell 3 (by omega)
              have s4 := hm.out.rs.cell 4 (by omega)
              have s5 := hm.out.rs.cell 5 (by omega)
              have s6 := hm.out.rs.cell 6 (by omega)
              have s7 := hm.out.rs.cell 7 (by omega)
              simp only [St8.lst, List.getD_cons_zero, List.getD_cons_succ] at s0 s1 s2 s3 s4 s5 s6 s7
              have r0 := hm.out.rr.cell 0 (by omega)
              have r1 := hm.out.rr.cell 1 (by omega)
              have r2 := hm.out.rr.cell 2 (by omega)
              have r3 := hm.out.rr.cell 3 (by omega)
              have r4 := hm.out.rr.cell 4 (by omega)
              have r5 := hm.out.rr.cell 5 (by omega)
              have r6 := hm.out.rr.cell 6 (by omega)
              have r7 := hm.out.rr.cell 7 (by omega)
              have f0 := hm.out.rr.free 0
              have f1 := hm.out.rr.free 1
              have f2 := hm.out.rr.free 2
              have f3 := hm.out.rr.free 3
              have f4 := hm.out.rr.free 4
              have f5 := hm.out.rr.free 5
              have f6 := hm.out.rr.free 6
              have f7 := hm.out.rr.free 7
              clear hs
              obtain ⟨xa, xb, xc, xd, xe, xf, xg, xh⟩ := s
              simp only []
              go_wp2_with fail
              refine bodyPost_ret (v := .agg #[.int .u32 ((S.a + xa) % 4294967296), .int .u32 ((S.b + xb) % 4294967296), .int .u32 ((S.c + xc) % 4294967296), .int .u32 ((S.d + xd) % 4294967296), .int .u32 ((S.e + xe) % 4294967296), .int .u32 ((S.f + xf) % 4294967296), .int .u32 ((S.g + xg) % 4294967296), .int .u32 ((S.h + xh) % 4294967296)]) (by simp [results, Tryd.results93, go_sem, r0, r1, r2, r3, r4, r5, r6, r7]) rfl ⟨?_, ?_⟩
              · rw [← HM.out]; rfl
              · have hb := hm.out.below
                repeat (first | with_reducible exact hb | with_reducible refine Below.setCell ?_ (by simp; try omega) _)
end Go.Proofs.YtcpoaalhpjipaaaDoor
namespace Go.Proofs.YtcpoaalhpjipaaaDoor
open Go.RowKit
set_option maxRecDepth 100000

/-- Cells of words. -/
def uc (F : List Int) : List Value := F.map (Value.int .u32)
@[go_sem] theorem uc_len (F : List Int) : (uc F).length = F.length := by simp [uc]
@[go_sem] theorem rootsZ_len : rootsZ.length = 64 := by rfl
def zero64 : List Int := List.replicate 64 0
@[go_sem] theorem zero64_len : zero64.length = 64 := by rfl
@[go_sem ↓] theorem load64 (a : Addr) : loadCellsFrom a 0 64 #[] = rowLoad a 64 := rfl
@[go_sem ↓] theorem Tryd.build_tab (ps : Array (Nat × Value)) : Instr.build 156 ps = rowBuild 156 ps := rfl
set_option maxHeartbeats 4000000 in
@[go_sem] theorem Tryd.run_tab (w : World) : (rowBuild 156 #[(0, .int .u32 1116352408), (1, .int .u32 1899447441), (2, .int .u32 3049323471), (3, .int .u32 3921009573), (4, .int .u32 961987163), (5, .int .u32 1508970993), (6, .int .u32 2453635748), (7, .int .u32 2870763221), (8, .int .u32 3624381080), (9, .int .u32 310598401), (10, .int .u32 607225278), (11, .int .u32 1426881987), (12, .int .u32 1925078388), (13, .int .u32 2162078206), (14, .int .u32 2614888103), (15, .int .u32 3248222580), (16, .int .u32 3835390401), (17, .int .u32 4022224774), (18, .int .u32 264347078), (19, .int .u32 604807628), (20, .int .u32 770255983), (21, .int .u32 1249150122), (22, .int .u32 1555081692), (23, .int .u32 1996064986), (24, .int .u32 2554220882), (25, .int .u32 2821834349), (26, .int .u32 2952996808), (27, .int .u32 3210313671), (28, .int .u32 3336571891), (29, .int .u32 3584528711), (30, .int .u32 113926993), (31, .int .u32 338241895), (32, .int .u32 666307205), (33, .int .u32 773529912), (34, .int .u32 1294757372), (35, .int .u32 1396182291), (36, .int .u32 1695183700), (37, .int .u32 1986661051), (38, .int .u32 2177026350), (39, .int .u32 2456956037), (40, .int .u32 2730485921), (41, .int .u32 2820302411), (42, .int .u32 3259730800), (43, .int .u32 3345764771), (44, .int .u32 3516065817), (45, .int .u32 3600352804), (46, .int .u32 4094571909), (47, .int .u32 275423344), (48, .int .u32 430227734), (49, .int .u32 506948616), (50, .int .u32 659060556), (51, .int .u32 883997877), (52, .int .u32 958139571), (53, .int .u32 1322822218), (54, .int .u32 1537002063), (55, .int .u32 1747873779), (56, .int .u32 1955562222), (57, .int .u32 2024104815), (58, .int .u32 2227730452), (59, .int .u32 2361852424), (60, .int .u32 2428436474), (61, .int .u32 2756734187), (62, .int .u32 3204031479), (63, .int .u32 3329325298)]).run Tryd.prog w = .ok (.agg (uc rootsZ).toArray) w := by
  unfold rowBuild; kernel_rfl
@[go_sem ↓] theorem Tryd.zero_tab (w : World) : (zeroValue 156).run Tryd.prog w = .ok (.agg (uc zero64).toArray) w := by kernel_rfl
theorem uc_one (F : List Int) : (uc F).toArray.all (·.oneCell') = true := by
  rw [Array.all_eq_true_iff_forall_mem]
  intro v hv
  simp [uc] at hv
  obtain ⟨x, _, rfl⟩ := hv
  rfl
@[go_sem] theorem run_storeCells_u32 {P : Program} (w : World) (b o : Nat) (F : List Int) (ht : w.there b o F.length) : (storeCells ⟨b, o, none⟩ (uc F) 0).run P w = .ok () (w.setCells b o (uc F)) := by
  have := run_storeCells_cells (P := P) b o (uc F) 0 w (fun j hj => by rw [uc_len] at hj; simpa using (ht j hj).1) (fun j hj => by rw [uc_len] at hj; simpa using (ht j hj).2) (fun v hv => (Array.all_eq_true_iff_forall_mem.1 (uc_one F)) v (by simpa using hv))
  simpa using this
/-- Block b holds the words F. -/
def TabAt (w : World) (b : Nat) (F : List Int) : Prop := w.heap[b]? = some (.cells (uc F).toArray 156 (0, 0))
theorem TabAt.there {w : World} {b : Nat} {G : List Int} (h : TabAt w b G) (hG : G.length = 64) : w.there b 0 64 := fun j hj => by
  refine ⟨?_, Joins.unfrozen_of_block h _⟩
  rw [cell_of_row _ _ _ _ _ _ h]
  simp [uc_len, hG, hj]
theorem TabAt.put {w : World} {b : Nat} {G : List Int} (h : TabAt w b G) (hG : G.length = 64) {F : List Int} (hF : F.length = 64) : TabAt (w.setCells b 0 (uc F)) b F := by
  have := setCells_block (b := b) (t := 156) (fr := (0, 0)) (uc F) (o := 0) (w := w) (pre := []) (mid := uc G) (post := []) (by simp only [List.nil_append, List.append_nil]; exact h) rfl (by rw [uc_len, uc_len, hF, hG])
  simpa only [TabAt, List.nil_append, List.append_nil] using this
theorem TabAt.row {w : World} {b : Nat} {F : List Int} (h : TabAt w b F) (hF : F.length = 64) : rowOf w b 0 64 = uc F := by
  rw [rowOf_block h]
  have : (uc F).length = 64 := by rw [uc_len, hF]
  simp [List.take_of_length_le (Nat.le_of_eq this)]
theorem TabAt.new (w : World) (F : List Int) : TabAt (w.alloc (.cells (uc F).toArray 156)) w.heap.size F := heap_alloc_last w _
theorem TabAt.on {w w1 : World} {b : Nat} {F : List Int} (h : TabAt w b F) (hb : Below w.heap.size w w1) : TabAt w1 b F := by
  have : b < w.heap.size := (Array.getElem?_eq_some_iff.1 h).1
  unfold TabAt
  rw [hb.block _ this]; exact h

set_option maxHeartbeats 4000000 in
theorem Table_any (w : World) : Calls Tryd.prog 88 #[] w fun e w' => e = .returned (.tuple #[.agg #[.int .u32 1779033703, .int .u32 3144134277, .int .u32 1013904242, .int .u32 2773480762, .int .u32 1359893119, .int .u32 2600822924, .int .u32 528734635, .int .u32 1541459225], .agg (uc rootsZ).toArray]) ∧ Below w.heap.size w w' := by
  have hT := TabAt.new (w.alloc (.cells #[.int .u32 1779033703, .int .u32 3144134277, .int .u32 1013904242, .int .u32 2773480762, .int .u32 1359893119, .int .u32 2600822924, .int .u32 528734635, .int .u32 1541459225] 149)) zero64
  simp only [World.size_alloc] at hT
  have hth := hT.there zero64_len
  have hrow := (hT.put zero64_len rootsZ_len).row rootsZ_len
  have h8 : ((((w.alloc (.cells #[.int .u32 1779033703, .int .u32 3144134277, .int .u32 1013904242, .int .u32 2773480762, .int .u32 1359893119, .int .u32 2600822924, .int .u32 528734635, .int .u32 1541459225] 149)).alloc (.cells (uc zero64).toArray 156)).setCells (w.heap.size + 1) 0 (uc rootsZ))).heap[w.heap.size]? = some (.cells #[.int .u32 1779033703, .int .u32 3144134277, .int .u32 1013904242, .int .u32 2773480762, .int .u32 1359893119, .int .u32 2600822924, .int .u32 528734635, .int .u32 1541459225] 149 (0, 0)) := by
    rw [setCells_other (by omega), Below.heap_alloc _ _ _ (by simp)]
    exact heap_alloc_new w _
  have hb : Below w.heap.size w (((w.alloc (.cells #[.int .u32 1779033703, .int .u32 3144134277, .int .u32 1013904242, .int .u32 2773480762, .int .u32 1359893119, .int .u32 2600822924, .int .u32 528734635, .int .u32 1541459225] 149)).alloc (.cells (uc zero64).toArray 156)).setCells (w.heap.size + 1) 0 (uc rootsZ)) :=
    below_setCells' _ (by omega) _ _ (((Below.refl _ _).alloc (Nat.le_refl _) _).alloc (by simp) _)
  have HB := Lib.hid hb
  have H8 := Lib.hid h8
  have HR := Lib.hid hrow
  clear hT hrow h8 hb
  go_enter Tryd.func88, Tryd.ntmps88
  go_wp2_with fail
  have hrow := HR.out
  have h8 := H8.out
  clear hth HR H8
  generalize ((w.alloc (.cells #[.int .u32 1779033703, .int .u32 3144134277, .int .u32 1013904242, .int .u32 2773480762, .int .u32 1359893119, .int .u32 2600822924, .int .u32 528734635, .int .u32 1541459225] 149)).alloc (.cells (uc zero64).toArray 156)).setCells (w.heap.size + 1) 0 (uc rootsZ) = W at *
  have c0 := Joins.cell_of_block h8 0
  have c1 := Joins.cell_of_block h8 1
  have c2 := Joins.cell_of_block h8 2
  have c3 := Joins.cell_of_block h8 3
  have c4 := Joins.cell_of_block h8 4
  have c5 := Joins.cell_of_block h8 5
  have c6 := Joins.cell_of_block h8 6
  have c7 := Joins.cell_of_block h8 7
  simp only [List.getElem?_toArray, List.getElem?_cons_zero, List.getElem?_cons_succ] at c0 c1 c2 c3 c4 c5 c6 c7
  refine bodyPost_ret (v := .tuple #[.agg #[.int .u32 1779033703, .int .u32 3144134277, .int .u32 1013904242, .int .u32 2773480762, .int .u32 1359893119, .int .u32 2600822924, .int .u32 528734635, .int .u32 1541459225], .agg (uc rootsZ).toArray]) (by simp [results, Tryd.results88, go_sem, hrow, c0, c1, c2, c3, c4, c5, c6, c7]) rfl ⟨rfl, HB.out⟩

/-- What stands in memory within the document's sum. -/
structure RsSt (w wr : World) (S : St8) (g N : Nat) (xs : List Int) : Prop where
  below : Below w.heap.size w wr
  rs : RwK .u32 wr w.heap.size 8 149 (fun i => S.lst.getD i 0)
  rk : RwK .u32 wr (w.heap.size + 1) 64 156 rt
  rr : HashAt wr (w.heap.size + 1 + 1) zero32
  rp : RwK .u8 wr g N 5 (padF xs)
  hg : w.heap.size + 1 + 1 < g
theorem RsSt.on {w wr w1 : World} {S : St8} {g N : Nat} {xs : List Int} (h : RsSt w wr S g N xs) (hb : Below wr.heap.size wr w1) : RsSt w w1 S g N xs :=
  ⟨h.below.trans (hb.mono h.below.size), h.rs.on hb, h.rk.on hb, h.rr.on hb, h.rp.on hb, h.hg⟩
theorem RsSt.drew {w wr : World} {S : St8} {g N : Nat} {xs : List Int} (h : RsSt w wr S g N xs) : RsSt w wr.drew S g N xs := ⟨h.below.drew, h.rs, h.rk, h.rr, h.rp, h.hg⟩
theorem RsSt.put {w wr : World} {S : St8} {g N : Nat} {xs : List Int} (h : RsSt w wr S g N xs) (T : St8) :
    RsSt w ((((((((wr.setCell ⟨w.heap.size, 0, none⟩ (.int .u32 T.a)).setCell ⟨w.heap.size, 1, none⟩ (.int .u32 T.b)).setCell ⟨w.heap.size, 2, none⟩ (.int .u32 T.c)).setCell ⟨w.heap.size, 3, none⟩ (.int .u32 T.d)).setCell ⟨w.heap.size, 4, none⟩ (.int .u32 T.e)).setCell ⟨w.heap.size, 5, none⟩ (.int .u32 T.f)).setCell ⟨w.heap.size, 6, none⟩ (.int .u32 T.g)).setCell ⟨w.heap.size, 7, none⟩ (.int .u32 T.h)) T g N xs := by
  have hb := h.below
  have hr := h.rr
  have ht := h.rk
  have hp := h.rp
  have hg := h.hg
  refine ⟨?_, ?_, ?_, ?_, ?_, hg⟩
  · repeat (first | with_reducible exact hb | with_reducible refine Below.setCell ?_ (by simp) _)
  · refine ((((((((h.rs.store (j := 0) (by omega) T.a).store (j := 1) (by omega) T.b).store (j := 2) (by omega) T.c).store (j := 3) (by omega) T.d).store (j := 4) (by omega) T.e).store (j := 5) (by omega) T.f).store (j := 6) (by omega) T.g).store (j := 7) (by omega) T.h).same ?_
    intro i hi
    have e : i = 0 ∨ i = 1 ∨ i = 2 ∨ i = 3 ∨ i = 4 ∨ i = 5 ∨ i = 6 ∨ i = 7 := by omega
    rcases e with rfl | rfl | rfl | rfl | rfl | rfl | rfl | rfl <;> simp [updK, St8.lst]
  · repeat (first | with_reducible exact ht | with_reducible refine RwK.other ?_ (by simp) _)
  · repeat (first | with_reducible exact hr | with_reducible refine HashAt.other ?_ (by simp; omega) _)
  · repeat (first | with_reducible exact hp | with_reducible refine RwK.other ?_ (by simp; omega) _)
theorem RwK.hashL {w : World} {b : Nat} {F : List Int} (hF : F.length = 32) (h : RwK .u8 w b 32 44 (fun i => F.getD i 0)) : HashAt w b F := by
  have := h.block
  rw [show ((List.range 32).map fun i => Value.int .u8 (F.getD i 0)) = hc F from (list_ext_K (k := .u8) (by simp [hc, hF]) (fun i hi => by simp [hc, List.getD, hF, hi])).symm] at this
  exact this
theorem out_get (S : St8) {i : Nat} (h : i < 32) : S.out.getD i 0 = (be4 (S.lst.getD (i / 4) 0)).getD (i % 4) 0 := by
  have e : i = 0 ∨ i = 1 ∨ i = 2 ∨ i = 3 ∨ i = 4 ∨ i = 5 ∨ i = 6 ∨ i = 7 ∨ i = 8 ∨ i = 9 ∨ i = 10 ∨ i = 11 ∨ i = 12 ∨ i = 13 ∨ i = 14 ∨ i = 15 ∨ i = 16 ∨ i = 17 ∨ i = 18 ∨ i = 19 ∨ i = 20 ∨ i = 21 ∨ i = 22 ∨ i = 23 ∨ i = 24 ∨ i = 25 ∨ i = 26 ∨ i = 27 ∨ i = 28 ∨ i = 29 ∨ i = 30 ∨ i = 31 := by omega
  rcases e with rfl | rfl | rfl | rfl | rfl | rfl | rfl | rfl | rfl | rfl | rfl | rfl | rfl | rfl | rfl | rfl | rfl | rfl | rfl | rfl | rfl | rfl | rfl | rfl | rfl | rfl | rfl | rfl | rfl | rfl | rfl | rfl <;> rfl

set_option maxHeartbeats 8000000 in
theorem rsum_any {w : World} {v : Value} {xs : List Int} (hr : Rd w v xs) (hx : Bytes xs) (hl : xs.length ≤ 100000000000000) :
    Calls Tryd.prog 89 #[v, .agg #[.int .u32 1779033703, .int .u32 3144134277, .int .u32 1013904242, .int .u32 2773480762, .int .u32 1359893119, .int .u32 2600822924, .int .u32 528734635, .int .u32 1541459225], .agg (uc rootsZ).toArray] w fun e w' => e = .returned (.agg (hc (sha xs)).toArray) ∧ Below w.heap.size w w' := by
  have HX := Lib.hid hx
  have HR := Lib.hid hr
  clear hx hr
  go_enter Tryd.func89, Tryd.ntmps89
  go_wp2_with fail
  have hb0 : Below w.heap.size w (((w.alloc (.cells #[.int .u32 1779033703, .int .u32 3144134277, .int .u32 1013904242, .int .u32 2773480762, .int .u32 1359893119, .int .u32 2600822924, .int .u32 528734635, .int .u32 1541459225] 149)).alloc (.cells (uc rootsZ).toArray 156)).alloc (.cells (hc zero32).toArray 44)) := by
    exact (((Below.refl _ _).alloc (Nat.le_refl _) _).alloc (by simp) _).alloc (by simp; omega) _
  have hs0 : RwK .u32 (((w.alloc (.cells #[.int .u32 1779033703, .int .u32 3144134277, .int .u32 1013904242, .int .u32 2773480762, .int .u32 1359893119, .int .u32 2600822924, .int .u32 528734635, .int .u32 1541459225] 149)).alloc (.cells (uc rootsZ).toArray 156)).alloc (.cells (hc zero32).toArray 44)) w.heap.size 8 149 (fun i => iv.lst.getD i 0) :=
    ((RwK.newL .u32 w iv.lst 149).alloc _).alloc _
  have hk0 : RwK .u32 (((w.alloc (.cells #[.int .u32 1779033703, .int .u32 3144134277, .int .u32 1013904242, .int .u32 2773480762, .int .u32 1359893119, .int .u32 2600822924, .int .u32 528734635, .int .u32 1541459225] 149)).alloc (.cells (uc rootsZ).toArray 156)).alloc (.cells (hc zero32).toArray 44)) (w.heap.size + 1) 64 156 rt := by
    have := (RwK.newL .u32 (w.alloc (.cells #[.int .u32 1779033703, .int .u32 3144134277, .int .u32 1013904242, .int .u32 2773480762, .int .u32 1359893119, .int .u32 2600822924, .int .u32 528734635, .int .u32 1541459225] 149)) rootsZ 156).alloc (.cells (hc zero32).toArray 44)
    simp only [World.size_alloc] at this
    exact this
  have hr0 : HashAt (((w.alloc (.cells #[.int .u32 1779033703, .int .u32 3144134277, .int .u32 1013904242, .int .u32 2773480762, .int .u32 1359893119, .int .u32 2600822924, .int .u32 528734635, .int .u32 1541459225] 149)).alloc (.cells (uc rootsZ).toArray 156)).alloc (.cells (hc zero32).toArray 44)) (w.heap.size + 1 + 1) zero32 := by
    have := HashAt.new ((w.alloc (.cells #[.int .u32 1779033703, .int .u32 3144134277, .int .u32 1013904242, .int .u32 2773480762, .int .u32 1359893119, .int .u32 2600822924, .int .u32 528734635, .int .u32 1541459225] 149)).alloc (.cells (uc rootsZ).toArray 156)) zero32
    simp only [World.size_alloc] at this
    exact this
  refine (pad_any (HR.out.on hb0) hl).mono ?_
  rintro e w1 ⟨rfl, hp1, hb1⟩
  simp only [World.size_alloc] at hp1
  have HM : Hid (RsSt w w1 iv (w.heap.size + 1 + 1 + 1) (64 * nbk xs.length) xs) := ⟨hb0.trans (hb1.mono (by simp; omega)), hs0.on hb1, hk0.on hb1, hr0.on hb1, hp1, by omega⟩
  simp only [World.size_alloc]
  clear hb0 hs0 hk0 hr0 hp1 hb1 HR
  have hnb : 64 * nbk xs.length ≤ 100000000000073 := by have := padlen xs.length; omega
  obtain ⟨M, hM⟩ : ∃ M, nbk xs.length = M := ⟨_, rfl⟩
  have HSH : Hid (sha xs = (shaSt xs M).out) := by unfold sha; rw [hM]; exact rfl
  rw [hM] at HM hnb ⊢
  clear hM
  go_wp2_with fail
  go_loopw [8] (fun iv wr => ∃ i : Nat, iv = .int .i64 (64 * (i : Int)) ∧ i ≤ M ∧ Hid (RsSt w wr (shaSt xs i) (w.heap.size + 1 + 1 + 1) (64 * M) xs)) (fun iv _ => 64 * M - (intOf iv).toNat)
  case atStart => exact ⟨0, by simp, by omega, HM⟩
  case round =>
    clear HM
    obtain ⟨i, rfl, hi, hm⟩ := hrel
    by_cases hlt : i < M
    · have hle : 64 * i + 64 ≤ 64 * M := by omega
      have e1 : (64 * (i : Int)).toNat = 64 * i := by omega
      have e2 : (64 * (i : Int) + 64).toNat = 64 * i + 64 := by omega
      have k2 : IntKind.i64.wrap (64 * (i : Int) + 64) = 64 * (i : Int) + 64 := IntWalk.i64_in _ (by omega)
      have p0 : (0 : Int) ≤ 64 * (i : Int) := by omega
      have p1 : 64 * (i : Int) + 64 ≤ 64 * (M : Int) := by omega
      have p2 : 64 * (i : Int) ≤ 64 * (i : Int) + 64 := by omega
      have p3 : ¬ 64 * M = 64 * i := by omega
      have p4 : (0 : Int) ≤ (i : Int) := by omega
      have p5 : (i : Int) + 1 ≤ (M : Int) := by omega
      have p6 : ¬ M = i := by omega
      go_wp2_with fail
      refine wp_region_held_drew (S := fun _ => True) (by kernel_rfl) (trivial) (fun h0 => ?_)
      refine wpAnyH_take (i := 1) (v := ?_) (by rw [List.getElem?_toArray]; rfl) (by kernel_rfl) (by kernel_rfl) (by kernel_rfl) (by exact fun _ _ _ h => h) (Or.inl ⟨by rfl, ?_⟩) h0 ?_
      rotate_left
      · intro W hW
        go_simp
        all_goals with_reducible rfl
      try simp only [Act.put, List.setIfInBounds_toArray, List.set_cons_zero, List.set_cons_succ]
      refine wpAnyH_take (i := 2) (v := ?_) (by rw [List.getElem?_toArray]; rfl) (by kernel_rfl) (by kernel_rfl) (by kernel_rfl) (by exact fun _ _ _ h => h) (Or.inl ⟨by rfl, ?_⟩) h0 ?_
      rotate_left
      · intro W hW
        go_simp
        all_goals with_reducible rfl
      try simp only [Act.put, List.setIfInBounds_toArray, List.set_cons_zero, List.set_cons_succ]
      refine wpAnyH_take (i := 3) (v := ?_) (by rw [List.getElem?_toArray]; rfl) (by kernel_rfl) (by kernel_rfl) (by kernel_rfl) (by exact fun _ _ _ h => h) (Or.inl ⟨by rfl, ?_⟩) h0 ?_
      rotate_left
      · intro W hW
        go_simp
        all_goals with_reducible rfl
      try simp only [Act.put, List.setIfInBounds_toArray, List.set_cons_zero, List.set_cons_succ]
      refine wpAnyH_take (i := 4) (v := ?_) (by rw [List.getElem?_toArray]; rfl) (by kernel_rfl) (by kernel_rfl) (by kernel_rfl) (by exact fun _ _ _ h => h) (Or.inl ⟨by rfl, ?_⟩) h0 ?_
      rotate_left
      · intro W hW
        go_simp
        all_goals with_reducible rfl
      try simp only [Act.put, List.setIfInBounds_toArray, List.set_cons_zero, List.set_cons_succ]
      refine wpAnyH_take (i := 5) (v := ?_) (by rw [List.getElem?_toArray]; rfl) (by kernel_rfl) (by kernel_rfl) (by kernel_rfl) (by exact fun _ _ _ h => h) (Or.inl ⟨by rfl, ?_⟩) h0 ?_
      rotate_left
      · intro W hW
        go_simp
        all_goals with_reducible rfl
      try simp only [Act.put, List.setIfInBounds_toArray, List.set_cons_zero, List.set_cons_succ]
      refine wpAnyH_ready (rs := [0]) (by kernel_rfl) (by simp) ?_
      refine AllReadyH.cons (by rw [List.getElem?_toArray]; rfl) (fun K hK => ?_) AllReadyH.nil
      rw [if_pos (by rfl)]
      have s0 := hm.out.rs.cell 0 (by omega)
      have s1 := hm.out.rs.cell 1 (by omega)
      have s2 := hm.out.rs.cell 2 (by omega)
      have s3 := hm.out.rs.cell 3 (by omega)
      have s4 := hm.out.rs.cell 4 (by omega)
      have s5 := hm.out.rs.cell 5 (by omega)
      have s6 := hm.out.rs.cell 6 (by omega)
      have s7 := hm.out.rs.cell 7 (by omega)
      simp only [St8.lst, List.getD_cons_zero, List.getD_cons_succ] at s0 s1 s2 s3 s4 s5 s6 s7
      go_wp2_with fail
      clear s0 s1 s2 s3 s4 s5 s6 s7
      refine hK.out _ _ (trivial) (fun hx0 => ?_)
      clear hK K
      try simp only [Act.put, List.setIfInBounds_toArray, List.set_cons_zero, List.set_cons_succ]
      refine wpAnyH_ready (rs := [6]) (by kernel_rfl) (by simp) ?_
      refine AllReadyH.cons (by rw [List.getElem?_toArray]; rfl) (fun K hK => ?_) AllReadyH.nil
      rw [if_pos (by rfl)]
      have KB := Lib.hid (block_any (w := wr.drew) (S := shaSt xs i) (shaSt_ok xs i) (b := w.heap.size + 1 + 1 + 1) (off := 64 * i) (n := 64) (c := 64 * M - 64 * i) (kb := w.heap.size + 1) (B := blkF xs i) (by omega) (fun j hj => by rw [hm.out.drew.rp.cell (64 * i + j) (by omega)]; rfl) (fun j hj => padF_bytes HX.out _) (fun j hj => hm.out.drew.rk.cell j hj))
      go_wp2_with fail
      refine KB.out.mono ?_
      rintro e w3 ⟨rfl, hb3⟩
      have hm3 := hm.out.drew.on hb3
      have HP := Lib.hid (hm3.put (shaSt xs (i + 1)))
      have HM3 := Lib.hid hm3
      go_wp2_with fail
      refine hK.out _ _ (trivial) (fun hx6 => ?_)
      clear hK K
      try simp only [Act.put, List.setIfInBounds_toArray, List.set_cons_zero, List.set_cons_succ]
      clear KB hb3 hm3
      refine wpAnyH_ready (rs := [7]) (by kernel_rfl) (by simp) ?_
      refine AllReadyH.cons (by rw [List.getElem?_toArray]; rfl) (fun K hK => ?_) AllReadyH.nil
      rw [if_pos (by rfl)]
      have s0 := HM3.out.rs.cell 0 (by omega)
      have s1 := HM3.out.rs.cell 1 (by omega)
      have s2 := HM3.out.rs.cell 2 (by omega)
      have s3 := HM3.out.rs.cell 3 (by omega)
      have s4 := HM3.out.rs.cell 4 (by omega)
      have s5 := HM3.out.rs.cell 5 (by omega)
      have s6 := HM3.out.rs.cell 6 (by omega)
      have s7 := HM3.out.rs.cell 7 (by omega)
      simp only [St8.lst, List.getD_cons_zero, List.getD_cons_succ] at s0 s1 s2 s3 s4 s5 s6 s7
      have f0 := HM3.out.rs.free 0
      have f1 := HM3.out.rs.free 1
      have f2 := HM3.out.rs.free 2
      have f3 := HM3.out.rs.free 3
      have f4 := HM3.out.rs.free 4
      have f5 := HM3.out.rs.free 5
      have f6 := HM3.out.rs.free 6
      have f7 := HM3.out.rs.free 7
      rw [show (shaSt xs i).mix (blkF xs i) = shaSt xs (i + 1) from rfl]
      obtain ⟨T8, hT8⟩ : ∃ T : St8, shaSt xs (i + 1) = T := ⟨_, rfl⟩
      rw [hT8] at HP ⊢
      have HT8 := Lib.hid hT8
      clear hT8
      go_wp2_with fail
      refine hK.out _ _ (trivial) (fun hx7 => ?_)
      clear hK K
      try simp only [Act.put, List.setIfInBounds_toArray, List.set_cons_zero, List.set_cons_succ]
      refine wpAnyH_done (by kernel_rfl) ?_ _
      go_wp2_with fail
      go_roundw
      case rel => exact ⟨i + 1, by go_num, by omega, by rw [HT8.out]; exact HP⟩
      case measure => simp [intOf]; omega
    · obtain rfl : i = M := by omega
      have HM := hm
      have s0 := hm.out.rs.cell 0 (by omega)
      have s1 := hm.out.rs.cell 1 (by omega)
      have s2 := hm.out.rs.cell 2 (by omega)
      have s3 := hm.out.rs.cell 3 (by omega)
      have s4 := hm.out.rs.cell 4 (by omega)
      have s5 := hm.out.rs.cell 5 (by omega)
      have s6 := hm.out.rs.cell 6 (by omega)
      have s7 := hm.out.rs.cell 7 (by omega)
      simp only [St8.lst, List.getD_cons_zero, List.getD_cons_succ] at s0 s1 s2 s3 s4 s5 s6 s7
      have hz1 := hm.out.rs.lt
      have hz2 := hm.out.rr.lt
      clear hm
      generalize hS : shaSt xs i = S at *
      clear hS
      have hr0 : RwK .u8 (wr.alloc (.cells (hc zero32).toArray 44)) wr.heap.size 32 44 (fun i => zero32.getD i 0) := RwK.newL .u8 wr zero32 44
      have HW : Hid (∃ f, RwK .u8 (wr.alloc (.cells (hc zero32).toArray 44)) wr.heap.size 32 44 f ∧ Below wr.heap.size wr (wr.alloc (.cells (hc zero32).toArray 44)) ∧ ∀ j, j < 0 → f j = S.out.getD j 0) := ⟨_, hr0, (Below.refl _ _).alloc (Nat.le_refl _) _, fun j hj => by omega⟩
      have HM2 := Lib.hid HM.out
      obtain ⟨w0, rfl⟩ : ∃ w0 : World, w0 = wr := ⟨_, rfl⟩
      clear hr0 s0 s1 s2 s3 s4 s5 s6 s7
      go_wp2_with fail
      go_loopw [10] (fun iv wr => ∃ i : Nat, iv = .int .i64 i ∧ i ≤ 32 ∧ Hid (∃ f, RwK .u8 wr w0.heap.size 32 44 f ∧ Below w0.heap.size w0 wr ∧ ∀ j, j < i → f j = S.out.getD j 0)) (fun iv _ => 32 - (intOf iv).toNat)
      case atStart => exact ⟨0, rfl, by omega, HW⟩
      case round =>
        clear HW
        obtain ⟨k, rfl, hk, hW⟩ := hrel
        by_cases hlk : k < 32
        · obtain ⟨f, hf1, hf2, hf3⟩ := hW.out
          have cs : wr.cell? ⟨w.heap.size, k / 4, none⟩ = some (.int .u32 (S.lst.getD (k / 4) 0)) := (HM2.out.rs.on hf2).cell (k / 4) (by omega)
          have cf := hf1.cell k hlk
          have ff := hf1.free k
          have HN : Hid (∀ v, v = S.out.getD k 0 → ∃ f, RwK .u8 (wr.setCell ⟨w0.heap.size, k, none⟩ (.int .u8 v)) w0.heap.size 32 44 f ∧ Below w0.heap.size w0 (wr.setCell ⟨w0.heap.size, k, none⟩ (.int .u8 v)) ∧ ∀ j, j < k + 1 → f j = S.out.getD j 0) := by
            intro v hv
            refine ⟨_, hf1.store hlk v, hf2.setCell (Nat.le_refl _) _, fun j hj => ?_⟩
            by_cases e : j = k
            · subst e; rw [updK_same, hv]
            · rw [updK_ne _ _ e]; exact hf3 j (by omega)
          have HG := Lib.hid (out_get S hlk)
          clear hW hf1 hf2 hf3
          have ed : ((k : Int) / 4).toNat = k / 4 := by omega
          have d0 : (0 : Int) ≤ (k : Int) / 4 := by omega
          have d8 : (k : Int) / 4 < 8 := by omega
          obtain ⟨m, hm4⟩ : ∃ m : Nat, k % 4 = m := ⟨_, rfl⟩
          have hm3 : m = 0 ∨ m = 1 ∨ m = 2 ∨ m = 3 := by omega
          rw [hm4] at HG
          generalize S.lst.getD (k / 4) 0 = x at cs HG
          rcases hm3 with rfl | rfl | rfl | rfl
          all_goals
            have hmI : (k : Int) % 4 = ((k % 4 : Nat) : Int) := by omega
            rw [hm4] at hmI
            clear hm4
            go_wp2_with fail
            exact ⟨⟨k + 1, by go_num, by omega, Lib.hid (HN.out _ (by rw [HG.out]; rfl))⟩, by simp [intOf]; omega⟩
        · obtain rfl : k = 32 := by omega
          obtain ⟨f, hf1, hf2, hf3⟩ := hW.out
          have hF : HashAt wr w0.heap.size S.out := RwK.hashL rfl (hf1.same hf3)
          have hS32 : S.out.length = 32 := rfl
          have hrow := hF.row hS32
          have hm8 := HM2.out.on hf2
          have hth := hm8.rr.there zero32_len
          have hput := (hm8.rr.put zero32_len hS32).row hS32
          have HB := Lib.hid (below_setCells' (B := w.heap.size) (w.heap.size + 1 + 1) (by omega) (hc S.out) 0 hm8.below)
          clear hF hm8 hW hf1 hf2 hf3
          go_wp2_with fail
          refine bodyPost_ret (v := .agg (hc S.out).toArray) (by simp [results, Tryd.results89, go_sem, hput, hS32]) rfl ⟨by rw [HSH.out], HB.out⟩

end Go.Proofs.YtcpoaalhpjipaaaDoor
namespace Go.Proofs.YtcpoaalhpjipaaaDoor
open Go.RowKit
set_option maxRecDepth 100000

set_option maxHeartbeats 4000000 in
theorem refSum_any {w : World} {v : Value} {xs : List Int} (hr : Rd w v xs) (hx : Bytes xs) (hl : xs.length ≤ 100000000000000) :
    Calls Tryd.prog 69 #[v] w fun e w' => e = .returned (.agg (hc (sha xs)).toArray) ∧ Below w.heap.size w w' := by
  have HR := Lib.hid hr
  have HX := Lib.hid hx
  have H0 := Lib.hid (HashAt.new w zero32)
  have B0 := Lib.hid ((Below.refl w.heap.size w).alloc (Nat.le_refl _) (.cells (hc zero32).toArray 44))
  clear hr hx
  go_enter Tryd.func69, Tryd.ntmps69
  go_wp2_with fail
  refine (Table_any _).mono ?_
  rintro e w1 ⟨rfl, hb1⟩
  have H1 := Lib.hid (H0.out.on hb1)
  have B1 := Lib.hid (B0.out.trans (hb1.mono B0.out.size))
  clear hb1 H0 B0
  have hTn := TabAt.new (w1.alloc (.cells #[.int .u32 1779033703, .int .u32 3144134277, .int .u32 1013904242, .int .u32 2773480762, .int .u32 1359893119, .int .u32 2600822924, .int .u32 528734635, .int .u32 1541459225] 149)) zero64
  simp only [World.size_alloc] at hTn
  have hth := hTn.there zero64_len
  have hrow := (hTn.put zero64_len rootsZ_len).row rootsZ_len
  have h8 : ((((w1.alloc (.cells #[.int .u32 1779033703, .int .u32 3144134277, .int .u32 1013904242, .int .u32 2773480762, .int .u32 1359893119, .int .u32 2600822924, .int .u32 528734635, .int .u32 1541459225] 149)).alloc (.cells (uc zero64).toArray 156)).setCells (w1.heap.size + 1) 0 (uc rootsZ))).heap[w1.heap.size]? = some (.cells #[.int .u32 1779033703, .int .u32 3144134277, .int .u32 1013904242, .int .u32 2773480762, .int .u32 1359893119, .int .u32 2600822924, .int .u32 528734635, .int .u32 1541459225] 149 (0, 0)) := by
    rw [setCells_other (by omega), Below.heap_alloc _ _ _ (by simp)]
    exact heap_alloc_new w1 _
  have hb2 : Below w1.heap.size w1 (((w1.alloc (.cells #[.int .u32 1779033703, .int .u32 3144134277, .int .u32 1013904242, .int .u32 2773480762, .int .u32 1359893119, .int .u32 2600822924, .int .u32 528734635, .int .u32 1541459225] 149)).alloc (.cells (uc zero64).toArray 156)).setCells (w1.heap.size + 1) 0 (uc rootsZ)) :=
    below_setCells' _ (by omega) _ _ (((Below.refl _ _).alloc (Nat.le_refl _) _).alloc (by simp) _)
  have H2 := Lib.hid (H1.out.on hb2)
  have B2 := Lib.hid (B1.out.trans (hb2.mono B1.out.size))
  have c0 := Joins.cell_of_block h8 0
  have c1 := Joins.cell_of_block h8 1
  have c2 := Joins.cell_of_block h8 2
  have c3 := Joins.cell_of_block h8 3
  have c4 := Joins.cell_of_block h8 4
  have c5 := Joins.cell_of_block h8 5
  have c6 := Joins.cell_of_block h8 6
  have c7 := Joins.cell_of_block h8 7
  simp only [List.getElem?_toArray, List.getElem?_cons_zero, List.getElem?_cons_succ] at c0 c1 c2 c3 c4 c5 c6 c7
  have KS := Lib.hid (rsum_any (HR.out.on B2.out) HX.out hl)
  clear hTn hb2 H1 B1 h8
  go_wp2_with fail
  refine KS.out.mono ?_
  rintro e w3 ⟨rfl, hb3⟩
  have H3 := H2.out.on hb3
  have B3 := B2.out.trans (hb3.mono B2.out.size)
  have hth3 := H3.there zero32_len
  have hlen := sha_len xs
  have hput := (H3.put zero32_len hlen).row hlen
  have HB := Lib.hid (below_setCells' (B := w.heap.size) w.heap.size (Nat.le_refl _) (hc (sha xs)) 0 B3)
  generalize hF : sha xs = F at *
  have HF := Lib.hid hF
  clear hF
  clear hb3 H3 B3 KS H2 B2 hth hrow c0 c1 c2 c3 c4 c5 c6 c7
  go_wp2_with fail
  refine bodyPost_ret (v := .agg (hc F).toArray) (by simp [results, Tryd.results69, go_sem, hput, hlen]) rfl ⟨by rw [HF.out], HB.out⟩
end Go.Proofs.YtcpoaalhpjipaaaDoor
namespace Go.Proofs.YtcpoaalhpjipaaaDoor
open Go.RowKit
set_option maxRecDepth 100000

set_option maxHeartbeats 4000000 in
theorem Tagged_any {w : World} {s t : ByteArray} {v : Value} {L : List (List Int)} (hL : RdL w v L []) (hT : Tbl w) (hs : s.size ≤ maxLen) (hst : cut255 s = t) (hn : (frm (sn t) L).length ≤ 140737488355328) (hx : Bytes (frm (sn t) L)) :
    Calls Tryd.prog 40 #[.string s, v] w fun e w' => e = .returned (.agg (hc (sha (frm (sn t) L))).toArray) ∧ Below w.heap.size w w' := by
  have H0 := Lib.hid (HashAt.new w zero32)
  have B0 := Lib.hid ((Below.refl w.heap.size w).alloc (Nat.le_refl _) (.cells (hc zero32).toArray 44))
  have KF := Lib.hid (Frame_cut (hL.chg (Chg.below B0.out (Nat.le_refl _) [])) hs hst hn)
  have HX := Lib.hid hx
  clear hL hx
  go_enter Tryd.func40, Tryd.ntmps40
  go_wp2_with fail
  refine KF.out.mono ?_
  rintro e w1 ⟨rfl, hr1, hb1⟩
  simp only [World.size_alloc] at hr1
  have H1 := Lib.hid (H0.out.on hb1)
  have B1 := Lib.hid (B0.out.trans (hb1.mono B0.out.size))
  have KS := Lib.hid (Sum_any (rdc_of_rw hr1) HX.out (hT.on B1.out hT.pos))
  clear hr1
  clear KF H0 hn hs hst HX hT
  generalize hX : frm (sn t) L = X at *
  have HXX := Lib.hid hX
  clear hX
  go_wp2_with fail
  refine KS.out.mono ?_
  rintro e w3 ⟨rfl, hb3⟩
  have H3 := H1.out.on hb3
  have B3 := B1.out.trans (hb3.mono B1.out.size)
  have hth3 := H3.there zero32_len
  have hlen := sha_len X
  have hput := (H3.put zero32_len hlen).row hlen
  have HB := Lib.hid (below_setCells' (B := w.heap.size) w.heap.size (Nat.le_refl _) (hc (sha X)) 0 B3)
  generalize hF : sha X = F at *
  have HF := Lib.hid hF
  clear hF
  clear hb3 H3 B3 KS H1 B1 hb1
  go_wp2_with fail
  refine bodyPost_ret (v := .agg (hc F).toArray) (by simp [results, Tryd.results40, go_sem, hput, hlen]) rfl ⟨by rw [HXX.out, HF.out], HB.out⟩

set_option maxHeartbeats 4000000 in
theorem refTagged_any {w : World} {s t : ByteArray} {v : Value} {L : List (List Int)} (hL : RdL w v L []) (hs : s.size ≤ maxLen) (hst : cut255 s = t) (hn : (frm (sn t) L).length ≤ 100000000000000) (hx : Bytes (frm (sn t) L)) :
    Calls Tryd.prog 41 #[.string s, v] w fun e w' => e = .returned (.agg (hc (sha (frm (sn t) L))).toArray) ∧ Below w.heap.size w w' := by
  have H0 := Lib.hid (HashAt.new w zero32)
  have B0 := Lib.hid ((Below.refl w.heap.size w).alloc (Nat.le_refl _) (.cells (hc zero32).toArray 44))
  have KF := Lib.hid (refFrame_any (hL.chg (Chg.below B0.out (Nat.le_refl _) [])) hs hst hn)
  have HX := Lib.hid hx
  clear hL hx
  go_enter Tryd.func41, Tryd.ntmps41
  go_wp2_with fail
  refine KF.out.mono ?_
  rintro e w1 ⟨q, n, c, rfl, hf1⟩
  have hb1 := hf1.below
  have H1 := Lib.hid (H0.out.on hb1)
  have B1 := Lib.hid (B0.out.trans (hb1.mono B0.out.size))
  have KS := Lib.hid (refSum_any hf1.rd HX.out hn)
  clear hf1
  clear KF H0 hn hs hst HX
  generalize hX : frm (sn t) L = X at *
  have HXX := Lib.hid hX
  clear hX
  go_wp2_with fail
  refine KS.out.mono ?_
  rintro e w3 ⟨rfl, hb3⟩
  have H3 := H1.out.on hb3
  have B3 := B1.out.trans (hb3.mono B1.out.size)
  have hth3 := H3.there zero32_len
  have hlen := sha_len X
  have hput := (H3.put zero32_len hlen).row hlen
  have HB := Lib.hid (below_setCells' (B := w.heap.size) w.heap.size (Nat.le_refl _) (hc (sha X)) 0 B3)
  generalize hF : sha X = F at *
  have HF := Lib.hid hF
  clear hF
  clear hb3 H3 B3 KS H1 B1 hb1
  go_wp2_with fail
  refine bodyPost_ret (v := .agg (hc F).toArray) (by simp [results, Tryd.results41, go_sem, hput, hlen]) rfl ⟨by rw [HXX.out, HF.out], HB.out⟩
end Go.Proofs.YtcpoaalhpjipaaaDoor
