/-
  The proof of a place, of the document.; Constant strings as rows; Long; the proof of no place.; What stands in the law's knows, reckoned.
-/
import Derived.Test.YtebeacejlkiglaaDoorMa11
namespace Go.Proofs.YtebeacejlkiglaaDoor
set_option maxRecDepth 100000
open Go.RowKit

set_option maxHeartbeats 16000000 in
theorem refProve_yes {w : World} {v : Value} {L : List (List Int)} {p0 : Nat} (hp : p0 < L.length) (hL : RdL w v L []) (bL : ∀ b ∈ L, Bytes b) (hn : L.length ≤ 65536) (hx : ∀ i, (L.getD i []).length ≤ 1000000) :
    Calls Tryd.prog 11 #[.int .i64 p0, v] w fun e w' => ∃ q k, e = .returned (.tuple #[.agg #[.int .i64 p0, .int .i64 L.length, .slice q (pth 17 p0 (lvN L L.length)).length k], .int .i64 0]) ∧ HsS w w' (.slice q (pth 17 p0 (lvN L L.length)).length k) (pth 17 p0 (lvN L L.length)) := by
  obtain ⟨i0, hi, hz0, hz1, hz2⟩ := info_parts Tryd.infoHs
  replace hi := Lib.hid hi
  replace hz0 := Lib.hid hz0
  replace hz1 := Lib.hid hz1
  replace hz2 := Lib.hid hz2
  obtain ⟨q, c, rfl⟩ : ∃ q c, v = .slice q L.length c := by obtain ⟨q, c, e, _⟩ := hL; exact ⟨q, c, e⟩
  have h1 := heap_alloc_new w (.cells #[.int .i64 0, .int .i64 0, .slice none 0 0] 32)
  have h2 := heap_alloc_new (w.alloc (.cells #[.int .i64 0, .int .i64 0, .slice none 0 0] 32)) (.cells #[.int .i64 p0, .int .i64 L.length, .slice none 0 0] 32)
  rw [show (w.alloc (.cells #[.int .i64 0, .int .i64 0, .slice none 0 0] 32)).heap.size = w.heap.size + 1 by simp] at h2
  have b1 : Below w.heap.size w (w.alloc (.cells #[.int .i64 0, .int .i64 0, .slice none 0 0] 32)) := (Below.refl _ _).alloc (Nat.le_refl _) _
  have b2 : Below (w.alloc (.cells #[.int .i64 0, .int .i64 0, .slice none 0 0] 32)).heap.size (w.alloc (.cells #[.int .i64 0, .int .i64 0, .slice none 0 0] 32)) ((w.alloc (.cells #[.int .i64 0, .int .i64 0, .slice none 0 0] 32)).alloc (.cells #[.int .i64 p0, .int .i64 L.length, .slice none 0 0] 32)) := (Below.refl _ _).alloc (Nat.le_refl _) _
  have B0 := b1.trans (b2.mono b1.size)
  have S0 : Hid (PvS w ((w.alloc (.cells #[.int .i64 0, .int .i64 0, .slice none 0 0] 32)).alloc (.cells #[.int .i64 p0, .int .i64 L.length, .slice none 0 0] 32)) 32 (w.heap.size + 1) p0 L.length (.slice none 0 0) [] none []) := Lib.hid ⟨blk_onB2 h1 b2, h2, (HsS.start w).on B0, .inl rfl, HsOk.nil, fun h => absurd rfl h⟩
  have KI := Lib.hid (refFirst_any (w := ((w.alloc (.cells #[.int .i64 0, .int .i64 0, .slice none 0 0] 32)).alloc (.cells #[.int .i64 p0, .int .i64 L.length, .slice none 0 0] 32))) (hL.chg (Chg.below B0 (Nat.le_refl _) [])) bL hn hx)
  obtain ⟨Z, hZ⟩ : ∃ Z, pth 17 p0 (lvN L L.length) = Z := ⟨_, rfl⟩
  rw [hZ]
  have HZ := Lib.hid hZ
  have hpI : ¬ (L.length : Int) ≤ (p0 : Int) := by omega
  have hpI2 : ¬ L.length ≤ p0 := by omega
  clear hL bL hx h1 h2 b1 b2 B0 hZ
  go_enter Tryd.func11, Tryd.ntmps11
  go_wp2_with fail
  generalize ((w.alloc (.cells #[.int .i64 0, .int .i64 0, .slice none 0 0] 32)).alloc (.cells #[.int .i64 p0, .int .i64 L.length, .slice none 0 0] 32)) = W0 at *
  refine KI.out.mono ?_
  rintro e w1 ⟨q1, k1, rfl, hr1, hb1, hq1⟩
  have LV := lvN_len L L.length
  have S1 := Lib.hid (S0.out.on hb1 hr1 (lvN_ok L L.length) hq1)
  clear hr1 hb1 hq1 KI S0 hpI hpI2
  go_wp2_with fail
  go_loopw [7, 8] (fun lv pv wr => ∃ (p f : Nat) (q2 : Option Addr) (k2 : Nat) (Ss acc : List (List Int)) (qa : Option Addr) (na ca : Nat), pv = .int .i64 p ∧ lv = .slice q2 Ss.length k2 ∧ p < Ss.length ∧ Ss.length ≤ 65536 ∧ na ≤ 17 ∧ Hid (na = acc.length) ∧ Hid (acc ++ pth f p Ss = Z ∧ Ss.length ≤ 2 ^ f ∧ acc.length + f ≤ 17) ∧ Hid (PvS w wr 32 (w.heap.size + 1) p0 L.length (.slice qa na ca) acc q2 Ss)) (fun lv _ _ => match lv with | .slice _ n _ => n | _ => 0)
  case atStart => exact ⟨p0, 17, _, _, lvN L L.length, [], none, 0, 0, rfl, by rw [LV], by rw [LV]; exact hp, by rw [LV]; exact hn, by omega, Lib.hid rfl, Lib.hid ⟨HZ.out, by rw [LV]; omega, by simp⟩, S1⟩
  case round =>
    clear S1 LV
    obtain ⟨p, f, q2, k2, Ss, acc, qa, na, ca, rfl, rfl, hps, hS6, hna, HNA, hR, hS⟩ := hrel
    by_cases hlt : 1 < Ss.length
    · cases f with
      | zero => exfalso; have := hR.out.2.1; simp at this; omega
      | succ f =>
        obtain ⟨e1, e2, e3⟩ := hR.out
        unfold pth at e1
        rw [if_neg (by omega)] at e1
        rw [Nat.pow_succ] at e2
        have hna16 : na ≤ 16 := by have := HNA.out; omega
        have HUL := Lib.hid (upL_len Ss)
        rcases Nat.mod_two_eq_zero_or_one p with hpm | hpm
        · have eb : bes p = p + 1 := by unfold bes; rw [if_neg (by omega)]
          rw [eb] at e1
          have hp2 : (p : Int) % 2 = 0 := by omega
          by_cases hb : p + 1 < Ss.length
          · rw [if_pos hb] at e1
            have hbI : (p : Int) + 1 < (Ss.length : Int) := by omega
            have g0 : (0 : Int) ≤ (p : Int) + 1 := by omega
            have t0 : ((p : Int) + 1).toNat = p + 1 := by omega
            obtain ⟨b, off, rfl, hx'⟩ := hS.out.rd.resolve_left (fun e => by rw [e] at hlt; simp at hlt)
            have r1 := hx' ((p + 1)) (by omega)
            obtain ⟨lA, bA⟩ := hS.out.ok.get ((p + 1)) (by omega)
            clear hx'
            obtain ⟨A, hA⟩ : ∃ A, Ss.getD ((p + 1)) [] = A := ⟨_, rfl⟩
            rw [hA] at r1 lA bA e1
            have HAe := Lib.hid hA
            have lcA := hc_len A
            have HZN : Hid ((acc ++ [A]) ++ pth f (p / 2) (upL Ss) = Z ∧ (upL Ss).length ≤ 2 ^ f ∧ (acc ++ [A]).length + f ≤ 17) := Lib.hid ⟨by rw [List.append_assoc]; exact e1, by rw [upL_len]; omega, by rw [List.length_append, List.length_singleton]; omega⟩
            have HNL : Hid (na + 1 = (acc ++ [A]).length) := by show _ = _; rw [List.length_append, List.length_singleton, ← HNA.out]
            clear hA e1 e2 e3 hR
            have c2 := (Joins.cell_of_block hS.out.blk 2).trans (rfl : _ = some _)
            go_wp2_with fail
            refine wp_region_held_drew (S := fun W => rowOf W b (off + (p + 1) * 32) 32 = hc A) (by kernel_rfl) (r1) (fun h0 => ?_)
            refine wpAnyH_take (i := 0) (v := ?_) (by rw [List.getElem?_toArray]; rfl) (by kernel_rfl) (by kernel_rfl) (by kernel_rfl) (by exact fun _ _ _ h => h) (Or.inl ⟨by rfl, ?_⟩) h0 ?_
            rotate_left
            · intro W hW
              go_simp
              all_goals with_reducible rfl
            try simp only [Act.put, List.setIfInBounds_toArray, List.set_cons_zero, List.set_cons_succ]
            refine wpAnyH_take (i := 2) (v := ?_) (by rw [List.getElem?_toArray]; rfl) (by kernel_rfl) (by kernel_rfl) (by kernel_rfl) (by exact fun _ _ _ h => h) (Or.inl ⟨by rfl, ?_⟩) h0 ?_
            rotate_left
            · intro W hW
              go_simp
              all_goals with_reducible rfl
            try simp only [Act.put, List.setIfInBounds_toArray, List.set_cons_zero, List.set_cons_succ]
            refine wpAnyH_take (i := 3) (v := ?_) (by rw [List.getElem?_toArray]; rfl) (by kernel_rfl) (by kernel_rfl) (by kernel_rfl) (by exact fun _ _ _ h => h) (Or.inl ⟨by rfl, ?_⟩) h0 ?_
            rotate_left
            · intro W hW
              go_simp
              all_goals with_reducible rfl
            try simp only [Act.put, List.setIfInBounds_toArray, List.set_cons_zero, List.set_cons_succ]
            refine wpAnyH_take (i := 4) (v := ?_) (by rw [List.getElem?_toArray]; rfl) (by kernel_rfl) (by kernel_rfl) (by kernel_rfl) (by exact fun _ _ _ h => h) (Or.inl ⟨by rfl, ?_⟩) h0 ?_
            rotate_left
            · intro W hW
              go_simp
              all_goals with_reducible rfl
            try simp only [Act.put, List.setIfInBounds_toArray, List.set_cons_zero, List.set_cons_succ]
            refine wpAnyH_take (i := 5) (v := ?_) (by rw [List.getElem?_toArray]; rfl) (by kernel_rfl) (by kernel_rfl) (by kernel_rfl) (by exact fun _ _ _ h => h) (Or.inl ⟨by rfl, ?_⟩) h0 ?_
            rotate_left
            · intro W hW
              have cc := hW
              go_simp
              all_goals with_reducible rfl
            try simp only [Act.put, List.setIfInBounds_toArray, List.set_cons_zero, List.set_cons_succ]
            refine wpAnyH_ready (rs := [1, 6]) (by kernel_rfl) (by simp) ?_
            refine AllReadyH.cons (by rw [List.getElem?_toArray]; rfl) (fun K hK => ?_) (AllReadyH.cons (by rw [List.getElem?_toArray]; rfl) (fun K hK => ?_) AllReadyH.nil)
            · rw [if_pos (by rfl)]
              go_wp2_with fail
              refine hK.out _ _ (h0) (fun h1 => ?_)
              clear hK K
              try simp only [Act.put, List.setIfInBounds_toArray, List.set_cons_zero, List.set_cons_succ]
              refine wpAnyH_ready (rs := [6]) (by kernel_rfl) (by simp) ?_
              refine AllReadyH.cons (by rw [List.getElem?_toArray]; rfl) (fun K hK => ?_) AllReadyH.nil
              rw [if_pos (by rfl)]
              have b3 : Below wr.heap.size wr (wr.alloc (.cells (hc A).toArray 36)) := (Below.refl _ _).alloc (Nat.le_refl _) _
              have S3 : Hid (PvS w (wr.alloc (.cells (hc A).toArray 36)) 32 (w.heap.size + 1) (p0 : Int) (L.length : Int) (.slice qa na ca) acc (some ⟨b, off, none⟩) Ss) := hS.out.same b3
              have R3 := Lib.hid (one_hs (w := wr) lA bA)
              have K3 : Hid (rowOf (wr.alloc (.cells (hc A).toArray 36)) b (off + (p + 1) * 32) 32 = hc A) := Lib.hid (show _ = _ by rw [rowOf_on (by rw [r1, lcA, lA]; omega) b3]; exact r1)
              clear b3
              go_wp2_with fail
              refine hK.out _ _ (K3.out) (fun h6 => ?_)
              clear hK K
              try simp only [Act.put, List.setIfInBounds_toArray, List.set_cons_zero, List.set_cons_succ]
              generalize hW3 : (wr.alloc (.cells (hc A).toArray 36)) = w3 at *
              clear hW3
              have c3 := (Joins.cell_of_block S3.out.blk 2).trans (rfl : _ = some _)
              refine wpAnyH_ready (rs := [7]) (by kernel_rfl) (by simp) ?_
              refine AllReadyH.cons (by rw [List.getElem?_toArray]; rfl) (fun K hK => ?_) AllReadyH.nil
              rw [if_pos (by rfl)]
              have OW : w3.drew.ownsRow 0 36 32 (.slice qa na ca) na (hcs acc) := by have := S3.out.hs.own; rw [← HNA.out] at this; exact this
              refine wp_append_row _ _ rfl Tryd.underlying26 hi.out hz0.out hz1.out hz2.out zero_cells OW ((show RdHs w3.drew (some ⟨wr.heap.size, 0, none⟩) [A] from R3.out).src (P := Tryd.prog) (HsOk.one lA bA) Tryd.underlying26) (by unfold maxLen; (try simp only [List.length_singleton]); omega) (by (try simp only [List.length_singleton]); omega) ?_
              intro q6 k6 w6 own6' grow6' fr6'
              have own6 : w6.ownsRow 0 36 32 (.slice q6 (na + 1) k6) (na + 1) (hcs acc ++ hcs [A]) := own6'
              have grow6 : w3.drew.grownBy w6 (Value.slice qa na ca).ownBlock := grow6'
              have fr6 : (Value.slice q6 (na + 1) k6).ownBlock = (Value.slice qa na ca).ownBlock ∨ (Value.slice q6 (na + 1) k6).ownBlock = some w3.drew.heap.size := fr6'
              have HN := Lib.hid (PvS.grow (w3 := w3.drew) (show PvS w w3.drew 32 (w.heap.size + 1) (p0 : Int) (L.length : Int) (.slice qa na ca) acc (some ⟨b, off, none⟩) Ss from ⟨S3.out.out, S3.out.blk, S3.out.hs.on ((Below.refl _ _).drew), S3.out.rd, S3.out.ok, S3.out.nb⟩) (by decide) lA bA (by omega) HNA.out own6 grow6 fr6)
              have f2 := Joins.unfrozen_of_block HN.out.1 2
              have z2 := (Joins.cell_of_block HN.out.1 2).trans (rfl : _ = some _)
              have kr : ∀ w9, PvS w w9 32 (w.heap.size + 1) (p0 : Int) (L.length : Int) (.slice q6 (na + 1) k6) (acc ++ [A]) (some ⟨b, off, none⟩) Ss → rowOf w9 b (off + (p + 1) * 32) 32 = hc A := fun w9 h9 => by
                obtain ⟨b', off', e', hx'⟩ := h9.rd.resolve_left (fun e => by rw [e] at hlt; simp at hlt)
                simp only [Option.some.injEq, Addr.mk.injEq] at e'
                obtain ⟨rfl, rfl, -⟩ := e'
                rw [hx' ((p + 1)) (by omega), HAe.out]
              have K9 := Lib.hid (kr _ HN.out.2)
              have K6 : Hid (rowOf w6 b (off + (p + 1) * 32) 32 = hc A) := by
                have hne : b ≠ w.heap.size + 1 := fun e => by
                  obtain ⟨b', off', e', h1, h2⟩ := S3.out.rd.blk S3.out.ok (fun e => by rw [e] at hlt; simp at hlt)
                  simp only [Option.some.injEq, Addr.mk.injEq] at e'
                  obtain ⟨rfl, rfl, -⟩ := e'
                  rw [e] at h2
                  have := h2 _ _ _ S3.out.blk
                  simp at this
                have := K9.out
                show _ = _
                rw [← this]
                unfold rowOf
                rw [Below.heap_setCell _ _ _ _ hne]
              clear own6' grow6' fr6' own6 grow6 fr6 OW kr
              refine hK.out _ _ (K6.out) (fun h7 => ?_)
              clear hK K
              try simp only [Act.put, List.setIfInBounds_toArray, List.set_cons_zero, List.set_cons_succ]
              refine wpAnyH_take (i := 8) (v := ?_) (by rw [List.getElem?_toArray]; rfl) (by kernel_rfl) (by kernel_rfl) (by kernel_rfl) (by exact fun _ _ _ h => h) (Or.inl ⟨by rfl, ?_⟩) h7 ?_
              rotate_left
              · intro W hW
                go_simp
                all_goals with_reducible rfl
              try simp only [Act.put, List.setIfInBounds_toArray, List.set_cons_zero, List.set_cons_succ]
              refine wpAnyH_ready (rs := [9]) (by kernel_rfl) (by simp) ?_
              refine AllReadyH.cons (by rw [List.getElem?_toArray]; rfl) (fun K hK => ?_) AllReadyH.nil
              rw [if_pos (by rfl)]
              go_wp2_with fail
              refine hK.out _ _ (K9.out) (fun h9 => ?_)
              clear hK K
              try simp only [Act.put, List.setIfInBounds_toArray, List.set_cons_zero, List.set_cons_succ]
              refine wpAnyH_done (by kernel_rfl) ?_ _
              clear h9 h7 h6 h1 K6 K9 K3 z2 f2 c3 S3 R3
              go_wp2_with fail
              refine (refNext_any (k := k2) HN.out.2.rd HN.out.2.ok hS6 (by omega)).mono ?_
              rintro e w8 ⟨q8, k8, rfl, hr8, hb8, hq8⟩
              have H8 := Lib.hid (HN.out.2.on hb8 hr8 (upL_ok HN.out.2.ok) hq8)
              clear hr8 hb8 hq8
              go_wp2_with fail
              go_roundw
              case rel => exact ⟨p / 2, f, q8, k8, upL Ss, acc ++ [A], _, _, _, by go_num, rfl, by rw [HUL.out]; omega, by rw [HUL.out]; omega, by omega, HNL, HZN, H8⟩
              case measure => have e := HUL.out; show (upL Ss).length < Ss.length; omega
            · rw [if_pos (by rfl)]
              have b3 : Below wr.heap.size wr (wr.alloc (.cells (hc A).toArray 36)) := (Below.refl _ _).alloc (Nat.le_refl _) _
              have S3 : Hid (PvS w (wr.alloc (.cells (hc A).toArray 36)) 32 (w.heap.size + 1) (p0 : Int) (L.length : Int) (.slice qa na ca) acc (some ⟨b, off, none⟩) Ss) := hS.out.same b3
              have R3 := Lib.hid (one_hs (w := wr) lA bA)
              have K3 : Hid (rowOf (wr.alloc (.cells (hc A).toArray 36)) b (off + (p + 1) * 32) 32 = hc A) := Lib.hid (show _ = _ by rw [rowOf_on (by rw [r1, lcA, lA]; omega) b3]; exact r1)
              clear b3
              go_wp2_with fail
              refine hK.out _ _ (K3.out) (fun h6 => ?_)
              clear hK K
              try simp only [Act.put, List.setIfInBounds_toArray, List.set_cons_zero, List.set_cons_succ]
              generalize hW3 : (wr.alloc (.cells (hc A).toArray 36)) = w3 at *
              clear hW3
              have c3 := (Joins.cell_of_block S3.out.blk 2).trans (rfl : _ = some _)
              refine wpAnyH_ready (rs := [1]) (by kernel_rfl) (by simp) ?_
              refine AllReadyH.cons (by rw [List.getElem?_toArray]; rfl) (fun K hK => ?_) AllReadyH.nil
              rw [if_pos (by rfl)]
              go_wp2_with fail
              refine hK.out _ _ (h6) (fun h1 => ?_)
              clear hK K
              try simp only [Act.put, List.setIfInBounds_toArray, List.set_cons_zero, List.set_cons_succ]
              refine wpAnyH_ready (rs := [7]) (by kernel_rfl) (by simp) ?_
              refine AllReadyH.cons (by rw [List.getElem?_toArray]; rfl) (fun K hK => ?_) AllReadyH.nil
              rw [if_pos (by rfl)]
              have OW : w3.drew.ownsRow 0 36 32 (.slice qa na ca) na (hcs acc) := by have := S3.out.hs.own; rw [← HNA.out] at this; exact this
              refine wp_append_row _ _ rfl Tryd.underlying26 hi.out hz0.out hz1.out hz2.out zero_cells OW ((show RdHs w3.drew (some ⟨wr.heap.size, 0, none⟩) [A] from R3.out).src (P := Tryd.prog) (HsOk.one lA bA) Tryd.underlying26) (by unfold maxLen; (try simp only [List.length_singleton]); omega) (by (try simp only [List.length_singleton]); omega) ?_
              intro q6 k6 w6 own6' grow6' fr6'
              have own6 : w6.ownsRow 0 36 32 (.slice q6 (na + 1) k6) (na + 1) (hcs acc ++ hcs [A]) := own6'
              have grow6 : w3.drew.grownBy w6 (Value.slice qa na ca).ownBlock := grow6'
              have fr6 : (Value.slice q6 (na + 1) k6).ownBlock = (Value.slice qa na ca).ownBlock ∨ (Value.slice q6 (na + 1) k6).ownBlock = some w3.drew.heap.size := fr6'
              have HN := Lib.hid (PvS.grow (w3 := w3.drew) (show PvS w w3.drew 32 (w.heap.size + 1) (p0 : Int) (L.length : Int) (.slice qa na ca) acc (some ⟨b, off, none⟩) Ss from ⟨S3.out.out, S3.out.blk, S3.out.hs.on ((Below.refl _ _).drew), S3.out.rd, S3.out.ok, S3.out.nb⟩) (by decide) lA bA (by omega) HNA.out own6 grow6 fr6)
              have f2 := Joins.unfrozen_of_block HN.out.1 2
              have z2 := (Joins.cell_of_block HN.out.1 2).trans (rfl : _ = some _)
              have kr : ∀ w9, PvS w w9 32 (w.heap.size + 1) (p0 : Int) (L.length : Int) (.slice q6 (na + 1) k6) (acc ++ [A]) (some ⟨b, off, none⟩) Ss → rowOf w9 b (off + (p + 1) * 32) 32 = hc A := fun w9 h9 => by
                obtain ⟨b', off', e', hx'⟩ := h9.rd.resolve_left (fun e => by rw [e] at hlt; simp at hlt)
                simp only [Option.some.injEq, Addr.mk.injEq] at e'
                obtain ⟨rfl, rfl, -⟩ := e'
                rw [hx' ((p + 1)) (by omega), HAe.out]
              have K9 := Lib.hid (kr _ HN.out.2)
              have K6 : Hid (rowOf w6 b (off + (p + 1) * 32) 32 = hc A) := by
                have hne : b ≠ w.heap.size + 1 := fun e => by
                  obtain ⟨b', off', e', h1, h2⟩ := S3.out.rd.blk S3.out.ok (fun e => by rw [e] at hlt; simp at hlt)
                  simp only [Option.some.injEq, Addr.mk.injEq] at e'
                  obtain ⟨rfl, rfl, -⟩ := e'
                  rw [e] at h2
                  have := h2 _ _ _ S3.out.blk
                  simp at this
                have := K9.out
                show _ = _
                rw [← this]
                unfold rowOf
                rw [Below.heap_setCell _ _ _ _ hne]
              clear own6' grow6' fr6' own6 grow6 fr6 OW kr
              refine hK.out _ _ (K6.out) (fun h7 => ?_)
              clear hK K
              try simp only [Act.put, List.setIfInBounds_toArray, List.set_cons_zero, List.set_cons_succ]
              refine wpAnyH_take (i := 8) (v := ?_) (by rw [List.getElem?_toArray]; rfl) (by kernel_rfl) (by kernel_rfl) (by kernel_rfl) (by exact fun _ _ _ h => h) (Or.inl ⟨by rfl, ?_⟩) h7 ?_
              rotate_left
              · intro W hW
                go_simp
                all_goals with_reducible rfl
              try simp only [Act.put, List.setIfInBounds_toArray, List.set_cons_zero, List.set_cons_succ]
              refine wpAnyH_ready (rs := [9]) (by kernel_rfl) (by simp) ?_
              refine AllReadyH.cons (by rw [List.getElem?_toArray]; rfl) (fun K hK => ?_) AllReadyH.nil
              rw [if_pos (by rfl)]
              go_wp2_with fail
              refine hK.out _ _ (K9.out) (fun h9 => ?_)
              clear hK K
              try simp only [Act.put, List.setIfInBounds_toArray, List.set_cons_zero, List.set_cons_succ]
              refine wpAnyH_done (by kernel_rfl) ?_ _
              clear h9 h7 h6 h1 K6 K9 K3 z2 f2 c3 S3 R3
              go_wp2_with fail
              refine (refNext_any (k := k2) HN.out.2.rd HN.out.2.ok hS6 (by omega)).mono ?_
              rintro e w8 ⟨q8, k8, rfl, hr8, hb8, hq8⟩
              have H8 := Lib.hid (HN.out.2.on hb8 hr8 (upL_ok HN.out.2.ok) hq8)
              clear hr8 hb8 hq8
              go_wp2_with fail
              go_roundw
              case rel => exact ⟨p / 2, f, q8, k8, upL Ss, acc ++ [A], _, _, _, by go_num, rfl, by rw [HUL.out]; omega, by rw [HUL.out]; omega, by omega, HNL, HZN, H8⟩
              case measure => have e := HUL.out; show (upL Ss).length < Ss.length; omega
          · rw [if_neg hb] at e1
            have hbI : ¬ (p : Int) + 1 < (Ss.length : Int) := by omega
            have HZN : Hid (acc ++ pth f (p / 2) (upL Ss) = Z ∧ (upL Ss).length ≤ 2 ^ f ∧ acc.length + f ≤ 17) := Lib.hid ⟨by rw [List.nil_append] at e1; exact e1, by rw [upL_len]; omega, by omega⟩
            clear e1 e2 e3 hR
            go_wp2_with fail
            refine (refNext_any (k := k2) hS.out.rd hS.out.ok hS6 (by omega)).mono ?_
            rintro e w8 ⟨q8, k8, rfl, hr8, hb8, hq8⟩
            have H8 := Lib.hid (hS.out.on hb8 hr8 (upL_ok hS.out.ok) hq8)
            clear hr8 hb8 hq8
            go_wp2_with fail
            go_roundw
            case rel => exact ⟨p / 2, f, q8, k8, upL Ss, acc, _, _, _, by go_num, rfl, by rw [HUL.out]; omega, by rw [HUL.out]; omega, by omega, HNA, HZN, H8⟩
            case measure => have e := HUL.out; show (upL Ss).length < Ss.length; omega
        · have eb : bes p = p - 1 := by unfold bes; rw [if_pos hpm]
          have hb : p - 1 < Ss.length := by omega
          rw [eb, if_pos hb] at e1
          have hp2 : (p : Int) % 2 = 1 := by omega
          have hbI : (p : Int) - 1 < (Ss.length : Int) := by omega
          have g0 : (0 : Int) ≤ (p : Int) - 1 := by omega
          have g3 : (1 : Int) ≤ (p : Int) := by omega
          have t0 : ((p : Int) - 1).toNat = p - 1 := by omega
          obtain ⟨b, off, rfl, hx'⟩ := hS.out.rd.resolve_left (fun e => by rw [e] at hlt; simp at hlt)
          have r1 := hx' ((p - 1)) (by omega)
          obtain ⟨lA, bA⟩ := hS.out.ok.get ((p - 1)) (by omega)
          clear hx'
          obtain ⟨A, hA⟩ : ∃ A, Ss.getD ((p - 1)) [] = A := ⟨_, rfl⟩
          rw [hA] at r1 lA bA e1
          have HAe := Lib.hid hA
          have lcA := hc_len A
          have HZN : Hid ((acc ++ [A]) ++ pth f (p / 2) (upL Ss) = Z ∧ (upL Ss).length ≤ 2 ^ f ∧ (acc ++ [A]).length + f ≤ 17) := Lib.hid ⟨by rw [List.append_assoc]; exact e1, by rw [upL_len]; omega, by rw [List.length_append, List.length_singleton]; omega⟩
          have HNL : Hid (na + 1 = (acc ++ [A]).length) := by show _ = _; rw [List.length_append, List.length_singleton, ← HNA.out]
          clear hA e1 e2 e3 hR
          have c2 := (Joins.cell_of_block hS.out.blk 2).trans (rfl : _ = some _)
          go_wp2_with fail
          refine wp_region_held_drew (S := fun W => rowOf W b (off + (p - 1) * 32) 32 = hc A) (by kernel_rfl) (r1) (fun h0 => ?_)
          refine wpAnyH_take (i := 0) (v := ?_) (by rw [List.getElem?_toArray]; rfl) (by kernel_rfl) (by kernel_rfl) (by kernel_rfl) (by exact fun _ _ _ h => h) (Or.inl ⟨by rfl, ?_⟩) h0 ?_
          rotate_left
          · intro W hW
            go_simp
            all_goals with_reducible rfl
          try simp only [Act.put, List.setIfInBounds_toArray, List.set_cons_zero, List.set_cons_succ]
          refine wpAnyH_take (i := 2) (v := ?_) (by rw [List.getElem?_toArray]; rfl) (by kernel_rfl) (by kernel_rfl) (by kernel_rfl) (by exact fun _ _ _ h => h) (Or.inl ⟨by rfl, ?_⟩) h0 ?_
          rotate_left
          · intro W hW
            go_simp
            all_goals with_reducible rfl
          try simp only [Act.put, List.setIfInBounds_toArray, List.set_cons_zero, List.set_cons_succ]
          refine wpAnyH_take (i := 3) (v := ?_) (by rw [List.getElem?_toArray]; rfl) (by kernel_rfl) (by kernel_rfl) (by kernel_rfl) (by exact fun _ _ _ h => h) (Or.inl ⟨by rfl, ?_⟩) h0 ?_
          rotate_left
          · intro W hW
            go_simp
            all_goals with_reducible rfl
          try simp only [Act.put, List.setIfInBounds_toArray, List.set_cons_zero, List.set_cons_succ]
          refine wpAnyH_take (i := 4) (v := ?_) (by rw [List.getElem?_toArray]; rfl) (by kernel_rfl) (by kernel_rfl) (by kernel_rfl) (by exact fun _ _ _ h => h) (Or.inl ⟨by rfl, ?_⟩) h0 ?_
          rotate_left
          · intro W hW
            go_simp
            all_goals with_reducible rfl
          try simp only [Act.put, List.setIfInBounds_toArray, List.set_cons_zero, List.set_cons_succ]
          refine wpAnyH_take (i := 5) (v := ?_) (by rw [List.getElem?_toArray]; rfl) (by kernel_rfl) (by kernel_rfl) (by kernel_rfl) (by exact fun _ _ _ h => h) (Or.inl ⟨by rfl, ?_⟩) h0 ?_
          rotate_left
          · intro W hW
            have cc := hW
            go_simp
            all_goals with_reducible rfl
          try simp only [Act.put, List.setIfInBounds_toArray, List.set_cons_zero, List.set_cons_succ]
          refine wpAnyH_ready (rs := [1, 6]) (by kernel_rfl) (by simp) ?_
          refine AllReadyH.cons (by rw [List.getElem?_toArray]; rfl) (fun K hK => ?_) (AllReadyH.cons (by rw [List.getElem?_toArray]; rfl) (fun K hK => ?_) AllReadyH.nil)
          · rw [if_pos (by rfl)]
            go_wp2_with fail
            refine hK.out _ _ (h0) (fun h1 => ?_)
            clear hK K
            try simp only [Act.put, List.setIfInBounds_toArray, List.set_cons_zero, List.set_cons_succ]
            refine wpAnyH_ready (rs := [6]) (by kernel_rfl) (by simp) ?_
            refine AllReadyH.cons (by rw [List.getElem?_toArray]; rfl) (fun K hK => ?_) AllReadyH.nil
            rw [if_pos (by rfl)]
            have b3 : Below wr.heap.size wr (wr.alloc (.cells (hc A).toArray 36)) := (Below.refl _ _).alloc (Nat.le_refl _) _
            have S3 : Hid (PvS w (wr.alloc (.cells (hc A).toArray 36)) 32 (w.heap.size + 1) (p0 : Int) (L.length : Int) (.slice qa na ca) acc (some ⟨b, off, none⟩) Ss) := hS.out.same b3
            have R3 := Lib.hid (one_hs (w := wr) lA bA)
            have K3 : Hid (rowOf (wr.alloc (.cells (hc A).toArray 36)) b (off + (p - 1) * 32) 32 = hc A) := Lib.hid (show _ = _ by rw [rowOf_on (by rw [r1, lcA, lA]; omega) b3]; exact r1)
            clear b3
            go_wp2_with fail
            refine hK.out _ _ (K3.out) (fun h6 => ?_)
            clear hK K
            try simp only [Act.put, List.setIfInBounds_toArray, List.set_cons_zero, List.set_cons_succ]
            generalize hW3 : (wr.alloc (.cells (hc A).toArray 36)) = w3 at *
            clear hW3
            have c3 := (Joins.cell_of_block S3.out.blk 2).trans (rfl : _ = some _)
            refine wpAnyH_ready (rs := [7]) (by kernel_rfl) (by simp) ?_
            refine AllReadyH.cons (by rw [List.getElem?_toArray]; rfl) (fun K hK => ?_) AllReadyH.nil
            rw [if_pos (by rfl)]
            have OW : w3.drew.ownsRow 0 36 32 (.slice qa na ca) na (hcs acc) := by have := S3.out.hs.own; rw [← HNA.out] at this; exact this
            refine wp_append_row _ _ rfl Tryd.underlying26 hi.out hz0.out hz1.out hz2.out zero_cells OW ((show RdHs w3.drew (some ⟨wr.heap.size, 0, none⟩) [A] from R3.out).src (P := Tryd.prog) (HsOk.one lA bA) Tryd.underlying26) (by unfold maxLen; (try simp only [List.length_singleton]); omega) (by (try simp only [List.length_singleton]); omega) ?_
            intro q6 k6 w6 own6' grow6' fr6'
            have own6 : w6.ownsRow 0 36 32 (.slice q6 (na + 1) k6) (na + 1) (hcs acc ++ hcs [A]) := own6'
            have grow6 : w3.drew.grownBy w6 (Value.slice qa na ca).ownBlock := grow6'
            have fr6 : (Value.slice q6 (na + 1) k6).ownBlock = (Value.slice qa na ca).ownBlock ∨ (Value.slice q6 (na + 1) k6).ownBlock = some w3.drew.heap.size := fr6'
            have HN := Lib.hid (PvS.grow (w3 := w3.drew) (show PvS w w3.drew 32 (w.heap.size + 1) (p0 : Int) (L.length : Int) (.slice qa na ca) acc (some ⟨b, off, none⟩) Ss from ⟨S3.out.out, S3.out.blk, S3.out.hs.on ((Below.refl _ _).drew), S3.out.rd, S3.out.ok, S3.out.nb⟩) (by decide) lA bA (by omega) HNA.out own6 grow6 fr6)
            have f2 := Joins.unfrozen_of_block HN.out.1 2
            have z2 := (Joins.cell_of_block HN.out.1 2).trans (rfl : _ = some _)
            have kr : ∀ w9, PvS w w9 32 (w.heap.size + 1) (p0 : Int) (L.length : Int) (.slice q6 (na + 1) k6) (acc ++ [A]) (some ⟨b, off, none⟩) Ss → rowOf w9 b (off + (p - 1) * 32) 32 = hc A := fun w9 h9 => by
              obtain ⟨b', off', e', hx'⟩ := h9.rd.resolve_left (fun e => by rw [e] at hlt; simp at hlt)
              simp only [Option.some.injEq, Addr.mk.injEq] at e'
              obtain ⟨rfl, rfl, -⟩ := e'
              rw [hx' ((p - 1)) (by omega), HAe.out]
            have K9 := Lib.hid (kr _ HN.out.2)
            have K6 : Hid (rowOf w6 b (off + (p - 1) * 32) 32 = hc A) := by
              have hne : b ≠ w.heap.size + 1 := fun e => by
                obtain ⟨b', off', e', h1, h2⟩ := S3.out.rd.blk S3.out.ok (fun e => by rw [e] at hlt; simp at hlt)
                simp only [Option.some.injEq, Addr.mk.injEq] at e'
                obtain ⟨rfl, rfl, -⟩ := e'
                rw [e] at h2
                have := h2 _ _ _ S3.out.blk
                simp at this
              have := K9.out
              show _ = _
              rw [← this]
              unfold rowOf
              rw [Below.heap_setCell _ _ _ _ hne]
            clear own6' grow6' fr6' own6 grow6 fr6 OW kr
            refine hK.out _ _ (K6.out) (fun h7 => ?_)
            clear hK K
            try simp only [Act.put, List.setIfInBounds_toArray, List.set_cons_zero, List.set_cons_succ]
            refine wpAnyH_take (i := 8) (v := ?_) (by rw [List.getElem?_toArray]; rfl) (by kernel_rfl) (by kernel_rfl) (by kernel_rfl) (by exact fun _ _ _ h => h) (Or.inl ⟨by rfl, ?_⟩) h7 ?_
            rotate_left
            · intro W hW
              go_simp
              all_goals with_reducible rfl
            try simp only [Act.put, List.setIfInBounds_toArray, List.set_cons_zero, List.set_cons_succ]
            refine wpAnyH_ready (rs := [9]) (by kernel_rfl) (by simp) ?_
            refine AllReadyH.cons (by rw [List.getElem?_toArray]; rfl) (fun K hK => ?_) AllReadyH.nil
            rw [if_pos (by rfl)]
            go_wp2_with fail
            refine hK.out _ _ (K9.out) (fun h9 => ?_)
            clear hK K
            try simp only [Act.put, List.setIfInBounds_toArray, List.set_cons_zero, List.set_cons_succ]
            refine wpAnyH_done (by kernel_rfl) ?_ _
            clear h9 h7 h6 h1 K6 K9 K3 z2 f2 c3 S3 R3
            go_wp2_with fail
            refine (refNext_any (k := k2) HN.out.2.rd HN.out.2.ok hS6 (by omega)).mono ?_
            rintro e w8 ⟨q8, k8, rfl, hr8, hb8, hq8⟩
            have H8 := Lib.hid (HN.out.2.on hb8 hr8 (upL_ok HN.out.2.ok) hq8)
            clear hr8 hb8 hq8
            go_wp2_with fail
            go_roundw
            case rel => exact ⟨p / 2, f, q8, k8, upL Ss, acc ++ [A], _, _, _, by go_num, rfl, by rw [HUL.out]; omega, by rw [HUL.out]; omega, by omega, HNL, HZN, H8⟩
            case measure => have e := HUL.out; show (upL Ss).length < Ss.length; omega
          · rw [if_pos (by rfl)]
            have b3 : Below wr.heap.size wr (wr.alloc (.cells (hc A).toArray 36)) := (Below.refl _ _).alloc (Nat.le_refl _) _
            have S3 : Hid (PvS w (wr.alloc (.cells (hc A).toArray 36)) 32 (w.heap.size + 1) (p0 : Int) (L.length : Int) (.slice qa na ca) acc (some ⟨b, off, none⟩) Ss) := hS.out.same b3
            have R3 := Lib.hid (one_hs (w := wr) lA bA)
            have K3 : Hid (rowOf (wr.alloc (.cells (hc A).toArray 36)) b (off + (p - 1) * 32) 32 = hc A) := Lib.hid (show _ = _ by rw [rowOf_on (by rw [r1, lcA, lA]; omega) b3]; exact r1)
            clear b3
            go_wp2_with fail
            refine hK.out _ _ (K3.out) (fun h6 => ?_)
            clear hK K
            try simp only [Act.put, List.setIfInBounds_toArray, List.set_cons_zero, List.set_cons_succ]
            generalize hW3 : (wr.alloc (.cells (hc A).toArray 36)) = w3 at *
            clear hW3
            have c3 := (Joins.cell_of_block S3.out.blk 2).trans (rfl : _ = some _)
            refine wpAnyH_ready (rs := [1]) (by kernel_rfl) (by simp) ?_
            refine AllReadyH.cons (by rw [List.getElem?_toArray]; rfl) (fun K hK => ?_) AllReadyH.nil
            rw [if_pos (by rfl)]
            go_wp2_with fail
            refine hK.out _ _ (h6) (fun h1 => ?_)
            clear hK K
            try simp only [Act.put, List.setIfInBounds_toArray, List.set_cons_zero, List.set_cons_succ]
            refine wpAnyH_ready (rs := [7]) (by kernel_rfl) (by simp) ?_
            refine AllReadyH.cons (by rw [List.getElem?_toArray]; rfl) (fun K hK => ?_) AllReadyH.nil
            rw [if_pos (by rfl)]
            have OW : w3.drew.ownsRow 0 36 32 (.slice qa na ca) na (hcs acc) := by have := S3.out.hs.own; rw [← HNA.out] at this; exact this
            refine wp_append_row _ _ rfl Tryd.underlying26 hi.out hz0.out hz1.out hz2.out zero_cells OW ((show RdHs w3.drew (some ⟨wr.heap.size, 0, none⟩) [A] from R3.out).src (P := Tryd.prog) (HsOk.one lA bA) Tryd.underlying26) (by unfold maxLen; (try simp only [List.length_singleton]); omega) (by (try simp only [List.length_singleton]); omega) ?_
            intro q6 k6 w6 own6' grow6' fr6'
            have own6 : w6.ownsRow 0 36 32 (.slice q6 (na + 1) k6) (na + 1) (hcs acc ++ hcs [A]) := own6'
            have grow6 : w3.drew.grownBy w6 (Value.slice qa na ca).ownBlock := grow6'
            have fr6 : (Value.slice q6 (na + 1) k6).ownBlock = (Value.slice qa na ca).ownBlock ∨ (Value.slice q6 (na + 1) k6).ownBlock = some w3.drew.heap.size := fr6'
            have HN := Lib.hid (PvS.grow (w3 := w3.drew) (show PvS w w3.drew 32 (w.heap.size + 1) (p0 : Int) (L.length : Int) (.slice qa na ca) acc (some ⟨b, off, none⟩) Ss from ⟨S3.out.out, S3.out.blk, S3.out.hs.on ((Below.refl _ _).drew), S3.out.rd, S3.out.ok, S3.out.nb⟩) (by decide) lA bA (by omega) HNA.out own6 grow6 fr6)
            have f2 := Joins.unfrozen_of_block HN.out.1 2
            have z2 := (Joins.cell_of_block HN.out.1 2).trans (rfl : _ = some _)
            have kr : ∀ w9, PvS w w9 32 (w.heap.size + 1) (p0 : Int) (L.length : Int) (.slice q6 (na + 1) k6) (acc ++ [A]) (some ⟨b, off, none⟩) Ss → rowOf w9 b (off + (p - 1) * 32) 32 = hc A := fun w9 h9 => by
              obtain ⟨b', off', e', hx'⟩ := h9.rd.resolve_left (fun e => by rw [e] at hlt; simp at hlt)
              simp only [Option.some.injEq, Addr.mk.injEq] at e'
              obtain ⟨rfl, rfl, -⟩ := e'
              rw [hx' ((p - 1)) (by omega), HAe.out]
            have K9 := Lib.hid (kr _ HN.out.2)
            have K6 : Hid (rowOf w6 b (off + (p - 1) * 32) 32 = hc A) := by
              have hne : b ≠ w.heap.size + 1 := fun e => by
                obtain ⟨b', off', e', h1, h2⟩ := S3.out.rd.blk S3.out.ok (fun e => by rw [e] at hlt; simp at hlt)
                simp only [Option.some.injEq, Addr.mk.injEq] at e'
                obtain ⟨rfl, rfl, -⟩ := e'
                rw [e] at h2
                have := h2 _ _ _ S3.out.blk
                simp at this
              have := K9.out
              show _ = _
              rw [← this]
              unfold rowOf
              rw [Below.heap_setCell _ _ _ _ hne]
            clear own6' grow6' fr6' own6 grow6 fr6 OW kr
            refine hK.out _ _ (K6.out) (fun h7 => ?_)
            clear hK K
            try simp only [Act.put, List.setIfInBounds_toArray, List.set_cons_zero, List.set_cons_succ]
            refine wpAnyH_take (i := 8) (v := ?_) (by rw [List.getElem?_toArray]; rfl) (by kernel_rfl) (by kernel_rfl) (by kernel_rfl) (by exact fun _ _ _ h => h) (Or.inl ⟨by rfl, ?_⟩) h7 ?_
            rotate_left
            · intro W hW
              go_simp
              all_goals with_reducible rfl
            try simp only [Act.put, List.setIfInBounds_toArray, List.set_cons_zero, List.set_cons_succ]
            refine wpAnyH_ready (rs := [9]) (by kernel_rfl) (by simp) ?_
            refine AllReadyH.cons (by rw [List.getElem?_toArray]; rfl) (fun K hK => ?_) AllReadyH.nil
            rw [if_pos (by rfl)]
            go_wp2_with fail
            refine hK.out _ _ (K9.out) (fun h9 => ?_)
            clear hK K
            try simp only [Act.put, List.setIfInBounds_toArray, List.set_cons_zero, List.set_cons_succ]
            refine wpAnyH_done (by kernel_rfl) ?_ _
            clear h9 h7 h6 h1 K6 K9 K3 z2 f2 c3 S3 R3
            go_wp2_with fail
            refine (refNext_any (k := k2) HN.out.2.rd HN.out.2.ok hS6 (by omega)).mono ?_
            rintro e w8 ⟨q8, k8, rfl, hr8, hb8, hq8⟩
            have H8 := Lib.hid (HN.out.2.on hb8 hr8 (upL_ok HN.out.2.ok) hq8)
            clear hr8 hb8 hq8
            go_wp2_with fail
            go_roundw
            case rel => exact ⟨p / 2, f, q8, k8, upL Ss, acc ++ [A], _, _, _, by go_num, rfl, by rw [HUL.out]; omega, by rw [HUL.out]; omega, by omega, HNL, HZN, H8⟩
            case measure => have e := HUL.out; show (upL Ss).length < Ss.length; omega
    · have hacc : acc = Z := by
        have e1 := hR.out.1
        have e2 : pth f p Ss = [] := by
          cases f with
          | zero => rfl
          | succ f => unfold pth; rw [if_pos (by omega)]
        rw [e2, List.append_nil] at e1
        exact e1
      obtain rfl : na = Z.length := by rw [HNA.out, hacc]
      subst hacc
      have hne : (Value.slice qa acc.length ca).ownBlock ≠ some w.heap.size := own_ne hS.out.hs.own hS.out.out (by decide)
      have HF : Hid (HsS w (((wr.setCell ⟨w.heap.size, 0, none⟩ (.int .i64 p0)).setCell ⟨w.heap.size, 1, none⟩ (.int .i64 (L.length : Int))).setCell ⟨w.heap.size, 2, none⟩ (.slice qa acc.length ca)) (.slice qa acc.length ca) acc) := by
        refine ⟨own_keep hS.out.hs.own (fun j hj => ?_), hS.out.hs.ok, hS.out.hs.fresh, ((hS.out.hs.below.setCell (p := ⟨_, 0, none⟩) (by simp) _).setCell (p := ⟨_, 1, none⟩) (by simp) _).setCell (p := ⟨_, 2, none⟩) (by simp) _⟩
        have hj1 : j ≠ w.heap.size := fun e => hne (e ▸ hj)
        rw [Below.heap_setCell _ _ _ _ hj1, Below.heap_setCell _ _ _ _ hj1, Below.heap_setCell _ _ _ _ hj1]
      have hb9 : (((wr.setCell ⟨w.heap.size, 0, none⟩ (.int .i64 p0)).setCell ⟨w.heap.size, 1, none⟩ (.int .i64 (L.length : Int))).setCell ⟨w.heap.size, 2, none⟩ (.slice qa acc.length ca)).heap[w.heap.size]? = some (.cells #[.int .i64 p0, .int .i64 (L.length : Int), .slice qa acc.length ca] 32 (0, 0)) :=
        Joins.block_setCell (Joins.block_setCell (Joins.block_setCell hS.out.out _) _) _
      have y0 := (Joins.cell_of_block hb9 0).trans (rfl : _ = some _)
      have y1 := (Joins.cell_of_block hb9 1).trans (rfl : _ = some _)
      have y2 := (Joins.cell_of_block hb9 2).trans (rfl : _ = some _)
      have z0 := (Joins.cell_of_block hS.out.blk 0).trans (rfl : _ = some _)
      have z1 := (Joins.cell_of_block hS.out.blk 1).trans (rfl : _ = some _)
      have z2 := (Joins.cell_of_block hS.out.blk 2).trans (rfl : _ = some _)
      have x0 := (Joins.cell_of_block hS.out.out 0).trans (rfl : _ = some _)
      have x1 := (Joins.cell_of_block hS.out.out 1).trans (rfl : _ = some _)
      have x2 := (Joins.cell_of_block hS.out.out 2).trans (rfl : _ = some _)
      have f0 := Joins.unfrozen_of_block hS.out.out 0
      have f1 := Joins.unfrozen_of_block hS.out.out 1
      have f2 := Joins.unfrozen_of_block hS.out.out 2
      clear hS hR hb9 hne
      go_wp2_with fail
      refine bodyPost_ret (v := .tuple #[.agg #[.int .i64 p0, .int .i64 (L.length : Int), .slice qa acc.length ca], .int .i64 0]) (by simp [results, Tryd.results11, go_sem, y0, y1, y2]) rfl ⟨qa, ca, rfl, HF.out⟩
end Go.Proofs.YtebeacejlkiglaaDoor
namespace Go.Proofs.YtebeacejlkiglaaDoor
open Go.RowKit
set_option maxRecDepth 100000

/-- A row of one byte that came out of a constant string. -/
def mk1 (w : World) (x : Int) : World := (w.alloc (.cells #[.int .u8 x] 5)).freeze ⟨w.heap.size, 1, none⟩ 1
theorem mk1_old (w : World) (x : Int) (j : Nat) (hj : j < w.heap.size) : (mk1 w x).heap[j]? = w.heap[j]? := by
  have h1 : w.heap.size ≠ j := by omega
  simp [mk1, World.freeze, World.alloc, -World.alloc_eq, Array.getElem?_modify, Array.getElem?_push, h1, Ne.symm h1]
theorem mk1_new (w : World) (x : Int) : (mk1 w x).heap[w.heap.size]? = some (.cells #[.int .u8 x] 5 (1, 2)) := by
  simp [mk1, World.freeze, World.alloc, -World.alloc_eq]
  rw [Array.getElem_modify_self]
  simp
theorem mk1_size (w : World) (x : Int) : (mk1 w x).heap.size = w.heap.size + 1 := by
  simp [mk1, World.freeze, World.alloc, -World.alloc_eq]
theorem mk1_below (w : World) (x : Int) : Below w.heap.size w (mk1 w x) := ⟨rfl, rfl, rfl, by rw [mk1_size]; omega, fun j hj => mk1_old w x j hj⟩
theorem mk1_rd (w : World) (x : Int) : RdC (mk1 w x) (.slice (some ⟨w.heap.size, 0, none⟩) 1 1) [x] :=
  ⟨_, 1, rfl, by simp, .inr ⟨w.heap.size, 0, rfl, fun j hj => by obtain rfl : j = 0 := (by simpa using hj); exact (Joins.cell_of_block (mk1_new w x) 0).trans rfl⟩⟩
theorem conv_mark (w : World) (x : Int) : (convert 42 42 (.slice (some ⟨w.heap.size, 0, none⟩) 1 1)).run Tryd.prog (w.alloc (.cells #[.int .u8 x] 5)) = .ok (.slice (some ⟨w.heap.size, 0, none⟩) 1 1) (mk1 w x) := by
  have hsh : (w.alloc (.cells #[.int .u8 x] 5)).shape? w.heap.size = some (5, 1) := by
    simp [World.shape?, World.alloc, -World.alloc_eq]
  simp [convert, run_underlying Tryd.underlying42, run_underlying Tryd.underlying5, markStringish, hsh, Result.andThen, mk1]

theorem PtS.rdl {w w' : World} {L : List (List Int)} {v : Value} {vs : List Value} (h : PtS w w' L L.length v vs) : RdL w' v L [] := by
  rcases h.own.2 with ⟨rfl, h0⟩ | ⟨g, cap, cur, rfl, _, hg, _, _, _, htake⟩
  · have : L = [] := List.eq_nil_of_length_eq_zero h0
    subst this
    exact ⟨none, 0, rfl, .inl rfl⟩
  · refine ⟨_, cap, rfl, .inr ⟨g, 0, rfl, by simp, fun i hi => ?_⟩⟩
    have hv : i < vs.length := by rw [h.len]; exact hi
    refine ⟨vs[i], ?_, ?_, by simp⟩
    · have := h.own.cells (g := g) rfl i vs[i] (by simp [hv])
      rw [addr_add] at this
      exact this
    · exact rd_of_row ((h.each i vs[i] (by simp [hv])).1)
theorem RdL.onb {w W : World} {v : Value} {L : List (List Int)} (h : RdL w v L []) (hb : Below w.heap.size w W) : RdL W v L [] := h.chg (Chg.below hb (Nat.le_refl _) [])
/-- What the loop reckons. -/
def Tot4 (L : List (List Int)) (i t : Nat) : Prop := t ≤ 9000 ∧ (t ≤ 4000 → (blobs (L.take i)).length = 8 * i + t)
theorem Tot4.zero (L : List (List Int)) : Tot4 L 0 0 := ⟨by omega, fun _ => by simp [blobs]⟩
theorem Tot4.succ {L : List (List Int)} {i t : Nat} (h : Tot4 L i t) (hi : i < L.length) (ht : t ≤ 4000) : Tot4 L (i + 1) (t + min (L.getD i []).length 5000) := by
  refine ⟨by omega, fun h2 => ?_⟩
  rw [blobs_len hi, h.2 ht]
  omega
/-- Long, or not. -/
def LongP (w : World) (L : List (List Int)) (e : Ending) (w' : World) : Prop := ∃ b, e = .returned (.bool b) ∧ (b = false → (blobs L).length ≤ 6000 ∧ L.length ≤ 200) ∧ Below w.heap.size w w'
set_option maxHeartbeats 2000000 in
theorem Long_any {w : World} {vL : Value} {L : List (List Int)} (hL : RdL w vL L []) (hln : L.length ≤ maxLen) :
    Calls Tryd.prog 7 #[vL] w (LongP w L) := by
  obtain ⟨q, c, rfl⟩ : ∃ q c, vL = .slice q L.length c := by obtain ⟨q, c, e, _⟩ := hL; exact ⟨q, c, e⟩
  have HL := Lib.hid hL
  unfold maxLen at hln
  clear hL
  go_enter Tryd.func7, Tryd.ntmps7
  go_wp2_with fail
  go_loop [3, 4] (fun tv iv => ∃ (i t : Nat), iv = .int .i64 i ∧ tv = .int .i64 t ∧ i ≤ L.length ∧ Hid (Tot4 L i t)) (fun _ iv => L.length - (intOf iv).toNat)
  case atStart => exact ⟨0, 0, rfl, rfl, by omega, Tot4.zero L⟩
  case round =>
    obtain ⟨i, t, rfl, rfl, hi, hTo⟩ := hrel
    have ht5 := hTo.out.1
    by_cases ht2 : t ≤ 4000
    · have d0 : decide ((t : Int) ≤ 4000) = true := by rw [decide_eq_true_iff]; omega
      have d1 : decide (4000 < (t : Int)) = false := by rw [decide_eq_false_iff_not]; omega
      by_cases hlt : i < L.length
      · obtain ⟨b, off, r, m, kk, -, rfl, -, hc1, rfl, -, -⟩ := HL.out.at hlt
        have HN := Lib.hid (hTo.out.succ hlt ht2)
        have i0 : (0 : Int) ≤ (i : Int) := by omega
        have i1 : (i : Int) < (L.length : Int) := by omega
        obtain ⟨lb, hlb⟩ : ∃ lb, (L.getD i []).length = lb := ⟨_, rfl⟩
        rw [hlb] at hc1 HN
        clear hlb hTo
        go_wp2_with fail
        go_round
        case rel => exact ⟨i + 1, _, by go_num, by go_num, by omega, HN⟩
        case measure => simp [intOf]; omega
      · obtain rfl : i = L.length := by omega
        have hbl := hTo.out.2 ht2
        rw [List.take_length] at hbl
        have HBL := Lib.hid hbl
        clear hbl hTo hlt
        by_cases hm : L.length ≤ 200
        · have HP : Hid (LongP w L (.returned (.bool false)) w) := ⟨_, rfl, fun _ => ⟨by have := HBL.out; omega, hm⟩, (Below.refl _ _)⟩
          have d3 : decide (200 < (L.length : Int)) = false := by rw [decide_eq_false_iff_not]; omega
          go_wp2_with fail
          go_ret
          exact HP.out
        · have HP : Hid (LongP w L (.returned (.bool true)) w) := ⟨_, rfl, fun h => (by cases h), (Below.refl _ _)⟩
          have d3 : decide (200 < (L.length : Int)) = true := by rw [decide_eq_true_iff]; omega
          go_wp2_with fail
          go_ret
          exact HP.out
    · have HP : Hid (LongP w L (.returned (.bool true)) w) := ⟨_, rfl, fun h => (by cases h), (Below.refl _ _)⟩
      have d0 : decide ((t : Int) ≤ 4000) = false := by rw [decide_eq_false_iff_not]; omega
      have d1 : decide (4000 < (t : Int)) = true := by rw [decide_eq_true_iff]; omega
      clear hTo
      by_cases hlt : i < L.length
      · go_wp2_with fail
        go_ret
        exact HP.out
      · go_wp2_with fail
        go_ret
        exact HP.out


def pf0 : Value := .agg #[.int .i64 0, .int .i64 0, .slice none 0 0]
set_option maxHeartbeats 2000000 in
theorem Prove_no {w : World} {q : Option Addr} {n c : Nat} {P : Int} (_hn : n ≤ maxLen) (hP : ¬ (0 ≤ P ∧ P < (n : Int))) :
    Calls Tryd.prog 10 #[.int .i64 P, .slice q n c] w fun e w' => e = .returned (.tuple #[pf0, .int .i64 1]) ∧ Below w.heap.size w w' := by
  have B0 := Lib.hid ((Below.refl w.heap.size w).alloc (Nat.le_refl _) (.cells #[.int .i64 0, .int .i64 0, .slice none 0 0] 28))
  unfold maxLen at _hn
  go_enter Tryd.func10, Tryd.ntmps10
  by_cases h0 : P < 0
  · go_wp2_with fail
    refine bodyPost_ret (v := .tuple #[pf0, .int .i64 1]) (by simp [results, Tryd.results10, go_sem, pf0]) rfl ⟨rfl, ?_⟩
    first | exact B0.out | exact (((B0.out.setCell (p := ⟨_, 0, none⟩) (by simp) _).setCell (p := ⟨_, 1, none⟩) (by simp) _).setCell (p := ⟨_, 2, none⟩) (by simp) _)
  · have h1 : (n : Int) ≤ P := by omega
    go_wp2_with fail
    refine bodyPost_ret (v := .tuple #[pf0, .int .i64 1]) (by simp [results, Tryd.results10, go_sem, pf0]) rfl ⟨rfl, ?_⟩
    first | exact B0.out | exact (((B0.out.setCell (p := ⟨_, 0, none⟩) (by simp) _).setCell (p := ⟨_, 1, none⟩) (by simp) _).setCell (p := ⟨_, 2, none⟩) (by simp) _)

set_option maxHeartbeats 2000000 in
theorem refProve_no {w : World} {q : Option Addr} {n c : Nat} {P : Int} (_hn : n ≤ maxLen) (hP : ¬ (0 ≤ P ∧ P < (n : Int))) :
    Calls Tryd.prog 11 #[.int .i64 P, .slice q n c] w fun e w' => e = .returned (.tuple #[pf0, .int .i64 1]) ∧ Below w.heap.size w w' := by
  have B0 := Lib.hid ((Below.refl w.heap.size w).alloc (Nat.le_refl _) (.cells #[.int .i64 0, .int .i64 0, .slice none 0 0] 32))
  unfold maxLen at _hn
  go_enter Tryd.func11, Tryd.ntmps11
  by_cases h0 : P < 0
  · go_wp2_with fail
    refine bodyPost_ret (v := .tuple #[pf0, .int .i64 1]) (by simp [results, Tryd.results11, go_sem, pf0]) rfl ⟨rfl, ?_⟩
    first | exact B0.out | exact (((B0.out.setCell (p := ⟨_, 0, none⟩) (by simp) _).setCell (p := ⟨_, 1, none⟩) (by simp) _).setCell (p := ⟨_, 2, none⟩) (by simp) _)
  · have h1 : (n : Int) ≤ P := by omega
    go_wp2_with fail
    refine bodyPost_ret (v := .tuple #[pf0, .int .i64 1]) (by simp [results, Tryd.results11, go_sem, pf0]) rfl ⟨rfl, ?_⟩
    first | exact B0.out | exact (((B0.out.setCell (p := ⟨_, 0, none⟩) (by simp) _).setCell (p := ⟨_, 1, none⟩) (by simp) _).setCell (p := ⟨_, 2, none⟩) (by simp) _)

end Go.Proofs.YtebeacejlkiglaaDoor
namespace Go.Proofs.YtebeacejlkiglaaDoor
open Go.RowKit
set_option maxRecDepth 100000

def knL : List (List Int) := [[97], [98]]
def knS : List (List Int) := pth 17 1 (lvN knL 2)
set_option maxHeartbeats 8000000 in
theorem kn_0 : (rtL knL == rtL []) = false := by kernel_rfl
set_option maxHeartbeats 8000000 in
theorem kn_1 : (hList 2 (chk 17 1 2 (hItem 1 [97]) knS) == rtL knL) = false := by kernel_rfl
theorem knS_len : knS.length = 1 := pth_len 17 1 (lvN knL 2) (by rw [lvN_len]; omega) (by rw [lvN_len]; omega)
theorem knS_ok : HsOk knS := pth_ok 17 1 (lvN_ok _ _)
theorem kn_ok : okPf 1 2 knS.length = true := by rw [knS_len]; rfl
theorem kn_yes : ckR 1 2 knS [98] (rtL knL) = 0 := by
  unfold ckR
  rw [if_pos kn_ok, if_pos]
  have h := (chk_pth 17 1 (lvN knL 2) (by rw [lvN_len]; omega)).resolve_right (by rw [lvN_len]; omega)
  rw [lvN_len] at h
  show hList 2 (chk 17 1 2 (hItem 1 [98]) knS) = _
  unfold rtL
  rw [if_neg (by decide)]
  show hList 2 _ = hList 2 (tp 17 (lvN knL 2))
  rw [← h]
  rfl
theorem kn_no : ckR 1 2 knS [97] (rtL knL) = 22 := by
  unfold ckR
  rw [if_pos kn_ok, if_neg]
  intro h
  have := kn_1
  rw [show hList 2 (chk 17 1 2 (hItem 1 [97]) knS) = rtL knL from h] at this
  simp at this
end Go.Proofs.YtebeacejlkiglaaDoor
