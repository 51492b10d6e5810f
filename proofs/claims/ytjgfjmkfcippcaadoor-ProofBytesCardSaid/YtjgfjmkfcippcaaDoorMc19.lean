/-
  The bytes of steps, as the document writes them.; What the document's Get answers; Put and Get of the program and of the document, each in one.; The law's Same of steps and their copy.
-/
import Derived.Test.YtjgfjmkfcippcaaDoorMc3
import Derived.Test.YtjgfjmkfcippcaaDoorMc13
import Derived.Test.YtjgfjmkfcippcaaDoorMc14
import Derived.Test.YtjgfjmkfcippcaaDoorMc18
namespace Go.Proofs.YtjgfjmkfcippcaaDoor
set_option maxRecDepth 100000
open Go.RowKit

theorem row_rd {w : World} {b o : Nat} {F : List Int} (h : rowOf w b o 32 = hc F) (hF : F.length = 32) : Rd w (.slice (some ⟨b, o, none⟩) 32 32) F := by
  refine ⟨_, 32, by rw [hF], .inr ⟨b, o, rfl, fun i hi => ?_⟩⟩
  exact range_rowOf w b o 32 i _ (by rw [h]; simp [hc, List.getD, hi])

set_option maxHeartbeats 16000000 in
theorem refPut6_any {w : World} {q : Option Addr} {c : Nat} {L : List Sp} (hs : RdSp w q L) (ok : SpOk L) (hn : L.length * 120 ≤ 140737488355328) :
    Calls Tryd.prog 38 #[.slice q L.length c] w fun r w' => (r = .returned (.tuple #[.slice none 0 0, .int .i64 (putE L)]) ∧ putE L ≠ 0 ∧ Below w.heap.size w w') ∨ (∃ u, r = .returned (.tuple #[u, .int .i64 0]) ∧ putE L = 0 ∧ BuS w w' u (stsB L L.length)) := by
  obtain ⟨i0, hi, hz0, hz1, hz2⟩ := info_parts Tryd.infoU8
  replace hi := Lib.hid hi
  replace hz0 := Lib.hid hz0
  replace hz1 := Lib.hid hz1
  replace hz2 := Lib.hid hz2
  have HS : Hid (∀ W, Below w.heap.size w W → RdSp W q L) := fun W hb => hs.on ok hb
  have OK := Lib.hid ok
  have NN := Lib.hid hn
  have hn2 : L.length ≤ 140737488355328 := by omega
  have B0 := Lib.hid (Below.refl w.heap.size w)
  clear hs ok hn
  by_cases hl : L.length ≤ 64
  · have u2 : IntKind.u64.wrap (L.length : Int) = (L.length : Int) := by rw [IntKind.wrap_u64]; omega
    go_enter Tryd.func38, Tryd.ntmps38
    go_wp2_with fail
    refine (refUint_any (L.length : Int) w).mono ?_
    rintro e w1 ⟨u, rfl, hN⟩
    obtain ⟨qu, cu, rfl⟩ := hN.rd.len
    have U1 := Lib.hid hN
    simp only [be8_len] at U1 ⊢
    clear hN u2 B0
    go_wp2_with fail
    go_loopw [4, 5] (fun ov iv wr => ∃ (i m : Nat) (qa : Option Addr) (ca : Nat), iv = .int .i64 (i : Int) ∧ ov = .slice qa m ca ∧ i ≤ L.length ∧ m ≤ 8 + 8296 * i ∧ Hid (m = (stsB L i).length) ∧ Hid (∀ j, j < i → okS (L.getD j sp0).mask (L.getD j sp0).sides = true) ∧ Hid (BuS w wr (.slice qa m ca) (stsB L i))) (fun _ iv _ => L.length - (intOf iv).toNat)
    case atStart => exact ⟨0, 8, qu, cu, rfl, rfl, by omega, by omega, (by rw [stsB_zero, be8_len]; exact Lib.hid rfl), (fun j hj => by omega), (by rw [stsB_zero]; exact U1)⟩
    case round =>
      clear U1
      obtain ⟨i, m, qa, ca, rfl, rfl, hil, hm, HM, hR, hU⟩ := hrel
      by_cases hlt : i < L.length
      · have oks := OK.out.get hlt
        obtain ⟨b, off, rfl, hx⟩ := (HS.out w (Below.refl _ _)).resolve_left (fun e => by rw [e] at hlt; simp at hlt)
        obtain ⟨qi, ki, r0, rh⟩ := hx i hlt
        have HL1 := Lib.hid (stsB_succ hlt)
        obtain ⟨s, hsx⟩ : ∃ s, L.getD i sp0 = s := ⟨_, rfl⟩
        have HSX := Lib.hid hsx
        rw [hsx] at r0 rh oks HL1
        have RR : Hid (∀ W, Below w.heap.size w W → rowOf W b (off + i * 97) 97 = spRow s (.slice qi s.sides.length ki)) := fun W hb => by rw [rowOf_on (by rw [r0, spRow_len oks]; omega) hb]; exact r0
        have OKS := Lib.hid oks
        have lk := oks.key
        have lo := oks.old
        have lm := oks.mask
        have hlk := hc_len s.key
        have hlo := hc_len s.old
        have hlm := hc_len s.mask
        have hns := oks.n32
        have RH : Hid (∀ W, Below w.heap.size w W → RdHs W qi s.sides) := fun W hb => rh.on (fun j hj => (oks.hs.get j hj).1) hb
        have hlp := pfRow_len oks.mask (.slice qi s.sides.length ki)
        have cc := sp_pf oks (RR.out _ hU.out.below)
        have SIDE : Hid (∀ W, Below w.heap.size w W → W.cell? ⟨b, off + i * 97 + 96, none⟩ = some (.slice qi s.sides.length ki)) := fun W hb => by
          have h97 := RR.out W hb
          have := range_rowOf W b (off + i * 97) 97 96 (.slice qi s.sides.length ki) (by rw [h97]; simp [spRow, pfRow, hc_len, OKS.out.key, OKS.out.old, OKS.out.mask])
          exact this
        clear hx r0 rh oks hsx
        go_wp2_with fail
        clear cc
        refine (refRight_any (k := ki) lm OKS.out.bm (RH.out _ hU.out.below) OKS.out.hs (by omega)).mono ?_
        rintro e w5 ⟨rfl, b5⟩
        have U5 := Lib.hid (hU.out.on b5)
        clear b5 hU
        cases hok : okS s.mask s.sides with
        | true =>
          have HR2 : Hid (∀ j, j < i + 1 → okS (L.getD j sp0).mask (L.getD j sp0).sides = true) := fun j hj => by
            by_cases e : j = i
            · subst e; rw [HSX.out]; exact hok
            · exact hR.out j (by omega)
          have h256 : s.sides.length ≤ 256 := by
            have := of_decide_eq_true hok
            have h2 := cntI_le s.mask 256
            omega
          clear hok
          obtain ⟨A, hA⟩ : ∃ A, stsB L i = A := ⟨_, rfl⟩
          rw [hA] at HM U5 HL1
          clear hA
          go_wp2_with fail
          refine wp_region_held_drew (S := fun _ => True) (by kernel_rfl) (trivial) (fun h0 => ?_)
          replace U5 := Lib.hid (U5.out.on ((Below.refl _ _).drew))
          generalize w5.drew = w5 at *
          refine wpAnyH_take (i := 0) (v := ?_) (by rw [List.getElem?_toArray]; rfl) (by kernel_rfl) (by kernel_rfl) (by kernel_rfl) (by exact fun _ _ _ h => h) (Or.inl ⟨by rfl, ?_⟩) h0 ?_
          rotate_left
          · intro W hW
            go_simp
            all_goals with_reducible rfl
          try simp only [Act.put, List.setIfInBounds_toArray, List.set_cons_zero, List.set_cons_succ]
          refine wpAnyH_take (i := 1) (v := ?_) (by rw [List.getElem?_toArray]; rfl) (by kernel_rfl) (by kernel_rfl) (by kernel_rfl) (by exact fun _ _ _ h => h) (Or.inl ⟨by rfl, ?_⟩) h0 ?_
          rotate_left
          · intro W hW
            go_simp
            all_goals with_reducible rfl
          try simp only [Act.put, List.setIfInBounds_toArray, List.set_cons_zero, List.set_cons_succ]
          refine wpAnyH_take (i := 2) (v := ?_) (by rw [List.getElem?_toArray]; rfl) (by kernel_rfl) (by kernel_rfl) (by kernel_rfl) (by exact fun _ _ _ h => h) (Or.inl ⟨by rfl, ?_⟩) h0 ?_
          rotate_left
          · intro W hW
            go_simp
            all_goals with_reducible rfl
          try simp only [Act.put, List.setIfInBounds_toArray, List.set_cons_zero, List.set_cons_succ]
          refine wpAnyH_take (i := 3) (v := ?_) (by rw [List.getElem?_toArray]; rfl) (by kernel_rfl) (by kernel_rfl) (by kernel_rfl) (by exact fun _ _ _ h => h) (Or.inl ⟨by rfl, ?_⟩) h0 ?_
          rotate_left
          · intro W hW
            go_simp
            all_goals with_reducible rfl
          try simp only [Act.put, List.setIfInBounds_toArray, List.set_cons_zero, List.set_cons_succ]
          refine wpAnyH_take (i := 4) (v := ?_) (by rw [List.getElem?_toArray]; rfl) (by kernel_rfl) (by kernel_rfl) (by kernel_rfl) (by exact fun _ _ _ h => h) (Or.inl ⟨by rfl, ?_⟩) h0 ?_
          rotate_left
          · intro W hW
            go_simp
            all_goals with_reducible rfl
          try simp only [Act.put, List.setIfInBounds_toArray, List.set_cons_zero, List.set_cons_succ]
          refine wpAnyH_take (i := 5) (v := ?_) (by rw [List.getElem?_toArray]; rfl) (by kernel_rfl) (by kernel_rfl) (by kernel_rfl) (by exact fun _ _ _ h => h) (Or.inl ⟨by rfl, ?_⟩) h0 ?_
          rotate_left
          · intro W hW
            go_simp
            all_goals with_reducible rfl
          try simp only [Act.put, List.setIfInBounds_toArray, List.set_cons_zero, List.set_cons_succ]
          refine wpAnyH_take (i := 7) (v := ?_) (by rw [List.getElem?_toArray]; rfl) (by kernel_rfl) (by kernel_rfl) (by kernel_rfl) (by exact fun _ _ _ h => h) (Or.inl ⟨by rfl, ?_⟩) h0 ?_
          rotate_left
          · intro W hW
            go_simp
            all_goals with_reducible rfl
          try simp only [Act.put, List.setIfInBounds_toArray, List.set_cons_zero, List.set_cons_succ]
          refine wpAnyH_take (i := 8) (v := ?_) (by rw [List.getElem?_toArray]; rfl) (by kernel_rfl) (by kernel_rfl) (by kernel_rfl) (by exact fun _ _ _ h => h) (Or.inl ⟨by rfl, ?_⟩) h0 ?_
          rotate_left
          · intro W hW
            go_simp
            all_goals with_reducible rfl
          try simp only [Act.put, List.setIfInBounds_toArray, List.set_cons_zero, List.set_cons_succ]
          refine wpAnyH_take (i := 9) (v := ?_) (by rw [List.getElem?_toArray]; rfl) (by kernel_rfl) (by kernel_rfl) (by kernel_rfl) (by exact fun _ _ _ h => h) (Or.inl ⟨by rfl, ?_⟩) h0 ?_
          rotate_left
          · intro W hW
            go_simp
            all_goals with_reducible rfl
          try simp only [Act.put, List.setIfInBounds_toArray, List.set_cons_zero, List.set_cons_succ]
          refine wpAnyH_take (i := 10) (v := ?_) (by rw [List.getElem?_toArray]; rfl) (by kernel_rfl) (by kernel_rfl) (by kernel_rfl) (by exact fun _ _ _ h => h) (Or.inl ⟨by rfl, ?_⟩) h0 ?_
          rotate_left
          · intro W hW
            go_simp
            all_goals with_reducible rfl
          try simp only [Act.put, List.setIfInBounds_toArray, List.set_cons_zero, List.set_cons_succ]
          refine wpAnyH_take (i := 11) (v := ?_) (by rw [List.getElem?_toArray]; rfl) (by kernel_rfl) (by kernel_rfl) (by kernel_rfl) (by exact fun _ _ _ h => h) (Or.inl ⟨by rfl, ?_⟩) h0 ?_
          rotate_left
          · intro W hW
            go_simp
            all_goals with_reducible rfl
          try simp only [Act.put, List.setIfInBounds_toArray, List.set_cons_zero, List.set_cons_succ]
          refine wpAnyH_take (i := 13) (v := ?_) (by rw [List.getElem?_toArray]; rfl) (by kernel_rfl) (by kernel_rfl) (by kernel_rfl) (by exact fun _ _ _ h => h) (Or.inl ⟨by rfl, ?_⟩) h0 ?_
          rotate_left
          · intro W hW
            go_simp
            all_goals with_reducible rfl
          try simp only [Act.put, List.setIfInBounds_toArray, List.set_cons_zero, List.set_cons_succ]
          refine wpAnyH_take (i := 14) (v := ?_) (by rw [List.getElem?_toArray]; rfl) (by kernel_rfl) (by kernel_rfl) (by kernel_rfl) (by exact fun _ _ _ h => h) (Or.inl ⟨by rfl, ?_⟩) h0 ?_
          rotate_left
          · intro W hW
            go_simp
            all_goals with_reducible rfl
          try simp only [Act.put, List.setIfInBounds_toArray, List.set_cons_zero, List.set_cons_succ]
          refine wpAnyH_take (i := 15) (v := ?_) (by rw [List.getElem?_toArray]; rfl) (by kernel_rfl) (by kernel_rfl) (by kernel_rfl) (by exact fun _ _ _ h => h) (Or.inl ⟨by rfl, ?_⟩) h0 ?_
          rotate_left
          · intro W hW
            go_simp
            all_goals with_reducible rfl
          try simp only [Act.put, List.setIfInBounds_toArray, List.set_cons_zero, List.set_cons_succ]
          refine wpAnyH_take (i := 16) (v := ?_) (by rw [List.getElem?_toArray]; rfl) (by kernel_rfl) (by kernel_rfl) (by kernel_rfl) (by exact fun _ _ _ h => h) (Or.inl ⟨by rfl, ?_⟩) h0 ?_
          rotate_left
          · intro W hW
            go_simp
            all_goals with_reducible rfl
          try simp only [Act.put, List.setIfInBounds_toArray, List.set_cons_zero, List.set_cons_succ]
          refine wpAnyH_take (i := 17) (v := ?_) (by rw [List.getElem?_toArray]; rfl) (by kernel_rfl) (by kernel_rfl) (by kernel_rfl) (by exact fun _ _ _ h => h) (Or.inl ⟨by rfl, ?_⟩) h0 ?_
          rotate_left
          · intro W hW
            go_simp
            all_goals with_reducible rfl
          try simp only [Act.put, List.setIfInBounds_toArray, List.set_cons_zero, List.set_cons_succ]
          refine wpAnyH_take (i := 18) (v := ?_) (by rw [List.getElem?_toArray]; rfl) (by kernel_rfl) (by kernel_rfl) (by kernel_rfl) (by exact fun _ _ _ h => h) (Or.inl ⟨by rfl, ?_⟩) h0 ?_
          rotate_left
          · intro W hW
            go_simp
            all_goals with_reducible rfl
          try simp only [Act.put, List.setIfInBounds_toArray, List.set_cons_zero, List.set_cons_succ]
          refine wpAnyH_ready (rs := [6]) (by kernel_rfl) (by simp) ?_
          refine AllReadyH.cons (by rw [List.getElem?_toArray]; rfl) (fun K hK => ?_) AllReadyH.nil
          rw [if_pos (by rfl)]
          have RD6 := Lib.hid (row_rd (sp_key OKS.out (RR.out _ U5.out.below)) lk)
          have OW6 : w5.ownsRow 0 5 1 (.slice qa (m) ca) (m) (bc (A)) := by
            have := U5.out.own
            rw [show (A).length = m by rw [HM.out]] at this
            exact this
          refine wp_append_row _ _ rfl Tryd.underlying64 hi.out hz0.out hz1.out hz2.out rfl OW6 (RD6.out.src (P := Tryd.prog) Tryd.underlying64) (by rw [lk]; unfold maxLen; omega) (by rw [lk]; omega) ?_
          intro q6 k6 w6 own6' grow6' fr6'
          have U6 : Hid (BuS w w6 (.slice q6 (m + 32) k6) ((A) ++ s.key)) := U5.out.grow (ys := s.key) lk (v' := .slice q6 (m + 32) k6) (by
            rw [show (A).length = m by rw [HM.out]]
            have := own6'
            (try simp only [lk] at this)
            exact this) grow6' (by have := fr6'; (try simp only [lk] at this); exact this)
          try simp only [lk]
          clear own6' grow6' fr6' OW6 RD6
          refine hK.out _ _ (trivial) (fun h6 => ?_)
          clear hK K
          try simp only [Act.put, List.setIfInBounds_toArray, List.set_cons_zero, List.set_cons_succ]
          refine wpAnyH_ready (rs := [12]) (by kernel_rfl) (by simp) ?_
          refine AllReadyH.cons (by rw [List.getElem?_toArray]; rfl) (fun K hK => ?_) AllReadyH.nil
          rw [if_pos (by rfl)]
          have RD12 := Lib.hid (row_rd (sp_old OKS.out (RR.out _ U6.out.below)) lo)
          have OW12 : w6.ownsRow 0 5 1 (.slice q6 (m + 32) k6) (m + 32) (bc (A ++ s.key)) := by
            have := U6.out.own
            rw [show (A ++ s.key).length = m + 32 by simp only [List.length_append, lk, HM.out]] at this
            exact this
          refine wp_append_row _ _ rfl Tryd.underlying64 hi.out hz0.out hz1.out hz2.out rfl OW12 (RD12.out.src (P := Tryd.prog) Tryd.underlying64) (by rw [lo]; unfold maxLen; omega) (by rw [lo]; omega) ?_
          intro q12 k12 w12 own12' grow12' fr12'
          have U12 : Hid (BuS w w12 (.slice q12 (m + 32 + 32) k12) ((A ++ s.key) ++ s.old)) := U6.out.grow (ys := s.old) lo (v' := .slice q12 (m + 32 + 32) k12) (by
            rw [show (A ++ s.key).length = m + 32 by simp only [List.length_append, lk, HM.out]]
            have := own12'
            (try simp only [lo] at this)
            exact this) grow12' (by have := fr12'; (try simp only [lo] at this); exact this)
          try simp only [lo]
          clear own12' grow12' fr12' OW12 RD12
          refine hK.out _ _ (trivial) (fun h12 => ?_)
          clear hK K
          try simp only [Act.put, List.setIfInBounds_toArray, List.set_cons_zero, List.set_cons_succ]
          refine wpAnyH_ready (rs := [19]) (by kernel_rfl) (by simp) ?_
          refine AllReadyH.cons (by rw [List.getElem?_toArray]; rfl) (fun K hK => ?_) AllReadyH.nil
          rw [if_pos (by rfl)]
          have RD19 := Lib.hid (row_rd (sp_mask OKS.out (RR.out _ U12.out.below)) lm)
          have OW19 : w12.ownsRow 0 5 1 (.slice q12 (m + 32 + 32) k12) (m + 32 + 32) (bc ((A ++ s.key) ++ s.old)) := by
            have := U12.out.own
            rw [show ((A ++ s.key) ++ s.old).length = m + 32 + 32 by simp only [List.length_append, lk, lo, HM.out]] at this
            exact this
          refine wp_append_row _ _ rfl Tryd.underlying64 hi.out hz0.out hz1.out hz2.out rfl OW19 (RD19.out.src (P := Tryd.prog) Tryd.underlying64) (by rw [lm]; unfold maxLen; omega) (by rw [lm]; omega) ?_
          intro q19 k19 w19 own19' grow19' fr19'
          have U19 : Hid (BuS w w19 (.slice q19 (m + 32 + 32 + 32) k19) (((A ++ s.key) ++ s.old) ++ s.mask)) := U12.out.grow (ys := s.mask) lm (v' := .slice q19 (m + 32 + 32 + 32) k19) (by
            rw [show ((A ++ s.key) ++ s.old).length = m + 32 + 32 by simp only [List.length_append, lk, lo, HM.out]]
            have := own19'
            (try simp only [lm] at this)
            exact this) grow19' (by have := fr19'; (try simp only [lm] at this); exact this)
          try simp only [lm]
          clear own19' grow19' fr19' OW19 RD19
          refine hK.out _ _ (trivial) (fun h19 => ?_)
          clear hK K
          try simp only [Act.put, List.setIfInBounds_toArray, List.set_cons_zero, List.set_cons_succ]
          refine wpAnyH_take (i := 20) (v := ?_) (by rw [List.getElem?_toArray]; rfl) (by kernel_rfl) (by kernel_rfl) (by kernel_rfl) (by exact fun _ _ _ h => h) (Or.inl ⟨by rfl, ?_⟩) h19 ?_
          rotate_left
          · intro W hW
            go_simp
            all_goals with_reducible rfl
          try simp only [Act.put, List.setIfInBounds_toArray, List.set_cons_zero, List.set_cons_succ]
          refine wpAnyH_done (by kernel_rfl) ?_ _
          have us : IntKind.u64.wrap (s.sides.length : Int) = (s.sides.length : Int) := by rw [IntKind.wrap_u64]; omega
          have cs : w19.cell? ⟨b, off + i * 97 + 96, none⟩ = some (.slice qi s.sides.length ki) := SIDE.out _ U19.out.below
          go_wp2_with fail
          refine (refUint_any (s.sides.length : Int) w19).mono ?_
          rintro e w20 ⟨u, rfl, hN⟩
          obtain ⟨qv, cv, rfl⟩ := hN.rd.len
          have U20 := Lib.hid (U19.out.on hN.below)
          have V20 : Hid (Rd w20 (.slice qv 8 cv) (be8 s.sides.length)) := Lib.hid hN.rd
          have OW : w20.ownsRow 0 5 1 (.slice q19 (m + 32 + 32 + 32) k19) (m + 32 + 32 + 32) (bc (((A ++ s.key) ++ s.old) ++ s.mask)) := by
            have := U20.out.own
            rw [show (((A ++ s.key) ++ s.old) ++ s.mask).length = m + 32 + 32 + 32 by simp only [List.length_append, lk, lo, lm, HM.out]] at this
            exact this
          simp only [be8_len]
          clear hN us cs U19
          go_wp2_with (at_builtin; refine wpList_append_row rfl _ _ rfl Tryd.underlying64 hi.out hz0.out hz1.out hz2.out rfl OW (V20.out.src (P := Tryd.prog) Tryd.underlying64) (by rw [be8_len]; unfold maxLen; omega) (by rw [be8_len]; omega) ?_)
          intro q21 k21 w21 own21 grow21' fr21
          have U21 : Hid (BuS w w21 (.slice q21 (m + 32 + 32 + 32 + 8) k21) ((((A ++ s.key) ++ s.old) ++ s.mask) ++ be8 s.sides.length)) := U20.out.grow (ys := be8 s.sides.length) (by rw [be8_len]) (by
            rw [show (((A ++ s.key) ++ s.old) ++ s.mask).length = m + 32 + 32 + 32 by simp only [List.length_append, lk, lo, lm, HM.out]]
            simp only [List.append_assoc]
            exact own21) grow21' fr21
          obtain ⟨Y, hY⟩ : ∃ Y, ((((A ++ s.key) ++ s.old) ++ s.mask) ++ be8 (s.sides.length : Int)) = Y := ⟨_, rfl⟩
          have HY : Hid (A ++ stB s = Y ++ s.sides.flatten) := by show _ = _; rw [← hY]; simp [stB]
          have lY : Hid (Y.length = m + 104) := by show _ = _; rw [← hY]; simp only [List.length_append, be8_len, lk, lo, lm, HM.out]
          rw [hY] at U21
          have U22 : Hid (BuS w w21 (.slice q21 (m + 32 + 32 + 32 + 8) k21) (Y ++ (s.sides.take 0).flatten)) := by
            show BuS _ _ _ _
            rw [List.take_zero, List.flatten_nil, List.append_nil]
            exact U21.out
          try simp only [be8_len]
          clear own21 grow21' fr21 OW U20 V20 hY U21 U6 U12 U5
          go_wp2_with fail
          go_loopw [4, 6] (fun ov iv wr => ∃ (j n : Nat) (qb : Option Addr) (cb : Nat), iv = .int .i64 (j : Int) ∧ ov = .slice qb n cb ∧ j ≤ s.sides.length ∧ n ≤ m + 104 + 32 * j ∧ Hid (n = m + 104 + 32 * j) ∧ Hid (BuS w wr (.slice qb n cb) (Y ++ (s.sides.take j).flatten))) (fun _ iv _ => s.sides.length - (intOf iv).toNat)
          case atStart => exact ⟨0, m + 32 + 32 + 32 + 8, q21, k21, rfl, rfl, by omega, by omega, (by show _ = _; omega), U22⟩
          case round =>
            clear U22
            obtain ⟨j, n, qb, cb, rfl, rfl, hjl, hnl, HNN, hV⟩ := hrel
            have cs := SIDE.out _ hV.out.below
            by_cases hjt : j < s.sides.length
            · obtain ⟨bs, offs, hq, hxs⟩ := (RH.out _ hV.out.below).resolve_left (fun e => by rw [e] at hjt; simp at hjt)
              have lF := (OKS.out.hs.get j hjt).1
              have HRD := Lib.hid (row_rd (hxs j hjt) lF)
              have HF := Lib.hid (hashes_take hjt)
              have hfl : ((s.sides.take j).flatten).length = 32 * j := by
                have := flat_len (Ss := s.sides.take j) (fun G hG => OKS.out.hs G (List.mem_of_mem_take hG))
                rw [this, List.length_take]; omega
              have OW : wr.ownsRow 0 5 1 (.slice qb n cb) n (bc (Y ++ (s.sides.take j).flatten)) := by
                have := hV.out.own
                rw [List.length_append, lY.out, hfl, ← HNN.out] at this
                exact this
              have LL := Lib.hid (show (Y ++ (s.sides.take j).flatten).length = n by rw [List.length_append, lY.out, hfl, ← HNN.out])
              subst hq
              clear hxs hfl
              obtain ⟨F, hFx⟩ : ∃ F, s.sides.getD j [] = F := ⟨_, rfl⟩
              rw [hFx] at HRD lF HF
              clear hFx
              go_wp2_with (at_builtin; refine wpList_append_row rfl _ _ rfl Tryd.underlying64 hi.out hz0.out hz1.out hz2.out rfl OW (HRD.out.src (P := Tryd.prog) Tryd.underlying64) (by rw [lF]; unfold maxLen; omega) (by rw [lF]; omega) ?_)
              intro q9 k9 w9 own9 grow9' fr9
              have HN9 : Hid (BuS w w9 (.slice q9 (n + 32) k9) (Y ++ (s.sides.take (j + 1)).flatten)) := by
                have h1 := hV.out.grow (ys := F) lF (v' := .slice q9 (n + 32) k9) (by
                  rw [LL.out]
                  have := own9
                  (try simp only [lF] at this)
                  exact this) grow9' (by have := fr9; (try simp only [lF] at this); exact this)
                rw [HF.out, ← List.append_assoc]
                exact h1
              try simp only [lF]
              have HM9 : Hid (n + 32 = m + 104 + 32 * (j + 1)) := by show _ = _; rw [HNN.out]; omega
              clear own9 grow9' fr9 OW hV cs HRD LL
              go_wp2_with fail
              go_roundw
              case rel => exact ⟨j + 1, n + 32, q9, k9, by go_num, rfl, by omega, by omega, HM9, HN9⟩
              case measure => simp [intOf]; omega
            · obtain rfl : j = s.sides.length := by omega
              have HE : Hid (BuS w wr (.slice qb n cb) (stsB L (i + 1))) := by
                show BuS _ _ _ _
                rw [HL1.out, HY.out]
                have := hV.out
                rw [List.take_length] at this
                exact this
              have HM2 : Hid (n = (stsB L (i + 1)).length) := by
                show _ = _
                rw [HL1.out, HY.out, List.length_append, lY.out, flat_len OKS.out.hs, HNN.out]; omega
              clear hV
              go_wp2_with fail
              go_roundw
              case rel => exact ⟨i + 1, n, qb, cb, by go_num, rfl, by omega, by omega, HM2, HR2, HE⟩
              case measure => simp [intOf]; omega
        | false =>
          have HE : Hid (putE L = 21) := by
            show _ = _
            unfold putE
            rw [if_neg (by omega), if_neg (fun h => by have := h i hlt; rw [HSX.out, hok] at this; simp at this)]
          have B5 := Lib.hid U5.out.below
          clear hok
          dsimp only
          repeat (first | go_values | go_skip | go_guarded | go_step | go_upon | go_back)
          refine bodyPost_ret (v := .tuple #[.slice none 0 0, .int .i64 21]) (by simp [results, Tryd.results38, go_sem]) rfl (.inl ⟨by rw [HE.out], by rw [HE.out]; decide, B5.out⟩)
      · obtain rfl : i = L.length := by omega
        have BS := Lib.hid hU.out.below
        by_cases h6 : 65536 < m
        · have HE : Hid (putE L = 6) := by
            show _ = _
            unfold putE
            rw [if_neg (by omega), if_pos hR.out, if_pos (by rw [← HM.out]; exact h6)]
          go_wp2_with fail
          refine bodyPost_ret (v := .tuple #[.slice none 0 0, .int .i64 6]) (by simp [results, Tryd.results38, go_sem]) rfl (.inl ⟨by rw [HE.out], by rw [HE.out]; decide, BS.out⟩)
        · have HE : Hid (putE L = 0) := by
            show _ = _
            unfold putE
            rw [if_neg (by omega), if_pos hR.out, if_neg (by rw [← HM.out]; exact h6)]
          go_wp2_with fail
          refine bodyPost_ret (v := .tuple #[.slice qa m ca, .int .i64 0]) (by simp [results, Tryd.results38, go_sem]) rfl (.inr ⟨_, rfl, HE.out, hU.out⟩)
  · have HE : Hid (putE L = 6) := by
      show _ = _
      unfold putE
      rw [if_pos (by omega)]
    have hlt : 64 < L.length := by omega
    clear hl
    go_enter Tryd.func38, Tryd.ntmps38
    go_wp2_with fail
    refine bodyPost_ret (v := .tuple #[.slice none 0 0, .int .i64 6]) (by simp [results, Tryd.results38, go_sem]) rfl (.inl ⟨by rw [HE.out], by rw [HE.out]; decide, B0.out⟩)
end Go.Proofs.YtjgfjmkfcippcaaDoor
namespace Go.Proofs.YtjgfjmkfcippcaaDoor
set_option maxRecDepth 100000
open Go.RowKit

def RGet6P (xs : List Int) (w : World) (r : Ending) (w' : World) : Prop := ∃ (q : Option Addr) (c : Nat) (L : List Sp) (z : Int), r = .returned (.tuple #[.slice q L.length c, .int .i64 z]) ∧ RdSp w' q L ∧ SpOk L ∧ Below w.heap.size w w' ∧ (∀ M, Told6 xs M → z = 0 ∧ L = M) ∧ ((∀ M, ¬ Told6 xs M) → z = 21 ∧ L = [])

set_option maxHeartbeats 16000000 in
theorem refGet6_any {w : World} {vb : Value} {xs : List Int} (hr : Rd w vb xs) (hbx : Bytes xs) (hxl : xs.length ≤ 140737488355328) :
    Calls Tryd.prog 40 #[vb] w (RGet6P xs w) := by
  obtain ⟨qv, cv, rfl⟩ := hr.len
  have KN := Lib.hid (rdNew_any hr hxl)
  have BX := Lib.hid hbx
  clear hr hbx
  have NONE : ∀ W : World, Below w.heap.size w W → (∀ M, ¬ Told6 xs M) → RGet6P xs w (.returned (.tuple #[.slice none 0 0, .int .i64 21])) W := fun W hb hno =>
    ⟨none, 0, [], 21, rfl, .inl rfl, fun _ h => by simp at h, hb, fun M hM => absurd hM (hno M), fun _ => ⟨rfl, rfl⟩⟩
  replace NONE := Lib.hid NONE
  go_enter Tryd.func40, Tryd.ntmps40
  go_wp2_with fail
  refine KN.out.mono ?_
  rintro e w1 ⟨p, v1, rfl, hV, hp, hb1, -⟩
  have KF := Lib.hid (From6_any hV BX.out hb1 hp)
  clear hV hb1 KN
  go_wp2_with fail
  refine KF.out.mono ?_
  rintro e w2 ⟨n, q, c, L, Q, pos, f, rfl, hO, hK, hn, hLn, hV, hfn, hD, hT⟩
  have B2 := Lib.hid hO.below
  have RQ := Lib.hid (hO.rd hK).2
  have OK := Lib.hid hK
  have TD : Hid (∀ M, Told6 xs M → f = false ∧ L = M ∧ pos = xs.length) := fun M hM => by
    have hf := (hT M hM).1
    have hl := hfn hf
    subst hl
    obtain ⟨h1, h2, h3⟩ := hT.done hM
    exact ⟨h1, h2, by have := (hD h1).1; omega⟩
  have TT : Hid (f = false → pos = xs.length → (∀ j, j < L.length → okS (L.getD j sp0).mask (L.getD j sp0).sides = true) → xs.length ≤ 65536 → Told6 xs L) := fun hf hp hr hx => by
    subst hf hp
    have hl := hfn rfl
    subst hl
    exact hD.told OK.out hr hn hx
  have hL64 : L.length ≤ 64 := by omega
  clear hO hK hfn hD hT KF
  go_wp2_with fail
  refine (rdDone_st hV).mono ?_
  rintro e w3 ⟨d, m, rfl, rfl, hd⟩
  have b3 := below_drewN (Below.refl w2.heap.size w2) m
  have B3 := Lib.hid (B2.out.trans (b3.mono B2.out.size))
  have RQ3 := Lib.hid (RQ.out.on OK.out b3)
  clear b3 B2 RQ hV
  generalize w2.drewN m = w3 at *
  by_cases hd0 : d = 0
  case neg =>
    have hd1 : (d == 0) = false := by simpa using hd0
    have HQ := Lib.hid (NONE.out w3 B3.out (fun M hM => hd0 (hd.2 ⟨(TD.out M hM).1, (TD.out M hM).2.2⟩)))
    clear hd TD TT RQ3 NONE
    go_wp2_with fail
    refine bodyPost_ret (v := .tuple #[.slice none 0 0, .int .i64 21]) (by simp [results, Tryd.results40, go_sem]) rfl HQ.out
  subst hd0
  have HD := Lib.hid (hd.1 rfl)
  clear hd
  by_cases hx : xs.length ≤ 65536
  case neg =>
    have HQ := Lib.hid (NONE.out w3 B3.out (fun M hM => hx hM.short))
    have hxI : (65536 : Int) < (xs.length : Int) := by omega
    clear TD TT RQ3 NONE
    go_wp2_with fail
    refine bodyPost_ret (v := .tuple #[.slice none 0 0, .int .i64 21]) (by simp [results, Tryd.results40, go_sem]) rfl HQ.out
  have hxI : ¬ (65536 : Int) < (xs.length : Int) := by omega
  go_wp2_with fail
  go_loopw [6] (fun iv wr => ∃ i : Nat, iv = .int .i64 (i : Int) ∧ i ≤ L.length ∧ Hid (∀ j, j < i → okS (L.getD j sp0).mask (L.getD j sp0).sides = true) ∧ Hid (Below w.heap.size w wr) ∧ Hid (RdSp wr q L)) (fun iv _ => L.length - (intOf iv).toNat)
  case atStart => exact ⟨0, rfl, by omega, Lib.hid (fun j hj => by omega), B3, RQ3⟩
  case round =>
    clear B3 RQ3
    obtain ⟨i, rfl, hi', hS, hB, hQ⟩ := hrel
    by_cases hlt : i < L.length
    · have hne : L ≠ [] := fun e => by rw [e] at hlt; simp at hlt
      obtain ⟨b, off, rfl, hx2⟩ := hQ.out.resolve_left hne
      obtain ⟨qi, ki, r97, rh⟩ := hx2 i hlt
      have oks := OK.out.get hlt
      have FB : Hid (okS (L.getD i sp0).mask (L.getD i sp0).sides = false → ∀ M, ¬ Told6 xs M) := fun hk M hM => by
        obtain ⟨_, e, _⟩ := TD.out M hM
        subst e
        have := hM.right i hlt
        rw [hk] at this
        simp at this
      have FS : Hid (okS (L.getD i sp0).mask (L.getD i sp0).sides = true → ∀ j, j < i + 1 → okS (L.getD j sp0).mask (L.getD j sp0).sides = true) := fun hk j hj => by
        by_cases e : j = i
        · subst e; exact hk
        · exact hS.out j (by omega)
      obtain ⟨s, hsx⟩ : ∃ s, L.getD i sp0 = s := ⟨_, rfl⟩
      rw [hsx] at r97 rh oks FB FS
      have cc := sp_pf oks r97
      have OKS := Lib.hid oks
      have lm := oks.mask
      have hlp := pfRow_len lm (.slice qi s.sides.length ki)
      have RH := Lib.hid rh
      have n32 := oks.n32
      clear hx2 hne r97 rh oks hsx hS
      go_wp2_with fail
      clear cc
      refine (refRight_any (k := ki) lm OKS.out.bm RH.out OKS.out.hs (by omega)).mono ?_
      rintro e w12 ⟨rfl, hb12⟩
      have B12 := Lib.hid (hB.out.trans (hb12.mono hB.out.size))
      have Q12 := Lib.hid (hQ.out.on OK.out hb12)
      clear hb12 hB hQ RH
      cases hk : okS s.mask s.sides with
      | false =>
        have HQ := Lib.hid (NONE.out w12 B12.out (FB.out hk))
        clear NONE TD TT Q12 B12 FB FS
        go_wp2_with fail
        refine bodyPost_ret (v := .tuple #[.slice none 0 0, .int .i64 21]) (by simp [results, Tryd.results40, go_sem]) rfl HQ.out
      | true =>
        have S12 := Lib.hid (FS.out hk)
        clear FB FS hk
        go_wp2_with fail
        go_roundw
        case rel => exact ⟨i + 1, by go_num, by omega, S12, B12, Q12⟩
        case measure => simp [intOf]; omega
    · obtain rfl : i = L.length := by omega
      have TL := Lib.hid (TT.out HD.out.1 HD.out.2 hS.out hx)
      have HQ : Hid (RGet6P xs w (.returned (.tuple #[.slice q L.length c, .int .i64 0])) wr) :=
        ⟨q, c, L, 0, rfl, hQ.out, OK.out, hB.out, fun M hM => ⟨rfl, (TD.out M hM).2.1⟩, fun hno => absurd TL.out (hno L)⟩
      clear NONE TD TT hS hB hQ TL
      go_wp2_with fail
      refine bodyPost_ret (v := .tuple #[.slice q L.length c, .int .i64 0]) (by simp [results, Tryd.results40, go_sem]) rfl HQ.out

/-! ### Each in one -/
def pB6 (L : List Sp) : List Int := if putE L = 0 then stsB L L.length else []
theorem Put6_all {w : World} {q : Option Addr} {c : Nat} {L : List Sp} (hs : RdSp w q L) (ok : SpOk L) (hn : L.length * 120 ≤ 140737488355328) :
    Calls Tryd.prog 37 #[.slice q L.length c] w fun e w' => ∃ q' k', e = .returned (.tuple #[.slice q' (pB6 L).length k', .int .i64 (putE L)]) ∧ Rd w' (.slice q' (pB6 L).length k') (pB6 L) ∧ Below w.heap.size w w' := by
  refine (Put6_any hs ok hn).mono ?_
  rintro e w' (⟨rfl, h, hb⟩ | ⟨u, rfl, h, hN⟩)
  · have e1 : pB6 L = [] := if_neg h
    rw [e1]
    exact ⟨none, 0, rfl, Rd.nil w', hb⟩
  · have e1 : pB6 L = stsB L L.length := if_pos h
    rw [e1, h]
    obtain ⟨q', k', rfl⟩ := hN.rd.len
    exact ⟨q', k', rfl, hN.rd, hN.2.2.1⟩
theorem refPut6_all {w : World} {q : Option Addr} {c : Nat} {L : List Sp} (hs : RdSp w q L) (ok : SpOk L) (hn : L.length * 120 ≤ 140737488355328) :
    Calls Tryd.prog 38 #[.slice q L.length c] w fun e w' => ∃ q' k', e = .returned (.tuple #[.slice q' (pB6 L).length k', .int .i64 (putE L)]) ∧ Rd w' (.slice q' (pB6 L).length k') (pB6 L) ∧ Below w.heap.size w w' := by
  refine (refPut6_any hs ok hn).mono ?_
  rintro e w' (⟨rfl, h, hb⟩ | ⟨u, rfl, h, hN⟩)
  · have e1 : pB6 L = [] := if_neg h
    rw [e1]
    exact ⟨none, 0, rfl, Rd.nil w', hb⟩
  · have e1 : pB6 L = stsB L L.length := if_pos h
    rw [e1, h]
    obtain ⟨q', k', rfl⟩ := hN.rd.len
    exact ⟨q', k', rfl, hN.rd, hN.below⟩
/-- What Get answers hangs on the bytes alone. -/
theorem Get6_both {xs : List Int} (hbx : Bytes xs) (hxl : xs.length ≤ 140737488355328) : ∃ (L : List Sp) (z : Int), SpOk L ∧ L.length ≤ 64 ∧
    (∀ (w : World) (vb : Value), Rd w vb xs → Calls Tryd.prog 39 #[vb] w fun r w' => ∃ q c, r = .returned (.tuple #[.slice q L.length c, .int .i64 z]) ∧ RdSp w' q L ∧ Below w.heap.size w w') ∧
    (∀ (w : World) (vb : Value), Rd w vb xs → Calls Tryd.prog 40 #[vb] w fun r w' => ∃ q c, r = .returned (.tuple #[.slice q L.length c, .int .i64 z]) ∧ RdSp w' q L ∧ Below w.heap.size w w') := by
  by_cases h : ∃ M, Told6 xs M
  · obtain ⟨M, hM⟩ := h
    refine ⟨M, 0, hM.ok, hM.most, fun w vb hr => ?_, fun w vb hr => (refGet6_any hr hbx hxl).mono ?_⟩
    · have hx := hM.short
      rw [hM.eq] at hr hx
      exact Get6_back hr hM.ok hM.most hx hM.right
    · rintro e w' ⟨q, c, L, z, rfl, h1, _, h3, h4, _⟩
      obtain ⟨rfl, rfl⟩ := h4 M hM
      exact ⟨q, c, rfl, h1, h3⟩
  · have hno : ∀ M, ¬ Told6 xs M := fun M hM => h ⟨M, hM⟩
    refine ⟨[], 21, fun _ h => by simp at h, by simp, fun w vb hr => (Get6_not hr hbx hxl hno).mono ?_, fun w vb hr => (refGet6_any hr hbx hxl).mono ?_⟩
    · rintro e w' ⟨rfl, hb⟩
      exact ⟨none, 0, rfl, .inl rfl, hb⟩
    · rintro e w' ⟨q, c, L, z, rfl, h1, _, h3, _, h5⟩
      obtain ⟨rfl, rfl⟩ := h5 hno
      exact ⟨q, c, rfl, h1, h3⟩
end Go.Proofs.YtjgfjmkfcippcaaDoor
namespace Go.Proofs.YtjgfjmkfcippcaaDoor
set_option maxRecDepth 100000
open Go.RowKit

set_option maxHeartbeats 16000000 in
theorem Same6_any {w : World} {q q' : Option Addr} {c c' : Nat} {L : List Sp} (hs : RdSp w q L) (hs' : RdSp w q' L) (ok : SpOk L) (hn : L.length ≤ 140737488355328) :
    Calls Tryd.prog 35 #[.slice q L.length c, .slice q' L.length c'] w fun e w' => e = .returned (.bool true) ∧ Below w.heap.size w w' := by
  have HA := Lib.hid hs
  have HB := Lib.hid hs'
  have OK := Lib.hid ok
  have S0 : Hid (Below w.heap.size w w) := Below.refl _ _
  clear hs hs' ok
  go_enter Tryd.func35, Tryd.ntmps35
  go_wp2_with fail
  go_loopw [5] (fun iv wr => ∃ i : Nat, iv = .int .i64 (i : Int) ∧ i ≤ L.length ∧ Hid (Below w.heap.size w wr)) (fun iv _ => L.length - (intOf iv).toNat)
  case atStart => exact ⟨0, rfl, by omega, S0⟩
  case round =>
    clear S0
    obtain ⟨i, rfl, hi, hS⟩ := hrel
    by_cases hlt : i < L.length
    · have hne : L ≠ [] := fun e => by rw [e] at hlt; simp at hlt
      obtain ⟨b, off, rfl, hx⟩ := HA.out.resolve_left hne
      obtain ⟨b', off', rfl, hx'⟩ := HB.out.resolve_left hne
      obtain ⟨qi, ki, r97, rh⟩ := hx i hlt
      obtain ⟨qj, kj, s97, sh⟩ := hx' i hlt
      have oks := OK.out.get hlt
      obtain ⟨s, hsx⟩ : ∃ s, L.getD i sp0 = s := ⟨_, rfl⟩
      rw [hsx] at r97 rh s97 sh oks
      have RK : Hid (∀ W, Below w.heap.size w W → rowOf W b (off + i * 97) 32 = hc s.key ∧ rowOf W b (off + i * 97 + 32) 32 = hc s.old ∧ rowOf W b (off + i * 97 + 64) 33 = pfRow s.mask (.slice qi s.sides.length ki) ∧ RdHs W qi s.sides) := fun W hb => by
        have h97 : rowOf W b (off + i * 97) 97 = spRow s (.slice qi s.sides.length ki) := by rw [rowOf_on (by rw [r97, spRow_len oks]; omega) hb]; exact r97
        exact ⟨sp_key oks h97, sp_old oks h97, sp_pf oks h97, rh.on (fun j hj => (oks.hs.get j hj).1) hb⟩
      have RJ : Hid (∀ W, Below w.heap.size w W → rowOf W b' (off' + i * 97) 32 = hc s.key ∧ rowOf W b' (off' + i * 97 + 32) 32 = hc s.old ∧ rowOf W b' (off' + i * 97 + 64) 33 = pfRow s.mask (.slice qj s.sides.length kj) ∧ RdHs W qj s.sides) := fun W hb => by
        have h97 : rowOf W b' (off' + i * 97) 97 = spRow s (.slice qj s.sides.length kj) := by rw [rowOf_on (by rw [s97, spRow_len oks]; omega) hb]; exact s97
        exact ⟨sp_key oks h97, sp_old oks h97, sp_pf oks h97, sh.on (fun j hj => (oks.hs.get j hj).1) hb⟩
      have OKS := Lib.hid oks
      have lk := oks.key
      have lo := oks.old
      have lm := oks.mask
      have hlk := hc_len s.key
      have hlo := hc_len s.old
      have hlp := pfRow_len oks.mask (.slice qi s.sides.length ki)
      have hlj := pfRow_len oks.mask (.slice qj s.sides.length kj)
      have dk : (s.key == s.key) = true := beq_self_eq_true _
      have dO : (s.old == s.old) = true := beq_self_eq_true _
      clear hx hx' hne r97 rh s97 sh oks hsx
      go_wp2_with fail
      refine wp_region_held_drew (S := fun W => Below w.heap.size w W) (by kernel_rfl) (hS.out.drew) (fun h0 => ?_)
      refine wpAnyH_take (i := 0) (v := ?_) (by rw [List.getElem?_toArray]; rfl) (by kernel_rfl) (by kernel_rfl) (by kernel_rfl) (by exact fun _ _ _ h => h) (Or.inl ⟨by rfl, ?_⟩) h0 ?_
      rotate_left
      · intro W hW
        go_simp
        all_goals with_reducible rfl
      try simp only [Act.put, List.setIfInBounds_toArray, List.set_cons_zero, List.set_cons_succ]
      refine wpAnyH_take (i := 1) (v := ?_) (by rw [List.getElem?_toArray]; rfl) (by kernel_rfl) (by kernel_rfl) (by kernel_rfl) (by exact fun _ _ _ h => h) (Or.inl ⟨by rfl, ?_⟩) h0 ?_
      rotate_left
      · intro W hW
        go_simp
        all_goals with_reducible rfl
      try simp only [Act.put, List.setIfInBounds_toArray, List.set_cons_zero, List.set_cons_succ]
      refine wpAnyH_take (i := 2) (v := ?_) (by rw [List.getElem?_toArray]; rfl) (by kernel_rfl) (by kernel_rfl) (by kernel_rfl) (by exact fun _ _ _ h => h) (Or.inl ⟨by rfl, ?_⟩) h0 ?_
      rotate_left
      · intro W hW
        go_simp
        all_goals with_reducible rfl
      try simp only [Act.put, List.setIfInBounds_toArray, List.set_cons_zero, List.set_cons_succ]
      refine wpAnyH_take (i := 3) (v := ?_) (by rw [List.getElem?_toArray]; rfl) (by kernel_rfl) (by kernel_rfl) (by kernel_rfl) (by exact fun _ _ _ h => h) (Or.inl ⟨by rfl, ?_⟩) h0 ?_
      rotate_left
      · intro W hW
        go_simp
        all_goals with_reducible rfl
      try simp only [Act.put, List.setIfInBounds_toArray, List.set_cons_zero, List.set_cons_succ]
      refine wpAnyH_take (i := 4) (v := ?_) (by rw [List.getElem?_toArray]; rfl) (by kernel_rfl) (by kernel_rfl) (by kernel_rfl) (by exact fun _ _ _ h => h) (Or.inl ⟨by rfl, ?_⟩) h0 ?_
      rotate_left
      · intro W hW
        have cc := (RK.out W hW).1
        go_simp
        all_goals with_reducible rfl
      try simp only [Act.put, List.setIfInBounds_toArray, List.set_cons_zero, List.set_cons_succ]
      refine wpAnyH_take (i := 5) (v := ?_) (by rw [List.getElem?_toArray]; rfl) (by kernel_rfl) (by kernel_rfl) (by kernel_rfl) (by exact fun _ _ _ h => h) (Or.inl ⟨by rfl, ?_⟩) h0 ?_
      rotate_left
      · intro W hW
        go_simp
        all_goals with_reducible rfl
      try simp only [Act.put, List.setIfInBounds_toArray, List.set_cons_zero, List.set_cons_succ]
      refine wpAnyH_take (i := 6) (v := ?_) (by rw [List.getElem?_toArray]; rfl) (by kernel_rfl) (by kernel_rfl) (by kernel_rfl) (by exact fun _ _ _ h => h) (Or.inl ⟨by rfl, ?_⟩) h0 ?_
      rotate_left
      · intro W hW
        go_simp
        all_goals with_reducible rfl
      try simp only [Act.put, List.setIfInBounds_toArray, List.set_cons_zero, List.set_cons_succ]
      refine wpAnyH_take (i := 7) (v := ?_) (by rw [List.getElem?_toArray]; rfl) (by kernel_rfl) (by kernel_rfl) (by kernel_rfl) (by exact fun _ _ _ h => h) (Or.inl ⟨by rfl, ?_⟩) h0 ?_
      rotate_left
      · intro W hW
        go_simp
        all_goals with_reducible rfl
      try simp only [Act.put, List.setIfInBounds_toArray, List.set_cons_zero, List.set_cons_succ]
      refine wpAnyH_take (i := 8) (v := ?_) (by rw [List.getElem?_toArray]; rfl) (by kernel_rfl) (by kernel_rfl) (by kernel_rfl) (by exact fun _ _ _ h => h) (Or.inl ⟨by rfl, ?_⟩) h0 ?_
      rotate_left
      · intro W hW
        go_simp
        all_goals with_reducible rfl
      try simp only [Act.put, List.setIfInBounds_toArray, List.set_cons_zero, List.set_cons_succ]
      refine wpAnyH_take (i := 9) (v := ?_) (by rw [List.getElem?_toArray]; rfl) (by kernel_rfl) (by kernel_rfl) (by kernel_rfl) (by exact fun _ _ _ h => h) (Or.inl ⟨by rfl, ?_⟩) h0 ?_
      rotate_left
      · intro W hW
        have cc := (RJ.out W hW).1
        go_simp
        all_goals with_reducible rfl
      try simp only [Act.put, List.setIfInBounds_toArray, List.set_cons_zero, List.set_cons_succ]
      refine wpAnyH_take (i := 10) (v := ?_) (by rw [List.getElem?_toArray]; rfl) (by kernel_rfl) (by kernel_rfl) (by kernel_rfl) (by exact fun _ _ _ h => h) (Or.inl ⟨by rfl, ?_⟩) h0 ?_
      rotate_left
      · intro W hW
        go_simp
        all_goals with_reducible rfl
      try simp only [Act.put, List.setIfInBounds_toArray, List.set_cons_zero, List.set_cons_succ]
      refine wpAnyH_take (i := 11) (v := ?_) (by rw [List.getElem?_toArray]; rfl) (by kernel_rfl) (by kernel_rfl) (by kernel_rfl) (by exact fun _ _ _ h => h) (Or.inl ⟨by rfl, ?_⟩) h0 ?_
      rotate_left
      · intro W hW
        go_simp
        all_goals with_reducible rfl
      try simp only [Act.put, List.setIfInBounds_toArray, List.set_cons_zero, List.set_cons_succ]
      refine wpAnyH_take (i := 12) (v := ?_) (by rw [List.getElem?_toArray]; rfl) (by kernel_rfl) (by kernel_rfl) (by kernel_rfl) (by exact fun _ _ _ h => h) (Or.inl ⟨by rfl, ?_⟩) h0 ?_
      rotate_left
      · intro W hW
        go_simp
        all_goals with_reducible rfl
      try simp only [Act.put, List.setIfInBounds_toArray, List.set_cons_zero, List.set_cons_succ]
      refine wpAnyH_take (i := 13) (v := ?_) (by rw [List.getElem?_toArray]; rfl) (by kernel_rfl) (by kernel_rfl) (by kernel_rfl) (by exact fun _ _ _ h => h) (Or.inl ⟨by rfl, ?_⟩) h0 ?_
      rotate_left
      · intro W hW
        go_simp
        all_goals with_reducible rfl
      try simp only [Act.put, List.setIfInBounds_toArray, List.set_cons_zero, List.set_cons_succ]
      refine wpAnyH_take (i := 14) (v := ?_) (by rw [List.getElem?_toArray]; rfl) (by kernel_rfl) (by kernel_rfl) (by kernel_rfl) (by exact fun _ _ _ h => h) (Or.inl ⟨by rfl, ?_⟩) h0 ?_
      rotate_left
      · intro W hW
        go_simp
        all_goals with_reducible rfl
      try simp only [Act.put, List.setIfInBounds_toArray, List.set_cons_zero, List.set_cons_succ]
      refine wpAnyH_take (i := 15) (v := ?_) (by rw [List.getElem?_toArray]; rfl) (by kernel_rfl) (by kernel_rfl) (by kernel_rfl) (by exact fun _ _ _ h => h) (Or.inl ⟨by rfl, ?_⟩) h0 ?_
      rotate_left
      · intro W hW
        go_simp
        all_goals with_reducible rfl
      try simp only [Act.put, List.setIfInBounds_toArray, List.set_cons_zero, List.set_cons_succ]
      refine wpAnyH_take (i := 16) (v := ?_) (by rw [List.getElem?_toArray]; rfl) (by kernel_rfl) (by kernel_rfl) (by kernel_rfl) (by exact fun _ _ _ h => h) (Or.inl ⟨by rfl, ?_⟩) h0 ?_
      rotate_left
      · intro W hW
        have cc := (RK.out W hW).2.1
        go_simp
        all_goals with_reducible rfl
      try simp only [Act.put, List.setIfInBounds_toArray, List.set_cons_zero, List.set_cons_succ]
      refine wpAnyH_take (i := 17) (v := ?_) (by rw [List.getElem?_toArray]; rfl) (by kernel_rfl) (by kernel_rfl) (by kernel_rfl) (by exact fun _ _ _ h => h) (Or.inl ⟨by rfl, ?_⟩) h0 ?_
      rotate_left
      · intro W hW
        go_simp
        all_goals with_reducible rfl
      try simp only [Act.put, List.setIfInBounds_toArray, List.set_cons_zero, List.set_cons_succ]
      refine wpAnyH_take (i := 18) (v := ?_) (by rw [List.getElem?_toArray]; rfl) (by kernel_rfl) (by kernel_rfl) (by kernel_rfl) (by exact fun _ _ _ h => h) (Or.inl ⟨by rfl, ?_⟩) h0 ?_
      rotate_left
      · intro W hW
        go_simp
        all_goals with_reducible rfl
      try simp only [Act.put, List.setIfInBounds_toArray, List.set_cons_zero, List.set_cons_succ]
      refine wpAnyH_take (i := 19) (v := ?_) (by rw [List.getElem?_toArray]; rfl) (by kernel_rfl) (by kernel_rfl) (by kernel_rfl) (by exact fun _ _ _ h => h) (Or.inl ⟨by rfl, ?_⟩) h0 ?_
      rotate_left
      · intro W hW
        go_simp
        all_goals with_reducible rfl
      try simp only [Act.put, List.setIfInBounds_toArray, List.set_cons_zero, List.set_cons_succ]
      refine wpAnyH_take (i := 20) (v := ?_) (by rw [List.getElem?_toArray]; rfl) (by kernel_rfl) (by kernel_rfl) (by kernel_rfl) (by exact fun _ _ _ h => h) (Or.inl ⟨by rfl, ?_⟩) h0 ?_
      rotate_left
      · intro W hW
        go_simp
        all_goals with_reducible rfl
      try simp only [Act.put, List.setIfInBounds_toArray, List.set_cons_zero, List.set_cons_succ]
      refine wpAnyH_take (i := 21) (v := ?_) (by rw [List.getElem?_toArray]; rfl) (by kernel_rfl) (by kernel_rfl) (by kernel_rfl) (by exact fun _ _ _ h => h) (Or.inl ⟨by rfl, ?_⟩) h0 ?_
      rotate_left
      · intro W hW
        have cc := (RJ.out W hW).2.1
        go_simp
        all_goals with_reducible rfl
      try simp only [Act.put, List.setIfInBounds_toArray, List.set_cons_zero, List.set_cons_succ]
      refine wpAnyH_take (i := 22) (v := ?_) (by rw [List.getElem?_toArray]; rfl) (by kernel_rfl) (by kernel_rfl) (by kernel_rfl) (by exact fun _ _ _ h => h) (Or.inl ⟨by rfl, ?_⟩) h0 ?_
      rotate_left
      · intro W hW
        go_simp
        all_goals with_reducible rfl
      try simp only [Act.put, List.setIfInBounds_toArray, List.set_cons_zero, List.set_cons_succ]
      refine wpAnyH_take (i := 23) (v := ?_) (by rw [List.getElem?_toArray]; rfl) (by kernel_rfl) (by kernel_rfl) (by kernel_rfl) (by exact fun _ _ _ h => h) (Or.inl ⟨by rfl, ?_⟩) h0 ?_
      rotate_left
      · intro W hW
        go_simp
        all_goals with_reducible rfl
      try simp only [Act.put, List.setIfInBounds_toArray, List.set_cons_zero, List.set_cons_succ]
      refine wpAnyH_take (i := 24) (v := ?_) (by rw [List.getElem?_toArray]; rfl) (by kernel_rfl) (by kernel_rfl) (by kernel_rfl) (by exact fun _ _ _ h => h) (Or.inl ⟨by rfl, ?_⟩) h0 ?_
      rotate_left
      · intro W hW
        go_simp
        all_goals with_reducible rfl
      try simp only [Act.put, List.setIfInBounds_toArray, List.set_cons_zero, List.set_cons_succ]
      refine wpAnyH_take (i := 25) (v := ?_) (by rw [List.getElem?_toArray]; rfl) (by kernel_rfl) (by kernel_rfl) (by kernel_rfl) (by exact fun _ _ _ h => h) (Or.inl ⟨by rfl, ?_⟩) h0 ?_
      rotate_left
      · intro W hW
        go_simp
        all_goals with_reducible rfl
      try simp only [Act.put, List.setIfInBounds_toArray, List.set_cons_zero, List.set_cons_succ]
      refine wpAnyH_take (i := 26) (v := ?_) (by rw [List.getElem?_toArray]; rfl) (by kernel_rfl) (by kernel_rfl) (by kernel_rfl) (by exact fun _ _ _ h => h) (Or.inl ⟨by rfl, ?_⟩) h0 ?_
      rotate_left
      · intro W hW
        go_simp
        all_goals with_reducible rfl
      try simp only [Act.put, List.setIfInBounds_toArray, List.set_cons_zero, List.set_cons_succ]
      refine wpAnyH_take (i := 27) (v := ?_) (by rw [List.getElem?_toArray]; rfl) (by kernel_rfl) (by kernel_rfl) (by kernel_rfl) (by exact fun _ _ _ h => h) (Or.inl ⟨by rfl, ?_⟩) h0 ?_
      rotate_left
      · intro W hW
        go_simp
        all_goals with_reducible rfl
      try simp only [Act.put, List.setIfInBounds_toArray, List.set_cons_zero, List.set_cons_succ]
      refine wpAnyH_take (i := 28) (v := ?_) (by rw [List.getElem?_toArray]; rfl) (by kernel_rfl) (by kernel_rfl) (by kernel_rfl) (by exact fun _ _ _ h => h) (Or.inl ⟨by rfl, ?_⟩) h0 ?_
      rotate_left
      · intro W hW
        go_simp
        all_goals with_reducible rfl
      try simp only [Act.put, List.setIfInBounds_toArray, List.set_cons_zero, List.set_cons_succ]
      refine wpAnyH_take (i := 29) (v := ?_) (by rw [List.getElem?_toArray]; rfl) (by kernel_rfl) (by kernel_rfl) (by kernel_rfl) (by exact fun _ _ _ h => h) (Or.inl ⟨by rfl, ?_⟩) h0 ?_
      rotate_left
      · intro W hW
        have cc := (RK.out W hW).2.2.1
        go_simp
        all_goals with_reducible rfl
      try simp only [Act.put, List.setIfInBounds_toArray, List.set_cons_zero, List.set_cons_succ]
      refine wpAnyH_take (i := 30) (v := ?_) (by rw [List.getElem?_toArray]; rfl) (by kernel_rfl) (by kernel_rfl) (by kernel_rfl) (by exact fun _ _ _ h => h) (Or.inl ⟨by rfl, ?_⟩) h0 ?_
      rotate_left
      · intro W hW
        go_simp
        all_goals with_reducible rfl
      try simp only [Act.put, List.setIfInBounds_toArray, List.set_cons_zero, List.set_cons_succ]
      refine wpAnyH_take (i := 31) (v := ?_) (by rw [List.getElem?_toArray]; rfl) (by kernel_rfl) (by kernel_rfl) (by kernel_rfl) (by exact fun _ _ _ h => h) (Or.inl ⟨by rfl, ?_⟩) h0 ?_
      rotate_left
      · intro W hW
        go_simp
        all_goals with_reducible rfl
      try simp only [Act.put, List.setIfInBounds_toArray, List.set_cons_zero, List.set_cons_succ]
      refine wpAnyH_take (i := 32) (v := ?_) (by rw [List.getElem?_toArray]; rfl) (by kernel_rfl) (by kernel_rfl) (by kernel_rfl) (by exact fun _ _ _ h => h) (Or.inl ⟨by rfl, ?_⟩) h0 ?_
      rotate_left
      · intro W hW
        go_simp
        all_goals with_reducible rfl
      try simp only [Act.put, List.setIfInBounds_toArray, List.set_cons_zero, List.set_cons_succ]
      refine wpAnyH_take (i := 33) (v := ?_) (by rw [List.getElem?_toArray]; rfl) (by kernel_rfl) (by kernel_rfl) (by kernel_rfl) (by exact fun _ _ _ h => h) (Or.inl ⟨by rfl, ?_⟩) h0 ?_
      rotate_left
      · intro W hW
        go_simp
        all_goals with_reducible rfl
      try simp only [Act.put, List.setIfInBounds_toArray, List.set_cons_zero, List.set_cons_succ]
      refine wpAnyH_take (i := 34) (v := ?_) (by rw [List.getElem?_toArray]; rfl) (by kernel_rfl) (by kernel_rfl) (by kernel_rfl) (by exact fun _ _ _ h => h) (Or.inl ⟨by rfl, ?_⟩) h0 ?_
      rotate_left
      · intro W hW
        have cc := (RJ.out W hW).2.2.1
        go_simp
        all_goals with_reducible rfl
      try simp only [Act.put, List.setIfInBounds_toArray, List.set_cons_zero, List.set_cons_succ]
      refine wpAnyH_ready (rs := [35]) (by kernel_rfl) (by simp) ?_
      refine AllReadyH.cons (by rw [List.getElem?_toArray]; rfl) (fun K hK => ?_) AllReadyH.nil
      rw [if_pos (by rfl)]
      go_wp2_with fail
      refine (Same5_any (k := ki) (k' := kj) lm (RK.out _ h0).2.2.2 (RJ.out _ h0).2.2.2 OKS.out.hs (by have := OKS.out.n32; omega)).mono ?_
      rintro e w2 ⟨rfl, hb2⟩
      go_wp2_with fail
      refine hK.out _ _ (h0.trans (hb2.mono h0.size)) (fun h2 => ?_)
      clear hK K
      try simp only [Act.put, List.setIfInBounds_toArray, List.set_cons_zero, List.set_cons_succ]
      refine wpAnyH_take (i := 36) (v := ?_) (by rw [List.getElem?_toArray]; rfl) (by kernel_rfl) (by kernel_rfl) (by kernel_rfl) (by exact fun _ _ _ h => h) (Or.inl ⟨by rfl, ?_⟩) h2 ?_
      rotate_left
      · intro W hW
        go_simp
        all_goals with_reducible rfl
      try simp only [Act.put, List.setIfInBounds_toArray, List.set_cons_zero, List.set_cons_succ]
      refine wpAnyH_take (i := 37) (v := ?_) (by rw [List.getElem?_toArray]; rfl) (by kernel_rfl) (by kernel_rfl) (by kernel_rfl) (by exact fun _ _ _ h => h) (Or.inl ⟨by rfl, ?_⟩) h2 ?_
      rotate_left
      · intro W hW
        go_simp
        all_goals with_reducible rfl
      try simp only [Act.put, List.setIfInBounds_toArray, List.set_cons_zero, List.set_cons_succ]
      refine wpAnyH_done (by kernel_rfl) ?_ _
      have S2 := Lib.hid h2
      clear h2 h0 hS
      go_wp2_with fail
      go_roundw
      case rel => exact ⟨i + 1, by go_num, by omega, S2⟩
      case measure => simp [intOf]; omega
    · obtain rfl : i = L.length := by omega
      have BE := hS
      clear hS
      go_wp2_with fail
      go_ret
      exact ⟨rfl, BE.out⟩
end Go.Proofs.YtjgfjmkfcippcaaDoor
