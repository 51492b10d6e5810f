/-
  All strings that are digested for a list's root.; All strings that are digested for a proof's check.; Strings out of bytes are unlike where the bytes are.
-/
import Derived.Test.YtebeacejlkiglaaDoorMa13
import Derived.Test.YtebeacejlkiglaaDoorMa14
import Derived.Test.YtebeacejlkiglaaDoorMa16
namespace Go.Proofs.YtebeacejlkiglaaDoor
set_option maxRecDepth 100000
open Go.RowKit

set_option maxHeartbeats 16000000 in
theorem Texts_any {w : World} {v : Value} {L : List (List Int)} (hL : RdL w v L []) (bL : ∀ b ∈ L, Bytes b) (hn : L.length ≤ 60000) (hx : ∀ i, (L.getD i []).length ≤ 1000000) :
    Calls Tryd.prog 26 #[v] w fun e w' => ∃ v' TL Z, e = .returned v' ∧ TxS w w' v' (TL ++ [frm (sn listS) [be8 L.length, Z]]) ∧ rtL L = hList L.length Z ∧ TL.length ≤ 2 * L.length := by
  obtain ⟨i0, hi, hz0, hz1, hz2⟩ := info_parts Tryd.infoHs
  obtain ⟨j0, hj, ez0, ez1, ez2⟩ := info_parts Tryd.infoU8s
  replace hj := Lib.hid hj
  replace ez0 := Lib.hid ez0
  replace ez1 := Lib.hid ez1
  replace ez2 := Lib.hid ez2
  clear hi hz0 hz1 hz2
  obtain ⟨q, c, rfl⟩ : ∃ q c, v = .slice q L.length c := by obtain ⟨q, c, e, _⟩ := hL; exact ⟨q, c, e⟩
  have HL := Lib.hid hL
  have HX := Lib.hid hx
  have HBL := Lib.hid bL
  have HB : Hid (∀ i, i < L.length → Bytes (L.getD i [])) := fun i hi => by
    have e : L.getD i [] = L[i] := by simp [List.getD, hi]
    rw [e]; exact bL _ (List.getElem_mem hi)
  obtain ⟨Z, hZ⟩ : ∃ Z, (if L.length = 0 then zero32 else tp 17 (lvN L L.length)) = Z := ⟨_, rfl⟩
  have HR : Hid (rtL L = hList L.length Z) := by show _ = _; unfold rtL; rw [hZ]
  have S1 : Hid (TxS w w (.slice none 0 0) []) := TxS.start w
  clear hL hx bL
  go_enter Tryd.func26, Tryd.ntmps26
  by_cases h0 : L.length = 0
  · have hZ0 : Z = zero32 := by rw [← hZ, if_pos h0]
    subst hZ0
    have HR0 : Hid (rtL L = hList L.length zero32) := HR
    have he : be8 (L.length : Int) = be8 0 := by rw [h0]; rfl
    have HE := Lib.hid he
    have lz := hc_len zero32
    clear hZ HR he
    go_wp2_with fail
    refine (topText_any (w := w) (n := 0) (F := zero32) (by omega) (by omega) zero32_len).mono ?_
    rintro e w3 ⟨qf, nf, cf, rfl, hfr⟩
    have UL : w3.ownsRow 0 5 1 (.slice qf nf cf) (frm (sn listS) [be8 0, zero32]).length (bc (frm (sn listS) [be8 0, zero32])) := by rw [hfr.len]; exact hfr.own
    have HF : Hid (TxS w (w3.alloc (.cells #[.slice qf nf cf] 42)) (.slice (some ⟨w3.heap.size, 0, none⟩) 1 1) ([] ++ [frm (sn listS) [be8 0, zero32]])) := by
      have b4 : Below w3.heap.size w3 (w3.alloc (.cells #[.slice qf nf cf] 42)) := (Below.refl _ _).alloc (Nat.le_refl _) _
      refine ⟨⟨[.slice qf nf cf], ⟨rfl, .inr ⟨w3.heap.size, 1, _, rfl, Nat.zero_le _, heap_alloc_new w3 _, Nat.le_refl _, by unfold maxLen; omega, rfl, rfl⟩⟩, fun i u hu => ?_⟩, fun g hg => ?_, hfr.below.trans (b4.mono hfr.below.size), fun b hb => ?_⟩
      · have hi0 : i = 0 := by
          have := (List.getElem?_eq_some_iff.1 hu).1
          simp at this
          omega
        subst hi0
        obtain rfl : (Value.slice qf nf cf) = u := by simpa using hu
        exact own_on UL b4
      · simp [Value.ownBlock] at hg
        have := hfr.below.size
        omega
      · obtain rfl := List.mem_singleton.1 hb
        exact ⟨list_bytes _ zero32_bytes, by rw [list_len, zero32_len]; omega⟩
    clear hfr UL
    go_wp2_with fail
    go_ret
    exact ⟨_, [], zero32, rfl, by rw [HE.out]; exact HF.out, HR0.out, by simp⟩
  have h0I : ¬ (L.length : Int) = 0 := by omega
  have d0 : ((L.length : Int) == 0) = false := by rw [beq_eq_false_iff_ne]; exact h0I
  have hZ1 : Hid (tp 17 (lvN L L.length) = Z) := by show _ = _; rw [← hZ, if_neg h0]
  clear hZ
  go_wp2_with fail
  go_loopw [3, 4] (fun ov iv wr => ∃ (i : Nat) (qa : Option Addr) (ca : Nat) (TL : List (List Int)), iv = .int .i64 i ∧ ov = .slice qa i ca ∧ i ≤ L.length ∧ Hid (i = TL.length) ∧ Hid (TxS w wr (.slice qa i ca) TL)) (fun _ iv _ => L.length - (intOf iv).toNat)
  case atStart => exact ⟨0, none, 0, [], rfl, rfl, by omega, Lib.hid rfl, S1⟩
  case round =>
    clear S1
    obtain ⟨i, qa, ca, TL, rfl, rfl, hil, HNA, hS⟩ := hrel
    by_cases hlt : i < L.length
    · obtain ⟨b, off, r, m, kc, -, rfl, -, cb, hm, hrd, -⟩ := (HL.out.chg (Chg.below hS.out.below (Nat.le_refl _) [])).at hlt
      have KI := Lib.hid (itemText_any (w := wr) (n := (i : Int)) (by omega) (by omega) hrd (HX.out i))
      have bxs := HB.out i hlt
      have lxs := HX.out i
      subst hm
      clear hrd
      obtain ⟨xs, hxs⟩ : ∃ xs, L.getD i [] = xs := ⟨_, rfl⟩
      rw [hxs] at KI bxs lxs cb
      clear hxs
      go_wp2_with fail
      refine KI.out.mono ?_
      rintro e w3 ⟨qf, nf, cf, rfl, hfr⟩
      have hS3 := Lib.hid (hS.out.on hfr.below)
      have ULa : w3.ownsRow 0 5 1 (.slice qf nf cf) (frm (sn itemS) [be8 (i : Int), xs]).length (bc (frm (sn itemS) [be8 (i : Int), xs])) := by rw [hfr.len]; exact hfr.own
      obtain ⟨vs, OW0, psh⟩ := hS3.out.push ULa (item_bytes _ bxs) (by rw [item_len]; omega)
      have OW : (w3.alloc (.cells #[.slice qf nf cf] 42)).ownsRow 0 42 1 (.slice qa i ca) i vs := by rw [HNA.out]; rw [HNA.out] at OW0; exact OW0
      have PSH := Lib.hid psh
      clear OW0 psh ULa
      clear hfr KI cb hS hS3
      go_wp2_with (at_builtin; refine wpList_append_row rfl _ _ rfl Tryd.underlying22 hj.out ez0.out ez1.out ez2.out rfl OW (src_one (P := Tryd.prog) Tryd.underlying22 w3 qf nf cf) (by unfold maxLen; omega) (by omega) ?_)
      intro q6 k6 w6 own6 grow6 fr6
      have HN : Hid (TxS w w6 (.slice q6 (i + 1) k6) (TL ++ [frm (sn itemS) [be8 (i : Int), xs]])) := PSH.out _ _ (by have := own6; rw [HNA.out] at this ⊢; exact this) grow6 (fr6.imp id fun e => by rw [e]; simp)
      have HNL : Hid (i + 1 = (TL ++ [frm (sn itemS) [be8 (i : Int), xs]]).length) := by show _ = _; rw [List.length_append, List.length_singleton, ← HNA.out]
      clear own6 grow6 fr6 OW PSH
      go_wp2_with fail
      go_roundw
      case rel => exact ⟨i + 1, q6, k6, _, by go_num, rfl, by omega, HNL, HN⟩
      case measure => simp [intOf]; omega
    · obtain rfl : i = L.length := by omega
      have KI := Lib.hid (refFirst_any (w := wr) (HL.out.chg (Chg.below hS.out.below (Nat.le_refl _) [])) HBL.out (by omega) HX.out)
      go_wp2_with fail
      refine KI.out.mono ?_
      rintro e w1 ⟨q1, k1, rfl, hr1, hb1, hq1⟩
      have LV := lvN_len L L.length
      have V1 := Lib.hid (TvS.born hS.out hb1 hr1 (lvN_ok L L.length) hq1)
      clear hr1 hb1 hq1 KI hS
      go_wp2_with fail
      go_loopw [3, 5] (fun ov lv wr => ∃ (q2 : Option Addr) (k2 f : Nat) (Ss TL : List (List Int)) (qa : Option Addr) (na ca : Nat), ov = .slice qa na ca ∧ lv = .slice q2 Ss.length k2 ∧ 0 < Ss.length ∧ Ss.length ≤ 65536 ∧ na + Ss.length ≤ 2 * L.length ∧ Hid (na = TL.length) ∧ Hid (tp f Ss = Z ∧ Ss.length ≤ 2 ^ f) ∧ Hid (TvS w wr (.slice qa na ca) TL q2 Ss)) (fun _ lv _ => match lv with | .slice _ n _ => n | _ => 0)
      case atStart => exact ⟨q1, k1, 17, lvN L L.length, TL, qa, L.length, ca, rfl, by rw [LV], by rw [LV]; omega, by rw [LV]; omega, by rw [LV]; omega, HNA, Lib.hid ⟨hZ1.out, by rw [LV]; omega⟩, V1⟩
      case round =>
        clear V1 LV HNA
        obtain ⟨q2, k2, f, Ss, TL, qa, na, ca, rfl, rfl, hS0, hS6, hsum, HNA, hR, hT0⟩ := hrel
        by_cases hlt1 : 1 < Ss.length
        · have hlt1I : (1 : Int) < (Ss.length : Int) := by omega
          go_wp2_with fail
          go_loopw [3, 6] (fun ov iv wy => ∃ (j : Nat) (qb : Option Addr) (ma cb : Nat) (TM : List (List Int)), iv = .int .i64 (2 * (j : Int)) ∧ ov = .slice qb ma cb ∧ 2 * j ≤ Ss.length ∧ ma = na + j ∧ Hid (ma = TM.length) ∧ Hid (TvS w wy (.slice qb ma cb) TM q2 Ss)) (fun _ iv _ => Ss.length + 2 - (intOf iv).toNat)
          case atStart => exact ⟨0, qa, na, ca, TL, rfl, rfl, by omega, by omega, HNA, hT0⟩
          case round =>
            clear hT0
            obtain ⟨j, qb, ma, cb, TM, rfl, rfl, hjl, hma, HMA, hT⟩ := hrel
            have hm1 : ma ≤ na + j := by omega
            have hm2 : na + j ≤ ma := by omega
            clear hma
            by_cases hlt : 2 * j + 1 < Ss.length
            · have hltI : 2 * (j : Int) + 1 < (Ss.length : Int) := by omega
              obtain ⟨b, off, rfl, hx'⟩ := hT.out.rd.resolve_left (fun e => by rw [e] at hlt; simp at hlt)
              have r1 := hx' (2 * j) (by omega)
              have r2 := hx' (2 * j + 1) (by omega)
              obtain ⟨lA, bA⟩ := hT.out.ok.get (2 * j) (by omega)
              obtain ⟨lB, bB⟩ := hT.out.ok.get (2 * j + 1) (by omega)
              clear hx'
              obtain ⟨A, hA⟩ : ∃ A, Ss.getD (2 * j) [] = A := ⟨_, rfl⟩
              obtain ⟨B, hB⟩ : ∃ B, Ss.getD (2 * j + 1) [] = B := ⟨_, rfl⟩
              rw [hA] at r1 lA bA
              rw [hB] at r2 lB bB
              have HAe := Lib.hid hA
              have HBe := Lib.hid hB
              have g0 : (0 : Int) ≤ 2 * (j : Int) := by omega
              have g1 : 2 * (j : Int) < (Ss.length : Int) := by omega
              have t0 : (2 * (j : Int)).toNat = 2 * j := by omega
              have g2 : (0 : Int) ≤ 2 * (j : Int) + 1 := by omega
              have t1 : (2 * (j : Int) + 1).toNat = 2 * j + 1 := by omega
              have kw : IntKind.i64.wrap (2 * (j : Int) + 1) = 2 * (j : Int) + 1 := IntWalk.i64_in _ (by omega)
              have lcA := hc_len A
              have lcB := hc_len B
              clear hA hB
              go_wp2_with fail
              refine wp_region_held_drew (S := fun W => rowOf W b (off + 2 * j * 32) 32 = hc A ∧ rowOf W b (off + (2 * j + 1) * 32) 32 = hc B) (by kernel_rfl) (⟨r1, r2⟩) (fun h0 => ?_)
              refine wpAnyH_take (i := 0) (v := ?_) (by rw [List.getElem?_toArray]; rfl) (by kernel_rfl) (by kernel_rfl) (by kernel_rfl) (by exact fun _ _ _ h => h) (Or.inl ⟨by rfl, ?_⟩) h0 ?_
              rotate_left
              · intro W hW
                go_simp
                all_goals with_reducible rfl
              try simp only [Act.put, List.setIfInBounds_toArray, List.set_cons_zero, List.set_cons_succ]
              refine wpAnyH_take (i := 1) (v := ?_) (by rw [List.getElem?_toArray]; rfl) (by kernel_rfl) (by kernel_rfl) (by kernel_rfl) (by exact fun _ _ _ h => h) (Or.inl ⟨by rfl, ?_⟩) h0 ?_
              rotate_left
              · intro W hW
                go_simp
                all_goals with_reducible rfl
              try simp only [Act.put, List.setIfInBounds_toArray, List.set_cons_zero, List.set_cons_succ]
              refine wpAnyH_take (i := 2) (v := ?_) (by rw [List.getElem?_toArray]; rfl) (by kernel_rfl) (by kernel_rfl) (by kernel_rfl) (by exact fun _ _ _ h => h) (Or.inl ⟨by rfl, ?_⟩) h0 ?_
              rotate_left
              · intro W hW
                go_simp
                all_goals with_reducible rfl
              try simp only [Act.put, List.setIfInBounds_toArray, List.set_cons_zero, List.set_cons_succ]
              refine wpAnyH_take (i := 3) (v := ?_) (by rw [List.getElem?_toArray]; rfl) (by kernel_rfl) (by kernel_rfl) (by kernel_rfl) (by exact fun _ _ _ h => h) (Or.inl ⟨by rfl, ?_⟩) h0 ?_
              rotate_left
              · intro W hW
                go_simp
                all_goals with_reducible rfl
              try simp only [Act.put, List.setIfInBounds_toArray, List.set_cons_zero, List.set_cons_succ]
              refine wpAnyH_take (i := 4) (v := ?_) (by rw [List.getElem?_toArray]; rfl) (by kernel_rfl) (by kernel_rfl) (by kernel_rfl) (by exact fun _ _ _ h => h) (Or.inl ⟨by rfl, ?_⟩) h0 ?_
              rotate_left
              · intro W hW
                have cc := hW.1
                go_simp
                all_goals with_reducible rfl
              try simp only [Act.put, List.setIfInBounds_toArray, List.set_cons_zero, List.set_cons_succ]
              refine wpAnyH_take (i := 5) (v := ?_) (by rw [List.getElem?_toArray]; rfl) (by kernel_rfl) (by kernel_rfl) (by kernel_rfl) (by exact fun _ _ _ h => h) (Or.inl ⟨by rfl, ?_⟩) h0 ?_
              rotate_left
              · intro W hW
                go_simp
                all_goals with_reducible rfl
              try simp only [Act.put, List.setIfInBounds_toArray, List.set_cons_zero, List.set_cons_succ]
              refine wpAnyH_take (i := 6) (v := ?_) (by rw [List.getElem?_toArray]; rfl) (by kernel_rfl) (by kernel_rfl) (by kernel_rfl) (by exact fun _ _ _ h => h) (Or.inl ⟨by rfl, ?_⟩) h0 ?_
              rotate_left
              · intro W hW
                go_simp
                all_goals with_reducible rfl
              try simp only [Act.put, List.setIfInBounds_toArray, List.set_cons_zero, List.set_cons_succ]
              refine wpAnyH_take (i := 7) (v := ?_) (by rw [List.getElem?_toArray]; rfl) (by kernel_rfl) (by kernel_rfl) (by kernel_rfl) (by exact fun _ _ _ h => h) (Or.inl ⟨by rfl, ?_⟩) h0 ?_
              rotate_left
              · intro W hW
                go_simp
                all_goals with_reducible rfl
              try simp only [Act.put, List.setIfInBounds_toArray, List.set_cons_zero, List.set_cons_succ]
              refine wpAnyH_take (i := 8) (v := ?_) (by rw [List.getElem?_toArray]; rfl) (by kernel_rfl) (by kernel_rfl) (by kernel_rfl) (by exact fun _ _ _ h => h) (Or.inl ⟨by rfl, ?_⟩) h0 ?_
              rotate_left
              · intro W hW
                go_simp
                all_goals with_reducible rfl
              try simp only [Act.put, List.setIfInBounds_toArray, List.set_cons_zero, List.set_cons_succ]
              refine wpAnyH_take (i := 9) (v := ?_) (by rw [List.getElem?_toArray]; rfl) (by kernel_rfl) (by kernel_rfl) (by kernel_rfl) (by exact fun _ _ _ h => h) (Or.inl ⟨by rfl, ?_⟩) h0 ?_
              rotate_left
              · intro W hW
                have cc := hW.2
                go_simp
                all_goals with_reducible rfl
              try simp only [Act.put, List.setIfInBounds_toArray, List.set_cons_zero, List.set_cons_succ]
              refine wpAnyH_ready (rs := [10]) (by kernel_rfl) (by simp) ?_
              refine AllReadyH.cons (by rw [List.getElem?_toArray]; rfl) (fun K hK => ?_) AllReadyH.nil
              rw [if_pos (by rfl)]
              go_wp2_with fail
              refine (pairText_any (w := _) lA lB).mono ?_
              rintro e w3 ⟨qf, nf, cf, rfl, hfr⟩
              have hb3' : Below wr.heap.size wr w3 := ((Below.refl wr.heap.size wr).drew).trans hfr.below
              have K3 : Hid (rowOf w3 b (off + 2 * j * 32) 32 = hc A ∧ rowOf w3 b (off + (2 * j + 1) * 32) 32 = hc B) := Lib.hid ⟨by rw [rowOf_on (by rw [r1, lcA, lA]; omega) hb3']; exact r1, by rw [rowOf_on (by rw [r2, lcB, lB]; omega) hb3']; exact r2⟩
              have S3 := Lib.hid (hT.out.on hb3')
              have ULb : w3.ownsRow 0 5 1 (.slice qf nf cf) (frm (sn pairS) [A, B]).length (bc (frm (sn pairS) [A, B])) := by rw [hfr.len]; exact hfr.own
              obtain ⟨vs, OW0, psh⟩ := S3.out.push ULb (pair_bytes bA bB) (by rw [pair_len lA lB]; omega)
              have OW : (w3.alloc (.cells #[.slice qf nf cf] 42)).ownsRow 0 42 1 (.slice qb ma cb) ma vs := by rw [HMA.out]; rw [HMA.out] at OW0; exact OW0
              have PSH := Lib.hid psh
              clear OW0 psh ULb
              clear hfr hb3'
              go_wp2_with fail
              refine hK.out _ _ (K3.out) (fun h10 => ?_)
              clear hK K
              try simp only [Act.put, List.setIfInBounds_toArray, List.set_cons_zero, List.set_cons_succ]
              refine wpAnyH_ready (rs := [11]) (by kernel_rfl) (by simp) ?_
              refine AllReadyH.cons (by rw [List.getElem?_toArray]; rfl) (fun K hK => ?_) AllReadyH.nil
              rw [if_pos (by rfl)]
              have b4 : Below w3.heap.size w3 (w3.alloc (.cells #[.slice qf nf cf] 42)) := (Below.refl _ _).alloc (Nat.le_refl _) _
              have K4 : Hid (rowOf (w3.alloc (.cells #[.slice qf nf cf] 42)) b (off + 2 * j * 32) 32 = hc A ∧ rowOf (w3.alloc (.cells #[.slice qf nf cf] 42)) b (off + (2 * j + 1) * 32) 32 = hc B) := Lib.hid ⟨by rw [rowOf_on (by rw [K3.out.1, lcA, lA]; omega) b4]; exact K3.out.1, by rw [rowOf_on (by rw [K3.out.2, lcB, lB]; omega) b4]; exact K3.out.2⟩
              clear b4
              go_wp2_with fail
              refine hK.out _ _ (K4.out) (fun h11 => ?_)
              clear hK K
              try simp only [Act.put, List.setIfInBounds_toArray, List.set_cons_zero, List.set_cons_succ]
              refine wpAnyH_ready (rs := [12]) (by kernel_rfl) (by simp) ?_
              refine AllReadyH.cons (by rw [List.getElem?_toArray]; rfl) (fun K hK => ?_) AllReadyH.nil
              rw [if_pos (by rfl)]
              refine wp_append_row _ _ rfl Tryd.underlying22 hj.out ez0.out ez1.out ez2.out rfl OW (src_one (P := Tryd.prog) Tryd.underlying22 w3 qf nf cf) (by unfold maxLen; omega) (by omega) ?_
              intro q6 k6 w6 own6' grow6' fr6'
              have HN : Hid (TvS w w6 (.slice q6 (ma + 1) k6) (TM ++ [frm (sn pairS) [A, B]]) (some ⟨b, off, none⟩) Ss) := PSH.out _ _ (by have := own6'; rw [HMA.out] at this ⊢; exact this) grow6' fr6'
              have K6 : Hid (rowOf w6 b (off + 2 * j * 32) 32 = hc A ∧ rowOf w6 b (off + (2 * j + 1) * 32) 32 = hc B) := by
                obtain ⟨b', off', e', hx'⟩ := HN.out.rd.resolve_left (fun e => by rw [e] at hlt; simp at hlt)
                simp only [Option.some.injEq, Addr.mk.injEq] at e'
                obtain ⟨rfl, rfl, -⟩ := e'
                exact ⟨by rw [hx' (2 * j) (by omega), HAe.out], by rw [hx' (2 * j + 1) (by omega), HBe.out]⟩
              clear own6' grow6' fr6' OW PSH
              refine hK.out _ _ (K6.out) (fun h12 => ?_)
              clear hK K
              try simp only [Act.put, List.setIfInBounds_toArray, List.set_cons_zero, List.set_cons_succ]
              refine wpAnyH_take (i := 13) (v := ?_) (by rw [List.getElem?_toArray]; rfl) (by kernel_rfl) (by kernel_rfl) (by kernel_rfl) (by exact fun _ _ _ h => h) (Or.inl ⟨by rfl, ?_⟩) h12 ?_
              rotate_left
              · intro W hW
                go_simp
                all_goals with_reducible rfl
              try simp only [Act.put, List.setIfInBounds_toArray, List.set_cons_zero, List.set_cons_succ]
              refine wpAnyH_done (by kernel_rfl) ?_ _
              have HNL : Hid (ma + 1 = (TM ++ [frm (sn pairS) [A, B]]).length) := by show _ = _; rw [List.length_append, List.length_singleton, ← HMA.out]
              clear h12 h11 h10 h0 S3 K3 K4 K6 hT
              go_wp2_with fail
              go_roundw
              case rel => exact ⟨j + 1, q6, ma + 1, k6, _, by first | (go_num; done) | (go_num; omega) | (congr 1; omega), rfl, by omega, by omega, HNL, HN⟩
              case measure => simp [intOf]; omega
            · have hltI : ¬ 2 * (j : Int) + 1 < (Ss.length : Int) := by omega
              cases f with
              | zero => exfalso; have := hR.out.2; simp at this; omega
              | succ f =>
                have HR2 : Hid (tp f (upL Ss) = Z ∧ (upL Ss).length ≤ 2 ^ f) := by
                  obtain ⟨e1, e2⟩ := hR.out
                  unfold tp at e1
                  rw [if_neg (by omega)] at e1
                  rw [Nat.pow_succ] at e2
                  exact ⟨e1, by rw [upL_len]; omega⟩
                have HUL := Lib.hid (upL_len Ss)
                clear hR
                go_wp2_with fail
                refine (refNext_any (k := k2) hT.out.rd hT.out.ok hS6 (by omega)).mono ?_
                rintro e w8 ⟨q8, k8, rfl, hr8, hb8, hq8⟩
                have H8 := Lib.hid (TvS.born hT.out.tx hb8 hr8 (upL_ok hT.out.ok) hq8)
                clear hr8 hb8 hq8 hT
                go_wp2_with fail
                go_roundw
                case rel => exact ⟨q8, k8, f, upL Ss, TM, qb, ma, cb, rfl, rfl, by rw [HUL.out]; omega, by rw [HUL.out]; omega, by rw [HUL.out]; omega, HMA, HR2, H8⟩
                case measure => have e := HUL.out; show (upL Ss).length < Ss.length; omega
        · have hs1 : Ss.length = 1 := by omega
          have eZ : Ss.getD 0 [] = Z := by
            have := hR.out.1
            cases f with
            | zero => exact this
            | succ f => unfold tp at this; rw [if_pos (by omega)] at this; exact this
          obtain ⟨lZ, bZ⟩ := hT0.out.ok.get 0 (by omega)
          rw [eZ] at lZ bZ
          obtain ⟨b, off, rfl, hx'⟩ := hT0.out.rd.resolve_left (fun e => by rw [e] at hs1; simp at hs1)
          have r0 := hx' 0 (by omega)
          rw [eZ, Nat.zero_mul, Nat.add_zero] at r0
          have lcZ := hc_len Z
          clear hx' eZ hR
          go_wp2_with fail
          refine (topText_any (w := wr) (n := (L.length : Int)) (F := Z) (by omega) (by omega) lZ).mono ?_
          rintro e w3 ⟨qf, nf, cf, rfl, hfr⟩
          have hS3 := Lib.hid (hT0.out.tx.on hfr.below)
          have ULc : w3.ownsRow 0 5 1 (.slice qf nf cf) (frm (sn listS) [be8 (L.length : Int), Z]).length (bc (frm (sn listS) [be8 (L.length : Int), Z])) := by rw [hfr.len]; exact hfr.own
          obtain ⟨vs, OW0, psh⟩ := hS3.out.push ULc (list_bytes _ bZ) (by rw [list_len, lZ]; omega)
          have OW : (w3.alloc (.cells #[.slice qf nf cf] 42)).ownsRow 0 42 1 (.slice qa na ca) na vs := by rw [HNA.out]; rw [HNA.out] at OW0; exact OW0
          have PSH := Lib.hid psh
          clear OW0 psh ULc
          clear hfr hT0 hS3 r0
          go_wp2_with (at_builtin; refine wpList_append_row rfl _ _ rfl Tryd.underlying22 hj.out ez0.out ez1.out ez2.out rfl OW (src_one (P := Tryd.prog) Tryd.underlying22 w3 qf nf cf) (by unfold maxLen; omega) (by omega) ?_)
          intro q6 k6 w6 own6 grow6 fr6
          have HN : Hid (TxS w w6 (.slice q6 (na + 1) k6) (TL ++ [frm (sn listS) [be8 (L.length : Int), Z]])) := PSH.out _ _ (by have := own6; rw [HNA.out] at this ⊢; exact this) grow6 (fr6.imp id fun e => by rw [e]; simp)
          clear own6 grow6 fr6 OW PSH
          go_wp2_with fail
          go_ret
          exact ⟨_, TL, Z, rfl, HN.out, HR.out, by rw [← HNA.out]; omega⟩
end Go.Proofs.YtebeacejlkiglaaDoor
namespace Go.Proofs.YtebeacejlkiglaaDoor
set_option maxRecDepth 100000
open Go.RowKit

theorem TxS.single {w w3 : World} {q : Option Addr} {n c : Nat} {xs : List Int} (h : FrS w w3 (.slice q n c) xs n) (bx : Bytes xs) (lx : xs.length ≤ 2000000) : TxS w (w3.alloc (.cells #[.slice q n c] 42)) (.slice (some ⟨w3.heap.size, 0, none⟩) 1 1) [xs] := by
  have b4 : Below w3.heap.size w3 (w3.alloc (.cells #[.slice q n c] 42)) := (Below.refl _ _).alloc (Nat.le_refl _) _
  have UL : w3.ownsRow 0 5 1 (.slice q n c) xs.length (bc xs) := by rw [h.len]; exact h.own
  refine ⟨⟨[.slice q n c], ⟨rfl, .inr ⟨w3.heap.size, 1, _, rfl, Nat.zero_le _, heap_alloc_new w3 _, Nat.le_refl _, by unfold maxLen; omega, rfl, rfl⟩⟩, fun i u hu => ?_⟩, fun g hg => ?_, h.below.trans (b4.mono h.below.size), fun b hb => ?_⟩
  · have hi0 : i = 0 := by
      have := (List.getElem?_eq_some_iff.1 hu).1
      simp at this
      omega
    subst hi0
    obtain rfl : (Value.slice q n c) = u := by simpa using hu
    exact own_on UL b4
  · simp [Value.ownBlock] at hg
    have := h.below.size
    omega
  · obtain rfl := List.mem_singleton.1 hb
    exact ⟨bx, lx⟩
/-- Where the way up stands, with the strings so far. -/
structure AlS (w wr : World) (o : Obj) (b7 : Nat) (H : List Int) (q : Option Addr) (Ss : List (List Int)) (v : Value) (TL : List (List Int)) : Prop where
  hP : wr.heap[w.heap.size]? = some o
  hH : HashAt wr b7 H
  lH : H.length = 32
  bH : Bytes H
  tx : TxS w wr v TL
theorem AlS.on {w wr w1 : World} {o : Obj} {b7 : Nat} {H : List Int} {q : Option Addr} {Ss : List (List Int)} {v : Value} {TL : List (List Int)} (h : AlS w wr o b7 H q Ss v TL) (hb : Below wr.heap.size wr w1) : AlS w w1 o b7 H q Ss v TL :=
  ⟨blk_onB2 h.hP hb, h.hH.on hb, h.lH, h.bH, h.tx.on hb⟩
theorem AlS.push {w w3 w6 : World} {row : Array Value} {T : TypeId} {u : Value} {b7 : Nat} {H : List Int} {q : Option Addr} {Ss TM TL : List (List Int)} {v v' : Value} (h : AlS w w3 (.cells row 32 (0, 0)) b7 H q Ss v TL) (grow : (w3.alloc (.cells #[u] 42)).grownBy w6 v.ownBlock) (ht : TxS w w6 v' TM) (_hs : RdHs w q Ss) (_hl : ∀ i, i < Ss.length → (Ss.getD i []).length = 32)
    (own : ∃ vs : List Value, (w3.alloc (.cells #[u] 42)).ownsRow 0 42 1 v T vs) : AlS w w6 (.cells row 32 (0, 0)) b7 H q Ss v' TM := by
  obtain ⟨vs, own⟩ := own
  have b4 : Below w3.heap.size w3 (w3.alloc (.cells #[u] 42)) := (Below.refl _ _).alloc (Nat.le_refl _) _
  have h4 := h.on b4
  have hc : Chg (w3.alloc (.cells #[u] 42)) w6 v.ownBlock.toList := Chg.grown grow (fun g hg => by simp [hg])
  refine ⟨?_, ?_, h.lH, h.bH, ht⟩
  · rw [hc.block _ (Array.getElem?_eq_some_iff.1 h4.hP).1 (fun hm => own_ne own h4.hP (by decide) (by simpa using hm))]
    exact h4.hP
  · exact h4.hH.chg hc (fun hm => own_ne own h4.hH (by decide) (by simpa using hm))
theorem AlS.next {w w6 w7 : World} {row : Array Value} {b7 : Nat} {H Y : List Int} {q : Option Addr} {Ss TL : List (List Int)} {v : Value} (h : AlS w w6 (.cells row 32 (0, 0)) b7 H q Ss v TL) (hb : Below w6.drew.heap.size w6.drew w7) (bY : Bytes Y) (hY : Y.length = 32) (h7 : w.heap.size < b7) : AlS w (w7.setCells b7 0 (hc Y)) (.cells row 32 (0, 0)) b7 Y q Ss v TL := by
  have hb' : Below w6.heap.size w6 w7 := ((Below.refl w6.heap.size w6).drew).trans hb
  have h1 := h.on hb'
  have hne : ∀ j, j ≠ b7 → (w7.setCells b7 0 (hc Y)).heap[j]? = w7.heap[j]? := fun j hj => setCells_other hj (hc Y) 0 w7
  refine ⟨by rw [hne _ (by omega)]; exact h1.hP, h1.hH.put h.lH hY, hY, bY, ?_⟩
  obtain ⟨vs, o1, o2⟩ := h1.tx.ex
  refine ⟨⟨vs, own_keep o1 (fun j hj => hne j (fun e => own_ne o1 h1.hH (by decide) (by rw [← e]; exact hj))), fun i u hu => own_keep (o2 i u hu) (fun j hj => hne j (fun e => own_ne (o2 i u hu) h1.hH (by decide) (by rw [← e]; exact hj)))⟩, h1.tx.fresh, below_setCells' _ (by omega) _ _ h1.tx.below, h1.tx.ok⟩

set_option maxHeartbeats 16000000 in
theorem Along_any {w : World} {p0 k0 : Nat} {q : Option Addr} {k : Nat} {Ss : List (List Int)} {xs : List Int} {v : Value} (hs : RdHs w q Ss) (ok : HsOk Ss) (hp0 : p0 < k0) (hk0 : k0 ≤ 65536) (hsd : Ss.length = sd 17 p0 k0) (hr : Rd w v xs) (bx : Bytes xs) (hx : xs.length ≤ 4000) :
    Calls Tryd.prog 27 #[v, .agg #[.int .i64 p0, .int .i64 k0, .slice q Ss.length k]] w fun e w' => ∃ v' TL, e = .returned v' ∧ TxS w w' v' (TL ++ [frm (sn listS) [be8 (k0 : Int), chk 17 p0 k0 (hItem p0 xs) Ss]]) ∧ TL.length ≤ 18 := by
  obtain ⟨j0, hj, ez0, ez1, ez2⟩ := info_parts Tryd.infoU8s
  replace hj := Lib.hid hj
  replace ez0 := Lib.hid ez0
  replace ez1 := Lib.hid ez1
  replace ez2 := Lib.hid ez2
  obtain ⟨qv, cv, rfl⟩ := hr.len
  have h17 : Ss.length ≤ 17 := by rw [hsd]; exact sd_le _ _ _
  have HSD := Lib.hid hsd
  have b1 : Below w.heap.size w (w.alloc (.cells #[.int .i64 p0, .int .i64 k0, .slice q Ss.length k] 32)) := (Below.refl _ _).alloc (Nat.le_refl _) _
  have HP0 := Lib.hid (heap_alloc_new w (.cells #[.int .i64 p0, .int .i64 k0, .slice q Ss.length k] 32))
  have B0 := Lib.hid b1
  have HSl : Hid (∀ i, i < Ss.length → (Ss.getD i []).length = 32) := fun i hi => (ok.get i hi).1
  have HOK := Lib.hid ok
  have HS0 := Lib.hid hs
  have HR := Lib.hid hr
  have HX := Lib.hid bx
  have KR := Lib.hid (refRight_any (w := (w.alloc (.cells #[.int .i64 p0, .int .i64 k0, .slice q Ss.length k] 32))) (P := (p0 : Int)) (C := (k0 : Int)) (q := q) (k := k) (n := Ss.length) (by unfold maxLen; omega))
  have hok : okPf (p0 : Int) (k0 : Int) Ss.length = true := decide_eq_true (by rw [Int.toNat_natCast, Int.toNat_natCast]; exact ⟨by omega, by omega, by omega, hsd⟩)
  rw [hok] at KR
  have c0 := (Joins.cell_of_block HP0.out 0).trans (rfl : _ = some _)
  have c1 := (Joins.cell_of_block HP0.out 1).trans (rfl : _ = some _)
  have c2 := (Joins.cell_of_block HP0.out 2).trans (rfl : _ = some _)
  clear hs ok hr bx b1 hok hsd
  go_enter Tryd.func27, Tryd.ntmps27
  go_wp2_with fail
  generalize (w.alloc (.cells #[.int .i64 p0, .int .i64 k0, .slice q Ss.length k] 32)) = w0 at *
  refine KR.out.mono ?_
  rintro e w1 ⟨rfl, hb1⟩
  have HP1 := Lib.hid (blk_onB2 HP0.out hb1)
  have B1 := Lib.hid (B0.out.trans (hb1.mono B0.out.size))
  clear hb1 KR c0 c1 c2 HP0 B0
  have c0 := (Joins.cell_of_block HP1.out 0).trans (rfl : _ = some _)
  go_wp2_with fail
  refine (refItem_any (by omega) (by omega) (HR.out.on B1.out) HX.out (by omega)).mono ?_
  rintro e w2 ⟨rfl, hb2⟩
  have hlI : (hItem p0 xs).length = 32 := sha_len _
  have hbI : Bytes (hItem p0 xs) := sha_bytes _
  obtain ⟨I, hI⟩ : ∃ I, hItem p0 xs = I := ⟨_, rfl⟩
  rw [hI] at hlI hbI ⊢
  have HI0 := Lib.hid hI
  clear hI c0
  have b3 : Below w2.heap.size w2 ((w2.alloc (.cells (hc zero32).toArray 36)).setCells w2.heap.size 0 (hc I)) := below_setCells' _ (Nat.le_refl _) _ _ ((Below.refl _ _).alloc (Nat.le_refl _) _)
  have b23 := hb2.trans (b3.mono hb2.size)
  have ct := (HashAt.new w2 zero32).there zero32_len
  have HI := Lib.hid ((HashAt.new w2 zero32).put zero32_len hlI)
  have lI := hc_len I
  have HP2 := Lib.hid (blk_onB2 HP1.out b23)
  have B2 := Lib.hid (B1.out.trans (b23.mono B1.out.size))
  have c0 := (Joins.cell_of_block HP2.out 0).trans (rfl : _ = some _)
  have N7 : Hid (w.heap.size < w2.heap.size) := by
    show _ < _
    have := (Array.getElem?_eq_some_iff.1 HP1.out).1
    have := hb2.size
    omega
  have KI := Lib.hid (itemText_any (w := ((w2.alloc (.cells (hc zero32).toArray 36)).setCells w2.heap.size 0 (hc I))) (n := (p0 : Int)) (by omega) (by omega) (HR.out.on B2.out) (by omega))
  clear hb2 b3 b23 HP1 B1
  go_wp2_with fail
  clear ct c0
  generalize ((w2.alloc (.cells (hc zero32).toArray 36)).setCells w2.heap.size 0 (hc I)) = W3 at *
  generalize w2.heap.size = b7 at *
  refine KI.out.mono ?_
  rintro e w4 ⟨qf, nf, cf, rfl, hfr⟩
  have hfw : FrS w w4 (.slice qf nf cf) (frm (sn itemS) [be8 (p0 : Int), xs]) nf := ⟨hfr.own, fun g hg => Nat.le_trans B2.out.size (hfr.fresh g hg), B2.out.trans (hfr.below.mono B2.out.size)⟩
  have b5 : Below w4.heap.size w4 (w4.alloc (.cells #[.slice qf nf cf] 42)) := (Below.refl _ _).alloc (Nat.le_refl _) _
  have S5 : Hid (AlS w (w4.alloc (.cells #[.slice qf nf cf] 42)) (.cells #[.int .i64 p0, .int .i64 k0, .slice q Ss.length k] 32 (0, 0)) b7 I q Ss (.slice (some ⟨w4.heap.size, 0, none⟩) 1 1) [frm (sn itemS) [be8 (p0 : Int), xs]]) :=
    Lib.hid ⟨blk_onB2 (blk_onB2 HP2.out hfr.below) b5, (HI.out.on hfr.below).on b5, hlI, hbI, TxS.single hfw (item_bytes _ HX.out) (by rw [item_len]; omega)⟩
  have c0 := (Joins.cell_of_block S5.out.hP 0).trans (rfl : _ = some _)
  have c1 := (Joins.cell_of_block S5.out.hP 1).trans (rfl : _ = some _)
  have NB7 := N7
  clear hfr hfw b5 HP2 HI B2 hlI hbI lI KI N7
  go_wp2_with fail
  clear c0 c1
  generalize w4.alloc (.cells #[.slice qf nf cf] 42) = w5 at *
  obtain ⟨Z, hZ⟩ : ∃ Z, chk 17 p0 k0 I Ss = Z := ⟨_, rfl⟩
  have HZ0 := Lib.hid hZ
  clear hZ
  go_loopw [6, 7, 8, 9] (fun ov pv cv uv wr => ∃ (f p c u na : Nat) (H : List Int) (qa : Option Addr) (ca : Nat) (TL : List (List Int)), pv = .int .i64 p ∧ cv = .int .i64 c ∧ uv = .int .i64 u ∧ ov = .slice qa na ca ∧ p < c ∧ c ≤ 65536 ∧ u ≤ Ss.length ∧ na ≤ u + 1 ∧ Hid (na = TL.length) ∧ Hid (chk f p c H (Ss.drop u) = Z ∧ sd f p c = Ss.length - u ∧ c ≤ 2 ^ f) ∧ Hid (AlS w wr (.cells #[.int .i64 p0, .int .i64 k0, .slice q Ss.length k] 32 (0, 0)) b7 H q Ss (.slice qa na ca) TL)) (fun _ _ cv _ _ => (intOf cv).toNat)
  case atStart => exact ⟨17, p0, k0, 0, 1, I, _, 1, _, rfl, rfl, rfl, rfl, hp0, hk0, by omega, by omega, Lib.hid rfl, Lib.hid ⟨by rw [List.drop_zero]; exact HZ0.out, by have := HSD.out; omega, by omega⟩, S5⟩
  case round =>
    clear S5
    obtain ⟨f, p, c, u, na, H, qa, ca, TL, rfl, rfl, rfl, rfl, hpc, hc5, hu, hnu, HNA, hR, hS⟩ := hrel
    have lH := hS.out.lH
    have bH := hS.out.bH
    have lHc := hc_len H
    by_cases hg : 1 < c
    · cases f with
      | zero => exfalso; have := hR.out.2.2; simp at this; omega
      | succ f =>
        have hi := bes_or hpc
        have c2 := (Joins.cell_of_block hS.out.hP 2).trans (rfl : _ = some _)
        have ch := hS.out.hH.row lH
        obtain ⟨e1, e2, e3⟩ := hR.out
        unfold chk at e1
        unfold sd at e2
        rw [if_neg (by omega)] at e1 e2
        rw [Nat.pow_succ] at e3
        by_cases hb : bes p < c
        · rw [if_pos hb] at e1 e2
          have hul : u < Ss.length := by omega
          obtain ⟨bs, off, hq, hcs⟩ := (HS0.out.on HSl.out hS.out.tx.below).resolve_left (fun e => by rw [e] at hul; simp at hul)
          have cx := hcs u hul
          have hx0 := HOK.out.get u hul
          have hgd : (Ss.drop u).getD 0 [] = Ss.getD u [] := by simp [List.getD]
          rw [hgd, List.drop_drop] at e1
          obtain ⟨x, hxe⟩ : ∃ x, Ss.getD u [] = x := ⟨_, rfl⟩
          rw [hxe] at cx hx0 e1
          have HXE := Lib.hid hxe
          clear hxe hcs hgd
          subst hq
          have lx := hc_len x
          have lx32 := hx0.1
          have i0 : (0 : Int) ≤ (u : Int) := by omega
          have i1 : (u : Int) < (Ss.length : Int) := by omega
          have hor := hi.1 hb
          rcases Nat.mod_two_eq_zero_or_one p with hpm | hpm
          · have hp2 : (p : Int) % 2 = 0 := by omega
            have hlt2 : (p : Int) + 1 < c := by omega
            have HN1 : Hid (chk f (p / 2) ((c + 1) / 2) (pr H x) (Ss.drop (u + 1)) = Z ∧ sd f (p / 2) ((c + 1) / 2) = Ss.length - (u + 1) ∧ (c + 1) / 2 ≤ 2 ^ f) := ⟨by rw [if_neg (by omega)] at e1; exact e1, by omega, by omega⟩
            clear hor hpm hi hb e1 e2 e3 hR
            go_wp2_with fail
            refine wp_region_held_drew (S := fun W => W.heap[w.heap.size]? = some (.cells #[.int .i64 p0, .int .i64 k0, .slice (some ⟨bs, off, none⟩) Ss.length k] 32 (0, 0)) ∧ HashAt W b7 H ∧ rowOf W bs (off + u * 32) 32 = hc x) (by kernel_rfl) (⟨hS.out.hP, hS.out.hH, cx⟩) (fun h0 => ?_)
            refine wpAnyH_take (i := 0) (v := ?_) (by rw [List.getElem?_toArray]; rfl) (by kernel_rfl) (by kernel_rfl) (by kernel_rfl) (by exact fun _ _ _ h => h) (Or.inl ⟨by rfl, ?_⟩) h0 ?_
            rotate_left
            · intro W hW
              go_simp
              all_goals with_reducible rfl
            try simp only [Act.put, List.setIfInBounds_toArray, List.set_cons_zero, List.set_cons_succ]
            refine wpAnyH_take (i := 1) (v := ?_) (by rw [List.getElem?_toArray]; rfl) (by kernel_rfl) (by kernel_rfl) (by kernel_rfl) (by exact fun _ _ _ h => h) (Or.inl ⟨by rfl, ?_⟩) h0 ?_
            rotate_left
            · intro W hW
              have cc := hW.2.1.row lH
              go_simp
              all_goals with_reducible rfl
            try simp only [Act.put, List.setIfInBounds_toArray, List.set_cons_zero, List.set_cons_succ]
            refine wpAnyH_take (i := 2) (v := ?_) (by rw [List.getElem?_toArray]; rfl) (by kernel_rfl) (by kernel_rfl) (by kernel_rfl) (by exact fun _ _ _ h => h) (Or.inl ⟨by rfl, ?_⟩) h0 ?_
            rotate_left
            · intro W hW
              go_simp
              all_goals with_reducible rfl
            try simp only [Act.put, List.setIfInBounds_toArray, List.set_cons_zero, List.set_cons_succ]
            refine wpAnyH_take (i := 3) (v := ?_) (by rw [List.getElem?_toArray]; rfl) (by kernel_rfl) (by kernel_rfl) (by kernel_rfl) (by exact fun _ _ _ h => h) (Or.inl ⟨by rfl, ?_⟩) h0 ?_
            rotate_left
            · intro W hW
              have cc := (Joins.cell_of_block hW.1 2).trans (rfl : _ = some _)
              go_simp
              all_goals with_reducible rfl
            try simp only [Act.put, List.setIfInBounds_toArray, List.set_cons_zero, List.set_cons_succ]
            refine wpAnyH_take (i := 4) (v := ?_) (by rw [List.getElem?_toArray]; rfl) (by kernel_rfl) (by kernel_rfl) (by kernel_rfl) (by exact fun _ _ _ h => h) (Or.inl ⟨by rfl, ?_⟩) h0 ?_
            rotate_left
            · intro W hW
              go_simp
              all_goals with_reducible rfl
            try simp only [Act.put, List.setIfInBounds_toArray, List.set_cons_zero, List.set_cons_succ]
            refine wpAnyH_take (i := 5) (v := ?_) (by rw [List.getElem?_toArray]; rfl) (by kernel_rfl) (by kernel_rfl) (by kernel_rfl) (by exact fun _ _ _ h => h) (Or.inl ⟨by rfl, ?_⟩) h0 ?_
            rotate_left
            · intro W hW
              go_simp
              all_goals with_reducible rfl
            try simp only [Act.put, List.setIfInBounds_toArray, List.set_cons_zero, List.set_cons_succ]
            refine wpAnyH_take (i := 6) (v := ?_) (by rw [List.getElem?_toArray]; rfl) (by kernel_rfl) (by kernel_rfl) (by kernel_rfl) (by exact fun _ _ _ h => h) (Or.inl ⟨by rfl, ?_⟩) h0 ?_
            rotate_left
            · intro W hW
              have cc := hW.2.2
              go_simp
              all_goals with_reducible rfl
            try simp only [Act.put, List.setIfInBounds_toArray, List.set_cons_zero, List.set_cons_succ]
            refine wpAnyH_ready (rs := [7]) (by kernel_rfl) (by simp) ?_
            refine AllReadyH.cons (by rw [List.getElem?_toArray]; rfl) (fun K hK => ?_) AllReadyH.nil
            rw [if_pos (by rfl)]
            go_wp2_with fail
            refine (pairText_any (w := wr.drew) lH hx0.1).mono ?_
            rintro e w3 ⟨qf, nf, cf, rfl, hfr⟩
            have hb3' : Below wr.heap.size wr w3 := ((Below.refl wr.heap.size wr).drew).trans hfr.below
            have S3 := Lib.hid (hS.out.on hb3')
            have K3 : Hid (w3.heap[w.heap.size]? = some (.cells #[.int .i64 p0, .int .i64 k0, .slice (some ⟨bs, off, none⟩) Ss.length k] 32 (0, 0)) ∧ HashAt w3 b7 H ∧ rowOf w3 bs (off + u * 32) 32 = hc x) := Lib.hid ⟨S3.out.hP, S3.out.hH, by rw [rowOf_on (by rw [cx, lx, lx32]; omega) hb3']; exact cx⟩
            have ULb : w3.ownsRow 0 5 1 (.slice qf nf cf) (frm (sn pairS) [H, x]).length (bc (frm (sn pairS) [H, x])) := by rw [hfr.len]; exact hfr.own
            obtain ⟨vs, OW0, psh⟩ := S3.out.tx.push ULb (pair_bytes bH hx0.2) (by rw [pair_len lH hx0.1]; omega)
            have OW : (w3.alloc (.cells #[.slice qf nf cf] 42)).ownsRow 0 42 1 (.slice qa na ca) na vs := by rw [HNA.out]; rw [HNA.out] at OW0; exact OW0
            have PSH := Lib.hid psh
            clear OW0 psh ULb
            clear hfr hb3'
            go_wp2_with fail
            refine hK.out _ _ (K3.out) (fun h10 => ?_)
            clear hK K
            try simp only [Act.put, List.setIfInBounds_toArray, List.set_cons_zero, List.set_cons_succ]
            refine wpAnyH_ready (rs := [8]) (by kernel_rfl) (by simp) ?_
            refine AllReadyH.cons (by rw [List.getElem?_toArray]; rfl) (fun K hK => ?_) AllReadyH.nil
            rw [if_pos (by rfl)]
            have b4 : Below w3.heap.size w3 (w3.alloc (.cells #[.slice qf nf cf] 42)) := (Below.refl _ _).alloc (Nat.le_refl _) _
            have K4 : Hid ((w3.alloc (.cells #[.slice qf nf cf] 42)).heap[w.heap.size]? = some (.cells #[.int .i64 p0, .int .i64 k0, .slice (some ⟨bs, off, none⟩) Ss.length k] 32 (0, 0)) ∧ HashAt (w3.alloc (.cells #[.slice qf nf cf] 42)) b7 H ∧ rowOf (w3.alloc (.cells #[.slice qf nf cf] 42)) bs (off + u * 32) 32 = hc x) := Lib.hid ⟨blk_onB2 K3.out.1 b4, K3.out.2.1.on b4, by rw [rowOf_on (by rw [K3.out.2.2, lx, lx32]; omega) b4]; exact K3.out.2.2⟩
            clear b4
            go_wp2_with fail
            refine hK.out _ _ (K4.out) (fun h11 => ?_)
            clear hK K
            try simp only [Act.put, List.setIfInBounds_toArray, List.set_cons_zero, List.set_cons_succ]
            refine wpAnyH_ready (rs := [9]) (by kernel_rfl) (by simp) ?_
            refine AllReadyH.cons (by rw [List.getElem?_toArray]; rfl) (fun K hK => ?_) AllReadyH.nil
            rw [if_pos (by rfl)]
            refine wp_append_row _ _ rfl Tryd.underlying22 hj.out ez0.out ez1.out ez2.out rfl OW (src_one (P := Tryd.prog) Tryd.underlying22 w3 qf nf cf) (by unfold maxLen; omega) (by omega) ?_
            intro q6 k6 w6 own6' grow6' fr6'
            have HN : Hid (AlS w w6 (.cells #[.int .i64 p0, .int .i64 k0, .slice (some ⟨bs, off, none⟩) Ss.length k] 32 (0, 0)) b7 H (some ⟨bs, off, none⟩) Ss (.slice q6 (na + 1) k6) (TL ++ [frm (sn pairS) [H, x]])) := by
              refine AlS.push (T := na) S3.out grow6' (PSH.out _ _ (by have := own6'; rw [HNA.out] at this ⊢; exact this) grow6' fr6') HS0.out HSl.out ?_
              have := OW; exact ⟨_, this⟩
            have K6 : Hid (w6.heap[w.heap.size]? = some (.cells #[.int .i64 p0, .int .i64 k0, .slice (some ⟨bs, off, none⟩) Ss.length k] 32 (0, 0)) ∧ HashAt w6 b7 H ∧ rowOf w6 bs (off + u * 32) 32 = hc x) := by
              refine ⟨HN.out.hP, HN.out.hH, ?_⟩
              obtain ⟨b', off', e', hx'⟩ := (HS0.out.on HSl.out HN.out.tx.below).resolve_left (fun e => by rw [e] at hul; simp at hul)
              simp only [Option.some.injEq, Addr.mk.injEq] at e'
              obtain ⟨rfl, rfl, -⟩ := e'
              rw [hx' u hul, HXE.out]
            clear own6' grow6' fr6' OW PSH
            refine hK.out _ _ (K6.out) (fun h12 => ?_)
            clear hK K
            try simp only [Act.put, List.setIfInBounds_toArray, List.set_cons_zero, List.set_cons_succ]
            refine wpAnyH_take (i := 10) (v := ?_) (by rw [List.getElem?_toArray]; rfl) (by kernel_rfl) (by kernel_rfl) (by kernel_rfl) (by exact fun _ _ _ h => h) (Or.inl ⟨by rfl, ?_⟩) h12 ?_
            rotate_left
            · intro W hW
              go_simp
              all_goals with_reducible rfl
            try simp only [Act.put, List.setIfInBounds_toArray, List.set_cons_zero, List.set_cons_succ]
            refine wpAnyH_done (by kernel_rfl) ?_ _
            have HNL : Hid (na + 1 = (TL ++ [frm (sn pairS) [H, x]]).length) := by show _ = _; rw [List.length_append, List.length_singleton, ← HNA.out]
            have c2' := (Joins.cell_of_block HN.out.hP 2).trans (rfl : _ = some _)
            have ch' := HN.out.hH.row lH
            have cx' := K6.out.2.2
            clear h12 h11 h10 h0 S3 K3 K4 K6 hS c2 ch cx
            go_wp2_with fail
            go_region_with (first
              | (go_at_call 40; refine (refPair_any lH hx0.1 bH hx0.2).mono ?_; rintro e w7 ⟨rfl, hb7⟩; (have H7 := (show HashAt w6.drew b7 H from HN.out.hH).on hb7); (have ct := H7.there lH); rw [show sha (frm (sn pairS) [H, x]) = pr H x from rfl]; (have hYl : (pr H x).length = 32 := sha_len _); (have lY := hc_len (pr H x)); (have HNS := Lib.hid (HN.out.next hb7 (sha_bytes _) hYl NB7.out))))
            all_goals
              go_wp2_with fail
              go_roundw
              case rel => exact ⟨f, p / 2, (c + 1) / 2, u + 1, na + 1, _, q6, k6, _, by go_num, by first | (go_num; done) | (go_num; omega) | (congr 1; omega), by go_num, rfl, by omega, by omega, by omega, by omega, HNL, HN1, HNS⟩
              case measure => simp [intOf]; omega
          · have hp2 : (p : Int) % 2 = 1 := by omega
            have HN1 : Hid (chk f (p / 2) ((c + 1) / 2) (pr x H) (Ss.drop (u + 1)) = Z ∧ sd f (p / 2) ((c + 1) / 2) = Ss.length - (u + 1) ∧ (c + 1) / 2 ≤ 2 ^ f) := ⟨by rw [if_pos (by omega)] at e1; exact e1, by omega, by omega⟩
            clear hor hpm hi hb e1 e2 e3 hR
            go_wp2_with fail
            refine wp_region_held_drew (S := fun W => W.heap[w.heap.size]? = some (.cells #[.int .i64 p0, .int .i64 k0, .slice (some ⟨bs, off, none⟩) Ss.length k] 32 (0, 0)) ∧ HashAt W b7 H ∧ rowOf W bs (off + u * 32) 32 = hc x) (by kernel_rfl) (⟨hS.out.hP, hS.out.hH, cx⟩) (fun h0 => ?_)
            refine wpAnyH_take (i := 0) (v := ?_) (by rw [List.getElem?_toArray]; rfl) (by kernel_rfl) (by kernel_rfl) (by kernel_rfl) (by exact fun _ _ _ h => h) (Or.inl ⟨by rfl, ?_⟩) h0 ?_
            rotate_left
            · intro W hW
              go_simp
              all_goals with_reducible rfl
            try simp only [Act.put, List.setIfInBounds_toArray, List.set_cons_zero, List.set_cons_succ]
            refine wpAnyH_take (i := 1) (v := ?_) (by rw [List.getElem?_toArray]; rfl) (by kernel_rfl) (by kernel_rfl) (by kernel_rfl) (by exact fun _ _ _ h => h) (Or.inl ⟨by rfl, ?_⟩) h0 ?_
            rotate_left
            · intro W hW
              go_simp
              all_goals with_reducible rfl
            try simp only [Act.put, List.setIfInBounds_toArray, List.set_cons_zero, List.set_cons_succ]
            refine wpAnyH_take (i := 2) (v := ?_) (by rw [List.getElem?_toArray]; rfl) (by kernel_rfl) (by kernel_rfl) (by kernel_rfl) (by exact fun _ _ _ h => h) (Or.inl ⟨by rfl, ?_⟩) h0 ?_
            rotate_left
            · intro W hW
              have cc := (Joins.cell_of_block hW.1 2).trans (rfl : _ = some _)
              go_simp
              all_goals with_reducible rfl
            try simp only [Act.put, List.setIfInBounds_toArray, List.set_cons_zero, List.set_cons_succ]
            refine wpAnyH_take (i := 3) (v := ?_) (by rw [List.getElem?_toArray]; rfl) (by kernel_rfl) (by kernel_rfl) (by kernel_rfl) (by exact fun _ _ _ h => h) (Or.inl ⟨by rfl, ?_⟩) h0 ?_
            rotate_left
            · intro W hW
              go_simp
              all_goals with_reducible rfl
            try simp only [Act.put, List.setIfInBounds_toArray, List.set_cons_zero, List.set_cons_succ]
            refine wpAnyH_take (i := 4) (v := ?_) (by rw [List.getElem?_toArray]; rfl) (by kernel_rfl) (by kernel_rfl) (by kernel_rfl) (by exact fun _ _ _ h => h) (Or.inl ⟨by rfl, ?_⟩) h0 ?_
            rotate_left
            · intro W hW
              go_simp
              all_goals with_reducible rfl
            try simp only [Act.put, List.setIfInBounds_toArray, List.set_cons_zero, List.set_cons_succ]
            refine wpAnyH_take (i := 5) (v := ?_) (by rw [List.getElem?_toArray]; rfl) (by kernel_rfl) (by kernel_rfl) (by kernel_rfl) (by exact fun _ _ _ h => h) (Or.inl ⟨by rfl, ?_⟩) h0 ?_
            rotate_left
            · intro W hW
              have cc := hW.2.2
              go_simp
              all_goals with_reducible rfl
            try simp only [Act.put, List.setIfInBounds_toArray, List.set_cons_zero, List.set_cons_succ]
            refine wpAnyH_take (i := 6) (v := ?_) (by rw [List.getElem?_toArray]; rfl) (by kernel_rfl) (by kernel_rfl) (by kernel_rfl) (by exact fun _ _ _ h => h) (Or.inl ⟨by rfl, ?_⟩) h0 ?_
            rotate_left
            · intro W hW
              have cc := hW.2.1.row lH
              go_simp
              all_goals with_reducible rfl
            try simp only [Act.put, List.setIfInBounds_toArray, List.set_cons_zero, List.set_cons_succ]
            refine wpAnyH_ready (rs := [7]) (by kernel_rfl) (by simp) ?_
            refine AllReadyH.cons (by rw [List.getElem?_toArray]; rfl) (fun K hK => ?_) AllReadyH.nil
            rw [if_pos (by rfl)]
            go_wp2_with fail
            refine (pairText_any (w := wr.drew) hx0.1 lH).mono ?_
            rintro e w3 ⟨qf, nf, cf, rfl, hfr⟩
            have hb3' : Below wr.heap.size wr w3 := ((Below.refl wr.heap.size wr).drew).trans hfr.below
            have S3 := Lib.hid (hS.out.on hb3')
            have K3 : Hid (w3.heap[w.heap.size]? = some (.cells #[.int .i64 p0, .int .i64 k0, .slice (some ⟨bs, off, none⟩) Ss.length k] 32 (0, 0)) ∧ HashAt w3 b7 H ∧ rowOf w3 bs (off + u * 32) 32 = hc x) := Lib.hid ⟨S3.out.hP, S3.out.hH, by rw [rowOf_on (by rw [cx, lx, lx32]; omega) hb3']; exact cx⟩
            have ULb : w3.ownsRow 0 5 1 (.slice qf nf cf) (frm (sn pairS) [x, H]).length (bc (frm (sn pairS) [x, H])) := by rw [hfr.len]; exact hfr.own
            obtain ⟨vs, OW0, psh⟩ := S3.out.tx.push ULb (pair_bytes hx0.2 bH) (by rw [pair_len hx0.1 lH]; omega)
            have OW : (w3.alloc (.cells #[.slice qf nf cf] 42)).ownsRow 0 42 1 (.slice qa na ca) na vs := by rw [HNA.out]; rw [HNA.out] at OW0; exact OW0
            have PSH := Lib.hid psh
            clear OW0 psh ULb
            clear hfr hb3'
            go_wp2_with fail
            refine hK.out _ _ (K3.out) (fun h10 => ?_)
            clear hK K
            try simp only [Act.put, List.setIfInBounds_toArray, List.set_cons_zero, List.set_cons_succ]
            refine wpAnyH_ready (rs := [8]) (by kernel_rfl) (by simp) ?_
            refine AllReadyH.cons (by rw [List.getElem?_toArray]; rfl) (fun K hK => ?_) AllReadyH.nil
            rw [if_pos (by rfl)]
            have b4 : Below w3.heap.size w3 (w3.alloc (.cells #[.slice qf nf cf] 42)) := (Below.refl _ _).alloc (Nat.le_refl _) _
            have K4 : Hid ((w3.alloc (.cells #[.slice qf nf cf] 42)).heap[w.heap.size]? = some (.cells #[.int .i64 p0, .int .i64 k0, .slice (some ⟨bs, off, none⟩) Ss.length k] 32 (0, 0)) ∧ HashAt (w3.alloc (.cells #[.slice qf nf cf] 42)) b7 H ∧ rowOf (w3.alloc (.cells #[.slice qf nf cf] 42)) bs (off + u * 32) 32 = hc x) := Lib.hid ⟨blk_onB2 K3.out.1 b4, K3.out.2.1.on b4, by rw [rowOf_on (by rw [K3.out.2.2, lx, lx32]; omega) b4]; exact K3.out.2.2⟩
            clear b4
            go_wp2_with fail
            refine hK.out _ _ (K4.out) (fun h11 => ?_)
            clear hK K
            try simp only [Act.put, List.setIfInBounds_toArray, List.set_cons_zero, List.set_cons_succ]
            refine wpAnyH_ready (rs := [9]) (by kernel_rfl) (by simp) ?_
            refine AllReadyH.cons (by rw [List.getElem?_toArray]; rfl) (fun K hK => ?_) AllReadyH.nil
            rw [if_pos (by rfl)]
            refine wp_append_row _ _ rfl Tryd.underlying22 hj.out ez0.out ez1.out ez2.out rfl OW (src_one (P := Tryd.prog) Tryd.underlying22 w3 qf nf cf) (by unfold maxLen; omega) (by omega) ?_
            intro q6 k6 w6 own6' grow6' fr6'
            have HN : Hid (AlS w w6 (.cells #[.int .i64 p0, .int .i64 k0, .slice (some ⟨bs, off, none⟩) Ss.length k] 32 (0, 0)) b7 H (some ⟨bs, off, none⟩) Ss (.slice q6 (na + 1) k6) (TL ++ [frm (sn pairS) [x, H]])) := by
              refine AlS.push (T := na) S3.out grow6' (PSH.out _ _ (by have := own6'; rw [HNA.out] at this ⊢; exact this) grow6' fr6') HS0.out HSl.out ?_
              have := OW; exact ⟨_, this⟩
            have K6 : Hid (w6.heap[w.heap.size]? = some (.cells #[.int .i64 p0, .int .i64 k0, .slice (some ⟨bs, off, none⟩) Ss.length k] 32 (0, 0)) ∧ HashAt w6 b7 H ∧ rowOf w6 bs (off + u * 32) 32 = hc x) := by
              refine ⟨HN.out.hP, HN.out.hH, ?_⟩
              obtain ⟨b', off', e', hx'⟩ := (HS0.out.on HSl.out HN.out.tx.below).resolve_left (fun e => by rw [e] at hul; simp at hul)
              simp only [Option.some.injEq, Addr.mk.injEq] at e'
              obtain ⟨rfl, rfl, -⟩ := e'
              rw [hx' u hul, HXE.out]
            clear own6' grow6' fr6' OW PSH
            refine hK.out _ _ (K6.out) (fun h12 => ?_)
            clear hK K
            try simp only [Act.put, List.setIfInBounds_toArray, List.set_cons_zero, List.set_cons_succ]
            refine wpAnyH_take (i := 10) (v := ?_) (by rw [List.getElem?_toArray]; rfl) (by kernel_rfl) (by kernel_rfl) (by kernel_rfl) (by exact fun _ _ _ h => h) (Or.inl ⟨by rfl, ?_⟩) h12 ?_
            rotate_left
            · intro W hW
              go_simp
              all_goals with_reducible rfl
            try simp only [Act.put, List.setIfInBounds_toArray, List.set_cons_zero, List.set_cons_succ]
            refine wpAnyH_done (by kernel_rfl) ?_ _
            have HNL : Hid (na + 1 = (TL ++ [frm (sn pairS) [x, H]]).length) := by show _ = _; rw [List.length_append, List.length_singleton, ← HNA.out]
            have c2' := (Joins.cell_of_block HN.out.hP 2).trans (rfl : _ = some _)
            have ch' := HN.out.hH.row lH
            have cx' := K6.out.2.2
            clear h12 h11 h10 h0 S3 K3 K4 K6 hS c2 ch cx
            go_wp2_with fail
            go_region_with (first
              | (go_at_call 40; refine (refPair_any hx0.1 lH hx0.2 bH).mono ?_; rintro e w7 ⟨rfl, hb7⟩; (have H7 := (show HashAt w6.drew b7 H from HN.out.hH).on hb7); (have ct := H7.there lH); rw [show sha (frm (sn pairS) [x, H]) = pr x H from rfl]; (have hYl : (pr x H).length = 32 := sha_len _); (have lY := hc_len (pr x H)); (have HNS := Lib.hid (HN.out.next hb7 (sha_bytes _) hYl NB7.out))))
            all_goals
              go_wp2_with fail
              go_roundw
              case rel => exact ⟨f, p / 2, (c + 1) / 2, u + 1, na + 1, _, q6, k6, _, by go_num, by first | (go_num; done) | (go_num; omega) | (congr 1; omega), by go_num, rfl, by omega, by omega, by omega, by omega, HNL, HN1, HNS⟩
              case measure => simp [intOf]; omega
        · rw [if_neg hb] at e1 e2
          have hor : ¬ (p % 2 = 1 ∨ p + 1 < c) := fun h => hb (hi.2 h)
          have hp2 : (p : Int) % 2 = 0 := by omega
          have hlt2 : ¬ (p : Int) + 1 < c := by omega
          have HN : Hid (chk f (p / 2) ((c + 1) / 2) H (Ss.drop u) = Z ∧ sd f (p / 2) ((c + 1) / 2) = Ss.length - u ∧ (c + 1) / 2 ≤ 2 ^ f) := ⟨e1, by omega, by omega⟩
          clear hor hi hb e1 e2 e3 hR c2 ch
          go_wp2_with fail
          go_roundw
          case rel => exact ⟨f, p / 2, (c + 1) / 2, u, na, H, qa, ca, TL, by go_num, by first | (go_num; done) | (go_num; omega) | (congr 1; omega), by go_num, rfl, by omega, by omega, by omega, by omega, HNA, HN, hS⟩
          case measure => simp [intOf]; omega
    · have hHZ : H = Z := by
        have e1 := hR.out.1
        cases f with
        | zero => exact e1
        | succ f => unfold chk at e1; rw [if_pos (by omega)] at e1; exact e1
      subst hHZ
      have c1 := (Joins.cell_of_block hS.out.hP 1).trans (rfl : _ = some _)
      have ch := hS.out.hH.row lH
      clear hR
      go_wp2_with fail
      refine (topText_any (w := wr) (n := (k0 : Int)) (F := H) (by omega) (by omega) lH).mono ?_
      rintro e w6 ⟨qf, nf, cf, rfl, hfr⟩
      have hS3 := Lib.hid (hS.out.tx.on hfr.below)
      have ULc : w6.ownsRow 0 5 1 (.slice qf nf cf) (frm (sn listS) [be8 (k0 : Int), H]).length (bc (frm (sn listS) [be8 (k0 : Int), H])) := by rw [hfr.len]; exact hfr.own
      obtain ⟨vs, OW0, psh⟩ := hS3.out.push ULc (list_bytes _ bH) (by rw [list_len, lH]; omega)
      have OW : (w6.alloc (.cells #[.slice qf nf cf] 42)).ownsRow 0 42 1 (.slice qa na ca) na vs := by rw [HNA.out]; rw [HNA.out] at OW0; exact OW0
      have PSH := Lib.hid psh
      clear OW0 psh ULc
      clear hfr hS hS3 c1 ch
      go_wp2_with (at_builtin; refine wpList_append_row rfl _ _ rfl Tryd.underlying22 hj.out ez0.out ez1.out ez2.out rfl OW (src_one (P := Tryd.prog) Tryd.underlying22 w6 qf nf cf) (by unfold maxLen; omega) (by omega) ?_)
      intro q6 k6 w8 own6 grow6 fr6
      have HN : Hid (TxS w w8 (.slice q6 (na + 1) k6) (TL ++ [frm (sn listS) [be8 (k0 : Int), H]])) := PSH.out _ _ (by have := own6; rw [HNA.out] at this ⊢; exact this) grow6 (fr6.imp id fun e => by rw [e]; simp)
      clear own6 grow6 fr6 OW PSH
      go_wp2_with fail
      go_ret
      exact ⟨_, TL, rfl, by rw [HI0.out, HZ0.out]; exact HN.out, by rw [← HNA.out]; omega⟩
end Go.Proofs.YtebeacejlkiglaaDoor
namespace Go.Proofs.YtebeacejlkiglaaDoor
open Go.RowKit

theorem str_inj {xs ys : List Int} (hx : Bytes xs) (hy : Bytes ys) (e : xs.map (fun n => UInt8.ofNat n.toNat) = ys.map (fun n => UInt8.ofNat n.toNat)) : xs = ys := by
  induction xs generalizing ys with
  | nil => cases ys with
    | nil => rfl
    | cons y ys => simp at e
  | cons x xs ih => cases ys with
    | nil => simp at e
    | cons y ys =>
      simp only [List.map_cons, List.cons.injEq] at e
      have h1 := hx x (by simp)
      have h2 := hy y (by simp)
      have e1 := congrArg UInt8.toNat e.1
      rw [UInt8.toNat_ofNat', UInt8.toNat_ofNat'] at e1
      have := ih (ys := ys) (fun z hz => hx z (by simp [hz])) (fun z hz => hy z (by simp [hz])) e.2
      rw [this]
      congr 1
      omega
end Go.Proofs.YtebeacejlkiglaaDoor
