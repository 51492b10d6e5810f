/-
  The root behind a proof, plain and in package proof.; The root behind a proof, in the document.; Check and Update, in package proof and in the document.
-/
import Derived.Test.YtjgfjmkfcippcaaDoorMc9
namespace Go.Proofs.YtjgfjmkfcippcaaDoor
set_option maxRecDepth 100000
open Go.RowKit

/-- What stands beside the way at a level. -/
def sdI (M : List Int) (Ss : List (List Int)) (l : Nat) : List Int := if bitI M l = 1 then Ss.getD (cntI M l) [] else zero32
def stpS (K M : List Int) (Ss : List (List Int)) (l : Nat) (h : List Int) : List Int := if bitI K l = 0 then abH h (sdI M Ss l) else abH (sdI M Ss l) h
def upS (K M : List Int) (Ss : List (List Int)) (h : List Int) : Nat → List Int
  | 0 => h
  | k + 1 => stpS K M Ss (255 - k) (upS K M Ss h k)
def rootH (K V M : List Int) (Ss : List (List Int)) : List Int := if okS M Ss = true then upS K M Ss (lfH K V) 256 else zero32
def rootE (M : List Int) (Ss : List (List Int)) : Int := if okS M Ss = true then 0 else 21
theorem stpS_len (K M : List Int) (Ss : List (List Int)) (l : Nat) (h : List Int) : (stpS K M Ss l h).length = 32 := by unfold stpS; split <;> exact abH_len _ _
theorem stpS_bytes (K M : List Int) (Ss : List (List Int)) (l : Nat) (h : List Int) : Bytes (stpS K M Ss l h) := by unfold stpS; split <;> exact abH_bytes _ _
theorem upS_len (K M : List Int) (Ss : List (List Int)) {h : List Int} (hh : h.length = 32) : ∀ k, (upS K M Ss h k).length = 32
  | 0 => hh
  | _ + 1 => stpS_len _ _ _ _ _
theorem upS_bytes (K M : List Int) (Ss : List (List Int)) {h : List Int} (hh : Bytes h) : ∀ k, Bytes (upS K M Ss h k)
  | 0 => hh
  | _ + 1 => stpS_bytes _ _ _ _ _
theorem rootH_len (K V M : List Int) (Ss : List (List Int)) : (rootH K V M Ss).length = 32 := by unfold rootH; split; exact upS_len _ _ _ (lfH_len _ _) _; exact zero32_len
theorem rootH_bytes (K V M : List Int) (Ss : List (List Int)) : Bytes (rootH K V M Ss) := by unfold rootH; split; exact upS_bytes _ _ _ (lfH_bytes _ _) _; exact zero32_bytes

/-- What stands in memory within Root: key, value, proof, answer. -/
structure RtS (t : TypeId) (w wr : World) (K V M : List Int) (v : Value) : Prop where
  below : Below w.heap.size w wr
  hK : HashAt wr w.heap.size K
  hV : HashAt wr (w.heap.size + 1) V
  pf : PfB t wr (w.heap.size + 2) M v
  hR : HashAt wr (w.heap.size + 3) zero32
section
variable {t : TypeId} {w W W' : World} {K V M : List Int} {v : Value}
theorem RtS.on (h : RtS t w W K V M v) (hb : Below W.heap.size W W') : RtS t w W' K V M v := ⟨h.below.trans (hb.mono h.below.size), h.hK.on hb, h.hV.on hb, h.pf.on hb, h.hR.on hb⟩
theorem RtS.put (h : RtS t w W K V M v) {b : Nat} (hb : w.heap.size + 3 < b) (o : Nat) (vs : List Value) : RtS t w (W.setCells b o vs) K V M v :=
  ⟨below_setCells' b (by omega) vs o h.below, h.hK.others (by omega) o vs, h.hV.others (by omega) o vs, h.pf.others (by omega) o vs, h.hR.others (by omega) o vs⟩
theorem RtS.start (t : TypeId) (w : World) (K V M : List Int) (v : Value) : RtS t w ((((w.alloc (.cells (hc K).toArray 23)).alloc (.cells (hc V).toArray 23)).alloc (.cells (pfRow M v).toArray t)).alloc (.cells (hc zero32).toArray 23)) K V M v := by
  have h1 := HashAt.new (w.alloc (.cells (hc K).toArray 23)) V
  have h2 := PfB.new (t := t) ((w.alloc (.cells (hc K).toArray 23)).alloc (.cells (hc V).toArray 23)) M v
  have h3 := HashAt.new (((w.alloc (.cells (hc K).toArray 23)).alloc (.cells (hc V).toArray 23)).alloc (.cells (pfRow M v).toArray t)) zero32
  simp only [World.size_alloc] at h1 h2 h3
  exact ⟨((((Below.refl w.heap.size w).alloc (Nat.le_refl _) _).alloc (by simp) _).alloc (by simp; omega) _).alloc (by simp; omega) _, (((HashAt.new w K).alloc _).alloc _).alloc _, (h1.alloc _).alloc _, h2.alloc _, h3⟩
end
theorem sdI_len {M : List Int} {Ss : List (List Int)} (ok : HsOk Ss) {l : Nat} (h : bitI M l = 1 → cntI M l < Ss.length) : (sdI M Ss l).length = 32 ∧ Bytes (sdI M Ss l) := by
  unfold sdI
  split
  · rename_i e; exact ok.get _ (h e)
  · exact ⟨zero32_len, zero32_bytes⟩


set_option maxHeartbeats 16000000 in
theorem pRoot_any {w : World} {K V M : List Int} {q : Option Addr} {k : Nat} {Ss : List (List Int)} (hT : Tbl w) (hK : K.length = 32) (hV : V.length = 32) (hM : M.length = 32) (bK : Bytes K) (bV : Bytes V) (bM : Bytes M) (hs : RdHs w q Ss) (ok : HsOk Ss) (hn : Ss.length ≤ 140737488355328) :
    Calls Tryd.prog 21 #[.agg (hc K).toArray, .agg (hc V).toArray, .agg (pfRow M (.slice q Ss.length k)).toArray] w fun e w' => e = .returned (.tuple #[.agg (hc (rootH K V M Ss)).toArray, .int .i64 (rootE M Ss)]) ∧ Below w.heap.size w w' := by
  have S0 := Lib.hid (RtS.start 30 w K V M (.slice q Ss.length k))
  have BK := Lib.hid bK
  have BV := Lib.hid bV
  have BM := Lib.hid bM
  have OK := Lib.hid ok
  have HS : Hid (∀ W, Below w.heap.size w W → RdHs W q Ss) := fun W hb => hs.on (fun i hi => (ok.get i hi).1) hb
  have HT := Lib.hid hT
  have hlK := hc_len K
  have hlV := hc_len V
  have hlM := hc_len M
  have hlp := pfRow_len hM (.slice q Ss.length k)
  have z32 := zero32_len
  have r0 := S0.out.pf.whole hM
  clear bK bV bM hs ok hT
  go_enter Tryd.func21, Tryd.ntmps21
  go_wp2_with fail
  go_step3
  go_wp2_with fail
  clear r0
  generalize (((w.alloc (.cells (hc K).toArray 23)).alloc (.cells (hc V).toArray 23)).alloc (.cells (pfRow M (.slice q Ss.length k)).toArray 30)).alloc (.cells (hc zero32).toArray 23) = w1 at *
  refine (Right_any hM BM.out (HS.out _ S0.out.below) OK.out hn).mono ?_
  rintro e w2 ⟨rfl, hb2⟩
  have S2 := Lib.hid (S0.out.on hb2)
  clear hb2 S0
  by_cases hok : okS M Ss = true
  · have EH := Lib.hid (show rootH K V M Ss = upS K M Ss (lfH K V) 256 by unfold rootH; rw [if_pos hok])
    have EE := Lib.hid (show rootE M Ss = 0 by unfold rootE; rw [if_pos hok])
    have HC := Lib.hid (of_decide_eq_true hok).1
    rw [hok]
    clear hok
    have rK := S2.out.hK.row hK
    have rV := S2.out.hV.row hV
    go_wp2_with fail
    refine (Leaf_any (HT.out.on S2.out.below HT.out.pos) hK hV BK.out BV.out).mono ?_
    rintro e w3 ⟨rfl, hb3⟩
    have S3 := S2.out.on hb3
    have lL := lfH_len K V
    have bL := Lib.hid (lfH_bytes K V)
    obtain ⟨F, hF⟩ : ∃ F, lfH K V = F := ⟨_, rfl⟩
    rw [hF] at lL bL EH ⊢
    have H3 := HashAt.new w3 zero32
    have th3 := H3.there zero32_len
    have lr3 := S3.hR.lt
    have S4 := Lib.hid ((S3.on ((Below.refl _ _).alloc (Nat.le_refl _) (.cells (hc zero32).toArray 23))).put (b := w3.heap.size) (by omega) 0 (hc F))
    have H4 := Lib.hid (H3.put zero32_len lL)
    have hhb : w.heap.size + 3 < w3.heap.size := by omega
    have sd4 := S4.out.pf.sides hM
    have lF := hc_len F
    clear hF hb3 S3 H3 S2 rK rV lr3
    go_wp2_with fail
    clear th3 sd4
    obtain ⟨hb, hhe⟩ : ∃ hb, hb = w3.heap.size := ⟨_, rfl⟩
    rw [← hhe] at S4 H4 hhb ⊢
    generalize (w3.alloc (.cells (hc zero32).toArray 23)).setCells hb 0 (hc F) = w4 at *
    clear hhe
    go_step3
    go_wp2_with fail
    go_loopw [9, 10] (fun nv iv wr => ∃ k' c : Nat, iv = .int .i64 (255 - (k' : Int)) ∧ k' ≤ 256 ∧ nv = .int .i64 (c : Int) ∧ Hid (c = cntI M (256 - k')) ∧ Hid (RtS 30 w wr K V M (.slice q Ss.length k)) ∧ Hid (HashAt wr hb (upS K M Ss F k'))) (fun _ iv _ => (intOf iv + 1).toNat)
    case atStart => exact ⟨0, Ss.length, rfl, by omega, rfl, by show _ = _; rw [HC.out], S4, H4⟩
    case round =>
      clear S4 H4
      obtain ⟨k', c, rfl, hk', rfl, hcq, hS, hH⟩ := hrel
      have lX := upS_len K M Ss lL k'
      by_cases hlt : k' < 256
      · obtain ⟨i, hi⟩ : ∃ i : Nat, 255 - (k' : Int) = i := ⟨255 - k', by omega⟩
        have hi2 : i < 256 := by omega
        have HI := Lib.hid (show 255 - k' = i by omega)
        have hc1 : c = cntI M i + (bitI M i).toNat := by
          rw [hcq.out, show 256 - k' = i + 1 by omega]; rfl
        have hcle : cntI M (i + 1) ≤ Ss.length := by rw [← HC.out]; exact cntI_mono M (by omega)
        have hside : bitI M i = 1 → cntI M i < Ss.length := fun e => by
          have : cntI M (i + 1) = cntI M i + (bitI M i).toNat := rfl
          rw [e] at this; simp at this; omega
        obtain ⟨lD, bD0⟩ := sdI_len OK.out hside
        have bD := Lib.hid bD0
        rw [hi]
        have bX := Lib.hid (upS_bytes K M Ss bL.out k')
        have HU := Lib.hid (show upS K M Ss F (k' + 1) = stpS K M Ss i (upS K M Ss F k') by rw [upS, HI.out])
        obtain ⟨X, hX⟩ : ∃ X, upS K M Ss F k' = X := ⟨_, rfl⟩
        rw [hX] at lX bX hH HU
        have A1 := HashAt.new wr zero32
        have SD : Hid (sdI M Ss i = sdI M Ss i) := rfl
        have HC1 := Lib.hid hc1
        clear hX bD0 hcq hc1
        have S1 := Lib.hid (hS.out.on ((Below.refl _ _).alloc (Nat.le_refl _) (.cells (hc zero32).toArray 23)))
        have H1 := Lib.hid (hH.out.alloc (.cells (hc zero32).toArray 23))
        have lth := hH.out.lt
        have rmk := S1.out.pf.mask hM
        have D1 := Lib.hid A1
        clear A1
        go_wp2_with fail
        obtain ⟨sb0, hsb0⟩ : ∃ sb0, sb0 = wr.heap.size := ⟨_, rfl⟩
        have hsb : w.heap.size + 3 < sb0 := by omega
        rw [← hsb0] at D1 lth ⊢
        generalize wr.alloc (.cells (hc zero32).toArray 23) = w1' at *
        clear hsb0
        clear rmk
        refine (pbit_any hM BM.out hi2).mono ?_
        rintro e w5 ⟨rfl, hb5⟩
        have S5' := S1.out.on hb5
        have H5' := H1.out.on hb5
        have D5' := D1.out.on hb5
        have HQ := HS.out _ S5'.below
        have sb := hsb
        clear hb5 S1 H1 D1 hS hH
        rcases bitI_two (M := M) i with eb | eb
        · have HDz : Hid (sdI M Ss i = zero32) := by show _ = _; unfold sdI; rw [if_neg (by rw [eb]; decide)]
          have hcc : c = cntI M i := by rw [HC1.out, eb]; simp
          rw [HDz.out] at lD bD
          obtain ⟨D, hD⟩ : ∃ D, zero32 = D := ⟨_, rfl⟩
          have dbit : (bitI M i == 1) = false := by rw [eb]; rfl
          obtain ⟨y, hy⟩ : ∃ y, bitI M i = y := ⟨_, rfl⟩
          rw [hy] at dbit ⊢
          have S5 := Lib.hid S5'
          have H5 := Lib.hid H5'
          rw [hD] at D5' HDz lD bD
          have D5 := Lib.hid D5'
          have rk := S5.out.hK.row hK
          subst hcc
          clear S5' H5' D5' HQ HC1 hcle hside eb hy hD
          go_wp2_with fail
          refine (pbit_any hK BK.out hi2).mono ?_
          rintro e w6 ⟨rfl, hb6⟩
          have S6 := Lib.hid (S5.out.on hb6)
          have H6 := Lib.hid (H5.out.on hb6)
          have D6 := D5.out.on hb6
          have rx := H6.out.row lX
          have rd := D6.row lD
          have T6 := HT.out.on S6.out.below HT.out.pos
          have lxx := hc_len X
          have ldd := hc_len D
          clear hb6 S5 H5 D5 D6 rk
          obtain ⟨z, hz0⟩ : ∃ z, bitI K i = z := ⟨_, rfl⟩
          have HKz := Lib.hid hz0
          rw [hz0]
          clear hz0
          by_cases hz : z = 0
          · have dz : (z == 0) = true := by rw [hz]; rfl
            have HU2 := Lib.hid (show stpS K M Ss i X = abH X D by unfold stpS; rw [HDz.out, if_pos (by rw [HKz.out]; exact hz)])
            clear hz
            go_wp2_with fail
            refine (Above_any T6 lX lD bX.out bD.out).mono ?_
            rintro e w7 ⟨rfl, hb7⟩
            have S7 := S6.out.on hb7
            have H7 := H6.out.on hb7
            have lY := abH_len X D
            rw [HU2.out] at HU
            obtain ⟨Y, hY⟩ : ∃ Y, abH X D = Y := ⟨_, rfl⟩
            rw [hY] at lY HU ⊢
            have th7 := H7.there lX
            have S8 := Lib.hid (S7.put hhb 0 (hc Y))
            have H8 := Lib.hid (H7.put lX lY)
            have ly := hc_len Y
            clear hY hb7 S7 H7 S6 H6 rx rd HU2 T6
            go_wp2_with fail
            go_roundw
            case rel => exact ⟨k' + 1, cntI M i, by congr 1; omega, by omega, rfl, by show _ = _; congr 1; omega, S8, by rw [HU.out]; exact H8⟩
            case measure => simp [intOf] <;> omega
          · have dz : (z == 0) = false := by simpa using hz
            have HU2 := Lib.hid (show stpS K M Ss i X = abH D X by unfold stpS; rw [HDz.out, if_neg (by rw [HKz.out]; exact hz)])
            clear hz
            go_wp2_with fail
            refine (Above_any T6 lD lX bD.out bX.out).mono ?_
            rintro e w7 ⟨rfl, hb7⟩
            have S7 := S6.out.on hb7
            have H7 := H6.out.on hb7
            have lY := abH_len D X
            rw [HU2.out] at HU
            obtain ⟨Y, hY⟩ : ∃ Y, abH D X = Y := ⟨_, rfl⟩
            rw [hY] at lY HU ⊢
            have th7 := H7.there lX
            have S8 := Lib.hid (S7.put hhb 0 (hc Y))
            have H8 := Lib.hid (H7.put lX lY)
            have ly := hc_len Y
            clear hY hb7 S7 H7 S6 H6 rx rd HU2 T6
            go_wp2_with fail
            go_roundw
            case rel => exact ⟨k' + 1, cntI M i, by congr 1; omega, by omega, rfl, by show _ = _; congr 1; omega, S8, by rw [HU.out]; exact H8⟩
            case measure => simp [intOf] <;> omega
          
        · have hcl := hside eb
          have HDz : Hid (sdI M Ss i = Ss.getD (cntI M i) []) := by show _ = _; unfold sdI; rw [if_pos eb]
          have hcc : c = cntI M i + 1 := by rw [HC1.out, eb]; rfl
          rw [HDz.out] at lD bD
          have hne : Ss ≠ [] := fun e => by rw [e] at hcl; simp at hcl
          obtain ⟨b, off, rfl, hx⟩ := HQ.resolve_left hne
          have rs := hx _ hcl
          have dbit : (bitI M i == 1) = true := by rw [eb]; rfl
          obtain ⟨D, hD⟩ : ∃ D, Ss.getD (cntI M i) [] = D := ⟨_, rfl⟩
          rw [hD] at lD bD HDz rs
          obtain ⟨y, hy⟩ : ∃ y, bitI M i = y := ⟨_, rfl⟩
          rw [hy] at dbit ⊢
          obtain ⟨u, hu⟩ : ∃ u, cntI M i = u := ⟨_, rfl⟩
          have HUU := Lib.hid hu
          rw [hu] at hcl hcc rs
          have sds := S5'.pf.sides hM
          have th5 := D5'.there zero32_len
          have lDD := hc_len D
          have S5 := Lib.hid (S5'.put (b := sb0) (by omega) 0 (hc D))
          have H5 := Lib.hid (H5'.others (k := sb0) (by omega) 0 (hc D))
          have D5 := Lib.hid (D5'.put zero32_len lD)
          have rk := S5.out.hK.row hK
          have hw : wrap64 (((u + 1 : Nat) : Int) - 1) = (u : Int) := by unfold wrap64; omega
          have hw2 : ((u : Int) + 1 - 1) = (u : Int) := by omega
          subst hcc
          clear S5' H5' D5' HC1 hcle hside eb hy hD hx hne hu
          go_wp2_with fail
          refine (pbit_any hK BK.out hi2).mono ?_
          rintro e w6 ⟨rfl, hb6⟩
          have S6 := Lib.hid (S5.out.on hb6)
          have H6 := Lib.hid (H5.out.on hb6)
          have D6 := D5.out.on hb6
          have rx := H6.out.row lX
          have rd := D6.row lD
          have T6 := HT.out.on S6.out.below HT.out.pos
          have lxx := hc_len X
          have ldd := hc_len D
          clear hb6 S5 H5 D5 D6 rk
          obtain ⟨z, hz0⟩ : ∃ z, bitI K i = z := ⟨_, rfl⟩
          have HKz := Lib.hid hz0
          rw [hz0]
          clear hz0
          by_cases hz : z = 0
          · have dz : (z == 0) = true := by rw [hz]; rfl
            have HU2 := Lib.hid (show stpS K M Ss i X = abH X D by unfold stpS; rw [HDz.out, if_pos (by rw [HKz.out]; exact hz)])
            clear hz
            go_wp2_with fail
            refine (Above_any T6 lX lD bX.out bD.out).mono ?_
            rintro e w7 ⟨rfl, hb7⟩
            have S7 := S6.out.on hb7
            have H7 := H6.out.on hb7
            have lY := abH_len X D
            rw [HU2.out] at HU
            obtain ⟨Y, hY⟩ : ∃ Y, abH X D = Y := ⟨_, rfl⟩
            rw [hY] at lY HU ⊢
            have th7 := H7.there lX
            have S8 := Lib.hid (S7.put hhb 0 (hc Y))
            have H8 := Lib.hid (H7.put lX lY)
            have ly := hc_len Y
            clear hY hb7 S7 H7 S6 H6 rx rd HU2 T6
            go_wp2_with fail
            go_roundw
            case rel => exact ⟨k' + 1, _, by congr 1; omega, by omega, rfl, by show _ = _; rw [← HUU.out]; congr 1; omega, S8, by rw [HU.out]; exact H8⟩
            case measure => simp [intOf] <;> omega
          · have dz : (z == 0) = false := by simpa using hz
            have HU2 := Lib.hid (show stpS K M Ss i X = abH D X by unfold stpS; rw [HDz.out, if_neg (by rw [HKz.out]; exact hz)])
            clear hz
            go_wp2_with fail
            refine (Above_any T6 lD lX bD.out bX.out).mono ?_
            rintro e w7 ⟨rfl, hb7⟩
            have S7 := S6.out.on hb7
            have H7 := H6.out.on hb7
            have lY := abH_len D X
            rw [HU2.out] at HU
            obtain ⟨Y, hY⟩ : ∃ Y, abH D X = Y := ⟨_, rfl⟩
            rw [hY] at lY HU ⊢
            have th7 := H7.there lX
            have S8 := Lib.hid (S7.put hhb 0 (hc Y))
            have H8 := Lib.hid (H7.put lX lY)
            have ly := hc_len Y
            clear hY hb7 S7 H7 S6 H6 rx rd HU2 T6
            go_wp2_with fail
            go_roundw
            case rel => exact ⟨k' + 1, _, by congr 1; omega, by omega, rfl, by show _ = _; rw [← HUU.out]; congr 1; omega, S8, by rw [HU.out]; exact H8⟩
            case measure => simp [intOf] <;> omega
          
      · obtain rfl : k' = 256 := by omega
        obtain ⟨X, hX⟩ : ∃ X, upS K M Ss F 256 = X := ⟨_, rfl⟩
        have HX := Lib.hid hX
        rw [hX] at hH lX
        have rx := hH.out.row lX
        have thR := hS.out.hR.there zero32_len
        have hput := (hS.out.hR.put zero32_len lX).row lX
        have BE := Lib.hid (below_setCells' (B := w.heap.size) (w.heap.size + 3) (by omega) (hc X) 0 hS.out.below)
        have lxx := hc_len X
        clear hX hS hH hcq
        go_wp2_with fail
        rw [Exit.noGoto_ret]
        refine bodyPost_ret (v := .tuple #[.agg (hc X).toArray, .int .i64 0]) (by simp [results, Tryd.results21, go_sem, hput, lX]) rfl ⟨by rw [EH.out, EE.out, HX.out], BE.out⟩
  · have hok' : okS M Ss = false := by simpa using hok
    have EH := Lib.hid (show rootH K V M Ss = zero32 by unfold rootH; rw [if_neg hok])
    have EE := Lib.hid (show rootE M Ss = 21 by unfold rootE; rw [if_neg hok])
    rw [hok']
    have thR := S2.out.hR.there zero32_len
    have hput := (S2.out.hR.put zero32_len zero32_len).row zero32_len
    have BE := Lib.hid (below_setCells' (B := w.heap.size) (w.heap.size + 3) (by omega) (hc zero32) 0 S2.out.below)
    clear hok hok' S2
    go_wp2_with fail
    rw [Exit.noGoto_ret]
    refine bodyPost_ret (v := .tuple #[.agg (hc zero32).toArray, .int .i64 21]) (by simp [results, Tryd.results21, go_sem, hput, z32]) rfl ⟨by rw [EH.out, EE.out], BE.out⟩
end Go.Proofs.YtjgfjmkfcippcaaDoor
namespace Go.Proofs.YtjgfjmkfcippcaaDoor
set_option maxRecDepth 100000
open Go.RowKit


set_option maxHeartbeats 16000000 in
theorem rRoot_any {w : World} {K V M : List Int} {q : Option Addr} {k : Nat} {Ss : List (List Int)} (hK : K.length = 32) (hV : V.length = 32) (hM : M.length = 32) (bK : Bytes K) (bV : Bytes V) (bM : Bytes M) (hs : RdHs w q Ss) (ok : HsOk Ss) (hn : Ss.length ≤ 140737488355328) :
    Calls Tryd.prog 22 #[.agg (hc K).toArray, .agg (hc V).toArray, .agg (pfRow M (.slice q Ss.length k)).toArray] w fun e w' => e = .returned (.tuple #[.agg (hc (rootH K V M Ss)).toArray, .int .i64 (rootE M Ss)]) ∧ Below w.heap.size w w' := by
  have S0 := Lib.hid (RtS.start 43 w K V M (.slice q Ss.length k))
  have BK := Lib.hid bK
  have BV := Lib.hid bV
  have BM := Lib.hid bM
  have OK := Lib.hid ok
  have HS : Hid (∀ W, Below w.heap.size w W → RdHs W q Ss) := fun W hb => hs.on (fun i hi => (ok.get i hi).1) hb
  have hlK := hc_len K
  have hlV := hc_len V
  have hlM := hc_len M
  have hlp := pfRow_len hM (.slice q Ss.length k)
  have z32 := zero32_len
  have r0 := S0.out.pf.whole hM
  clear bK bV bM hs ok
  go_enter Tryd.func22, Tryd.ntmps22
  go_wp2_with fail
  clear r0
  generalize (((w.alloc (.cells (hc K).toArray 23)).alloc (.cells (hc V).toArray 23)).alloc (.cells (pfRow M (.slice q Ss.length k)).toArray 43)).alloc (.cells (hc zero32).toArray 23) = w1 at *
  refine (refRight_any hM BM.out (HS.out _ S0.out.below) OK.out hn).mono ?_
  rintro e w2 ⟨rfl, hb2⟩
  have S2 := Lib.hid (S0.out.on hb2)
  clear hb2 S0
  by_cases hok : okS M Ss = true
  · have EH := Lib.hid (show rootH K V M Ss = upS K M Ss (lfH K V) 256 by unfold rootH; rw [if_pos hok])
    have EE := Lib.hid (show rootE M Ss = 0 by unfold rootE; rw [if_pos hok])
    have HC := Lib.hid (of_decide_eq_true hok).1
    rw [hok]
    clear hok
    have rK := S2.out.hK.row hK
    have rV := S2.out.hV.row hV
    go_wp2_with fail
    refine (refLeaf_any hK hV BK.out BV.out).mono ?_
    rintro e w3 ⟨rfl, hb3⟩
    have S3 := S2.out.on hb3
    have lL := lfH_len K V
    have bL := Lib.hid (lfH_bytes K V)
    obtain ⟨F, hF⟩ : ∃ F, lfH K V = F := ⟨_, rfl⟩
    rw [hF] at lL bL EH ⊢
    have H3 := HashAt.new w3 zero32
    have th3 := H3.there zero32_len
    have lr3 := S3.hR.lt
    have S4 := Lib.hid ((S3.on ((Below.refl _ _).alloc (Nat.le_refl _) (.cells (hc zero32).toArray 23))).put (b := w3.heap.size) (by omega) 0 (hc F))
    have H4 := Lib.hid (H3.put zero32_len lL)
    have hhb : w.heap.size + 3 < w3.heap.size := by omega
    have sd4 := S4.out.pf.sides hM
    have lF := hc_len F
    clear hF hb3 S3 H3 S2 rK rV lr3
    go_wp2_with fail
    clear th3 sd4
    obtain ⟨hb, hhe⟩ : ∃ hb, hb = w3.heap.size := ⟨_, rfl⟩
    rw [← hhe] at S4 H4 hhb ⊢
    generalize (w3.alloc (.cells (hc zero32).toArray 23)).setCells hb 0 (hc F) = w4 at *
    clear hhe
    go_loopw [9, 10] (fun nv iv wr => ∃ k' c : Nat, iv = .int .i64 (255 - (k' : Int)) ∧ k' ≤ 256 ∧ nv = .int .i64 (c : Int) ∧ Hid (c = cntI M (256 - k')) ∧ Hid (RtS 43 w wr K V M (.slice q Ss.length k)) ∧ Hid (HashAt wr hb (upS K M Ss F k'))) (fun _ iv _ => (intOf iv + 1).toNat)
    case atStart => exact ⟨0, Ss.length, rfl, by omega, rfl, by show _ = _; rw [HC.out], S4, H4⟩
    case round =>
      clear S4 H4
      obtain ⟨k', c, rfl, hk', rfl, hcq, hS, hH⟩ := hrel
      have lX := upS_len K M Ss lL k'
      by_cases hlt : k' < 256
      · obtain ⟨i, hi⟩ : ∃ i : Nat, 255 - (k' : Int) = i := ⟨255 - k', by omega⟩
        have hi2 : i < 256 := by omega
        have HI := Lib.hid (show 255 - k' = i by omega)
        have hc1 : c = cntI M i + (bitI M i).toNat := by
          rw [hcq.out, show 256 - k' = i + 1 by omega]; rfl
        have hcle : cntI M (i + 1) ≤ Ss.length := by rw [← HC.out]; exact cntI_mono M (by omega)
        have hside : bitI M i = 1 → cntI M i < Ss.length := fun e => by
          have : cntI M (i + 1) = cntI M i + (bitI M i).toNat := rfl
          rw [e] at this; simp at this; omega
        obtain ⟨lD, bD0⟩ := sdI_len OK.out hside
        have bD := Lib.hid bD0
        rw [hi]
        have bX := Lib.hid (upS_bytes K M Ss bL.out k')
        have HU := Lib.hid (show upS K M Ss F (k' + 1) = stpS K M Ss i (upS K M Ss F k') by rw [upS, HI.out])
        obtain ⟨X, hX⟩ : ∃ X, upS K M Ss F k' = X := ⟨_, rfl⟩
        rw [hX] at lX bX hH HU
        have A1 := HashAt.new wr zero32
        have SD : Hid (sdI M Ss i = sdI M Ss i) := rfl
        have HC1 := Lib.hid hc1
        clear hX bD0 hcq hc1
        have thA := A1.there zero32_len
        have S1 := Lib.hid ((hS.out.on ((Below.refl _ _).alloc (Nat.le_refl _) (.cells (hc zero32).toArray 23))).put (b := wr.heap.size) (by have := hH.out.lt; omega) 0 (hc zero32))
        have H1 := Lib.hid ((hH.out.alloc (.cells (hc zero32).toArray 23)).others (k := wr.heap.size) (by have := hH.out.lt; omega) 0 (hc zero32))
        have lth := hH.out.lt
        have rmk := S1.out.pf.mask hM
        have D1 := Lib.hid (A1.put zero32_len zero32_len)
        clear A1
        go_wp2_with fail
        clear thA
        obtain ⟨sb0, hsb0⟩ : ∃ sb0, sb0 = wr.heap.size := ⟨_, rfl⟩
        have hsb : w.heap.size + 3 < sb0 := by omega
        rw [← hsb0] at S1 H1 D1 lth rmk ⊢
        generalize (wr.alloc (.cells (hc zero32).toArray 23)).setCells sb0 0 (hc zero32) = w1' at *
        clear hsb0
        clear rmk
        refine (rbit_any hM BM.out hi2).mono ?_
        rintro e w5 ⟨rfl, hb5⟩
        have S5' := S1.out.on hb5
        have H5' := H1.out.on hb5
        have D5' := D1.out.on hb5
        have HQ := HS.out _ S5'.below
        have sb := hsb
        clear hb5 S1 H1 D1 hS hH
        rcases bitI_two (M := M) i with eb | eb
        · have HDz : Hid (sdI M Ss i = zero32) := by show _ = _; unfold sdI; rw [if_neg (by rw [eb]; decide)]
          have hcc : c = cntI M i := by rw [HC1.out, eb]; simp
          rw [HDz.out] at lD bD
          obtain ⟨D, hD⟩ : ∃ D, zero32 = D := ⟨_, rfl⟩
          have dbit : (bitI M i == 1) = false := by rw [eb]; rfl
          obtain ⟨y, hy⟩ : ∃ y, bitI M i = y := ⟨_, rfl⟩
          rw [hy] at dbit ⊢
          have S5 := Lib.hid S5'
          have H5 := Lib.hid H5'
          rw [hD] at D5' HDz lD bD
          have D5 := Lib.hid D5'
          have rk := S5.out.hK.row hK
          subst hcc
          clear S5' H5' D5' HQ HC1 hcle hside eb hy hD
          go_wp2_with fail
          refine (rbit_any hK BK.out hi2).mono ?_
          rintro e w6 ⟨rfl, hb6⟩
          have S6 := Lib.hid (S5.out.on hb6)
          have H6 := Lib.hid (H5.out.on hb6)
          have D6 := D5.out.on hb6
          have rx := H6.out.row lX
          have rd := D6.row lD
          have T6 := Lib.hid trivial
          have lxx := hc_len X
          have ldd := hc_len D
          clear hb6 S5 H5 D5 D6 rk
          obtain ⟨z, hz0⟩ : ∃ z, bitI K i = z := ⟨_, rfl⟩
          have HKz := Lib.hid hz0
          rw [hz0]
          clear hz0
          by_cases hz : z = 0
          · have dz : (z == 0) = true := by rw [hz]; rfl
            have HU2 := Lib.hid (show stpS K M Ss i X = abH X D by unfold stpS; rw [HDz.out, if_pos (by rw [HKz.out]; exact hz)])
            clear hz
            go_wp2_with fail
            refine (refAbove_any lX lD bX.out bD.out).mono ?_
            rintro e w7 ⟨rfl, hb7⟩
            have S7 := S6.out.on hb7
            have H7 := H6.out.on hb7
            have lY := abH_len X D
            rw [HU2.out] at HU
            obtain ⟨Y, hY⟩ : ∃ Y, abH X D = Y := ⟨_, rfl⟩
            rw [hY] at lY HU ⊢
            have th7 := H7.there lX
            have S8 := Lib.hid (S7.put hhb 0 (hc Y))
            have H8 := Lib.hid (H7.put lX lY)
            have ly := hc_len Y
            clear hY hb7 S7 H7 S6 H6 rx rd HU2 T6
            go_wp2_with fail
            go_roundw
            case rel => exact ⟨k' + 1, cntI M i, by congr 1; omega, by omega, rfl, by show _ = _; congr 1; omega, S8, by rw [HU.out]; exact H8⟩
            case measure => simp [intOf] <;> omega
          · have dz : (z == 0) = false := by simpa using hz
            have HU2 := Lib.hid (show stpS K M Ss i X = abH D X by unfold stpS; rw [HDz.out, if_neg (by rw [HKz.out]; exact hz)])
            clear hz
            go_wp2_with fail
            refine (refAbove_any lD lX bD.out bX.out).mono ?_
            rintro e w7 ⟨rfl, hb7⟩
            have S7 := S6.out.on hb7
            have H7 := H6.out.on hb7
            have lY := abH_len D X
            rw [HU2.out] at HU
            obtain ⟨Y, hY⟩ : ∃ Y, abH D X = Y := ⟨_, rfl⟩
            rw [hY] at lY HU ⊢
            have th7 := H7.there lX
            have S8 := Lib.hid (S7.put hhb 0 (hc Y))
            have H8 := Lib.hid (H7.put lX lY)
            have ly := hc_len Y
            clear hY hb7 S7 H7 S6 H6 rx rd HU2 T6
            go_wp2_with fail
            go_roundw
            case rel => exact ⟨k' + 1, cntI M i, by congr 1; omega, by omega, rfl, by show _ = _; congr 1; omega, S8, by rw [HU.out]; exact H8⟩
            case measure => simp [intOf] <;> omega
          
        · have hcl := hside eb
          have HDz : Hid (sdI M Ss i = Ss.getD (cntI M i) []) := by show _ = _; unfold sdI; rw [if_pos eb]
          have hcc : c = cntI M i + 1 := by rw [HC1.out, eb]; rfl
          rw [HDz.out] at lD bD
          have hne : Ss ≠ [] := fun e => by rw [e] at hcl; simp at hcl
          obtain ⟨b, off, rfl, hx⟩ := HQ.resolve_left hne
          have rs := hx _ hcl
          have dbit : (bitI M i == 1) = true := by rw [eb]; rfl
          obtain ⟨D, hD⟩ : ∃ D, Ss.getD (cntI M i) [] = D := ⟨_, rfl⟩
          rw [hD] at lD bD HDz rs
          obtain ⟨y, hy⟩ : ∃ y, bitI M i = y := ⟨_, rfl⟩
          rw [hy] at dbit ⊢
          obtain ⟨u, hu⟩ : ∃ u, cntI M i = u := ⟨_, rfl⟩
          have HUU := Lib.hid hu
          rw [hu] at hcl hcc rs
          have sds := S5'.pf.sides hM
          have th5 := D5'.there zero32_len
          have lDD := hc_len D
          have S5 := Lib.hid (S5'.put (b := sb0) (by omega) 0 (hc D))
          have H5 := Lib.hid (H5'.others (k := sb0) (by omega) 0 (hc D))
          have D5 := Lib.hid (D5'.put zero32_len lD)
          have rk := S5.out.hK.row hK
          have hw : wrap64 (((u + 1 : Nat) : Int) - 1) = (u : Int) := by unfold wrap64; omega
          have hw2 : ((u : Int) + 1 - 1) = (u : Int) := by omega
          subst hcc
          clear S5' H5' D5' HC1 hcle hside eb hy hD hx hne hu
          go_wp2_with fail
          refine (rbit_any hK BK.out hi2).mono ?_
          rintro e w6 ⟨rfl, hb6⟩
          have S6 := Lib.hid (S5.out.on hb6)
          have H6 := Lib.hid (H5.out.on hb6)
          have D6 := D5.out.on hb6
          have rx := H6.out.row lX
          have rd := D6.row lD
          have T6 := Lib.hid trivial
          have lxx := hc_len X
          have ldd := hc_len D
          clear hb6 S5 H5 D5 D6 rk
          obtain ⟨z, hz0⟩ : ∃ z, bitI K i = z := ⟨_, rfl⟩
          have HKz := Lib.hid hz0
          rw [hz0]
          clear hz0
          by_cases hz : z = 0
          · have dz : (z == 0) = true := by rw [hz]; rfl
            have HU2 := Lib.hid (show stpS K M Ss i X = abH X D by unfold stpS; rw [HDz.out, if_pos (by rw [HKz.out]; exact hz)])
            clear hz
            go_wp2_with fail
            refine (refAbove_any lX lD bX.out bD.out).mono ?_
            rintro e w7 ⟨rfl, hb7⟩
            have S7 := S6.out.on hb7
            have H7 := H6.out.on hb7
            have lY := abH_len X D
            rw [HU2.out] at HU
            obtain ⟨Y, hY⟩ : ∃ Y, abH X D = Y := ⟨_, rfl⟩
            rw [hY] at lY HU ⊢
            have th7 := H7.there lX
            have S8 := Lib.hid (S7.put hhb 0 (hc Y))
            have H8 := Lib.hid (H7.put lX lY)
            have ly := hc_len Y
            clear hY hb7 S7 H7 S6 H6 rx rd HU2 T6
            go_wp2_with fail
            go_roundw
            case rel => exact ⟨k' + 1, _, by congr 1; omega, by omega, rfl, by show _ = _; rw [← HUU.out]; congr 1; omega, S8, by rw [HU.out]; exact H8⟩
            case measure => simp [intOf] <;> omega
          · have dz : (z == 0) = false := by simpa using hz
            have HU2 := Lib.hid (show stpS K M Ss i X = abH D X by unfold stpS; rw [HDz.out, if_neg (by rw [HKz.out]; exact hz)])
            clear hz
            go_wp2_with fail
            refine (refAbove_any lD lX bD.out bX.out).mono ?_
            rintro e w7 ⟨rfl, hb7⟩
            have S7 := S6.out.on hb7
            have H7 := H6.out.on hb7
            have lY := abH_len D X
            rw [HU2.out] at HU
            obtain ⟨Y, hY⟩ : ∃ Y, abH D X = Y := ⟨_, rfl⟩
            rw [hY] at lY HU ⊢
            have th7 := H7.there lX
            have S8 := Lib.hid (S7.put hhb 0 (hc Y))
            have H8 := Lib.hid (H7.put lX lY)
            have ly := hc_len Y
            clear hY hb7 S7 H7 S6 H6 rx rd HU2 T6
            go_wp2_with fail
            go_roundw
            case rel => exact ⟨k' + 1, _, by congr 1; omega, by omega, rfl, by show _ = _; rw [← HUU.out]; congr 1; omega, S8, by rw [HU.out]; exact H8⟩
            case measure => simp [intOf] <;> omega
          
      · obtain rfl : k' = 256 := by omega
        obtain ⟨X, hX⟩ : ∃ X, upS K M Ss F 256 = X := ⟨_, rfl⟩
        have HX := Lib.hid hX
        rw [hX] at hH lX
        have rx := hH.out.row lX
        have thR := hS.out.hR.there zero32_len
        have hput := (hS.out.hR.put zero32_len lX).row lX
        have BE := Lib.hid (below_setCells' (B := w.heap.size) (w.heap.size + 3) (by omega) (hc X) 0 hS.out.below)
        have lxx := hc_len X
        clear hX hS hH hcq
        go_wp2_with fail
        refine bodyPost_ret (v := .tuple #[.agg (hc X).toArray, .int .i64 0]) (by simp [results, Tryd.results22, go_sem, hput, lX]) rfl ⟨by rw [EH.out, EE.out, HX.out], BE.out⟩
  · have hok' : okS M Ss = false := by simpa using hok
    have EH := Lib.hid (show rootH K V M Ss = zero32 by unfold rootH; rw [if_neg hok])
    have EE := Lib.hid (show rootE M Ss = 21 by unfold rootE; rw [if_neg hok])
    rw [hok']
    have thR := S2.out.hR.there zero32_len
    have hput := (S2.out.hR.put zero32_len zero32_len).row zero32_len
    have BE := Lib.hid (below_setCells' (B := w.heap.size) (w.heap.size + 3) (by omega) (hc zero32) 0 S2.out.below)
    clear hok hok' S2
    go_wp2_with fail
    refine bodyPost_ret (v := .tuple #[.agg (hc zero32).toArray, .int .i64 21]) (by simp [results, Tryd.results22, go_sem, hput, z32]) rfl ⟨by rw [EH.out, EE.out], BE.out⟩
end Go.Proofs.YtjgfjmkfcippcaaDoor
namespace Go.Proofs.YtjgfjmkfcippcaaDoor
set_option maxRecDepth 100000
open Go.RowKit

def ckS (G K V M : List Int) (Ss : List (List Int)) : Bool := okS M Ss && (rootH K V M Ss == G)
def updH (G K V N M : List Int) (Ss : List (List Int)) : List Int := if okS M Ss = true then (if ckS G K V M Ss = true then rootH K N M Ss else zero32) else zero32
def updE (G K V M : List Int) (Ss : List (List Int)) : Int := if okS M Ss = true then (if ckS G K V M Ss = true then 0 else 22) else 21
theorem updH_len (G K V N M : List Int) (Ss : List (List Int)) : (updH G K V N M Ss).length = 32 := by
  unfold updH
  split
  · split
    · exact rootH_len _ _ _ _
    · exact zero32_len
  · exact zero32_len
theorem updH_bytes (G K V N M : List Int) (Ss : List (List Int)) : Bytes (updH G K V N M Ss) := by
  unfold updH
  split
  · split
    · exact rootH_bytes _ _ _ _
    · exact zero32_bytes
  · exact zero32_bytes
/-- Boxed: three hashes and a proof. -/
structure CkB (t : TypeId) (w wr : World) (G K V M : List Int) (v : Value) : Prop where
  below : Below w.heap.size w wr
  hG : HashAt wr w.heap.size G
  hK : HashAt wr (w.heap.size + 1) K
  hV : HashAt wr (w.heap.size + 2) V
  pf : PfB t wr (w.heap.size + 3) M v
theorem CkB.on {t : TypeId} {w W W' : World} {G K V M : List Int} {v : Value} (h : CkB t w W G K V M v) (hb : Below W.heap.size W W') : CkB t w W' G K V M v := ⟨h.below.trans (hb.mono h.below.size), h.hG.on hb, h.hK.on hb, h.hV.on hb, h.pf.on hb⟩
theorem CkB.start (t : TypeId) (w : World) (G K V M : List Int) (v : Value) : CkB t w ((((w.alloc (.cells (hc G).toArray 23)).alloc (.cells (hc K).toArray 23)).alloc (.cells (hc V).toArray 23)).alloc (.cells (pfRow M v).toArray t)) G K V M v := by
  have h1 := HashAt.new (w.alloc (.cells (hc G).toArray 23)) K
  have h2 := HashAt.new ((w.alloc (.cells (hc G).toArray 23)).alloc (.cells (hc K).toArray 23)) V
  have h3 := PfB.new (t := t) (((w.alloc (.cells (hc G).toArray 23)).alloc (.cells (hc K).toArray 23)).alloc (.cells (hc V).toArray 23)) M v
  simp only [World.size_alloc] at h1 h2 h3
  exact ⟨((((Below.refl w.heap.size w).alloc (Nat.le_refl _) _).alloc (by simp) _).alloc (by simp; omega) _).alloc (by simp; omega) _, (((HashAt.new w G).alloc _).alloc _).alloc _, (h1.alloc _).alloc _, h2.alloc _, h3⟩
/-- Boxed: four hashes and a proof; the answer. -/
structure UpB (t : TypeId) (w wr : World) (G K V N M : List Int) (v : Value) : Prop where
  below : Below w.heap.size w wr
  hG : HashAt wr w.heap.size G
  hK : HashAt wr (w.heap.size + 1) K
  hV : HashAt wr (w.heap.size + 2) V
  hN : HashAt wr (w.heap.size + 3) N
  pf : PfB t wr (w.heap.size + 4) M v
  hR : HashAt wr (w.heap.size + 5) zero32
theorem UpB.on {t : TypeId} {w W W' : World} {G K V N M : List Int} {v : Value} (h : UpB t w W G K V N M v) (hb : Below W.heap.size W W') : UpB t w W' G K V N M v := ⟨h.below.trans (hb.mono h.below.size), h.hG.on hb, h.hK.on hb, h.hV.on hb, h.hN.on hb, h.pf.on hb, h.hR.on hb⟩
theorem UpB.start (t : TypeId) (w : World) (G K V N M : List Int) (v : Value) : UpB t w ((((((w.alloc (.cells (hc G).toArray 23)).alloc (.cells (hc K).toArray 23)).alloc (.cells (hc V).toArray 23)).alloc (.cells (hc N).toArray 23)).alloc (.cells (pfRow M v).toArray t)).alloc (.cells (hc zero32).toArray 23)) G K V N M v := by
  have h1 := HashAt.new (w.alloc (.cells (hc G).toArray 23)) K
  have h2 := HashAt.new ((w.alloc (.cells (hc G).toArray 23)).alloc (.cells (hc K).toArray 23)) V
  have h3 := HashAt.new (((w.alloc (.cells (hc G).toArray 23)).alloc (.cells (hc K).toArray 23)).alloc (.cells (hc V).toArray 23)) N
  have h4 := PfB.new (t := t) ((((w.alloc (.cells (hc G).toArray 23)).alloc (.cells (hc K).toArray 23)).alloc (.cells (hc V).toArray 23)).alloc (.cells (hc N).toArray 23)) M v
  have h5 := HashAt.new (((((w.alloc (.cells (hc G).toArray 23)).alloc (.cells (hc K).toArray 23)).alloc (.cells (hc V).toArray 23)).alloc (.cells (hc N).toArray 23)).alloc (.cells (pfRow M v).toArray t)) zero32
  simp only [World.size_alloc] at h1 h2 h3 h4 h5
  exact ⟨((((((Below.refl w.heap.size w).alloc (Nat.le_refl _) _).alloc (by simp) _).alloc (by simp; omega) _).alloc (by simp; omega) _).alloc (by simp; omega) _).alloc (by simp; omega) _, (((((HashAt.new w G).alloc _).alloc _).alloc _).alloc _).alloc _, (((h1.alloc _).alloc _).alloc _).alloc _, ((h2.alloc _).alloc _).alloc _, (h3.alloc _).alloc _, h4.alloc _, h5⟩

set_option maxHeartbeats 8000000 in
theorem pCheck_any {w : World} {G K V M : List Int} {q : Option Addr} {k : Nat} {Ss : List (List Int)} (hT : Tbl w) (hG : G.length = 32) (hK : K.length = 32) (hV : V.length = 32) (hM : M.length = 32) (bK : Bytes K) (bV : Bytes V) (bM : Bytes M) (hs : RdHs w q Ss) (ok : HsOk Ss) (hn : Ss.length ≤ 140737488355328) :
    Calls Tryd.prog 28 #[.agg (hc G).toArray, .agg (hc K).toArray, .agg (hc V).toArray, .agg (pfRow M (.slice q Ss.length k)).toArray] w fun e w' => e = .returned (.bool (ckS G K V M Ss)) ∧ Below w.heap.size w w' := by
  have S0 := Lib.hid (CkB.start 30 w G K V M (.slice q Ss.length k))
  have KR := Lib.hid (pRoot_any (k := k) (hT.on S0.out.below hT.pos) hK hV hM bK bV bM (hs.on (fun i hi => (ok.get i hi).1) S0.out.below) ok hn)
  have hlG := hc_len G
  have hlK := hc_len K
  have hlV := hc_len V
  have hlp := pfRow_len hM (.slice q Ss.length k)
  have r1 := S0.out.hK.row hK
  have r2 := S0.out.hV.row hV
  have r3 := S0.out.pf.whole hM
  clear bK bV bM hs ok hn hT
  go_enter Tryd.func28, Tryd.ntmps28
  go_wp2_with fail
  clear r1 r2 r3
  generalize (((w.alloc (.cells (hc G).toArray 23)).alloc (.cells (hc K).toArray 23)).alloc (.cells (hc V).toArray 23)).alloc (.cells (pfRow M (.slice q Ss.length k)).toArray 30) = w1 at *
  refine KR.out.mono ?_
  rintro e w2 ⟨rfl, hb2⟩
  have S2 := S0.out.on hb2
  have lX := rootH_len K V M Ss
  have HE : Hid (ckS G K V M Ss = (okS M Ss && (rootH K V M Ss == G))) := rfl
  obtain ⟨X, hX⟩ : ∃ X, rootH K V M Ss = X := ⟨_, rfl⟩
  rw [hX] at lX HE ⊢
  have H2 := HashAt.new w2 zero32
  have th := H2.there zero32_len
  have B3 : Below w2.heap.size w2 ((w2.alloc (.cells (hc zero32).toArray 23)).setCells w2.heap.size 0 (hc X)) := below_setCells' _ (Nat.le_refl _) _ _ ((Below.refl _ _).alloc (Nat.le_refl _) _)
  have S3 := S2.on B3
  have rg := S3.hG.row hG
  have rx := (H2.put zero32_len lX).row lX
  have BE := Lib.hid S3.below
  have lxx := hc_len X
  obtain ⟨b, hb⟩ : ∃ b, (X == G) = b := ⟨_, rfl⟩
  rw [hb] at HE
  by_cases hok : okS M Ss = true
  · have e0 : rootE M Ss = 0 := by unfold rootE; rw [if_pos hok]
    rw [e0]
    rw [hok, Bool.true_and] at HE
    clear hX hb2 S2 H2 B3 S3 S0 KR hok e0
    go_wp2_with fail
    go_ret
    exact ⟨by rw [HE.out]; rfl, BE.out⟩
  · have e0 : rootE M Ss = 21 := by unfold rootE; rw [if_neg hok]
    rw [e0]
    rw [show okS M Ss = false by simpa using hok, Bool.false_and] at HE
    clear hX hb2 S2 H2 B3 S3 S0 KR hok e0 hb
    go_wp2_with fail
    go_ret
    exact ⟨by rw [HE.out]; rfl, BE.out⟩

set_option maxHeartbeats 8000000 in
theorem rCheck_any {w : World} {G K V M : List Int} {q : Option Addr} {k : Nat} {Ss : List (List Int)} (hG : G.length = 32) (hK : K.length = 32) (hV : V.length = 32) (hM : M.length = 32) (bK : Bytes K) (bV : Bytes V) (bM : Bytes M) (hs : RdHs w q Ss) (ok : HsOk Ss) (hn : Ss.length ≤ 140737488355328) :
    Calls Tryd.prog 29 #[.agg (hc G).toArray, .agg (hc K).toArray, .agg (hc V).toArray, .agg (pfRow M (.slice q Ss.length k)).toArray] w fun e w' => e = .returned (.bool (ckS G K V M Ss)) ∧ Below w.heap.size w w' := by
  have S0 := Lib.hid (CkB.start 43 w G K V M (.slice q Ss.length k))
  have KR := Lib.hid (rRoot_any (k := k) hK hV hM bK bV bM (hs.on (fun i hi => (ok.get i hi).1) S0.out.below) ok hn)
  have hlG := hc_len G
  have hlK := hc_len K
  have hlV := hc_len V
  have hlp := pfRow_len hM (.slice q Ss.length k)
  have r1 := S0.out.hK.row hK
  have r2 := S0.out.hV.row hV
  have r3 := S0.out.pf.whole hM
  clear bK bV bM hs ok hn
  go_enter Tryd.func29, Tryd.ntmps29
  go_wp2_with fail
  clear r1 r2 r3
  generalize (((w.alloc (.cells (hc G).toArray 23)).alloc (.cells (hc K).toArray 23)).alloc (.cells (hc V).toArray 23)).alloc (.cells (pfRow M (.slice q Ss.length k)).toArray 43) = w1 at *
  refine KR.out.mono ?_
  rintro e w2 ⟨rfl, hb2⟩
  have S2 := S0.out.on hb2
  have lX := rootH_len K V M Ss
  have HE : Hid (ckS G K V M Ss = (okS M Ss && (rootH K V M Ss == G))) := rfl
  obtain ⟨X, hX⟩ : ∃ X, rootH K V M Ss = X := ⟨_, rfl⟩
  rw [hX] at lX HE ⊢
  have H2 := HashAt.new w2 zero32
  have th := H2.there zero32_len
  have B3 : Below w2.heap.size w2 ((w2.alloc (.cells (hc zero32).toArray 23)).setCells w2.heap.size 0 (hc X)) := below_setCells' _ (Nat.le_refl _) _ _ ((Below.refl _ _).alloc (Nat.le_refl _) _)
  have S3 := S2.on B3
  have rg := S3.hG.row hG
  have rx := (H2.put zero32_len lX).row lX
  have BE := Lib.hid S3.below
  have lxx := hc_len X
  obtain ⟨b, hb⟩ : ∃ b, (X == G) = b := ⟨_, rfl⟩
  rw [hb] at HE
  by_cases hok : okS M Ss = true
  · have e0 : rootE M Ss = 0 := by unfold rootE; rw [if_pos hok]
    rw [e0]
    rw [hok, Bool.true_and] at HE
    clear hX hb2 S2 H2 B3 S3 S0 KR hok e0
    go_wp2_with fail
    go_ret
    exact ⟨by rw [HE.out]; rfl, BE.out⟩
  · have e0 : rootE M Ss = 21 := by unfold rootE; rw [if_neg hok]
    rw [e0]
    rw [show okS M Ss = false by simpa using hok, Bool.false_and] at HE
    clear hX hb2 S2 H2 B3 S3 S0 KR hok e0 hb
    go_wp2_with fail
    go_ret
    exact ⟨by rw [HE.out]; rfl, BE.out⟩

set_option maxHeartbeats 8000000 in
theorem pUpdate_any {w : World} {G K V N M : List Int} {q : Option Addr} {k : Nat} {Ss : List (List Int)} (hT : Tbl w) (hG : G.length = 32) (hK : K.length = 32) (hV : V.length = 32) (hN : N.length = 32) (hM : M.length = 32) (bK : Bytes K) (bV : Bytes V) (bN : Bytes N) (bM : Bytes M) (hs : RdHs w q Ss) (ok : HsOk Ss) (hn : Ss.length ≤ 140737488355328) :
    Calls Tryd.prog 23 #[.agg (hc G).toArray, .agg (hc K).toArray, .agg (hc V).toArray, .agg (hc N).toArray, .agg (pfRow M (.slice q Ss.length k)).toArray] w fun e w' => e = .returned (.tuple #[.agg (hc (updH G K V N M Ss)).toArray, .int .i64 (updE G K V M Ss)]) ∧ Below w.heap.size w w' := by
  have S0 := Lib.hid (UpB.start 30 w G K V N M (.slice q Ss.length k))
  have HS : Hid (∀ W, Below w.heap.size w W → RdHs W q Ss) := fun W hb => hs.on (fun i hi => (ok.get i hi).1) hb
  have OK := Lib.hid ok
  have BK := Lib.hid bK
  have BV := Lib.hid bV
  have BN := Lib.hid bN
  have BM := Lib.hid bM
  have HNN := Lib.hid hn
  have HT := Lib.hid hT
  have hlG := hc_len G
  have hlK := hc_len K
  have hlV := hc_len V
  have hlN := hc_len N
  have hlp := pfRow_len hM (.slice q Ss.length k)
  have z32 := zero32_len
  have r3 := S0.out.pf.whole hM
  clear bK bV bM bN hs ok hn hT
  go_enter Tryd.func23, Tryd.ntmps23
  go_wp2_with fail
  clear r3
  generalize (((((w.alloc (.cells (hc G).toArray 23)).alloc (.cells (hc K).toArray 23)).alloc (.cells (hc V).toArray 23)).alloc (.cells (hc N).toArray 23)).alloc (.cells (pfRow M (.slice q Ss.length k)).toArray 30)).alloc (.cells (hc zero32).toArray 23) = w1 at *
  refine (Right_any hM BM.out (HS.out _ S0.out.below) OK.out HNN.out).mono ?_
  rintro e w2 ⟨rfl, hb2⟩
  have S2 := Lib.hid (S0.out.on hb2)
  clear hb2 S0
  by_cases hok : okS M Ss = true
  · rw [hok]
    have r0 := S2.out.hG.row hG
    have r1 := S2.out.hK.row hK
    have r2 := S2.out.hV.row hV
    have r3 := S2.out.pf.whole hM
    have HO := Lib.hid hok
    clear hok
    go_wp2_with fail
    refine (pCheck_any (HT.out.on S2.out.below HT.out.pos) hG hK hV hM BK.out BV.out BM.out (HS.out _ S2.out.below) OK.out HNN.out).mono ?_
    rintro e w3 ⟨rfl, hb3⟩
    have S3 := Lib.hid (S2.out.on hb3)
    clear hb3 S2 r0 r1 r2 r3
    by_cases hck : ckS G K V M Ss = true
    · rw [hck]
      have EH := Lib.hid (show updH G K V N M Ss = rootH K N M Ss by unfold updH; rw [if_pos HO.out, if_pos hck])
      have EE := Lib.hid (show updE G K V M Ss = 0 by unfold updE; rw [if_pos HO.out, if_pos hck])
      have r1 := S3.out.hK.row hK
      have r2 := S3.out.hN.row hN
      have r3 := S3.out.pf.whole hM
      clear hck
      go_wp2_with fail
      refine (pRoot_any (HT.out.on S3.out.below HT.out.pos) hK hN hM BK.out BN.out BM.out (HS.out _ S3.out.below) OK.out HNN.out).mono ?_
      rintro e w4 ⟨rfl, hb4⟩
      have S4 := S3.out.on hb4
      have lX := rootH_len K N M Ss
      have e0 : rootE M Ss = 0 := by unfold rootE; rw [if_pos HO.out]
      rw [e0]
      obtain ⟨X, hX⟩ : ∃ X, rootH K N M Ss = X := ⟨_, rfl⟩
      rw [hX] at lX EH ⊢
      have th := S4.hR.there zero32_len
      have hput := (S4.hR.put zero32_len lX).row lX
      have BE := Lib.hid (below_setCells' (B := w.heap.size) (w.heap.size + 5) (by omega) (hc X) 0 S4.below)
      have lxx := hc_len X
      clear hX hb4 S4 S3 r1 r2 r3 e0
      go_wp2_with fail
      refine bodyPost_ret (v := .tuple #[.agg (hc X).toArray, .int .i64 0]) (by simp [results, Tryd.results23, go_sem, hput, lX]) rfl ⟨by rw [EH.out, EE.out], BE.out⟩
    · have EH := Lib.hid (show updH G K V N M Ss = zero32 by unfold updH; rw [if_pos HO.out, if_neg hck])
      have EE := Lib.hid (show updE G K V M Ss = 22 by unfold updE; rw [if_pos HO.out, if_neg hck])
      rw [show ckS G K V M Ss = false by simpa using hck]
      have th := S3.out.hR.there zero32_len
      have hput := (S3.out.hR.put zero32_len zero32_len).row zero32_len
      have BE := Lib.hid (below_setCells' (B := w.heap.size) (w.heap.size + 5) (by omega) (hc zero32) 0 S3.out.below)
      clear hck S3
      go_wp2_with fail
      refine bodyPost_ret (v := .tuple #[.agg (hc zero32).toArray, .int .i64 22]) (by simp [results, Tryd.results23, go_sem, hput, z32]) rfl ⟨by rw [EH.out, EE.out], BE.out⟩
  · have EH := Lib.hid (show updH G K V N M Ss = zero32 by unfold updH; rw [if_neg hok])
    have EE := Lib.hid (show updE G K V M Ss = 21 by unfold updE; rw [if_neg hok])
    rw [show okS M Ss = false by simpa using hok]
    have th := S2.out.hR.there zero32_len
    have hput := (S2.out.hR.put zero32_len zero32_len).row zero32_len
    have BE := Lib.hid (below_setCells' (B := w.heap.size) (w.heap.size + 5) (by omega) (hc zero32) 0 S2.out.below)
    clear hok S2
    go_wp2_with fail
    refine bodyPost_ret (v := .tuple #[.agg (hc zero32).toArray, .int .i64 21]) (by simp [results, Tryd.results23, go_sem, hput, z32]) rfl ⟨by rw [EH.out, EE.out], BE.out⟩

set_option maxHeartbeats 8000000 in
theorem rUpdate_any {w : World} {G K V N M : List Int} {q : Option Addr} {k : Nat} {Ss : List (List Int)} (hG : G.length = 32) (hK : K.length = 32) (hV : V.length = 32) (hN : N.length = 32) (hM : M.length = 32) (bK : Bytes K) (bV : Bytes V) (bN : Bytes N) (bM : Bytes M) (hs : RdHs w q Ss) (ok : HsOk Ss) (hn : Ss.length ≤ 140737488355328) :
    Calls Tryd.prog 24 #[.agg (hc G).toArray, .agg (hc K).toArray, .agg (hc V).toArray, .agg (hc N).toArray, .agg (pfRow M (.slice q Ss.length k)).toArray] w fun e w' => e = .returned (.tuple #[.agg (hc (updH G K V N M Ss)).toArray, .int .i64 (updE G K V M Ss)]) ∧ Below w.heap.size w w' := by
  have S0 := Lib.hid (UpB.start 43 w G K V N M (.slice q Ss.length k))
  have HS : Hid (∀ W, Below w.heap.size w W → RdHs W q Ss) := fun W hb => hs.on (fun i hi => (ok.get i hi).1) hb
  have OK := Lib.hid ok
  have BK := Lib.hid bK
  have BV := Lib.hid bV
  have BN := Lib.hid bN
  have BM := Lib.hid bM
  have HNN := Lib.hid hn
  have hlG := hc_len G
  have hlK := hc_len K
  have hlV := hc_len V
  have hlN := hc_len N
  have hlp := pfRow_len hM (.slice q Ss.length k)
  have z32 := zero32_len
  have r3 := S0.out.pf.whole hM
  clear bK bV bM bN hs ok hn
  go_enter Tryd.func24, Tryd.ntmps24
  go_wp2_with fail
  clear r3
  generalize (((((w.alloc (.cells (hc G).toArray 23)).alloc (.cells (hc K).toArray 23)).alloc (.cells (hc V).toArray 23)).alloc (.cells (hc N).toArray 23)).alloc (.cells (pfRow M (.slice q Ss.length k)).toArray 43)).alloc (.cells (hc zero32).toArray 23) = w1 at *
  refine (refRight_any hM BM.out (HS.out _ S0.out.below) OK.out HNN.out).mono ?_
  rintro e w2 ⟨rfl, hb2⟩
  have S2 := Lib.hid (S0.out.on hb2)
  clear hb2 S0
  by_cases hok : okS M Ss = true
  · rw [hok]
    have r0 := S2.out.hG.row hG
    have r1 := S2.out.hK.row hK
    have r2 := S2.out.hV.row hV
    have r3 := S2.out.pf.whole hM
    have HO := Lib.hid hok
    clear hok
    go_wp2_with fail
    refine (rCheck_any hG hK hV hM BK.out BV.out BM.out (HS.out _ S2.out.below) OK.out HNN.out).mono ?_
    rintro e w3 ⟨rfl, hb3⟩
    have S3 := Lib.hid (S2.out.on hb3)
    clear hb3 S2 r0 r1 r2 r3
    by_cases hck : ckS G K V M Ss = true
    · rw [hck]
      have EH := Lib.hid (show updH G K V N M Ss = rootH K N M Ss by unfold updH; rw [if_pos HO.out, if_pos hck])
      have EE := Lib.hid (show updE G K V M Ss = 0 by unfold updE; rw [if_pos HO.out, if_pos hck])
      have r1 := S3.out.hK.row hK
      have r2 := S3.out.hN.row hN
      have r3 := S3.out.pf.whole hM
      clear hck
      go_wp2_with fail
      refine (rRoot_any hK hN hM BK.out BN.out BM.out (HS.out _ S3.out.below) OK.out HNN.out).mono ?_
      rintro e w4 ⟨rfl, hb4⟩
      have S4 := S3.out.on hb4
      have lX := rootH_len K N M Ss
      have e0 : rootE M Ss = 0 := by unfold rootE; rw [if_pos HO.out]
      rw [e0]
      obtain ⟨X, hX⟩ : ∃ X, rootH K N M Ss = X := ⟨_, rfl⟩
      rw [hX] at lX EH ⊢
      have th := S4.hR.there zero32_len
      have hput := (S4.hR.put zero32_len lX).row lX
      have BE := Lib.hid (below_setCells' (B := w.heap.size) (w.heap.size + 5) (by omega) (hc X) 0 S4.below)
      have lxx := hc_len X
      clear hX hb4 S4 S3 r1 r2 r3 e0
      go_wp2_with fail
      refine bodyPost_ret (v := .tuple #[.agg (hc X).toArray, .int .i64 0]) (by simp [results, Tryd.results24, go_sem, hput, lX]) rfl ⟨by rw [EH.out, EE.out], BE.out⟩
    · have EH := Lib.hid (show updH G K V N M Ss = zero32 by unfold updH; rw [if_pos HO.out, if_neg hck])
      have EE := Lib.hid (show updE G K V M Ss = 22 by unfold updE; rw [if_pos HO.out, if_neg hck])
      rw [show ckS G K V M Ss = false by simpa using hck]
      have th := S3.out.hR.there zero32_len
      have hput := (S3.out.hR.put zero32_len zero32_len).row zero32_len
      have BE := Lib.hid (below_setCells' (B := w.heap.size) (w.heap.size + 5) (by omega) (hc zero32) 0 S3.out.below)
      clear hck S3
      go_wp2_with fail
      refine bodyPost_ret (v := .tuple #[.agg (hc zero32).toArray, .int .i64 22]) (by simp [results, Tryd.results24, go_sem, hput, z32]) rfl ⟨by rw [EH.out, EE.out], BE.out⟩
  · have EH := Lib.hid (show updH G K V N M Ss = zero32 by unfold updH; rw [if_neg hok])
    have EE := Lib.hid (show updE G K V M Ss = 21 by unfold updE; rw [if_neg hok])
    rw [show okS M Ss = false by simpa using hok]
    have th := S2.out.hR.there zero32_len
    have hput := (S2.out.hR.put zero32_len zero32_len).row zero32_len
    have BE := Lib.hid (below_setCells' (B := w.heap.size) (w.heap.size + 5) (by omega) (hc zero32) 0 S2.out.below)
    clear hok S2
    go_wp2_with fail
    refine bodyPost_ret (v := .tuple #[.agg (hc zero32).toArray, .int .i64 21]) (by simp [results, Tryd.results24, go_sem, hput, z32]) rfl ⟨by rw [EH.out, EE.out], BE.out⟩

end Go.Proofs.YtjgfjmkfcippcaaDoor
