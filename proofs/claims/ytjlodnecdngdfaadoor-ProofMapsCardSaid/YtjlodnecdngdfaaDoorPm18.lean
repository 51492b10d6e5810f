/-
  Whether a proof may be, in package proof and in the document.; The root behind a proof, plain and in package proof.; All strings that the document digests for the root behind a proof.
-/
import Derived.Test.YtjlodnecdngdfaaDoorPm16
import Derived.Test.YtjlodnecdngdfaaDoorPm17
namespace Go.Proofs.YtjlodnecdngdfaaDoor
set_option maxRecDepth 100000
open Go.RowKit

theorem idxH32 (w : World) {F : List Int} {i : Nat} (hi : i < 32) (hF : F.length = 32) : (Instr.index 24 (.agg (hc F).toArray) (.int .i64 (i : Int))).run Tryd.prog w = .ok (.int .u8 (F.getD i 0)) w := by
  have hl : (hc F)[i]? = some (.int .u8 (F.getD i 0)) := by simp [hc, List.getD, show i < F.length by omega]
  have e : (i : Int).toNat = i := by omega
  have hsz : (sizeOf 5).run Tryd.prog w = .ok 1 w := by kernel_rfl
  simp [Instr.index, asIntOf, run_underlying Tryd.underlying24, hsz, part, hl, go_sem]
  try (intro h; omega)
/-- What stands in memory within Right. -/
structure RgS (t : TypeId) (w wr : World) (M : List Int) (q : Option Addr) (k : Nat) (Ss : List (List Int)) : Prop where
  below : Below w.heap.size w wr
  pf : PfB t wr w.heap.size M (.slice q Ss.length k)
  hs : RdHs wr q Ss
theorem RgS.on {t : TypeId} {w wr w1 : World} {M : List Int} {q : Option Addr} {k : Nat} {Ss : List (List Int)} (h : RgS t w wr M q k Ss) (ok : HsOk Ss) (hb : Below wr.heap.size wr w1) : RgS t w w1 M q k Ss :=
  ⟨h.below.trans (hb.mono h.below.size), h.pf.on hb, h.hs.on (fun i hi => (ok.get i hi).1) hb⟩
theorem okS_cnt {M : List Int} {Ss : List (List Int)} (h : ¬ cntI M 256 = Ss.length) : okS M Ss = false := decide_eq_false fun e => h e.1
theorem okS_zero {M : List Int} {Ss : List (List Int)} {i : Nat} (hi : i < Ss.length) (h : Ss.getD i [] = zero32) : okS M Ss = false := decide_eq_false fun e => e.2 (by rw [← h]; simp [List.getD, hi])
theorem okS_yes {M : List Int} {Ss : List (List Int)} (hc : cntI M 256 = Ss.length) (h : ∀ i, i < Ss.length → ¬ Ss.getD i [] = zero32) : okS M Ss = true := decide_eq_true ⟨hc, fun hm => by
  obtain ⟨i, hi, e⟩ := List.getElem_of_mem hm
  exact h i hi (by simp [List.getD, hi, e])⟩
theorem RgS.start {t : TypeId} {w : World} {M : List Int} {q : Option Addr} {k : Nat} {Ss : List (List Int)} (hs : RdHs w q Ss) (ok : HsOk Ss) : RgS t w (w.alloc (.cells (pfRow M (.slice q Ss.length k)).toArray t)) M q k Ss :=
  ⟨(Below.refl _ _).alloc (Nat.le_refl _) _, PfB.new _ _ _, hs.on (fun i hi => (ok.get i hi).1) ((Below.refl _ _).alloc (Nat.le_refl _) _)⟩

set_option maxHeartbeats 8000000 in
theorem Right_any {w : World} {M : List Int} {q : Option Addr} {k : Nat} {Ss : List (List Int)} (hM : M.length = 32) (bM : Bytes M) (hs : RdHs w q Ss) (ok : HsOk Ss) (hn : Ss.length ≤ 140737488355328) :
    Calls Tryd.prog 26 #[.agg (pfRow M (.slice q Ss.length k)).toArray] w fun e w' => e = .returned (.bool (okS M Ss)) ∧ Below w.heap.size w w' := by
  have S0 : Hid (RgS 48 w _ M q k Ss) := Lib.hid (RgS.start (t := 48) (k := k) hs ok)
  have rm := S0.out.pf.mask hM
  have hlM := hc_len M
  have hlp := pfRow_len hM (.slice q Ss.length k)
  have BM := Lib.hid bM
  have OK := Lib.hid ok
  have z32 := zero32_len
  clear bM hs ok
  go_enter Tryd.func26, Tryd.ntmps26
  go_wp2_with fail
  clear rm
  generalize w.alloc (.cells (pfRow M (.slice q Ss.length k)).toArray 48) = w1 at *
  go_loopw [3, 10] (fun nv iv wr => ∃ j c : Nat, iv = .int .i64 (j : Int) ∧ j ≤ 32 ∧ nv = .int .i64 (c : Int) ∧ Hid (c = cntI M (8 * j)) ∧ Hid (RgS 48 w wr M q k Ss)) (fun _ iv _ => 32 - (intOf iv).toNat)
  case atStart => exact ⟨0, 0, rfl, by omega, rfl, rfl, S0⟩
  case round =>
    clear S0
    obtain ⟨j, c, rfl, hj, rfl, hc, hS⟩ := hrel
    by_cases hlt : j < 32
    · have hix := fun W => idxH32 W hlt hM
      have hb := BM.out.getD j
      have hcb := Lib.hid (cntI_byte BM.out j)
      have hcl : c ≤ 256 := by have := cntI_le M (8 * j); rw [hc.out]; omega
      obtain ⟨x, hx⟩ : ∃ x, M.getD j 0 = x := ⟨_, rfl⟩
      rw [hx] at hix hb hcb
      clear hx
      go_wp2_with fail
      refine (ones_any x wr hb.1 (by omega)).mono ?_
      rintro e wn ⟨rfl, h⟩
      obtain rfl := h.symm
      clear h
      have hol : Lib.onesCount x.toNat ≤ 8 := by
        have h1 := Lib.onesCount_le8 ⟨x.toNat, by omega⟩
        exact h1
      obtain ⟨d, hd⟩ : ∃ d, Lib.onesCount x.toNat = d := ⟨_, rfl⟩
      rw [hd] at hcb hol ⊢
      clear hd hix hb
      have hw : wrap64 ((c : Int) + (d : Int)) = ((c + d : Nat) : Int) := by unfold wrap64; omega
      go_wp2_with fail
      go_roundw
      case rel => exact ⟨j + 1, c + d, by go_num, by omega, by go_num, by show _ = _; rw [hcb.out, hc.out], hS⟩
      case measure => simp [intOf]; omega
    · obtain rfl : j = 32 := by omega
      have sd := hS.out.pf.sides hM
      have hcc := Lib.hid (show c = cntI M 256 from hc.out)
      clear hc
      by_cases hcn : c = Ss.length
      · have HC := Lib.hid (show cntI M 256 = Ss.length by rw [← hcc.out]; exact hcn)
        clear hcc
        subst hcn
        go_wp2_with fail
        go_loopw [26] (fun iv wr => ∃ i : Nat, iv = .int .i64 (i : Int) ∧ i ≤ Ss.length ∧ Hid (∀ m, m < i → ¬ Ss.getD m [] = zero32) ∧ Hid (RgS 48 w wr M q k Ss)) (fun iv _ => Ss.length - (intOf iv).toNat)
        case atStart => exact ⟨0, rfl, by omega, fun m hm => by omega, hS⟩
        case round =>
          clear hS sd
          obtain ⟨i, rfl, hi, hz, hS⟩ := hrel
          by_cases hlt : i < Ss.length
          · have hne : Ss ≠ [] := fun e => by rw [e] at hlt; simp at hlt
            obtain ⟨b, off, rfl, hx⟩ := hS.out.hs.resolve_left hne
            have r1 := hx i hlt
            have hl := (OK.out.get i hlt).1
            obtain ⟨F, hF⟩ : ∃ F, Ss.getD i [] = F := ⟨_, rfl⟩
            have HF := Lib.hid hF
            rw [hF] at r1 hl
            have lc := hc_len F
            have HZ := HashAt.new wr zero32
            have th := HZ.there zero32_len
            have rr := (HZ.put zero32_len hl).row hl
            have B1 : Below wr.heap.size wr ((wr.alloc (.cells (hc zero32).toArray 24)).setCells wr.heap.size 0 (hc F)) := below_setCells' _ (Nat.le_refl _) _ _ ((Below.refl _ _).alloc (Nat.le_refl _) _)
            have S1 := Lib.hid (hS.out.on OK.out B1)
            clear hx hne hF HZ B1
            by_cases he : F = zero32
            · have dz : (F == zero32) = true := by rw [he]; exact beq_self_eq_true _
              have HO := Lib.hid (okS_zero (M := M) hlt (by rw [HF.out]; exact he))
              have BE := Lib.hid S1.out.below
              clear he
              go_wp2_with fail
              go_ret
              exact ⟨by rw [HO.out]; rfl, BE.out⟩
            · have dz : (F == zero32) = false := by simpa using he
              have hz2 : Hid (∀ m, m < i + 1 → ¬ Ss.getD m [] = zero32) := fun m hm => by
                by_cases e : m = i
                · subst e; rw [HF.out]; exact he
                · exact hz.out m (by omega)
              clear he
              go_wp2_with fail
              go_roundw
              case rel => exact ⟨i + 1, by go_num, by omega, hz2, S1⟩
              case measure => simp [intOf]; omega
          · obtain rfl : i = Ss.length := by omega
            have HO := Lib.hid (okS_yes (M := M) HC.out hz.out)
            have BE := Lib.hid hS.out.below
            clear hS
            go_wp2_with fail
            go_ret
            exact ⟨by rw [HO.out]; rfl, BE.out⟩
      · have HO := Lib.hid (okS_cnt (M := M) (Ss := Ss) (by rw [← hcc.out]; exact hcn))
        have BE := Lib.hid hS.out.below
        have hd : ((c : Int) == (Ss.length : Int)) = false := by simp; omega
        clear hS
        go_wp2_with fail
        go_ret
        exact ⟨by rw [HO.out]; rfl, BE.out⟩

set_option maxHeartbeats 8000000 in
theorem refRight_any {w : World} {M : List Int} {q : Option Addr} {k : Nat} {Ss : List (List Int)} (hM : M.length = 32) (bM : Bytes M) (hs : RdHs w q Ss) (ok : HsOk Ss) (hn : Ss.length ≤ 140737488355328) :
    Calls Tryd.prog 67 #[.agg (pfRow M (.slice q Ss.length k)).toArray] w fun e w' => e = .returned (.bool (okS M Ss)) ∧ Below w.heap.size w w' := by
  have S0 : Hid (RgS 50 w _ M q k Ss) := Lib.hid (RgS.start (t := 50) (k := k) hs ok)
  have hlM := hc_len M
  have hlp := pfRow_len hM (.slice q Ss.length k)
  have BM := Lib.hid bM
  have OK := Lib.hid ok
  have z32 := zero32_len
  clear bM hs ok
  go_enter Tryd.func67, Tryd.ntmps67
  go_wp2_with fail
  generalize w.alloc (.cells (pfRow M (.slice q Ss.length k)).toArray 50) = w1 at *
  go_loopw [3, 4] (fun nv iv wr => ∃ j c : Nat, iv = .int .i64 (j : Int) ∧ j ≤ 256 ∧ nv = .int .i64 (c : Int) ∧ Hid (c = cntI M j) ∧ Hid (RgS 50 w wr M q k Ss)) (fun _ iv _ => 256 - (intOf iv).toNat)
  case atStart => exact ⟨0, 0, rfl, by omega, rfl, rfl, S0⟩
  case round =>
    clear S0
    obtain ⟨j, c, rfl, hj, rfl, hc, hS⟩ := hrel
    by_cases hlt : j < 256
    · have rm := hS.out.pf.mask hM
      have hcl : c ≤ 256 := by have := cntI_le M j; rw [hc.out]; omega
      go_wp2_with fail
      refine (rbit_any hM BM.out hlt).mono ?_
      rintro e w2 ⟨rfl, hb2⟩
      have S2 := Lib.hid (hS.out.on OK.out hb2)
      have hcb := Lib.hid (show cntI M (j + 1) = cntI M j + (bitI M j).toNat from rfl)
      obtain ⟨d, hd, hd1⟩ : ∃ d : Nat, bitI M j = (d : Int) ∧ d ≤ 1 := by
        rcases bitI_two (M := M) j with e | e
        · exact ⟨0, e, by omega⟩
        · exact ⟨1, e, by omega⟩
      rw [hd] at hcb ⊢
      rw [Int.toNat_natCast] at hcb
      clear hd hb2 hS rm
      have hw : wrap64 ((c : Int) + (d : Int)) = ((c + d : Nat) : Int) := by unfold wrap64; omega
      go_wp2_with fail
      go_roundw
      case rel => exact ⟨j + 1, c + d, by go_num, by omega, by go_num, by show _ = _; rw [hcb.out, hc.out], S2⟩
      case measure => simp [intOf]; omega
    · obtain rfl : j = 256 := by omega
      have sd := hS.out.pf.sides hM
      by_cases hcn : c = Ss.length
      · have HC := Lib.hid (show cntI M 256 = Ss.length by rw [← hc.out]; exact hcn)
        clear hc
        subst hcn
        go_wp2_with fail
        go_loopw [5] (fun iv wr => ∃ i : Nat, iv = .int .i64 (i : Int) ∧ i ≤ Ss.length ∧ Hid (∀ m, m < i → ¬ Ss.getD m [] = zero32) ∧ Hid (RgS 50 w wr M q k Ss)) (fun iv _ => Ss.length - (intOf iv).toNat)
        case atStart => exact ⟨0, rfl, by omega, fun m hm => by omega, hS⟩
        case round =>
          clear hS sd
          obtain ⟨i, rfl, hi, hz, hS⟩ := hrel
          by_cases hlt : i < Ss.length
          · have hne : Ss ≠ [] := fun e => by rw [e] at hlt; simp at hlt
            have sd := hS.out.pf.sides hM
            obtain ⟨b, off, rfl, hx⟩ := hS.out.hs.resolve_left hne
            have r1 := hx i hlt
            have hl := (OK.out.get i hlt).1
            obtain ⟨F, hF⟩ : ∃ F, Ss.getD i [] = F := ⟨_, rfl⟩
            have HF := Lib.hid hF
            rw [hF] at r1 hl
            have lc := hc_len F
            clear hx hne hF
            by_cases he : F = zero32
            · have dz : (F == zero32) = true := by rw [he]; exact beq_self_eq_true _
              have HO := Lib.hid (okS_zero (M := M) hlt (by rw [HF.out]; exact he))
              have BE := Lib.hid hS.out.below
              clear he
              go_wp2_with fail
              go_ret
              exact ⟨by rw [HO.out]; rfl, BE.out⟩
            · have dz : (F == zero32) = false := by simpa using he
              have hz2 : Hid (∀ m, m < i + 1 → ¬ Ss.getD m [] = zero32) := fun m hm => by
                by_cases e : m = i
                · subst e; rw [HF.out]; exact he
                · exact hz.out m (by omega)
              clear he
              go_wp2_with fail
              go_roundw
              case rel => exact ⟨i + 1, by go_num, by omega, hz2, hS⟩
              case measure => simp [intOf]; omega
          · obtain rfl : i = Ss.length := by omega
            have HO := Lib.hid (okS_yes (M := M) HC.out hz.out)
            have BE := Lib.hid hS.out.below
            clear hS
            go_wp2_with fail
            go_ret
            exact ⟨by rw [HO.out]; rfl, BE.out⟩
      · have HO := Lib.hid (okS_cnt (M := M) (Ss := Ss) (by rw [← hc.out]; exact hcn))
        have BE := Lib.hid hS.out.below
        have hd : ((c : Int) == (Ss.length : Int)) = false := by simp; omega
        clear hS
        go_wp2_with fail
        go_ret
        exact ⟨by rw [HO.out]; rfl, BE.out⟩
end Go.Proofs.YtjlodnecdngdfaaDoor
namespace Go.Proofs.YtjlodnecdngdfaaDoor
set_option maxRecDepth 100000
open Go.RowKit

/-- What stands beside the way at a level. -/
def sdI (M : List Int) (Ss : List (List Int)) (l : Nat) : List Int := if bitI M l = 1 then Ss.getD (cntI M l) [] else zero32
def stpS (K M : List Int) (Ss : List (List Int)) (l : Nat) (h : List Int) : List Int := if bitI K l = 0 then abH h (sdI M Ss l) else abH (sdI M Ss l) h
def upS (K M : List Int) (Ss : List (List Int)) (h : List Int) : Nat → List Int
  | 0 => h
  | k + 1 => stpS K M Ss (255 - k) (upS K M Ss h k)
def rootH (K V M : List Int) (Ss : List (List Int)) : List Int := if okS M Ss = true then upS K M Ss (lfH K V) 256 else zero32
def rootPE (M : List Int) (Ss : List (List Int)) : Int := if okS M Ss = true then 0 else 21
theorem stpS_len (K M : List Int) (Ss : List (List Int)) (l : Nat) (h : List Int) : (stpS K M Ss l h).length = 32 := by unfold stpS; split <;> exact abH_len _ _
theorem stpS_bytes (K M : List Int) (Ss : List (List Int)) (l : Nat) (h : List Int) : Bytes (stpS K M Ss l h) := by unfold stpS; split <;> exact abH_bytes _ _
theorem upS_len (K M : List Int) (Ss : List (List Int)) {h : List Int} (hh : h.length = 32) : ∀ k, (upS K M Ss h k).length = 32
  | 0 => hh
  | _ + 1 => stpS_len _ _ _ _ _
theorem upS_bytes (K M : List Int) (Ss : List (List Int)) {h : List Int} (hh : Bytes h) : ∀ k, Bytes (upS K M Ss h k)
  | 0 => hh
  | _ + 1 => stpS_bytes _ _ _ _ _
theorem rootH_len (K V M : List Int) (Ss : List (List Int)) : (rootH K V M Ss).length = 32 := by unfold rootH; split; exact upS_len _ _ _ (lfH_len _ _) _; exact zero32_len
/-- What stands in memory within Root: key, value, proof, answer. -/
structure RtS (t : TypeId) (w wr : World) (K V M : List Int) (v : Value) : Prop where
  below : Below w.heap.size w wr
  hK : HashAt wr w.heap.size K
  hV : HashAt wr (w.heap.size + 1) V
  pf : PfB t wr (w.heap.size + 2) M v
  hR : HashAt wr (w.heap.size + 3) zero32
section
variable {t : TypeId} {w W W' : World} {K V M : List Int} {v : Value}
theorem RtS.on (h : RtS t w W K V M v) (hb : Below W.heap.size W W') : RtS t w W' K V M v := ⟨h.below.trans (hb.mono h.below.size), h.hK.on hb, h.hV.on hb, h.pf.on hb, h.hR.on hb⟩
theorem RtS.put (h : RtS t w W K V M v) {b : Nat} (hb : w.heap.size + 3 < b) (o : Nat) (vs : List Value) : RtS t w (W.setCells b o vs) K V M v :=
  ⟨below_setCells' b (by omega) vs o h.below, h.hK.others (by omega) o vs, h.hV.others (by omega) o vs, h.pf.others (by omega) o vs, h.hR.others (by omega) o vs⟩
theorem RtS.start (t : TypeId) (w : World) (K V M : List Int) (v : Value) : RtS t w ((((w.alloc (.cells (hc K).toArray 24)).alloc (.cells (hc V).toArray 24)).alloc (.cells (pfRow M v).toArray t)).alloc (.cells (hc zero32).toArray 24)) K V M v := by
  have h1 := HashAt.new (w.alloc (.cells (hc K).toArray 24)) V
  have h2 := PfB.new (t := t) ((w.alloc (.cells (hc K).toArray 24)).alloc (.cells (hc V).toArray 24)) M v
  have h3 := HashAt.new (((w.alloc (.cells (hc K).toArray 24)).alloc (.cells (hc V).toArray 24)).alloc (.cells (pfRow M v).toArray t)) zero32
  simp only [World.size_alloc] at h1 h2 h3
  exact ⟨((((Below.refl w.heap.size w).alloc (Nat.le_refl _) _).alloc (by simp) _).alloc (by simp; omega) _).alloc (by simp; omega) _, (((HashAt.new w K).alloc _).alloc _).alloc _, (h1.alloc _).alloc _, h2.alloc _, h3⟩
end
theorem sdI_len {M : List Int} {Ss : List (List Int)} (ok : HsOk Ss) {l : Nat} (h : bitI M l = 1 → cntI M l < Ss.length) : (sdI M Ss l).length = 32 ∧ Bytes (sdI M Ss l) := by
  unfold sdI
  split
  · rename_i e; exact ok.get _ (h e)
  · exact ⟨zero32_len, zero32_bytes⟩


set_option maxHeartbeats 16000000 in
theorem pRoot_any {w : World} {K V M : List Int} {q : Option Addr} {k : Nat} {Ss : List (List Int)} (hT : Tbl w) (hK : K.length = 32) (hV : V.length = 32) (hM : M.length = 32) (bK : Bytes K) (bV : Bytes V) (bM : Bytes M) (hs : RdHs w q Ss) (ok : HsOk Ss) (hn : Ss.length ≤ 140737488355328) :
    Calls Tryd.prog 49 #[.agg (hc K).toArray, .agg (hc V).toArray, .agg (pfRow M (.slice q Ss.length k)).toArray] w fun e w' => e = .returned (.tuple #[.agg (hc (rootH K V M Ss)).toArray, .int .i64 (rootPE M Ss)]) ∧ Below w.heap.size w w' := by
  have S0 := Lib.hid (RtS.start 48 w K V M (.slice q Ss.length k))
  have BK := Lib.hid bK
  have BV := Lib.hid bV
  have BM := Lib.hid bM
  have OK := Lib.hid ok
  have HS : Hid (∀ W, Below w.heap.size w W → RdHs W q Ss) := fun W hb => hs.on (fun i hi => (ok.get i hi).1) hb
  have HT := Lib.hid hT
  have hlK := hc_len K
  have hlV := hc_len V
  have hlM := hc_len M
  have hlp := pfRow_len hM (.slice q Ss.length k)
  have z32 := zero32_len
  have r0 := S0.out.pf.whole hM
  clear bK bV bM hs ok hT
  go_enter Tryd.func49, Tryd.ntmps49
  go_wp2_with fail
  go_step3
  go_wp2_with fail
  clear r0
  generalize (((w.alloc (.cells (hc K).toArray 24)).alloc (.cells (hc V).toArray 24)).alloc (.cells (pfRow M (.slice q Ss.length k)).toArray 48)).alloc (.cells (hc zero32).toArray 24) = w1 at *
  refine (Right_any hM BM.out (HS.out _ S0.out.below) OK.out hn).mono ?_
  rintro e w2 ⟨rfl, hb2⟩
  have S2 := Lib.hid (S0.out.on hb2)
  clear hb2 S0
  by_cases hok : okS M Ss = true
  · have EH := Lib.hid (show rootH K V M Ss = upS K M Ss (lfH K V) 256 by unfold rootH; rw [if_pos hok])
    have EE := Lib.hid (show rootPE M Ss = 0 by unfold rootPE; rw [if_pos hok])
    have HC := Lib.hid (of_decide_eq_true hok).1
    rw [hok]
    clear hok
    have rK := S2.out.hK.row hK
    have rV := S2.out.hV.row hV
    go_wp2_with fail
    refine (Leaf_any (HT.out.on S2.out.below HT.out.pos) hK hV BK.out BV.out).mono ?_
    rintro e w3 ⟨rfl, hb3⟩
    have S3 := S2.out.on hb3
    have lL := lfH_len K V
    have bL := Lib.hid (lfH_bytes K V)
    obtain ⟨F, hF⟩ : ∃ F, lfH K V = F := ⟨_, rfl⟩
    rw [hF] at lL bL EH ⊢
    have H3 := HashAt.new w3 zero32
    have th3 := H3.there zero32_len
    have lr3 := S3.hR.lt
    have S4 := Lib.hid ((S3.on ((Below.refl _ _).alloc (Nat.le_refl _) (.cells (hc zero32).toArray 24))).put (b := w3.heap.size) (by omega) 0 (hc F))
    have H4 := Lib.hid (H3.put zero32_len lL)
    have hhb : w.heap.size + 3 < w3.heap.size := by omega
    have sd4 := S4.out.pf.sides hM
    have lF := hc_len F
    clear hF hb3 S3 H3 S2 rK rV lr3
    go_wp2_with fail
    clear th3 sd4
    obtain ⟨hb, hhe⟩ : ∃ hb, hb = w3.heap.size := ⟨_, rfl⟩
    rw [← hhe] at S4 H4 hhb ⊢
    generalize (w3.alloc (.cells (hc zero32).toArray 24)).setCells hb 0 (hc F) = w4 at *
    clear hhe
    go_step3
    go_wp2_with fail
    go_loopw [9, 10] (fun nv iv wr => ∃ k' c : Nat, iv = .int .i64 (255 - (k' : Int)) ∧ k' ≤ 256 ∧ nv = .int .i64 (c : Int) ∧ Hid (c = cntI M (256 - k')) ∧ Hid (RtS 48 w wr K V M (.slice q Ss.length k)) ∧ Hid (HashAt wr hb (upS K M Ss F k'))) (fun _ iv _ => (intOf iv + 1).toNat)
    case atStart => exact ⟨0, Ss.length, rfl, by omega, rfl, by show _ = _; rw [HC.out], S4, H4⟩
    case round =>
      clear S4 H4
      obtain ⟨k', c, rfl, hk', rfl, hcq, hS, hH⟩ := hrel
      have lX := upS_len K M Ss lL k'
      by_cases hlt : k' < 256
      · obtain ⟨i, hi⟩ : ∃ i : Nat, 255 - (k' : Int) = i := ⟨255 - k', by omega⟩
        have hi2 : i < 256 := by omega
        have HI := Lib.hid (show 255 - k' = i by omega)
        have hc1 : c = cntI M i + (bitI M i).toNat := by
          rw [hcq.out, show 256 - k' = i + 1 by omega]; rfl
        have hcle : cntI M (i + 1) ≤ Ss.length := by rw [← HC.out]; exact cntI_mono M (by omega)
        have hside : bitI M i = 1 → cntI M i < Ss.length := fun e => by
          have : cntI M (i + 1) = cntI M i + (bitI M i).toNat := rfl
          rw [e] at this; simp at this; omega
        obtain ⟨lD, bD0⟩ := sdI_len OK.out hside
        have bD := Lib.hid bD0
        rw [hi]
        have bX := Lib.hid (upS_bytes K M Ss bL.out k')
        have HU := Lib.hid (show upS K M Ss F (k' + 1) = stpS K M Ss i (upS K M Ss F k') by rw [upS, HI.out])
        obtain ⟨X, hX⟩ : ∃ X, upS K M Ss F k' = X := ⟨_, rfl⟩
        rw [hX] at lX bX hH HU
        have A1 := HashAt.new wr zero32
        have SD : Hid (sdI M Ss i = sdI M Ss i) := rfl
        have HC1 := Lib.hid hc1
        clear hX bD0 hcq hc1
        have S1 := Lib.hid (hS.out.on ((Below.refl _ _).alloc (Nat.le_refl _) (.cells (hc zero32).toArray 24)))
        have H1 := Lib.hid (hH.out.alloc (.cells (hc zero32).toArray 24))
        have lth := hH.out.lt
        have rmk := S1.out.pf.mask hM
        have D1 := Lib.hid A1
        clear A1
        go_wp2_with fail
        obtain ⟨sb0, hsb0⟩ : ∃ sb0, sb0 = wr.heap.size := ⟨_, rfl⟩
        have hsb : w.heap.size + 3 < sb0 := by omega
        rw [← hsb0] at D1 lth ⊢
        generalize wr.alloc (.cells (hc zero32).toArray 24) = w1' at *
        clear hsb0
        clear rmk
        refine (pbit_any hM BM.out hi2).mono ?_
        rintro e w5 ⟨rfl, hb5⟩
        have S5' := S1.out.on hb5
        have H5' := H1.out.on hb5
        have D5' := D1.out.on hb5
        have HQ := HS.out _ S5'.below
        have sb := hsb
        clear hb5 S1 H1 D1 hS hH
        rcases bitI_two (M := M) i with eb | eb
        · have HDz : Hid (sdI M Ss i = zero32) := by show _ = _; unfold sdI; rw [if_neg (by rw [eb]; decide)]
          have hcc : c = cntI M i := by rw [HC1.out, eb]; simp
          rw [HDz.out] at lD bD
          obtain ⟨D, hD⟩ : ∃ D, zero32 = D := ⟨_, rfl⟩
          have dbit : (bitI M i == 1) = false := by rw [eb]; rfl
          obtain ⟨y, hy⟩ : ∃ y, bitI M i = y := ⟨_, rfl⟩
          rw [hy] at dbit ⊢
          have S5 := Lib.hid S5'
          have H5 := Lib.hid H5'
          rw [hD] at D5' HDz lD bD
          have D5 := Lib.hid D5'
          have rk := S5.out.hK.row hK
          subst hcc
          clear S5' H5' D5' HQ HC1 hcle hside eb hy hD
          go_wp2_with fail
          refine (pbit_any hK BK.out hi2).mono ?_
          rintro e w6 ⟨rfl, hb6⟩
          have S6 := Lib.hid (S5.out.on hb6)
          have H6 := Lib.hid (H5.out.on hb6)
          have D6 := D5.out.on hb6
          have rx := H6.out.row lX
          have rd := D6.row lD
          have T6 := HT.out.on S6.out.below HT.out.pos
          have lxx := hc_len X
          have ldd := hc_len D
          clear hb6 S5 H5 D5 D6 rk
          obtain ⟨z, hz0⟩ : ∃ z, bitI K i = z := ⟨_, rfl⟩
          have HKz := Lib.hid hz0
          rw [hz0]
          clear hz0
          by_cases hz : z = 0
          · have dz : (z == 0) = true := by rw [hz]; rfl
            have HU2 := Lib.hid (show stpS K M Ss i X = abH X D by unfold stpS; rw [HDz.out, if_pos (by rw [HKz.out]; exact hz)])
            clear hz
            go_wp2_with fail
            refine (Above_any T6 lX lD bX.out bD.out).mono ?_
            rintro e w7 ⟨rfl, hb7⟩
            have S7 := S6.out.on hb7
            have H7 := H6.out.on hb7
            have lY := abH_len X D
            rw [HU2.out] at HU
            obtain ⟨Y, hY⟩ : ∃ Y, abH X D = Y := ⟨_, rfl⟩
            rw [hY] at lY HU ⊢
            have th7 := H7.there lX
            have S8 := Lib.hid (S7.put hhb 0 (hc Y))
            have H8 := Lib.hid (H7.put lX lY)
            have ly := hc_len Y
            clear hY hb7 S7 H7 S6 H6 rx rd HU2 T6
            go_wp2_with fail
            go_roundw
            case rel => exact ⟨k' + 1, cntI M i, by congr 1; omega, by omega, rfl, by show _ = _; congr 1; omega, S8, by rw [HU.out]; exact H8⟩
            case measure => simp [intOf] <;> omega
          · have dz : (z == 0) = false := by simpa using hz
            have HU2 := Lib.hid (show stpS K M Ss i X = abH D X by unfold stpS; rw [HDz.out, if_neg (by rw [HKz.out]; exact hz)])
            clear hz
            go_wp2_with fail
            refine (Above_any T6 lD lX bD.out bX.out).mono ?_
            rintro e w7 ⟨rfl, hb7⟩
            have S7 := S6.out.on hb7
            have H7 := H6.out.on hb7
            have lY := abH_len D X
            rw [HU2.out] at HU
            obtain ⟨Y, hY⟩ : ∃ Y, abH D X = Y := ⟨_, rfl⟩
            rw [hY] at lY HU ⊢
            have th7 := H7.there lX
            have S8 := Lib.hid (S7.put hhb 0 (hc Y))
            have H8 := Lib.hid (H7.put lX lY)
            have ly := hc_len Y
            clear hY hb7 S7 H7 S6 H6 rx rd HU2 T6
            go_wp2_with fail
            go_roundw
            case rel => exact ⟨k' + 1, cntI M i, by congr 1; omega, by omega, rfl, by show _ = _; congr 1; omega, S8, by rw [HU.out]; exact H8⟩
            case measure => simp [intOf] <;> omega
          
        · have hcl := hside eb
          have HDz : Hid (sdI M Ss i = Ss.getD (cntI M i) []) := by show _ = _; unfold sdI; rw [if_pos eb]
          have hcc : c = cntI M i + 1 := by rw [HC1.out, eb]; rfl
          rw [HDz.out] at lD bD
          have hne : Ss ≠ [] := fun e => by rw [e] at hcl; simp at hcl
          obtain ⟨b, off, rfl, hx⟩ := HQ.resolve_left hne
          have rs := hx _ hcl
          have dbit : (bitI M i == 1) = true := by rw [eb]; rfl
          obtain ⟨D, hD⟩ : ∃ D, Ss.getD (cntI M i) [] = D := ⟨_, rfl⟩
          rw [hD] at lD bD HDz rs
          obtain ⟨y, hy⟩ : ∃ y, bitI M i = y := ⟨_, rfl⟩
          rw [hy] at dbit ⊢
          obtain ⟨u, hu⟩ : ∃ u, cntI M i = u := ⟨_, rfl⟩
          have HUU := Lib.hid hu
          rw [hu] at hcl hcc rs
          have sds := S5'.pf.sides hM
          have th5 := D5'.there zero32_len
          have lDD := hc_len D
          have S5 := Lib.hid (S5'.put (b := sb0) (by omega) 0 (hc D))
          have H5 := Lib.hid (H5'.others (k := sb0) (by omega) 0 (hc D))
          have D5 := Lib.hid (D5'.put zero32_len lD)
          have rk := S5.out.hK.row hK
          have hw : wrap64 (((u + 1 : Nat) : Int) - 1) = (u : Int) := by unfold wrap64; omega
          have hw2 : ((u : Int) + 1 - 1) = (u : Int) := by omega
          subst hcc
          clear S5' H5' D5' HC1 hcle hside eb hy hD hx hne hu
          go_wp2_with fail
          refine (pbit_any hK BK.out hi2).mono ?_
          rintro e w6 ⟨rfl, hb6⟩
          have S6 := Lib.hid (S5.out.on hb6)
          have H6 := Lib.hid (H5.out.on hb6)
          have D6 := D5.out.on hb6
          have rx := H6.out.row lX
          have rd := D6.row lD
          have T6 := HT.out.on S6.out.below HT.out.pos
          have lxx := hc_len X
          have ldd := hc_len D
          clear hb6 S5 H5 D5 D6 rk
          obtain ⟨z, hz0⟩ : ∃ z, bitI K i = z := ⟨_, rfl⟩
          have HKz := Lib.hid hz0
          rw [hz0]
          clear hz0
          by_cases hz : z = 0
          · have dz : (z == 0) = true := by rw [hz]; rfl
            have HU2 := Lib.hid (show stpS K M Ss i X = abH X D by unfold stpS; rw [HDz.out, if_pos (by rw [HKz.out]; exact hz)])
            clear hz
            go_wp2_with fail
            refine (Above_any T6 lX lD bX.out bD.out).mono ?_
            rintro e w7 ⟨rfl, hb7⟩
            have S7 := S6.out.on hb7
            have H7 := H6.out.on hb7
            have lY := abH_len X D
            rw [HU2.out] at HU
            obtain ⟨Y, hY⟩ : ∃ Y, abH X D = Y := ⟨_, rfl⟩
            rw [hY] at lY HU ⊢
            have th7 := H7.there lX
            have S8 := Lib.hid (S7.put hhb 0 (hc Y))
            have H8 := Lib.hid (H7.put lX lY)
            have ly := hc_len Y
            clear hY hb7 S7 H7 S6 H6 rx rd HU2 T6
            go_wp2_with fail
            go_roundw
            case rel => exact ⟨k' + 1, _, by congr 1; omega, by omega, rfl, by show _ = _; rw [← HUU.out]; congr 1; omega, S8, by rw [HU.out]; exact H8⟩
            case measure => simp [intOf] <;> omega
          · have dz : (z == 0) = false := by simpa using hz
            have HU2 := Lib.hid (show stpS K M Ss i X = abH D X by unfold stpS; rw [HDz.out, if_neg (by rw [HKz.out]; exact hz)])
            clear hz
            go_wp2_with fail
            refine (Above_any T6 lD lX bD.out bX.out).mono ?_
            rintro e w7 ⟨rfl, hb7⟩
            have S7 := S6.out.on hb7
            have H7 := H6.out.on hb7
            have lY := abH_len D X
            rw [HU2.out] at HU
            obtain ⟨Y, hY⟩ : ∃ Y, abH D X = Y := ⟨_, rfl⟩
            rw [hY] at lY HU ⊢
            have th7 := H7.there lX
            have S8 := Lib.hid (S7.put hhb 0 (hc Y))
            have H8 := Lib.hid (H7.put lX lY)
            have ly := hc_len Y
            clear hY hb7 S7 H7 S6 H6 rx rd HU2 T6
            go_wp2_with fail
            go_roundw
            case rel => exact ⟨k' + 1, _, by congr 1; omega, by omega, rfl, by show _ = _; rw [← HUU.out]; congr 1; omega, S8, by rw [HU.out]; exact H8⟩
            case measure => simp [intOf] <;> omega
          
      · obtain rfl : k' = 256 := by omega
        obtain ⟨X, hX⟩ : ∃ X, upS K M Ss F 256 = X := ⟨_, rfl⟩
        have HX := Lib.hid hX
        rw [hX] at hH lX
        have rx := hH.out.row lX
        have thR := hS.out.hR.there zero32_len
        have hput := (hS.out.hR.put zero32_len lX).row lX
        have BE := Lib.hid (below_setCells' (B := w.heap.size) (w.heap.size + 3) (by omega) (hc X) 0 hS.out.below)
        have lxx := hc_len X
        clear hX hS hH hcq
        go_wp2_with fail
        rw [Exit.noGoto_ret]
        refine bodyPost_ret (v := .tuple #[.agg (hc X).toArray, .int .i64 0]) (by simp [results, Tryd.results49, go_sem, hput, lX]) rfl ⟨by rw [EH.out, EE.out, HX.out], BE.out⟩
  · have hok' : okS M Ss = false := by simpa using hok
    have EH := Lib.hid (show rootH K V M Ss = zero32 by unfold rootH; rw [if_neg hok])
    have EE := Lib.hid (show rootPE M Ss = 21 by unfold rootPE; rw [if_neg hok])
    rw [hok']
    have thR := S2.out.hR.there zero32_len
    have hput := (S2.out.hR.put zero32_len zero32_len).row zero32_len
    have BE := Lib.hid (below_setCells' (B := w.heap.size) (w.heap.size + 3) (by omega) (hc zero32) 0 S2.out.below)
    clear hok hok' S2
    go_wp2_with fail
    rw [Exit.noGoto_ret]
    refine bodyPost_ret (v := .tuple #[.agg (hc zero32).toArray, .int .i64 21]) (by simp [results, Tryd.results49, go_sem, hput, z32]) rfl ⟨by rw [EH.out, EE.out], BE.out⟩
end Go.Proofs.YtjlodnecdngdfaaDoor
namespace Go.Proofs.YtjlodnecdngdfaaDoor
open Go.RowKit
set_option maxRecDepth 100000

def wayP (K M : List Int) (Ss : List (List Int)) (l : Nat) (h : List Int) : List (List Int) := if bitI K l = 0 then [h, sdI M Ss l] else [sdI M Ss l, h]
/-- The strings, from the leaf up. -/
def wayT (K V M : List Int) (Ss : List (List Int)) : Nat → List (List Int)
  | 0 => [frm (sn leafS) [K, V]]
  | k + 1 => wayT K V M Ss k ++ [frm (sn pairS) (wayP K M Ss (255 - k) (upS K M Ss (lfH K V) k))]
theorem wayT_len (K V M : List Int) (Ss : List (List Int)) : ∀ k, (wayT K V M Ss k).length = k + 1
  | 0 => rfl
  | k + 1 => by rw [wayT, List.length_append, wayT_len K V M Ss k]; rfl

set_option maxHeartbeats 64000000 in
theorem way_any {w : World} {q2 : Option Addr} {k2 : Nat} {K V M : List Int} {Ss : List (List Int)} (hK : KyOk K) (lV : V.length = 32) (bV : Bytes V) (hM : KyOk M) (hs : RdHs w q2 Ss) (okh : HsOk Ss) (ok : okS M Ss = true) (hn : Ss.length ≤ 256) :
    Calls Tryd.prog 52 #[.agg (hc K).toArray, .agg (hc V).toArray, .agg (pfRow M (.slice q2 Ss.length k2)).toArray] w fun e w' => ∃ q c, e = .returned (.slice q (wayT K V M Ss 256).length c) ∧ TxS w.heap.size w w' (.slice q (wayT K V M Ss 256).length c) (wayT K V M Ss 256) := by
  have lK := hK.len
  have lM := hM.len
  have bb1 : Below w.heap.size w (((w.alloc (.cells (hc K).toArray 24)).alloc (.cells (hc V).toArray 24)).alloc (.cells (pfRow M (.slice q2 Ss.length k2)).toArray 50)) := (((Below.refl w.heap.size w).alloc (Nat.le_refl _) (.cells (hc K).toArray 24)).alloc (by simp) (.cells (hc V).toArray 24)).alloc (by simp; omega) (.cells (pfRow M (.slice q2 Ss.length k2)).toArray 50)
  have HK1 := Lib.hid (((HashAt.new w K).alloc (.cells (hc V).toArray 24)).alloc (.cells (pfRow M (.slice q2 Ss.length k2)).toArray 50))
  have HV1 := (HashAt.new (w.alloc (.cells (hc K).toArray 24)) V).alloc (.cells (pfRow M (.slice q2 Ss.length k2)).toArray 50)
  have HP1 := PfB.new (t := 50) ((w.alloc (.cells (hc K).toArray 24)).alloc (.cells (hc V).toArray 24)) M (.slice q2 Ss.length k2)
  simp only [World.size_alloc] at HV1 HP1
  replace HV1 := Lib.hid HV1
  replace HP1 := Lib.hid HP1
  have B1 := Lib.hid bb1
  have HS1 := Lib.hid (fun W (hb : Below w.heap.size w W) => hs.on (fun i hi => (okh.get i hi).1) hb)
  have OKH := Lib.hid okh
  have OKC := Lib.hid (of_decide_eq_true ok).1
  have BK := Lib.hid hK.by_
  have BM := Lib.hid hM.by_
  have BV := Lib.hid bV
  have hlK := hc_len K
  have hlV := hc_len V
  have hlM := hc_len M
  have z32 := zero32_len
  have lp := pfRow_len lM (.slice q2 Ss.length k2)
  obtain ⟨i0, hi, hz0, hz1, hz2⟩ := info_parts Tryd.infoU8s
  replace hi := Lib.hid hi
  replace hz0 := Lib.hid hz0
  replace hz1 := Lib.hid hz1
  replace hz2 := Lib.hid hz2
  have RR := refRight_any (w := (((w.alloc (.cells (hc K).toArray 24)).alloc (.cells (hc V).toArray 24)).alloc (.cells (pfRow M (.slice q2 Ss.length k2)).toArray 50))) (k := k2) lM hM.by_ (hs.on (fun i hi => (okh.get i hi).1) bb1) okh (by omega)
  rw [ok] at RR
  replace RR := Lib.hid RR
  have rP := HP1.out.whole lM
  clear hK hM hs okh ok bb1 bV
  go_enter Tryd.func52, Tryd.ntmps52
  go_wp2_with fail
  clear rP
  generalize (((w.alloc (.cells (hc K).toArray 24)).alloc (.cells (hc V).toArray 24)).alloc (.cells (pfRow M (.slice q2 Ss.length k2)).toArray 50)) = w1 at *
  refine RR.out.mono ?_
  rintro e w2 ⟨rfl, b2⟩
  have rK := (HK1.out.on b2).row lK
  have rV := (HV1.out.on b2).row lV
  have LF := Lib.hid (refLeaf_any (w := w2) lK lV BK.out BV.out)
  obtain ⟨h0, hh0⟩ : ∃ h0, lfH K V = h0 := ⟨_, rfl⟩
  have HH0 := Lib.hid hh0
  have lH := lfH_len K V
  rw [hh0] at LF lH
  clear hh0 RR
  go_wp2_with fail
  refine LF.out.mono ?_
  rintro e w3 ⟨rfl, b3⟩
  clear rK rV LF
  have hlH := hc_len h0
  have b13 := b2.trans (b3.mono b2.size)
  clear b2 b3
  have th := (HashAt.new w3 zero32).there zero32_len
  go_upto_region 4 with fail
  clear th
  have HB4 := (HashAt.new w3 zero32).put zero32_len lH
  have b_hb : Below w3.heap.size w3 ((w3.alloc (.cells (hc zero32).toArray 24)).setCells w3.heap.size 0 (hc h0)) := below_setCells' w3.heap.size (Nat.le_refl _) (hc h0) 0 ((Below.refl _ _).alloc (Nat.le_refl _) (.cells (hc zero32).toArray 24))
  obtain ⟨w4, hw⟩ : ∃ x, (w3.alloc (.cells (hc zero32).toArray 24)).setCells w3.heap.size 0 (hc h0) = x := ⟨_, rfl⟩
  have L_hb : w3.heap.size < w4.heap.size := by rw [← hw]; exact HB4.lt
  rw [hw] at HB4 b_hb ⊢
  clear hw
  obtain ⟨hb, hbn⟩ : ∃ x, w3.heap.size = x := ⟨_, rfl⟩
  have S_hb : Hid (w3.heap.size = hb) := hbn
  rw [hbn] at HB4 L_hb ⊢
  clear hbn
  have b14 := b13.trans (b_hb.mono b13.size)
  have HBW : Hid (w1.heap.size ≤ hb) := by have := S_hb.out; have := b13.size; show _ ≤ _; omega
  have HBN : Hid (hb < w4.heap.size) := by have := S_hb.out; show _ < _; omega
  clear b_hb b13 L_hb
  have rK := (HK1.out.on b14).row lK
  have rV := (HV1.out.on b14).row lV
  have LT := Lib.hid (LeafText_any (w := w4) lK lV)
  go_wp2_with fail
  clear rK rV
  refine LT.out.mono ?_
  rintro e w5 ⟨q5, n5, c5, rfl, f5⟩
  have BW4 := B1.out.trans (b14.mono B1.out.size)
  have TX5 := Lib.hid (TxS.lit (N := w4.heap.size) (w := w1) f5 b14 (Nat.le_refl _))
  have HB5 := Lib.hid ((HB4.on f5.below).alloc (.cells #[.slice q5 n5 c5] 82))
  have b16 := b14.trans ((f5.below.alloc f5.below.size (.cells #[.slice q5 n5 c5] 82)).mono b14.size)
  have NS5 : Hid (w4.heap.size ≤ (w5.alloc (.cells #[.slice q5 n5 c5] 82)).heap.size) := by have := f5.below.size; show _ ≤ _; simp; omega
  have cS5 := (HP1.out.on b16).sides lM
  clear f5 LT HB4
  go_upto_region 6 with fail
  clear cS5
  have HKW := Lib.hid (fun W (hb : Below w1.heap.size w1 W) => HK1.out.on hb)
  have HPW := Lib.hid (fun W (hb : Below w1.heap.size w1 W) => HP1.out.on hb)
  have HSW := Lib.hid (fun W (hb : Below w1.heap.size w1 W) => HS1.out W (B1.out.trans (hb.mono B1.out.size)))
  generalize w5.alloc (.cells #[.slice q5 n5 c5] 82) = w6 at *
  obtain ⟨N, hN⟩ : ∃ N, w4.heap.size = N := ⟨_, rfl⟩
  rw [hN] at TX5 HBN NS5
  clear hN
  go_wp2_with fail
  have HNL : Hid (Ss.length = cntI M 256) := OKC.out.symm
  have NLE : Hid (w.heap.size ≤ N) := by have := HBN.out; have := HBW.out; have := B1.out.size; show _ ≤ _; omega
  go_loopw [8, 9, 10] (fun ov nv iv wr => ∃ (k c0 : Nat) (q : Option Addr) (c : Nat) (Ls : List (List Int)), iv = .int .i64 (255 - (k : Int)) ∧ k ≤ 256 ∧ nv = .int .i64 (c0 : Int) ∧ Hid (c0 = cntI M (256 - k)) ∧ ov = .slice q Ls.length c ∧ Hid (Ls.length = k + 1 ∧ Ls = wayT K V M Ss k) ∧ Hid (TxS N w1 wr (.slice q Ls.length c) Ls) ∧ Hid (HashAt wr hb (upS K M Ss (lfH K V) k)) ∧ Hid (N ≤ wr.heap.size)) (fun _ _ iv _ => (intOf iv + 1).toNat)
  case atStart => exact ⟨0, Ss.length, _, _, [frm (sn leafS) [K, V]], rfl, by omega, rfl, HNL.out, rfl, ⟨rfl, rfl⟩, TX5, by show HashAt _ _ (lfH K V); rw [HH0.out]; exact HB5.out, NS5⟩
  case round =>
    clear TX5 HB5 NS5 HH0 lH hlH
    obtain ⟨k, c0, q, c, Ls, rfl, hk, rfl, HC0, rfl, HN, TX, HB1, NSZ⟩ := hrel
    have lH := upS_len K M Ss (lfH_len K V) k
    have BHH := Lib.hid (upS_bytes K M Ss (lfH_bytes K V) k)
    by_cases hlt : k < 256
    · as_aux_lemma =>
        obtain ⟨h, hh⟩ : ∃ h, upS K M Ss (lfH K V) k = h := ⟨_, rfl⟩
        have HHV := Lib.hid hh
        rw [hh] at lH BHH HB1
        clear hh
        obtain ⟨i, hie⟩ : ∃ i : Nat, 255 - (k : Int) = i := ⟨255 - k, by omega⟩
        have hi2 : i < 256 := by omega
        have HI := Lib.hid (show 255 - k = i by omega)
        have g0 : (0 : Int) ≤ (i : Int) := by omega
        rw [hie]
        have hlH := hc_len h
        have rH := HB1.out.row lH
        have lH0 := lH
        have hi0 := Lib.hid hie
        clear hie
        have th := (HashAt.new wr zero32).there zero32_len
        go_upto_region 10 with fail
        clear th
        have HA0 := (HashAt.new wr zero32).put zero32_len lH
        have b_ab : Below wr.heap.size wr ((wr.alloc (.cells (hc zero32).toArray 24)).setCells wr.heap.size 0 (hc h)) := below_setCells' wr.heap.size (Nat.le_refl _) (hc h) 0 ((Below.refl _ _).alloc (Nat.le_refl _) (.cells (hc zero32).toArray 24))
        obtain ⟨wa, hw⟩ : ∃ x, (wr.alloc (.cells (hc zero32).toArray 24)).setCells wr.heap.size 0 (hc h) = x := ⟨_, rfl⟩
        have L_ab : wr.heap.size < wa.heap.size := by rw [← hw]; exact HA0.lt
        rw [hw] at HA0 b_ab ⊢
        clear hw
        obtain ⟨ab, hbn⟩ : ∃ x, wr.heap.size = x := ⟨_, rfl⟩
        have S_ab : Hid (wr.heap.size = ab) := hbn
        rw [hbn] at HA0 L_ab ⊢
        clear hbn
        have ABL : Hid (wr.heap.size ≤ ab) := by have := S_ab.out; show _ ≤ _; omega
        clear rH
        have th := (HashAt.new wa zero32).there zero32_len
        go_upto_region 11 with fail
        clear th
        have HB0 := (HashAt.new wa zero32).put zero32_len zero32_len
        have b_bb : Below wa.heap.size wa ((wa.alloc (.cells (hc zero32).toArray 24)).setCells wa.heap.size 0 (hc zero32)) := below_setCells' wa.heap.size (Nat.le_refl _) (hc zero32) 0 ((Below.refl _ _).alloc (Nat.le_refl _) (.cells (hc zero32).toArray 24))
        obtain ⟨wb, hw⟩ : ∃ x, (wa.alloc (.cells (hc zero32).toArray 24)).setCells wa.heap.size 0 (hc zero32) = x := ⟨_, rfl⟩
        have L_bb : wa.heap.size < wb.heap.size := by rw [← hw]; exact HB0.lt
        rw [hw] at HB0 b_bb ⊢
        clear hw
        obtain ⟨bb, hbn⟩ : ∃ x, wa.heap.size = x := ⟨_, rfl⟩
        have S_bb : Hid (wa.heap.size = bb) := hbn
        rw [hbn] at HB0 L_bb ⊢
        clear hbn
        have ABB : Hid (ab < bb) := by have := S_bb.out; have := L_ab; show _ < _; omega
        have BBL : Hid (wr.heap.size ≤ bb) := by have := S_bb.out; have := b_ab.size; show _ ≤ _; omega
        have HA1c := HA0.on b_bb
        have bAB0 := b_ab.trans (b_bb.mono b_ab.size)
        clear HA0 b_ab b_bb L_ab L_bb
        have rM := (HPW.out wb (TX.out.below.trans (bAB0.mono TX.out.below.size))).mask lM
        have RM_ := Lib.hid (rbit_any (w := wb) (i := i) lM BM.out hi2)
        rcases bit01 M i with hmb | hmb
        · obtain ⟨cx, hcx⟩ : ∃ cx, c0 = cx := ⟨_, rfl⟩
          have HCX : Hid (cx = cntI M i) := by
            show cx = _
            rw [← hcx, HC0.out, show 256 - k = i + 1 by have := HI.out; omega]
            show cntI M i + (bitI M i).toNat = _
            rw [hmb]; rfl
          have HD : Hid (sdI M Ss i = zero32) := by show sdI M Ss i = _; unfold sdI; rw [if_neg (by rw [hmb]; decide)]
          rw [hmb] at RM_
          try rw [hcx]
          clear hmb hcx
          go_wp2_with fail
          clear rM
          refine RM_.out.mono ?_
          rintro e wc ⟨rfl, bc⟩
          have bAB := bAB0.trans (bc.mono bAB0.size)
          have HA1b := HA1c.on bc
          have HB0 := HB0.on bc
          obtain ⟨D, hD⟩ : ∃ D, zero32 = D := ⟨_, rfl⟩
          have lD : D.length = 32 := by rw [← hD]; exact zero32_len
          have BD : Hid (Bytes D) := by show Bytes D; rw [← hD]; exact zero32_bytes
          rw [hD] at HB0 HD
          clear hD bc bAB0 HA1c RM_
          go_upto_region 14 with fail
          have rK := (HKW.out wc (TX.out.below.trans (bAB.mono TX.out.below.size))).row lK
          have RB := Lib.hid (rbit_any (w := wc) (i := i) lK BK.out hi2)
          rcases bit01 K i with hbt | hbt
          · have HPR : Hid (wayP K M Ss i h = [h, D]) := by show wayP K M Ss i h = _; unfold wayP; rw [if_pos hbt, HD.out]
            have HST : Hid (stpS K M Ss i h = abH h D) := by show stpS K M Ss i h = _; unfold stpS; rw [if_pos hbt, HD.out]
            rw [hbt] at RB
            clear hbt
            go_wp2_with fail
            clear rK
            refine RB.out.mono ?_
            rintro e w15 ⟨rfl, b15⟩
            have bW := bAB.trans (b15.mono bAB.size)
            have HA2 := Lib.hid (HA1b.on b15)
            have HB2 := Lib.hid (HB0.on b15)
            have TX2 := Lib.hid (TX.out.on bW)
            have HH2 := Lib.hid (HB1.out.on bW)
            have SZ2 : Hid (wr.heap.size ≤ w15.heap.size) := bW.size
            clear b15 bW bAB HA1b HB0 TX HB1 RB
            go_upto_region 16 with fail
            have hla := hc_len h
            have hlb := hc_len D
            have rA := HA2.out.row lH0
            have rB := HB2.out.row lD
            have AT := Lib.hid (AboveText_any (w := w15) (A := h) (B := D) lH0 lD)
            go_wp2_with fail
            clear rA rB
            refine AT.out.mono ?_
            rintro e w20 ⟨q20, n20, c20, rfl, f20⟩
            have F20 := Lib.hid f20
            have b20 : Below w15.heap.size w15 (w20.alloc (.cells #[.slice q20 n20 c20] 82)) := f20.below.trans ((Below.refl w20.heap.size w20).alloc (Nat.le_refl _) _ |>.mono f20.below.size)
            obtain ⟨dn, od⟩ := TX2.out
            have OW : Hid ((w20.alloc (.cells #[.slice q20 n20 c20] 82)).ownsRow 0 82 1 (.slice q Ls.length c) Ls.length dn) := (od.on PBs_ok b20).own
            have HA3 := Lib.hid (HA2.out.on b20)
            have HB3 := Lib.hid (HB2.out.on b20)
            have HH3 := Lib.hid (HH2.out.on b20)
            have SR := Lib.hid (one_src (q := q20) (n := n20) (c := c20) w20)
            have nle : Ls.length ≤ 300 := by have := HN.out.1; omega
            go_wp2_with (at_builtin; refine wpList_append_row rfl _ _ rfl Tryd.underlying61 hi.out hz0.out hz1.out hz2.out rfl OW.out SR.out ?b1 ?b2 ?_)
            case b1 => unfold maxLen; omega
            case b2 => omega
            intro q21 k21 w21 own21 grow21 fr21
            have c21 : Chg (w20.alloc (.cells #[.slice q20 n20 c20] 82)) w21 (Value.slice q Ls.length c).ownBlock.toList := Chg.grown grow21 (fun g hg => by simp [hg])
            have nE : ∀ (bk : Nat) (G : List Int), HashAt (w20.alloc (.cells #[.slice q20 n20 c20] 82)) bk G → bk ∉ (Value.slice q Ls.length c).ownBlock.toList := fun bk G hG hm => own_ne OW.out hG (by decide) (by simpa using hm)
            have HA4 := Lib.hid (HA3.out.chg' c21 (nE _ _ HA3.out))
            have HB4 := Lib.hid (HB3.out.chg' c21 (nE _ _ HB3.out))
            have HH4 := Lib.hid (HH3.out.chg' c21 (nE _ _ HH3.out))
            have TX4 : Hid (TxS N w1 w21 (.slice q21 (Ls.length + 1) k21) (Ls ++ [frm (sn pairS) [h, D]])) := TxS.more od (by have := NSZ.out; have := SZ2.out; omega) F20.out own21 grow21 (by first | exact fr21 | simpa using fr21)
            have NS4 : Hid (N ≤ w21.heap.size) := by have := NSZ.out; have := SZ2.out; have := b20.size; have := c21.size; show _ ≤ _; omega
            clear own21 grow21 fr21 c21 nE HA3 HB3 HH3 OW SR od F20 b20 AT HA2 HB2 HH2 TX2
            go_upto_region 17 with fail
            have rA := HA4.out.row lH0
            have rB := HB4.out.row lD
            have AB := Lib.hid (refAbove_any (w := w21) (A := h) (B := D) lH0 lD BHH.out BD.out)
            have lX := abH_len h D
            obtain ⟨X, hX⟩ : ∃ X, abH h D = X := ⟨_, rfl⟩
            rw [hX] at AB lX
            have HX := Lib.hid hX
            clear hX
            go_wp2_with fail
            refine AB.out.mono ?_
            rintro e w22 ⟨rfl, b22⟩
            have HH5 := HH4.out.on b22
            have th := HH5.there lH0
            have hlX := hc_len X
            have H23 := Lib.hid (HH5.put lH0 lX)
            have c23 : Chg w22 (w22.setCells hb 0 (hc X)) [hb] := (Chg.refl w22 [hb]).setCells (b := hb) (.inl (by simp)) (hc X) 0
            have TX23 := Lib.hid ((TX4.out.on b22).hash HH5 c23 HBN.out HBW.out)
            have NS5 : Hid (N ≤ (w22.setCells hb 0 (hc X)).heap.size) := by have := NS4.out; have := b22.size; have := c23.size; show _ ≤ _; omega
            clear b22 c23 AB rA rB HH5
            go_wp2_with fail
            go_roundw
            case rel =>
              have e1 : Ls ++ [frm (sn pairS) [h, D]] = wayT K V M Ss (k + 1) := by rw [wayT, ← HN.out.2, HHV.out, HI.out, HPR.out]
              have e2 : X = upS K M Ss (lfH K V) (k + 1) := by rw [upS, HHV.out, HI.out, HST.out, HX.out]
              have e9 : (Ls ++ [frm (sn pairS) [h, D]]).length = Ls.length + 1 := by rw [List.length_append]; rfl
              have TX9 := TX23.out
              rw [← e9] at TX9
              exact ⟨k + 1, cx, q21, k21, Ls ++ [frm (sn pairS) [h, D]], by have := hi0.out; rw [← this]; go_num, by omega, rfl, by show cx = _; rw [HCX.out]; congr 1; have := HI.out; omega, by rw [e9], ⟨by rw [List.length_append, HN.out.1]; rfl, e1⟩, TX9, by rw [← e2]; exact H23, NS5⟩
            case measure => simp [intOf] <;> omega
          · have HPR : Hid (wayP K M Ss i h = [D, h]) := by show wayP K M Ss i h = _; unfold wayP; rw [if_neg (by rw [hbt]; decide), HD.out]
            have HST : Hid (stpS K M Ss i h = abH D h) := by show stpS K M Ss i h = _; unfold stpS; rw [if_neg (by rw [hbt]; decide), HD.out]
            rw [hbt] at RB
            clear hbt
            go_wp2_with fail
            clear rK
            refine RB.out.mono ?_
            rintro e w15 ⟨rfl, b15⟩
            have BW15 := Lib.hid (bAB.trans (b15.mono bAB.size))
            have HA1 := Lib.hid (HA1b.on b15)
            have HBz := Lib.hid (HB0.on b15)
            clear b15 bAB HA1b HB0 RB
            have rA := HA1.out.row lH
            have rB := HBz.out.row lD
            have tA := HA1.out.there lH
            have nAB : ab ≠ bb := fun e => by have := ABB.out; omega
            have tB := (HBz.out.others (fun e => nAB e.symm) 0 (hc D)).there lD
            go_upto_region 16 with fail
            clear rA rB tA tB
            have bS : Below wr.heap.size wr ((w15.setCells ab 0 (hc D)).setCells bb 0 (hc h)) := below_setCells' bb BBL.out (hc h) 0 (below_setCells' ab ABL.out (hc D) 0 BW15.out)
            have HA2 := Lib.hid ((HA1.out.put lH lD).others nAB 0 (hc h))
            have HB2 := Lib.hid ((HBz.out.others (fun e => nAB e.symm) 0 (hc D)).put lD lH)
            have TX2 := Lib.hid (TX.out.on bS)
            have HH2 := Lib.hid (HB1.out.on bS)
            have SZ2 : Hid (wr.heap.size ≤ ((w15.setCells ab 0 (hc D)).setCells bb 0 (hc h)).heap.size) := bS.size
            clear bS HA1 HBz nAB TX HB1
            generalize (w15.setCells ab 0 (hc D)).setCells bb 0 (hc h) = w16 at *
            have hla := hc_len D
            have hlb := hc_len h
            have rA := HA2.out.row lD
            have rB := HB2.out.row lH0
            have AT := Lib.hid (AboveText_any (w := w16) (A := D) (B := h) lD lH0)
            go_wp2_with fail
            clear rA rB
            refine AT.out.mono ?_
            rintro e w20 ⟨q20, n20, c20, rfl, f20⟩
            have F20 := Lib.hid f20
            have b20 : Below w16.heap.size w16 (w20.alloc (.cells #[.slice q20 n20 c20] 82)) := f20.below.trans ((Below.refl w20.heap.size w20).alloc (Nat.le_refl _) _ |>.mono f20.below.size)
            obtain ⟨dn, od⟩ := TX2.out
            have OW : Hid ((w20.alloc (.cells #[.slice q20 n20 c20] 82)).ownsRow 0 82 1 (.slice q Ls.length c) Ls.length dn) := (od.on PBs_ok b20).own
            have HA3 := Lib.hid (HA2.out.on b20)
            have HB3 := Lib.hid (HB2.out.on b20)
            have HH3 := Lib.hid (HH2.out.on b20)
            have SR := Lib.hid (one_src (q := q20) (n := n20) (c := c20) w20)
            have nle : Ls.length ≤ 300 := by have := HN.out.1; omega
            go_wp2_with (at_builtin; refine wpList_append_row rfl _ _ rfl Tryd.underlying61 hi.out hz0.out hz1.out hz2.out rfl OW.out SR.out ?b1 ?b2 ?_)
            case b1 => unfold maxLen; omega
            case b2 => omega
            intro q21 k21 w21 own21 grow21 fr21
            have c21 : Chg (w20.alloc (.cells #[.slice q20 n20 c20] 82)) w21 (Value.slice q Ls.length c).ownBlock.toList := Chg.grown grow21 (fun g hg => by simp [hg])
            have nE : ∀ (bk : Nat) (G : List Int), HashAt (w20.alloc (.cells #[.slice q20 n20 c20] 82)) bk G → bk ∉ (Value.slice q Ls.length c).ownBlock.toList := fun bk G hG hm => own_ne OW.out hG (by decide) (by simpa using hm)
            have HA4 := Lib.hid (HA3.out.chg' c21 (nE _ _ HA3.out))
            have HB4 := Lib.hid (HB3.out.chg' c21 (nE _ _ HB3.out))
            have HH4 := Lib.hid (HH3.out.chg' c21 (nE _ _ HH3.out))
            have TX4 : Hid (TxS N w1 w21 (.slice q21 (Ls.length + 1) k21) (Ls ++ [frm (sn pairS) [D, h]])) := TxS.more od (by have := NSZ.out; have := SZ2.out; omega) F20.out own21 grow21 (by first | exact fr21 | simpa using fr21)
            have NS4 : Hid (N ≤ w21.heap.size) := by have := NSZ.out; have := SZ2.out; have := b20.size; have := c21.size; show _ ≤ _; omega
            clear own21 grow21 fr21 c21 nE HA3 HB3 HH3 OW SR od F20 b20 AT HA2 HB2 HH2 TX2
            go_upto_region 17 with fail
            have rA := HA4.out.row lD
            have rB := HB4.out.row lH0
            have AB := Lib.hid (refAbove_any (w := w21) (A := D) (B := h) lD lH0 BD.out BHH.out)
            have lX := abH_len D h
            obtain ⟨X, hX⟩ : ∃ X, abH D h = X := ⟨_, rfl⟩
            rw [hX] at AB lX
            have HX := Lib.hid hX
            clear hX
            go_wp2_with fail
            refine AB.out.mono ?_
            rintro e w22 ⟨rfl, b22⟩
            have HH5 := HH4.out.on b22
            have th := HH5.there lH0
            have hlX := hc_len X
            have H23 := Lib.hid (HH5.put lH0 lX)
            have c23 : Chg w22 (w22.setCells hb 0 (hc X)) [hb] := (Chg.refl w22 [hb]).setCells (b := hb) (.inl (by simp)) (hc X) 0
            have TX23 := Lib.hid ((TX4.out.on b22).hash HH5 c23 HBN.out HBW.out)
            have NS5 : Hid (N ≤ (w22.setCells hb 0 (hc X)).heap.size) := by have := NS4.out; have := b22.size; have := c23.size; show _ ≤ _; omega
            clear b22 c23 AB rA rB HH5
            go_wp2_with fail
            go_roundw
            case rel =>
              have e1 : Ls ++ [frm (sn pairS) [D, h]] = wayT K V M Ss (k + 1) := by rw [wayT, ← HN.out.2, HHV.out, HI.out, HPR.out]
              have e2 : X = upS K M Ss (lfH K V) (k + 1) := by rw [upS, HHV.out, HI.out, HST.out, HX.out]
              have e9 : (Ls ++ [frm (sn pairS) [D, h]]).length = Ls.length + 1 := by rw [List.length_append]; rfl
              have TX9 := TX23.out
              rw [← e9] at TX9
              exact ⟨k + 1, cx, q21, k21, Ls ++ [frm (sn pairS) [D, h]], by have := hi0.out; rw [← this]; go_num, by omega, rfl, by show cx = _; rw [HCX.out]; congr 1; have := HI.out; omega, by rw [e9], ⟨by rw [List.length_append, HN.out.1]; rfl, e1⟩, TX9, by rw [← e2]; exact H23, NS5⟩
            case measure => simp [intOf] <;> omega
        · obtain ⟨cx, hcx⟩ : ∃ cx : Nat, cntI M i = cx := ⟨_, rfl⟩
          have hc01 : c0 = cx + 1 := by
            rw [HC0.out, show 256 - k = i + 1 by have := HI.out; omega, ← hcx]
            show cntI M i + (bitI M i).toNat = _
            rw [hmb]; rfl
          have HCX : Hid (cx = cntI M i) := hcx.symm
          have hcl : cx < Ss.length := by
            have h1 : cntI M (i + 1) ≤ cntI M 256 := cntI_mono M (by omega)
            have h2 : cntI M (i + 1) = cx + 1 := by
              show cntI M i + (bitI M i).toNat = _
              rw [hmb, hcx]; rfl
            rw [OKC.out] at h1; omega
          obtain ⟨D, hD⟩ : ∃ D, Ss.getD cx [] = D := ⟨_, rfl⟩
          have HD : Hid (sdI M Ss i = D) := by show sdI M Ss i = _; unfold sdI; rw [if_pos hmb, hcx]; exact hD
          have lD : D.length = 32 := by rw [← hD]; exact (OKH.out.get cx hcl).1
          have BD : Hid (Bytes D) := by show Bytes D; rw [← hD]; exact (OKH.out.get cx hcl).2
          obtain ⟨b2, off2, e2, hx2⟩ := (HSW.out wb (TX.out.below.trans (bAB0.mono TX.out.below.size))).resolve_left (fun e => by rw [e] at hcl; simp at hcl)
          have hrD : ∀ W, Below wb.heap.size wb W → rowOf W b2 (off2 + cx * 32) 32 = hc D := fun W hW => by
            rw [rowOf_on (by rw [hx2 cx hcl, hc_len, hD, lD]; omega) hW, hx2 cx hcl, hD]
          have HRD := Lib.hid hrD
          have HE2 := Lib.hid e2
          have c0e : (c0 : Int) - 1 = (cx : Int) := by omega
          have hclI : (cx : Int) < (Ss.length : Int) := by omega
          have hlD := hc_len D
          rw [hmb] at RM_
          clear hmb hcx hD hrD hx2 e2 hc01
          go_wp2_with fail
          clear rM
          refine RM_.out.mono ?_
          rintro e wc0 ⟨rfl, bc⟩
          have bAB1 := bAB0.trans (bc.mono bAB0.size)
          have cS := (HPW.out wc0 (TX.out.below.trans (bAB1.mono TX.out.below.size))).sides lM
          rw [HE2.out] at cS
          have rD := HRD.out wc0 bc
          have th := (HB0.on bc).there zero32_len
          have gcx : (0 : Int) ≤ (cx : Int) := by omega
          go_upto_region 14 with fail
          clear cS rD th
          have bAB : Below wr.heap.size wr (wc0.setCells bb 0 (hc D)) := below_setCells' bb BBL.out (hc D) 0 bAB1
          have HA1b := (HA1c.on bc).others (fun e => by have := ABB.out; omega : ab ≠ bb) 0 (hc D)
          have HB0 := (HB0.on bc).put zero32_len lD
          clear bc bAB0 bAB1 HA1c RM_ c0e hclI gcx
          generalize wc0.setCells bb 0 (hc D) = wc at *
          have rK := (HKW.out wc (TX.out.below.trans (bAB.mono TX.out.below.size))).row lK
          have RB := Lib.hid (rbit_any (w := wc) (i := i) lK BK.out hi2)
          rcases bit01 K i with hbt | hbt
          · have HPR : Hid (wayP K M Ss i h = [h, D]) := by show wayP K M Ss i h = _; unfold wayP; rw [if_pos hbt, HD.out]
            have HST : Hid (stpS K M Ss i h = abH h D) := by show stpS K M Ss i h = _; unfold stpS; rw [if_pos hbt, HD.out]
            rw [hbt] at RB
            clear hbt
            go_wp2_with fail
            clear rK
            refine RB.out.mono ?_
            rintro e w15 ⟨rfl, b15⟩
            have bW := bAB.trans (b15.mono bAB.size)
            have HA2 := Lib.hid (HA1b.on b15)
            have HB2 := Lib.hid (HB0.on b15)
            have TX2 := Lib.hid (TX.out.on bW)
            have HH2 := Lib.hid (HB1.out.on bW)
            have SZ2 : Hid (wr.heap.size ≤ w15.heap.size) := bW.size
            clear b15 bW bAB HA1b HB0 TX HB1 RB
            go_upto_region 16 with fail
            have hla := hc_len h
            have hlb := hc_len D
            have rA := HA2.out.row lH0
            have rB := HB2.out.row lD
            have AT := Lib.hid (AboveText_any (w := w15) (A := h) (B := D) lH0 lD)
            go_wp2_with fail
            clear rA rB
            refine AT.out.mono ?_
            rintro e w20 ⟨q20, n20, c20, rfl, f20⟩
            have F20 := Lib.hid f20
            have b20 : Below w15.heap.size w15 (w20.alloc (.cells #[.slice q20 n20 c20] 82)) := f20.below.trans ((Below.refl w20.heap.size w20).alloc (Nat.le_refl _) _ |>.mono f20.below.size)
            obtain ⟨dn, od⟩ := TX2.out
            have OW : Hid ((w20.alloc (.cells #[.slice q20 n20 c20] 82)).ownsRow 0 82 1 (.slice q Ls.length c) Ls.length dn) := (od.on PBs_ok b20).own
            have HA3 := Lib.hid (HA2.out.on b20)
            have HB3 := Lib.hid (HB2.out.on b20)
            have HH3 := Lib.hid (HH2.out.on b20)
            have SR := Lib.hid (one_src (q := q20) (n := n20) (c := c20) w20)
            have nle : Ls.length ≤ 300 := by have := HN.out.1; omega
            go_wp2_with (at_builtin; refine wpList_append_row rfl _ _ rfl Tryd.underlying61 hi.out hz0.out hz1.out hz2.out rfl OW.out SR.out ?b1 ?b2 ?_)
            case b1 => unfold maxLen; omega
            case b2 => omega
            intro q21 k21 w21 own21 grow21 fr21
            have c21 : Chg (w20.alloc (.cells #[.slice q20 n20 c20] 82)) w21 (Value.slice q Ls.length c).ownBlock.toList := Chg.grown grow21 (fun g hg => by simp [hg])
            have nE : ∀ (bk : Nat) (G : List Int), HashAt (w20.alloc (.cells #[.slice q20 n20 c20] 82)) bk G → bk ∉ (Value.slice q Ls.length c).ownBlock.toList := fun bk G hG hm => own_ne OW.out hG (by decide) (by simpa using hm)
            have HA4 := Lib.hid (HA3.out.chg' c21 (nE _ _ HA3.out))
            have HB4 := Lib.hid (HB3.out.chg' c21 (nE _ _ HB3.out))
            have HH4 := Lib.hid (HH3.out.chg' c21 (nE _ _ HH3.out))
            have TX4 : Hid (TxS N w1 w21 (.slice q21 (Ls.length + 1) k21) (Ls ++ [frm (sn pairS) [h, D]])) := TxS.more od (by have := NSZ.out; have := SZ2.out; omega) F20.out own21 grow21 (by first | exact fr21 | simpa using fr21)
            have NS4 : Hid (N ≤ w21.heap.size) := by have := NSZ.out; have := SZ2.out; have := b20.size; have := c21.size; show _ ≤ _; omega
            clear own21 grow21 fr21 c21 nE HA3 HB3 HH3 OW SR od F20 b20 AT HA2 HB2 HH2 TX2
            go_upto_region 17 with fail
            have rA := HA4.out.row lH0
            have rB := HB4.out.row lD
            have AB := Lib.hid (refAbove_any (w := w21) (A := h) (B := D) lH0 lD BHH.out BD.out)
            have lX := abH_len h D
            obtain ⟨X, hX⟩ : ∃ X, abH h D = X := ⟨_, rfl⟩
            rw [hX] at AB lX
            have HX := Lib.hid hX
            clear hX
            go_wp2_with fail
            refine AB.out.mono ?_
            rintro e w22 ⟨rfl, b22⟩
            have HH5 := HH4.out.on b22
            have th := HH5.there lH0
            have hlX := hc_len X
            have H23 := Lib.hid (HH5.put lH0 lX)
            have c23 : Chg w22 (w22.setCells hb 0 (hc X)) [hb] := (Chg.refl w22 [hb]).setCells (b := hb) (.inl (by simp)) (hc X) 0
            have TX23 := Lib.hid ((TX4.out.on b22).hash HH5 c23 HBN.out HBW.out)
            have NS5 : Hid (N ≤ (w22.setCells hb 0 (hc X)).heap.size) := by have := NS4.out; have := b22.size; have := c23.size; show _ ≤ _; omega
            clear b22 c23 AB rA rB HH5
            go_wp2_with fail
            go_roundw
            case rel =>
              have e1 : Ls ++ [frm (sn pairS) [h, D]] = wayT K V M Ss (k + 1) := by rw [wayT, ← HN.out.2, HHV.out, HI.out, HPR.out]
              have e2 : X = upS K M Ss (lfH K V) (k + 1) := by rw [upS, HHV.out, HI.out, HST.out, HX.out]
              have e9 : (Ls ++ [frm (sn pairS) [h, D]]).length = Ls.length + 1 := by rw [List.length_append]; rfl
              have TX9 := TX23.out
              rw [← e9] at TX9
              exact ⟨k + 1, cx, q21, k21, Ls ++ [frm (sn pairS) [h, D]], by have := hi0.out; rw [← this]; go_num, by omega, rfl, by show cx = _; rw [HCX.out]; congr 1; have := HI.out; omega, by rw [e9], ⟨by rw [List.length_append, HN.out.1]; rfl, e1⟩, TX9, by rw [← e2]; exact H23, NS5⟩
            case measure => simp [intOf] <;> omega
          · have HPR : Hid (wayP K M Ss i h = [D, h]) := by show wayP K M Ss i h = _; unfold wayP; rw [if_neg (by rw [hbt]; decide), HD.out]
            have HST : Hid (stpS K M Ss i h = abH D h) := by show stpS K M Ss i h = _; unfold stpS; rw [if_neg (by rw [hbt]; decide), HD.out]
            rw [hbt] at RB
            clear hbt
            go_wp2_with fail
            clear rK
            refine RB.out.mono ?_
            rintro e w15 ⟨rfl, b15⟩
            have BW15 := Lib.hid (bAB.trans (b15.mono bAB.size))
            have HA1 := Lib.hid (HA1b.on b15)
            have HBz := Lib.hid (HB0.on b15)
            clear b15 bAB HA1b HB0 RB
            have rA := HA1.out.row lH
            have rB := HBz.out.row lD
            have tA := HA1.out.there lH
            have nAB : ab ≠ bb := fun e => by have := ABB.out; omega
            have tB := (HBz.out.others (fun e => nAB e.symm) 0 (hc D)).there lD
            go_upto_region 16 with fail
            clear rA rB tA tB
            have bS : Below wr.heap.size wr ((w15.setCells ab 0 (hc D)).setCells bb 0 (hc h)) := below_setCells' bb BBL.out (hc h) 0 (below_setCells' ab ABL.out (hc D) 0 BW15.out)
            have HA2 := Lib.hid ((HA1.out.put lH lD).others nAB 0 (hc h))
            have HB2 := Lib.hid ((HBz.out.others (fun e => nAB e.symm) 0 (hc D)).put lD lH)
            have TX2 := Lib.hid (TX.out.on bS)
            have HH2 := Lib.hid (HB1.out.on bS)
            have SZ2 : Hid (wr.heap.size ≤ ((w15.setCells ab 0 (hc D)).setCells bb 0 (hc h)).heap.size) := bS.size
            clear bS HA1 HBz nAB TX HB1
            generalize (w15.setCells ab 0 (hc D)).setCells bb 0 (hc h) = w16 at *
            have hla := hc_len D
            have hlb := hc_len h
            have rA := HA2.out.row lD
            have rB := HB2.out.row lH0
            have AT := Lib.hid (AboveText_any (w := w16) (A := D) (B := h) lD lH0)
            go_wp2_with fail
            clear rA rB
            refine AT.out.mono ?_
            rintro e w20 ⟨q20, n20, c20, rfl, f20⟩
            have F20 := Lib.hid f20
            have b20 : Below w16.heap.size w16 (w20.alloc (.cells #[.slice q20 n20 c20] 82)) := f20.below.trans ((Below.refl w20.heap.size w20).alloc (Nat.le_refl _) _ |>.mono f20.below.size)
            obtain ⟨dn, od⟩ := TX2.out
            have OW : Hid ((w20.alloc (.cells #[.slice q20 n20 c20] 82)).ownsRow 0 82 1 (.slice q Ls.length c) Ls.length dn) := (od.on PBs_ok b20).own
            have HA3 := Lib.hid (HA2.out.on b20)
            have HB3 := Lib.hid (HB2.out.on b20)
            have HH3 := Lib.hid (HH2.out.on b20)
            have SR := Lib.hid (one_src (q := q20) (n := n20) (c := c20) w20)
            have nle : Ls.length ≤ 300 := by have := HN.out.1; omega
            go_wp2_with (at_builtin; refine wpList_append_row rfl _ _ rfl Tryd.underlying61 hi.out hz0.out hz1.out hz2.out rfl OW.out SR.out ?b1 ?b2 ?_)
            case b1 => unfold maxLen; omega
            case b2 => omega
            intro q21 k21 w21 own21 grow21 fr21
            have c21 : Chg (w20.alloc (.cells #[.slice q20 n20 c20] 82)) w21 (Value.slice q Ls.length c).ownBlock.toList := Chg.grown grow21 (fun g hg => by simp [hg])
            have nE : ∀ (bk : Nat) (G : List Int), HashAt (w20.alloc (.cells #[.slice q20 n20 c20] 82)) bk G → bk ∉ (Value.slice q Ls.length c).ownBlock.toList := fun bk G hG hm => own_ne OW.out hG (by decide) (by simpa using hm)
            have HA4 := Lib.hid (HA3.out.chg' c21 (nE _ _ HA3.out))
            have HB4 := Lib.hid (HB3.out.chg' c21 (nE _ _ HB3.out))
            have HH4 := Lib.hid (HH3.out.chg' c21 (nE _ _ HH3.out))
            have TX4 : Hid (TxS N w1 w21 (.slice q21 (Ls.length + 1) k21) (Ls ++ [frm (sn pairS) [D, h]])) := TxS.more od (by have := NSZ.out; have := SZ2.out; omega) F20.out own21 grow21 (by first | exact fr21 | simpa using fr21)
            have NS4 : Hid (N ≤ w21.heap.size) := by have := NSZ.out; have := SZ2.out; have := b20.size; have := c21.size; show _ ≤ _; omega
            clear own21 grow21 fr21 c21 nE HA3 HB3 HH3 OW SR od F20 b20 AT HA2 HB2 HH2 TX2
            go_upto_region 17 with fail
            have rA := HA4.out.row lD
            have rB := HB4.out.row lH0
            have AB := Lib.hid (refAbove_any (w := w21) (A := D) (B := h) lD lH0 BD.out BHH.out)
            have lX := abH_len D h
            obtain ⟨X, hX⟩ : ∃ X, abH D h = X := ⟨_, rfl⟩
            rw [hX] at AB lX
            have HX := Lib.hid hX
            clear hX
            go_wp2_with fail
            refine AB.out.mono ?_
            rintro e w22 ⟨rfl, b22⟩
            have HH5 := HH4.out.on b22
            have th := HH5.there lH0
            have hlX := hc_len X
            have H23 := Lib.hid (HH5.put lH0 lX)
            have c23 : Chg w22 (w22.setCells hb 0 (hc X)) [hb] := (Chg.refl w22 [hb]).setCells (b := hb) (.inl (by simp)) (hc X) 0
            have TX23 := Lib.hid ((TX4.out.on b22).hash HH5 c23 HBN.out HBW.out)
            have NS5 : Hid (N ≤ (w22.setCells hb 0 (hc X)).heap.size) := by have := NS4.out; have := b22.size; have := c23.size; show _ ≤ _; omega
            clear b22 c23 AB rA rB HH5
            go_wp2_with fail
            go_roundw
            case rel =>
              have e1 : Ls ++ [frm (sn pairS) [D, h]] = wayT K V M Ss (k + 1) := by rw [wayT, ← HN.out.2, HHV.out, HI.out, HPR.out]
              have e2 : X = upS K M Ss (lfH K V) (k + 1) := by rw [upS, HHV.out, HI.out, HST.out, HX.out]
              have e9 : (Ls ++ [frm (sn pairS) [D, h]]).length = Ls.length + 1 := by rw [List.length_append]; rfl
              have TX9 := TX23.out
              rw [← e9] at TX9
              exact ⟨k + 1, cx, q21, k21, Ls ++ [frm (sn pairS) [D, h]], by have := hi0.out; rw [← this]; go_num, by omega, rfl, by show cx = _; rw [HCX.out]; congr 1; have := HI.out; omega, by rw [e9], ⟨by rw [List.length_append, HN.out.1]; rfl, e1⟩, TX9, by rw [← e2]; exact H23, NS5⟩
            case measure => simp [intOf] <;> omega

    · have hneg : ¬ (0 : Int) ≤ 255 - (k : Int) := by omega
      obtain rfl : k = 256 := by omega
      have e1 := HN.out.2
      have TXe := Lib.hid (TX.out.base B1.out NLE.out)
      clear lH BHH
      go_wp2_with fail
      go_ret
      exact ⟨q, c, by rw [← e1]; rfl, by rw [← e1]; exact TXe.out⟩
end Go.Proofs.YtjlodnecdngdfaaDoor
