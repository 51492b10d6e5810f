/-
  BookChecks: the walk. Two strings are unlike and have one digest: the program's answer is the document's.
-/
import Derived.Test.YtimcjnocmbbahaaDoorBookKnows
import Derived.Test.YtimcjnocmbbahaaDoorRefSum2
namespace Go.Proofs.YtimcjnocmbbahaaDoor
open Go.RowKit
set_option maxRecDepth 100000

theorem beq_strB {s t : ByteArray} : (s.toList == t.toList) = decide (s = t) := by
  by_cases h : s = t
  · subst h; simp
  · rw [decide_eq_false h, beq_eq_false_iff_ne]
    intro e
    rw [Lib.toList_data, Lib.toList_data] at e
    exact h (ByteArray.ext (Array.toList_inj.1 e))
theorem str_injB : ∀ {xs ys : List Int}, Bytes xs → Bytes ys → strOfNums xs = strOfNums ys → xs = ys := by
  intro xs ys bx bY h
  have h4 := congrArg (fun t : ByteArray => t.data.toList) h
  simp only [strOfNums_data] at h4
  have hl : xs.length = ys.length := by simpa using congrArg List.length h4
  apply List.ext_getElem hl
  intro i h1 h2
  have e := congrArg (fun l => l[i]?) h4
  simp only [List.getElem?_map, List.getElem?_eq_getElem h1, List.getElem?_eq_getElem h2, Option.map_some, Option.some.injEq] at e
  have hx := bx _ (List.getElem_mem h1)
  have hy := bY _ (List.getElem_mem h2)
  have e2 := congrArg UInt8.toNat e
  simp only [UInt8.toNat_ofNat'] at e2
  omega
theorem ne_str {xs ys : List Int} (bx : Bytes xs) (bY : Bytes ys) (h : xs ≠ ys) : ((strOfNums xs).toList == (strOfNums ys).toList) = false := by
  rw [beq_strB]; exact decide_eq_false fun e => h (str_injB bx bY e)
/-- Two unlike strings with one digest. -/
def cls (xs ys : List Int) : Bool := if xs = ys then false else sha xs == sha ys

theorem Equal_any {w : World} {u v : Value} {xs ys : List Int} (hu : Rd w u xs) (hv : Rd w v ys) (bx : Bytes xs) (bY : Bytes ys) :
    Calls Tryd.prog 23 #[u, v] w fun e w' => e = .returned (.bool (decide (xs = ys))) ∧ w' = w := by
  have ca := hu.str (P := Tryd.prog) Tryd.underlying22 Tryd.underlying5 Tryd.underlying9
  have cb := hv.str (P := Tryd.prog) Tryd.underlying22 Tryd.underlying5 Tryd.underlying9
  obtain ⟨q, c, rfl⟩ := hu.len
  obtain ⟨q2, c2, rfl⟩ := hv.len
  by_cases h : xs = ys
  · subst h
    rw [decide_eq_true rfl]
    clear hu hv
    go_enter Tryd.func23, Tryd.ntmps23
    go_wp2_with fail
    go_ret
    exact ⟨rfl, rfl⟩
  · have ds := ne_str bx bY h
    rw [decide_eq_false h]
    clear hu hv h
    go_enter Tryd.func23, Tryd.ntmps23
    go_wp2_with fail
    go_ret
    exact ⟨rfl, rfl⟩
theorem Check_any {w : World} {u v : Value} {xs ys : List Int} (hu : RdC w u xs) (hv : RdC w v ys) (bx : Bytes xs) (bY : Bytes ys) (hT : Tbl w) :
    Calls Tryd.prog 7 #[u, v] w fun e w' => e = .returned (.bool (cls xs ys)) ∧ Below w.heap.size w w' := by
  have HE := Lib.hid (Equal_any hu.rd hv.rd bx bY)
  have HU := Lib.hid hu
  have HV := Lib.hid hv
  have HT := Lib.hid hT
  have lx := sha_len xs
  have ly := sha_len ys
  clear hu hv hT
  go_enter Tryd.func7, Tryd.ntmps7
  go_wp2_with fail
  refine HE.out.mono ?_
  rintro e w1 ⟨rfl, hw1⟩
  obtain rfl := hw1.symm
  clear hw1
  by_cases h : xs = ys
  · rw [decide_eq_true h]
    have hc : cls xs ys = false := by unfold cls; rw [if_pos h]
    have HC := Lib.hid hc
    clear h hc
    go_wp2_with fail
    go_ret
    exact ⟨by rw [HC.out]; rfl, Below.refl _ _⟩
  · rw [decide_eq_false h]
    have hc : cls xs ys = (sha xs == sha ys) := by unfold cls; rw [if_neg h]
    have HC := Lib.hid hc
    clear h hc
    go_wp2_with fail
    refine (Sum_any HU.out bx HT.out).mono ?_
    rintro e w2 ⟨rfl, hb2⟩
    go_wp2_with fail
    refine (Sum_any (rdc_onK HV.out hb2) bY (HT.out.on hb2 HT.out.pos)).mono ?_
    rintro e w3 ⟨rfl, hb3⟩
    have B3 := Lib.hid (hb2.trans (hb3.mono hb2.size))
    clear hb2 hb3
    generalize sha xs = X at *
    generalize sha ys = Y at *
    go_wp2_with fail
    go_ret
    exact ⟨by rw [HC.out]; rfl, B3.out⟩
theorem refCheck_any {w : World} {u v : Value} {xs ys : List Int} (hu : Rd w u xs) (hv : Rd w v ys) (bx : Bytes xs) (bY : Bytes ys) (lx0 : xs.length ≤ 4000) (ly0 : ys.length ≤ 4000) :
    Calls Tryd.prog 8 #[u, v] w fun e w' => e = .returned (.bool (cls xs ys)) ∧ Below w.heap.size w w' := by
  have ca := hu.str (P := Tryd.prog) Tryd.underlying22 Tryd.underlying5 Tryd.underlying9
  have cb := hv.str (P := Tryd.prog) Tryd.underlying22 Tryd.underlying5 Tryd.underlying9
  have HU := Lib.hid hu
  have HV := Lib.hid hv
  have lx := sha_len xs
  have ly := sha_len ys
  obtain ⟨q, c, rfl⟩ := hu.len
  obtain ⟨q2, c2, rfl⟩ := hv.len
  clear hu hv
  by_cases h : xs = ys
  · have hc : cls xs ys = false := by unfold cls; rw [if_pos h]
    rw [hc]
    subst h
    go_enter Tryd.func8, Tryd.ntmps8
    go_wp2_with fail
    go_ret
    exact ⟨rfl, Below.refl _ _⟩
  · have hc : cls xs ys = (sha xs == sha ys) := by unfold cls; rw [if_neg h]
    rw [hc]
    have ds := ne_str bx bY h
    clear h hc
    go_enter Tryd.func8, Tryd.ntmps8
    go_wp2_with fail
    refine (refSum_any HU.out bx (by omega)).mono ?_
    rintro e w2 ⟨rfl, hb2⟩
    go_wp2_with fail
    refine (refSum_any (HV.out.on hb2) bY (by omega)).mono ?_
    rintro e w3 ⟨rfl, hb3⟩
    have B3 := Lib.hid (hb2.trans (hb3.mono hb2.size))
    clear hb2 hb3
    go_wp2_with fail
    go_ret
    exact ⟨rfl, B3.out⟩

set_option maxHeartbeats 4000000 in
theorem BookChecks_walk {w : World} {u v : Value} {xs ys : List Int} (hu : Rd w u xs) (hv : Rd w v ys) (bx : Bytes xs) (bY : Bytes ys) (hxl : xs.length ≤ maxLen) (hyl : ys.length ≤ maxLen) (hT : Tbl w) :
    Calls Tryd.prog 3 #[u, v] w fun e w' => e = .returned (.bool true) ∧ Below w.heap.size w w' := by
  obtain ⟨q, c, rfl⟩ := hu.len
  obtain ⟨q2, c2, rfl⟩ := hv.len
  have HU := Lib.hid hu
  have HV := Lib.hid hv
  have HT := Lib.hid hT
  have BX := Lib.hid bx
  have BY := Lib.hid bY
  unfold maxLen at hxl hyl
  clear hu hv hT bx bY
  go_enter Tryd.func3, Tryd.ntmps3
  by_cases k1 : 4000 < xs.length
  · go_wp2_with fail
    refine (knows_any HT.out).mono ?_
    rintro e w1 ⟨rfl, hb⟩
    go_wp2_with fail
    go_ret
    exact ⟨rfl, hb⟩
  by_cases k2 : 4000 < ys.length
  · go_wp2_with fail
    refine (knows_any HT.out).mono ?_
    rintro e w1 ⟨rfl, hb⟩
    go_wp2_with fail
    go_ret
    exact ⟨rfl, hb⟩
  go_wp2_with fail
  refine (Lent_any HU.out (by omega)).mono ?_
  rintro e w1 ⟨x, rfl, hx, hb1⟩
  have HX := Lib.hid hx
  have B1 := Lib.hid hb1
  clear hx hb1
  go_wp2_with fail
  refine (Lent_any (HV.out.on B1.out) (by omega)).mono ?_
  rintro e w2 ⟨y, rfl, hy, hb2⟩
  have HX2 := Lib.hid (HX.out.on hb2)
  have HY2 := Lib.hid hy
  have B2 := Lib.hid (B1.out.trans (hb2.mono B1.out.size))
  have HT2 := Lib.hid (HT.out.on B2.out HT.out.pos)
  clear hy hb2 HX B1
  go_wp2_with fail
  refine (Check_any HX2.out.rdc HY2.out.rdc BX.out BY.out HT2.out).mono ?_
  rintro e w3 ⟨rfl, hb3⟩
  have HX3 := Lib.hid (HX2.out.on hb3)
  have B3 := Lib.hid (B2.out.trans (hb3.mono B2.out.size))
  clear hb3 HX2 HY2 B2 HT2
  go_wp2_with fail
  refine (refCheck_any (HU.out.on B3.out) (HV.out.on B3.out) BX.out BY.out (by omega) (by omega)).mono ?_
  rintro e w4 ⟨rfl, hb4⟩
  have HX4 := Lib.hid (HX3.out.on hb4)
  have B4 := Lib.hid (B3.out.trans (hb4.mono B3.out.size))
  have HT4 := Lib.hid (HT.out.on B4.out HT.out.pos)
  clear hb4 HX3 B3
  obtain ⟨b, hb⟩ : ∃ b, cls xs ys = b := ⟨_, rfl⟩
  rw [hb]
  clear hb
  have hcc : cls xs xs = false := by unfold cls; rw [if_pos rfl]
  have HC := Lib.hid (Check_any HX4.out.rdc HX4.out.rdc BX.out BX.out HT4.out)
  rw [hcc] at HC
  cases b
  all_goals
    go_wp2_with fail
    refine HC.out.mono ?_
    rintro e w5 ⟨rfl, hb5⟩
    have HX5 := Lib.hid (HX4.out.on hb5)
    have B5 := Lib.hid (B4.out.trans (hb5.mono B4.out.size))
    clear hb5 HX4 B4 HT4 HC
    go_wp2_with fail
    refine (Stays_any HX5.out (HU.out.on B5.out) (by omega)).mono ?_
    rintro e w6 ⟨rfl, hb6⟩
    have B6 := Lib.hid (B5.out.trans (hb6.mono B5.out.size))
    clear hb6 HX5 B5
    go_wp2_with fail
    refine (knows_any (HT.out.on B6.out HT.out.pos)).mono ?_
    rintro e w7 ⟨rfl, hb7⟩
    have B7 := Lib.hid (B6.out.trans (hb7.mono B6.out.size))
    clear hb7 B6
    go_wp2_with fail
    go_ret
    exact ⟨rfl, B7.out⟩
end Go.Proofs.YtimcjnocmbbahaaDoor
