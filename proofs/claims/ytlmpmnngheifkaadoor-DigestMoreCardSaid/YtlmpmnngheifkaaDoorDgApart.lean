/-
  DigestApart returns true for every two tags and lists of parts of at most 1048576 values, and leaves its arguments: two frames are the same just if their tags and all their parts are.
-/
import Derived.Test.YtlmpmnngheifkaaDoorDgLent
import Derived.Test.YtlmpmnngheifkaaDoorDgKnows
namespace Go.Proofs.YtlmpmnngheifkaaDoor
open Go.RowKit
set_option maxRecDepth 100000

/-! ### Frames tell their tags and parts -/
theorem blobs_inj : ∀ {L M : List (List Int)}, (∀ b ∈ L, b.length < 18446744073709551616) → (∀ b ∈ M, b.length < 18446744073709551616) → blobs L = blobs M → L = M
  | [], [], _, _, _ => rfl
  | [], b :: M, _, _, h => by simp [blobs, be8] at h
  | a :: L, [], _, _, h => by simp [blobs, be8] at h
  | a :: L, b :: M, hL, hM, h => by
    simp only [blobs, List.flatMap_cons, List.append_assoc] at h
    have h1 := List.append_inj_left h (by simp)
    have h2 := List.append_inj_right h (by simp)
    have ha := hL a (by simp)
    have hb := hM b (by simp)
    have e := congrArg num h1
    rw [num_be8 (by omega) (by omega), num_be8 (by omega) (by omega)] at e
    have hl : a.length = b.length := by omega
    have h3 := List.append_inj_left h2 hl
    have h4 := List.append_inj_right h2 hl
    rw [h3, blobs_inj (L := L) (M := M) (fun x hx => hL x (by simp [hx])) (fun x hx => hM x (by simp [hx])) h4]
theorem frm_inj {t u : List Int} {L M : List (List Int)} (hL : ∀ b ∈ L, b.length < 18446744073709551616) (hM : ∀ b ∈ M, b.length < 18446744073709551616) (h : frm t L = frm u M) : t = u ∧ L = M := by
  unfold frm at h
  simp only [List.cons_append, List.cons.injEq] at h
  have hl : t.length = u.length := by omega
  have h1 := List.append_inj_left h.2 hl
  have h2 := List.append_inj_right h.2 hl
  exact ⟨h1, blobs_inj hL hM h2⟩
theorem blobs_eight : ∀ L : List (List Int), 8 * L.length ≤ (blobs L).length
  | [] => by simp [blobs]
  | b :: L => by have := blobs_eight L; simp [blobs] at this ⊢; omega
theorem getD_len_le (L : List (List Int)) (i : Nat) : (L.getD i []).length ≤ (blobs L).length := by
  by_cases h : i < L.length
  · have := blobs_len h
    have := blobs_le L (i + 1)
    omega
  · have : L.getD i [] = [] := by simp [List.getD, h]
    rw [this]; simp
theorem mem_len_le {L : List (List Int)} {b : List Int} (h : b ∈ L) : b.length ≤ (blobs L).length := by
  obtain ⟨i, hi, rfl⟩ := List.getElem_of_mem h
  have := getD_len_le L i
  simpa [List.getD, hi] using this
theorem str_inj {xs ys : List Int} (hx : Bytes xs) (hy : Bytes ys) (e : xs.map (fun n => UInt8.ofNat n.toNat) = ys.map (fun n => UInt8.ofNat n.toNat)) : xs = ys := by
  induction xs generalizing ys with
  | nil => cases ys with
    | nil => rfl
    | cons y ys => simp at e
  | cons x xs ih => cases ys with
    | nil => simp at e
    | cons y ys =>
      simp only [List.map_cons, List.cons.injEq] at e
      have h1 := hx x (by simp)
      have h2 := hy y (by simp)
      have e1 := congrArg UInt8.toNat e.1
      rw [UInt8.toNat_ofNat', UInt8.toNat_ofNat'] at e1
      have := ih (ys := ys) (fun z hz => hx z (by simp [hz])) (fun z hz => hy z (by simp [hz])) e.2
      rw [this]
      congr 1
      omega
theorem str_ne {xs ys : List Int} (hx : Bytes xs) (hy : Bytes ys) (h : ¬ xs = ys) : ((strOfNums xs).toList == (strOfNums ys).toList) = false := by
  rw [Bool.eq_false_iff]
  intro e
  have e1 : (strOfNums xs).toList = (strOfNums ys).toList := eq_of_beq e
  rw [Lib.toList_data, Lib.toList_data, strOfNums_data, strOfNums_data] at e1
  exact h (str_inj hx hy e1)
theorem PtS.rdl {w w' : World} {L : List (List Int)} {v : Value} {vs : List Value} (h : PtS w w' L L.length v vs) : RdL w' v L [] := by
  rcases h.own.2 with ⟨rfl, h0⟩ | ⟨g, cap, cur, rfl, _, hg, _, _, _, htake⟩
  · have : L = [] := List.eq_nil_of_length_eq_zero h0
    subst this
    exact ⟨none, 0, rfl, .inl rfl⟩
  · refine ⟨_, cap, rfl, .inr ⟨g, 0, rfl, by simp, fun i hi => ?_⟩⟩
    have hv : i < vs.length := by rw [h.len]; exact hi
    refine ⟨vs[i], ?_, ?_, by simp⟩
    · have := h.own.cells (g := g) rfl i vs[i] (by simp [hv])
      rw [addr_add] at this
      exact this
    · exact rd_of_row ((h.each i vs[i] (by simp [hv])).1)

theorem RdL.onb {w W : World} {v : Value} {L : List (List Int)} (h : RdL w v L []) (hb : Below w.heap.size w W) : RdL W v L [] := h.chg (Chg.below hb (Nat.le_refl _) [])
/-- What the loop finds out. -/
def Alike (sa sb : ByteArray) (L M : List (List Int)) (i : Nat) : Prop := sa = sb ∧ L.length = M.length ∧ ∀ j, j < i → L.getD j [] = M.getD j []
def Sm (sm : Bool) (sa sb : ByteArray) (L M : List (List Int)) (i : Nat) : Prop := sm = true ↔ Alike sa sb L M i
theorem alike_all {sa sb : ByteArray} {L M : List (List Int)} (h : Alike sa sb L M L.length) : sa = sb ∧ L = M := by
  refine ⟨h.1, List.ext_getElem? fun i => ?_⟩
  by_cases hi : i < L.length
  · have := h.2.2 i hi
    have hm : i < M.length := by have := h.2.1; omega
    simp only [List.getD, hi, hm, List.getElem?_eq_getElem, Option.getD_some] at this
    simp [hi, hm, this]
  · rw [List.getElem?_eq_none (by omega), List.getElem?_eq_none (by have := h.2.1; omega)]
theorem not_alike {sa sb : ByteArray} {L M : List (List Int)} {i : Nat} (h : ¬ Alike sa sb L M i) : ¬ (sa = sb ∧ L = M) := by
  rintro ⟨rfl, rfl⟩
  exact h ⟨rfl, rfl, fun _ _ => rfl⟩
theorem alike_succ {sa sb : ByteArray} {L M : List (List Int)} {i : Nat} (h : Alike sa sb L M i) (e : L.getD i [] = M.getD i []) : Alike sa sb L M (i + 1) :=
  ⟨h.1, h.2.1, fun j hj => by by_cases hji : j = i; (· subst hji; exact e); (· exact h.2.2 j (by omega))⟩

set_option maxHeartbeats 8000000 in
theorem Apart_walk {w : World} {sa sb : ByteArray} {va vb : Value} {L M : List (List Int)} (ha : sa.size ≤ maxLen) (hb : sb.size ≤ maxLen) (hL : RdL w va L []) (hM : RdL w vb M []) (bL : ∀ b ∈ L, Bytes b) (bM : ∀ b ∈ M, Bytes b)
    (lL : (blobs L).length ≤ 10000000000000) (lM : (blobs M).length ≤ 10000000000000) (hT : Tbl w) :
    Calls Tryd.prog 7 #[.string sa, va, .string sb, vb] w fun e w' => e = .returned (.bool true) ∧ Below w.heap.size w w' := by
  unfold maxLen at ha hb
  obtain ⟨q, c, rfl⟩ : ∃ q c, va = .slice q L.length c := by obtain ⟨q, c, e, _⟩ := hL; exact ⟨q, c, e⟩
  obtain ⟨q', c', rfl⟩ : ∃ q c, vb = .slice q M.length c := by obtain ⟨q, c, e, _⟩ := hM; exact ⟨q, c, e⟩
  have HL := Lib.hid hL
  have HM := Lib.hid hM
  have BL := Lib.hid bL
  have BM := Lib.hid bM
  have HT := Lib.hid hT
  have l8 := blobs_eight L
  have m8 := blobs_eight M
  have LL := Lib.hid lL
  have LM := Lib.hid lM
  have hln : L.length ≤ 1250000000000 := by omega
  have hmn : M.length ≤ 1250000000000 := by omega
  clear hL hM bL bM hT lL lM l8 m8
  go_enter Tryd.func7, Tryd.ntmps7
  by_cases ha2 : sa.size ≤ 255
  · by_cases hb2 : sb.size ≤ 255
    · have d1 : decide (255 < (sa.size : Int)) = false := by rw [decide_eq_false_iff_not]; omega
      have d2 : decide (255 < (sb.size : Int)) = false := by rw [decide_eq_false_iff_not]; omega
      obtain ⟨b1, b2, e1, e2, e3, H0⟩ : ∃ b1 b2 : Bool, (sa.toList == sb.toList) = b1 ∧ ((L.length : Int) == (M.length : Int)) = b2 ∧ (L.length == M.length) = b2 ∧ Hid (Sm (b1 && b2) sa sb L M 0) := by
        refine ⟨_, _, rfl, rfl, by rw [Bool.eq_iff_iff]; simp; omega, ?_⟩
        show (_ = true ↔ _)
        simp only [Bool.and_eq_true, beq_iff_eq, Alike]
        constructor
        · rintro ⟨h1, h2⟩
          rw [Lib.toList_data, Lib.toList_data] at h1
          exact ⟨ByteArray.ext (Array.ext' h1), by omega, fun j hj => by omega⟩
        · rintro ⟨h1, h2, -⟩
          exact ⟨by rw [h1], by omega⟩
      cases b1 <;> cases b2
      all_goals
        go_wp2_with fail
        clear e1 e2 e3
        go_loopw [9, 10] (fun sv iv wr => ∃ (i : Nat) (sm : Bool), iv = .int .i64 i ∧ sv = .bool sm ∧ i ≤ L.length ∧ Hid (Sm sm sa sb L M i) ∧ Hid (Below w.heap.size w wr)) (fun _ iv _ => L.length - (intOf iv).toNat)
        case atStart => exact ⟨0, _, rfl, rfl, by omega, H0, Below.refl _ _⟩
        case round =>
          clear H0
          obtain ⟨i, sm, rfl, rfl, hi, hs, hB⟩ := hrel
          by_cases hgo : i < L.length ∧ sm = true
          · obtain ⟨hlt, rfl⟩ := hgo
            have hal : Alike sa sb L M i := hs.out.1 rfl
            have hlm : i < M.length := by have := hal.2.1; omega
            obtain ⟨b, off, r, m, k, -, rfl, -, hc1, rfl, hr1, -⟩ := HL.out.at hlt
            obtain ⟨b', off', r', m', k', -, rfl, -, hc2, rfl, hr2, -⟩ := HM.out.at hlm
            have HC1 := Lib.hid hc1
            have HC2 := Lib.hid hc2
            have HR1 := Lib.hid hr1
            have HR2 := Lib.hid hr2
            have hx1 : Bytes (L.getD i []) := BL.out _ (by simp [List.getD, hlt])
            have hx2 : Bytes (M.getD i []) := BM.out _ (by simp [List.getD, hlm])
            have i0 : (0 : Int) ≤ (i : Int) := by omega
            have i1 : (i : Int) < (L.length : Int) := by omega
            have i2 : (i : Int) < (M.length : Int) := by omega
            have HAL := Lib.hid hal
            clear hc1 hc2 hr1 hr2 hs hal
            by_cases hxy : L.getD i [] = M.getD i []
            · have HN : Hid (Sm true sa sb L M (i + 1)) := Lib.hid (show Sm true sa sb L M (i + 1) from ⟨fun _ => alike_succ HAL.out hxy, fun _ => rfl⟩)
              rw [← hxy] at HC2 HR2
              clear hxy hx1 hx2
              generalize L.getD i [] = x at HC1 HC2 HR1 HR2
              go_wp2_with fail
              refine wp_region_held_drew (S := fun W => Below w.heap.size w W) (by kernel_rfl) (hB.out.drew) (fun h0 => ?_)
              refine wpAnyH_take (i := 0) (v := ?_) (by rw [List.getElem?_toArray]; rfl) (by kernel_rfl) (by kernel_rfl) (by kernel_rfl) (by exact fun _ _ _ h => h) (Or.inl ⟨by rfl, ?_⟩) h0 ?_
              rotate_left
              · intro W hW
                go_simp
                all_goals with_reducible rfl
              try simp only [Act.put, List.setIfInBounds_toArray, List.set_cons_zero, List.set_cons_succ]
              refine wpAnyH_take (i := 1) (v := ?_) (by rw [List.getElem?_toArray]; rfl) (by kernel_rfl) (by kernel_rfl) (by kernel_rfl) (by exact fun _ _ _ h => h) (Or.inl ⟨by rfl, ?_⟩) h0 ?_
              rotate_left
              · intro W hW
                go_simp
                all_goals with_reducible rfl
              try simp only [Act.put, List.setIfInBounds_toArray, List.set_cons_zero, List.set_cons_succ]
              refine wpAnyH_take (i := 2) (v := ?_) (by rw [List.getElem?_toArray]; rfl) (by kernel_rfl) (by kernel_rfl) (by kernel_rfl) (by exact fun _ _ _ h => h) (Or.inl ⟨by rfl, ?_⟩) h0 ?_
              rotate_left
              · intro W hW
                go_simp
                all_goals with_reducible rfl
              try simp only [Act.put, List.setIfInBounds_toArray, List.set_cons_zero, List.set_cons_succ]
              refine wpAnyH_take (i := 3) (v := ?_) (by rw [List.getElem?_toArray]; rfl) (by kernel_rfl) (by kernel_rfl) (by kernel_rfl) (by exact fun _ _ _ h => h) (Or.inl ⟨by rfl, ?_⟩) h0 ?_
              rotate_left
              · intro W hW
                have cc := old hW HC1.out
                go_simp
                all_goals with_reducible rfl
              try simp only [Act.put, List.setIfInBounds_toArray, List.set_cons_zero, List.set_cons_succ]
              refine wpAnyH_take (i := 4) (v := ?_) (by rw [List.getElem?_toArray]; rfl) (by kernel_rfl) (by kernel_rfl) (by kernel_rfl) (by exact fun _ _ _ h => h) (Or.inl ⟨by rfl, ?_⟩) h0 ?_
              rotate_left
              · intro W hW
                have ca := (HR1.out.on hW).str (P := Tryd.prog) Tryd.underlying22 Tryd.underlying5 Tryd.underlying9
                go_simp
                all_goals with_reducible rfl
              try simp only [Act.put, List.setIfInBounds_toArray, List.set_cons_zero, List.set_cons_succ]
              refine wpAnyH_take (i := 5) (v := ?_) (by rw [List.getElem?_toArray]; rfl) (by kernel_rfl) (by kernel_rfl) (by kernel_rfl) (by exact fun _ _ _ h => h) (Or.inl ⟨by rfl, ?_⟩) h0 ?_
              rotate_left
              · intro W hW
                go_simp
                all_goals with_reducible rfl
              try simp only [Act.put, List.setIfInBounds_toArray, List.set_cons_zero, List.set_cons_succ]
              refine wpAnyH_take (i := 6) (v := ?_) (by rw [List.getElem?_toArray]; rfl) (by kernel_rfl) (by kernel_rfl) (by kernel_rfl) (by exact fun _ _ _ h => h) (Or.inl ⟨by rfl, ?_⟩) h0 ?_
              rotate_left
              · intro W hW
                go_simp
                all_goals with_reducible rfl
              try simp only [Act.put, List.setIfInBounds_toArray, List.set_cons_zero, List.set_cons_succ]
              refine wpAnyH_take (i := 7) (v := ?_) (by rw [List.getElem?_toArray]; rfl) (by kernel_rfl) (by kernel_rfl) (by kernel_rfl) (by exact fun _ _ _ h => h) (Or.inl ⟨by rfl, ?_⟩) h0 ?_
              rotate_left
              · intro W hW
                go_simp
                all_goals with_reducible rfl
              try simp only [Act.put, List.setIfInBounds_toArray, List.set_cons_zero, List.set_cons_succ]
              refine wpAnyH_take (i := 8) (v := ?_) (by rw [List.getElem?_toArray]; rfl) (by kernel_rfl) (by kernel_rfl) (by kernel_rfl) (by exact fun _ _ _ h => h) (Or.inl ⟨by rfl, ?_⟩) h0 ?_
              rotate_left
              · intro W hW
                have cc := old hW HC2.out
                go_simp
                all_goals with_reducible rfl
              try simp only [Act.put, List.setIfInBounds_toArray, List.set_cons_zero, List.set_cons_succ]
              refine wpAnyH_take (i := 9) (v := ?_) (by rw [List.getElem?_toArray]; rfl) (by kernel_rfl) (by kernel_rfl) (by kernel_rfl) (by exact fun _ _ _ h => h) (Or.inl ⟨by rfl, ?_⟩) h0 ?_
              rotate_left
              · intro W hW
                have ca := (HR2.out.on hW).str (P := Tryd.prog) Tryd.underlying22 Tryd.underlying5 Tryd.underlying9
                go_simp
                all_goals with_reducible rfl
              try simp only [Act.put, List.setIfInBounds_toArray, List.set_cons_zero, List.set_cons_succ]
              refine wpAnyH_take (i := 10) (v := ?_) (by rw [List.getElem?_toArray]; rfl) (by kernel_rfl) (by kernel_rfl) (by kernel_rfl) (by exact fun _ _ _ h => h) (Or.inl ⟨by rfl, ?_⟩) h0 ?_
              rotate_left
              · intro W hW
                go_simp
                all_goals with_reducible rfl
              try simp only [Act.put, List.setIfInBounds_toArray, List.set_cons_zero, List.set_cons_succ]
              refine wpAnyH_take (i := 11) (v := ?_) (by rw [List.getElem?_toArray]; rfl) (by kernel_rfl) (by kernel_rfl) (by kernel_rfl) (by exact fun _ _ _ h => h) (Or.inl ⟨by rfl, ?_⟩) h0 ?_
              rotate_left
              · intro W hW
                go_simp
                all_goals with_reducible rfl
              try simp only [Act.put, List.setIfInBounds_toArray, List.set_cons_zero, List.set_cons_succ]
              refine wpAnyH_done (by kernel_rfl) ?_ _
              go_wp2_with fail
              go_roundw
              case rel => exact ⟨i + 1, true, by go_num, rfl, by omega, HN, hB.out.drew⟩
              case measure => simp [intOf]; omega
            · have HN : Hid (Sm false sa sb L M (i + 1)) := Lib.hid (show Sm false sa sb L M (i + 1) from ⟨(fun h => Bool.noConfusion h), (fun h => absurd (h.2.2 i (by omega)) hxy)⟩)
              have hne := str_ne hx1 hx2 hxy
              clear hxy hx1 hx2
              generalize L.getD i [] = x at HC1 HR1 hne
              generalize M.getD i [] = y at HC2 HR2 hne
              go_wp2_with fail
              refine wp_region_held_drew (S := fun W => Below w.heap.size w W) (by kernel_rfl) (hB.out.drew) (fun h0 => ?_)
              refine wpAnyH_take (i := 0) (v := ?_) (by rw [List.getElem?_toArray]; rfl) (by kernel_rfl) (by kernel_rfl) (by kernel_rfl) (by exact fun _ _ _ h => h) (Or.inl ⟨by rfl, ?_⟩) h0 ?_
              rotate_left
              · intro W hW
                go_simp
                all_goals with_reducible rfl
              try simp only [Act.put, List.setIfInBounds_toArray, List.set_cons_zero, List.set_cons_succ]
              refine wpAnyH_take (i := 1) (v := ?_) (by rw [List.getElem?_toArray]; rfl) (by kernel_rfl) (by kernel_rfl) (by kernel_rfl) (by exact fun _ _ _ h => h) (Or.inl ⟨by rfl, ?_⟩) h0 ?_
              rotate_left
              · intro W hW
                go_simp
                all_goals with_reducible rfl
              try simp only [Act.put, List.setIfInBounds_toArray, List.set_cons_zero, List.set_cons_succ]
              refine wpAnyH_take (i := 2) (v := ?_) (by rw [List.getElem?_toArray]; rfl) (by kernel_rfl) (by kernel_rfl) (by kernel_rfl) (by exact fun _ _ _ h => h) (Or.inl ⟨by rfl, ?_⟩) h0 ?_
              rotate_left
              · intro W hW
                go_simp
                all_goals with_reducible rfl
              try simp only [Act.put, List.setIfInBounds_toArray, List.set_cons_zero, List.set_cons_succ]
              refine wpAnyH_take (i := 3) (v := ?_) (by rw [List.getElem?_toArray]; rfl) (by kernel_rfl) (by kernel_rfl) (by kernel_rfl) (by exact fun _ _ _ h => h) (Or.inl ⟨by rfl, ?_⟩) h0 ?_
              rotate_left
              · intro W hW
                have cc := old hW HC1.out
                go_simp
                all_goals with_reducible rfl
              try simp only [Act.put, List.setIfInBounds_toArray, List.set_cons_zero, List.set_cons_succ]
              refine wpAnyH_take (i := 4) (v := ?_) (by rw [List.getElem?_toArray]; rfl) (by kernel_rfl) (by kernel_rfl) (by kernel_rfl) (by exact fun _ _ _ h => h) (Or.inl ⟨by rfl, ?_⟩) h0 ?_
              rotate_left
              · intro W hW
                have ca := (HR1.out.on hW).str (P := Tryd.prog) Tryd.underlying22 Tryd.underlying5 Tryd.underlying9
                go_simp
                all_goals with_reducible rfl
              try simp only [Act.put, List.setIfInBounds_toArray, List.set_cons_zero, List.set_cons_succ]
              refine wpAnyH_take (i := 5) (v := ?_) (by rw [List.getElem?_toArray]; rfl) (by kernel_rfl) (by kernel_rfl) (by kernel_rfl) (by exact fun _ _ _ h => h) (Or.inl ⟨by rfl, ?_⟩) h0 ?_
              rotate_left
              · intro W hW
                go_simp
                all_goals with_reducible rfl
              try simp only [Act.put, List.setIfInBounds_toArray, List.set_cons_zero, List.set_cons_succ]
              refine wpAnyH_take (i := 6) (v := ?_) (by rw [List.getElem?_toArray]; rfl) (by kernel_rfl) (by kernel_rfl) (by kernel_rfl) (by exact fun _ _ _ h => h) (Or.inl ⟨by rfl, ?_⟩) h0 ?_
              rotate_left
              · intro W hW
                go_simp
                all_goals with_reducible rfl
              try simp only [Act.put, List.setIfInBounds_toArray, List.set_cons_zero, List.set_cons_succ]
              refine wpAnyH_take (i := 7) (v := ?_) (by rw [List.getElem?_toArray]; rfl) (by kernel_rfl) (by kernel_rfl) (by kernel_rfl) (by exact fun _ _ _ h => h) (Or.inl ⟨by rfl, ?_⟩) h0 ?_
              rotate_left
              · intro W hW
                go_simp
                all_goals with_reducible rfl
              try simp only [Act.put, List.setIfInBounds_toArray, List.set_cons_zero, List.set_cons_succ]
              refine wpAnyH_take (i := 8) (v := ?_) (by rw [List.getElem?_toArray]; rfl) (by kernel_rfl) (by kernel_rfl) (by kernel_rfl) (by exact fun _ _ _ h => h) (Or.inl ⟨by rfl, ?_⟩) h0 ?_
              rotate_left
              · intro W hW
                have cc := old hW HC2.out
                go_simp
                all_goals with_reducible rfl
              try simp only [Act.put, List.setIfInBounds_toArray, List.set_cons_zero, List.set_cons_succ]
              refine wpAnyH_take (i := 9) (v := ?_) (by rw [List.getElem?_toArray]; rfl) (by kernel_rfl) (by kernel_rfl) (by kernel_rfl) (by exact fun _ _ _ h => h) (Or.inl ⟨by rfl, ?_⟩) h0 ?_
              rotate_left
              · intro W hW
                have ca := (HR2.out.on hW).str (P := Tryd.prog) Tryd.underlying22 Tryd.underlying5 Tryd.underlying9
                go_simp
                all_goals with_reducible rfl
              try simp only [Act.put, List.setIfInBounds_toArray, List.set_cons_zero, List.set_cons_succ]
              refine wpAnyH_take (i := 10) (v := ?_) (by rw [List.getElem?_toArray]; rfl) (by kernel_rfl) (by kernel_rfl) (by kernel_rfl) (by exact fun _ _ _ h => h) (Or.inl ⟨by rfl, ?_⟩) h0 ?_
              rotate_left
              · intro W hW
                go_simp
                all_goals with_reducible rfl
              try simp only [Act.put, List.setIfInBounds_toArray, List.set_cons_zero, List.set_cons_succ]
              refine wpAnyH_take (i := 11) (v := ?_) (by rw [List.getElem?_toArray]; rfl) (by kernel_rfl) (by kernel_rfl) (by kernel_rfl) (by exact fun _ _ _ h => h) (Or.inl ⟨by rfl, ?_⟩) h0 ?_
              rotate_left
              · intro W hW
                go_simp
                all_goals with_reducible rfl
              try simp only [Act.put, List.setIfInBounds_toArray, List.set_cons_zero, List.set_cons_succ]
              refine wpAnyH_done (by kernel_rfl) ?_ _
              go_wp2_with fail
              go_roundw
              case rel => exact ⟨i + 1, false, by go_num, rfl, by omega, HN, hB.out.drew⟩
              case measure => simp [intOf]; omega
          · have hE : Hid (sm = true ↔ sa = sb ∧ L = M) := by
              have hs0 : (sm = true ↔ Alike sa sb L M i) := hs.out
              constructor
              · rintro rfl
                have : i = L.length := by
                  have : ¬ i < L.length := fun h => hgo ⟨h, rfl⟩
                  omega
                subst this
                exact alike_all (hs0.1 rfl)
              · intro h
                rw [hs0]
                rcases h with ⟨rfl, rfl⟩
                exact ⟨rfl, rfl, fun _ _ => rfl⟩
            clear hs
            have hcond : (decide ((i : Int) < (L.length : Int)) && sm) = false := by
              rw [Bool.and_eq_false_iff]
              by_cases h : i < L.length
              · right
                cases hsm : sm with
                | false => rfl
                | true => exact absurd ⟨h, hsm⟩ hgo
              · left
                rw [decide_eq_false_iff_not]; omega
            have hcond2 : i < L.length → sm = false := fun h => by
              cases hsm : sm with
              | false => rfl
              | true => exact absurd ⟨h, hsm⟩ hgo
            have HCO := Lib.hid hcond2
            clear hgo hcond2
            by_cases hil : i < L.length
            · obtain rfl := HCO.out hil
              clear HCO hcond
              have hNE : Hid (¬ (sa = sb ∧ L = M)) := fun h => Bool.noConfusion (hE.out.2 h)
              clear hE
              have HX := Lib.hid (frm_bytes (sn_bytes sa) (by rw [sn_len]; exact ha2) BL.out)
              have HY := Lib.hid (frm_bytes (sn_bytes sb) (by rw [sn_len]; exact hb2) BM.out)
              have hXY := str_ne HX.out HY.out (fun h => hNE.out (by
                obtain ⟨h1, h2⟩ := frm_inj (fun b hb => by have := mem_len_le hb; have := LL.out; omega) (fun b hb => by have := mem_len_le hb; have := LM.out; omega) h
                exact ⟨sn_inj h1, h2⟩))
              obtain ⟨X, hX⟩ : ∃ X, frm (sn sa) L = X := ⟨_, rfl⟩
              obtain ⟨Y, hY⟩ : ∃ Y, frm (sn sb) M = Y := ⟨_, rfl⟩
              rw [hX, hY] at hXY
              have EX := Lib.hid hX
              have EY := Lib.hid hY
              clear hX hY HX HY hNE
              go_wp2_with fail
              refine wp_region_held_drew (S := fun W => Below w.heap.size w W ∧ True) (by kernel_rfl) (⟨hB.out.drew, trivial⟩) (fun h0 => ?_)
              refine wpAnyH_take (i := 0) (v := ?_) (by rw [List.getElem?_toArray]; rfl) (by kernel_rfl) (by kernel_rfl) (by kernel_rfl) (by exact fun _ _ _ h => h) (Or.inl ⟨by rfl, ?_⟩) h0 ?_
              rotate_left
              · intro W hW
                go_simp
                all_goals with_reducible rfl
              try simp only [Act.put, List.setIfInBounds_toArray, List.set_cons_zero, List.set_cons_succ]
              refine wpAnyH_take (i := 1) (v := ?_) (by rw [List.getElem?_toArray]; rfl) (by kernel_rfl) (by kernel_rfl) (by kernel_rfl) (by exact fun _ _ _ h => h) (Or.inl ⟨by rfl, ?_⟩) h0 ?_
              rotate_left
              · intro W hW
                go_simp
                all_goals with_reducible rfl
              try simp only [Act.put, List.setIfInBounds_toArray, List.set_cons_zero, List.set_cons_succ]
              refine wpAnyH_take (i := 5) (v := ?_) (by rw [List.getElem?_toArray]; rfl) (by kernel_rfl) (by kernel_rfl) (by kernel_rfl) (by exact fun _ _ _ h => h) (Or.inl ⟨by rfl, ?_⟩) h0 ?_
              rotate_left
              · intro W hW
                go_simp
                all_goals with_reducible rfl
              try simp only [Act.put, List.setIfInBounds_toArray, List.set_cons_zero, List.set_cons_succ]
              refine wpAnyH_take (i := 6) (v := ?_) (by rw [List.getElem?_toArray]; rfl) (by kernel_rfl) (by kernel_rfl) (by kernel_rfl) (by exact fun _ _ _ h => h) (Or.inl ⟨by rfl, ?_⟩) h0 ?_
              rotate_left
              · intro W hW
                go_simp
                all_goals with_reducible rfl
              try simp only [Act.put, List.setIfInBounds_toArray, List.set_cons_zero, List.set_cons_succ]
              refine wpAnyH_take (i := 11) (v := ?_) (by rw [List.getElem?_toArray]; rfl) (by kernel_rfl) (by kernel_rfl) (by kernel_rfl) (by exact fun _ _ _ h => h) (Or.inl ⟨by rfl, ?_⟩) h0 ?_
              rotate_left
              · intro W hW
                go_simp
                all_goals with_reducible rfl
              try simp only [Act.put, List.setIfInBounds_toArray, List.set_cons_zero, List.set_cons_succ]
              refine wpAnyH_ready (rs := [2]) (by kernel_rfl) (by simp) ?_
              refine AllReadyH.cons (by rw [List.getElem?_toArray]; rfl) (fun K hK => ?_) AllReadyH.nil
              rw [if_pos (by rfl)]
              go_wp2_with fail
              refine (Parts_any (HL.out.onb h0.1) (by omega) (fun i => by have := getD_len_le L i; have := LL.out; omega)).mono ?_
              rintro e wp1 ⟨vp1, vs1, rfl, hp1⟩
              have RP1 := Lib.hid hp1.rdl
              have hbp1 := hp1.below
              obtain ⟨qp1, cp1, rfl⟩ := own_slice hp1.own
              clear hp1
              go_wp2_with fail
              refine hK.out _ _ (⟨h0.1.trans (hbp1.mono h0.1.size), trivial⟩) (fun h2 => ?_)
              clear hK K
              try simp only [Act.put, List.setIfInBounds_toArray, List.set_cons_zero, List.set_cons_succ]
              clear hbp1
              refine wpAnyH_ready (rs := [3]) (by kernel_rfl) (by simp) ?_
              refine AllReadyH.cons (by rw [List.getElem?_toArray]; rfl) (fun K hK => ?_) AllReadyH.nil
              rw [if_pos (by rfl)]
              have KF1 := Frame_any (s := sa) RP1.out ha2 (by rw [frm_len, sn_len]; have := LL.out; omega)
              rw [EX.out] at KF1
              go_wp2_with fail
              refine KF1.mono ?_
              rintro e wf1 ⟨rfl, hr1, hbf1⟩
              have RF1 := Lib.hid (rdc_of_rw hr1).rd
              clear KF1 hr1
              go_wp2_with fail
              refine hK.out _ _ (⟨h2.1.trans (hbf1.mono h2.1.size), trivial⟩) (fun h3 => ?_)
              clear hK K
              try simp only [Act.put, List.setIfInBounds_toArray, List.set_cons_zero, List.set_cons_succ]
              clear hbf1
              refine wpAnyH_strong (S' := fun W => Below w.heap.size w W ∧ Rd W (.slice (some ⟨wp1.heap.size, 0, none⟩) X.length X.length) X) (fun _ h => ⟨h.1, trivial⟩) ?_
              refine wpAnyH_take (i := 4) (v := ?_) (by rw [List.getElem?_toArray]; rfl) (by kernel_rfl) (by kernel_rfl) (by kernel_rfl) (by exact fun _ _ _ h => h) (Or.inl ⟨by rfl, ?_⟩) ⟨h3.1, RF1.out⟩ ?_
              rotate_left
              · intro W hW
                have ca := (hW.2).str (P := Tryd.prog) Tryd.underlying22 Tryd.underlying5 Tryd.underlying9
                go_simp
                all_goals with_reducible rfl
              try simp only [Act.put, List.setIfInBounds_toArray, List.set_cons_zero, List.set_cons_succ]
              refine wpAnyH_ready (rs := [7]) (by kernel_rfl) (by simp) ?_
              refine AllReadyH.cons (by rw [List.getElem?_toArray]; rfl) (fun K hK => ?_) AllReadyH.nil
              have hx7 := h3.1
              rw [if_pos (by rfl)]
              go_wp2_with fail
              refine (Parts_any (HM.out.onb hx7) (by omega) (fun i => by have := getD_len_le M i; have := LM.out; omega)).mono ?_
              rintro e wp2 ⟨vp2, vs2, rfl, hp2⟩
              have RP2 := Lib.hid hp2.rdl
              have hbp2 := hp2.below
              obtain ⟨qp2, cp2, rfl⟩ := own_slice hp2.own
              clear hp2
              go_wp2_with fail
              refine hK.out _ _ (⟨h3.1.trans (hbp2.mono h3.1.size), RF1.out.on hbp2⟩) (fun h7 => ?_)
              clear hK K
              try simp only [Act.put, List.setIfInBounds_toArray, List.set_cons_zero, List.set_cons_succ]
              clear hbp2 hx7
              refine wpAnyH_ready (rs := [8]) (by kernel_rfl) (by simp) ?_
              refine AllReadyH.cons (by rw [List.getElem?_toArray]; rfl) (fun K hK => ?_) AllReadyH.nil
              rw [if_pos (by rfl)]
              have KF2 := Frame_any (s := sb) RP2.out hb2 (by rw [frm_len, sn_len]; have := LM.out; omega)
              rw [EY.out] at KF2
              go_wp2_with fail
              refine KF2.mono ?_
              rintro e wf2 ⟨rfl, hr2, hbf2⟩
              have RF2 := Lib.hid (rdc_of_rw hr2).rd
              clear KF2 hr2
              go_wp2_with fail
              refine hK.out _ _ (⟨h7.1.trans (hbf2.mono h7.1.size), h7.2.on hbf2⟩) (fun h8 => ?_)
              clear hK K
              try simp only [Act.put, List.setIfInBounds_toArray, List.set_cons_zero, List.set_cons_succ]
              clear hbf2
              refine wpAnyH_strong (S' := fun W => Below w.heap.size w W ∧ Rd W (.slice (some ⟨wp1.heap.size, 0, none⟩) X.length X.length) X ∧ Rd W (.slice (some ⟨wp2.heap.size, 0, none⟩) Y.length Y.length) Y) (fun _ h => ⟨h.1, h.2.1⟩) ?_
              refine wpAnyH_take (i := 9) (v := ?_) (by rw [List.getElem?_toArray]; rfl) (by kernel_rfl) (by kernel_rfl) (by kernel_rfl) (by exact fun _ _ _ h => h) (Or.inl ⟨by rfl, ?_⟩) ⟨h8.1, h8.2, RF2.out⟩ ?_
              rotate_left
              · intro W hW
                have ca := (hW.2.2).str (P := Tryd.prog) Tryd.underlying22 Tryd.underlying5 Tryd.underlying9
                go_simp
                all_goals with_reducible rfl
              try simp only [Act.put, List.setIfInBounds_toArray, List.set_cons_zero, List.set_cons_succ]
              refine wpAnyH_take (i := 10) (v := ?_) (by rw [List.getElem?_toArray]; rfl) (by kernel_rfl) (by kernel_rfl) (by kernel_rfl) (by exact fun _ _ _ h => h) (Or.inl ⟨by rfl, ?_⟩) ⟨h8.1, h8.2, RF2.out⟩ ?_
              rotate_left
              · intro W hW
                go_simp
                all_goals with_reducible rfl
              try simp only [Act.put, List.setIfInBounds_toArray, List.set_cons_zero, List.set_cons_succ]
              refine wpAnyH_take (i := 12) (v := ?_) (by rw [List.getElem?_toArray]; rfl) (by kernel_rfl) (by kernel_rfl) (by kernel_rfl) (by exact fun _ _ _ h => h) (Or.inl ⟨by rfl, ?_⟩) ⟨h8.1, h8.2, RF2.out⟩ ?_
              rotate_left
              · intro W hW
                go_simp
                all_goals with_reducible rfl
              try simp only [Act.put, List.setIfInBounds_toArray, List.set_cons_zero, List.set_cons_succ]
              refine wpAnyH_take (i := 13) (v := ?_) (by rw [List.getElem?_toArray]; rfl) (by kernel_rfl) (by kernel_rfl) (by kernel_rfl) (by exact fun _ _ _ h => h) (Or.inl ⟨by rfl, ?_⟩) ⟨h8.1, h8.2, RF2.out⟩ ?_
              rotate_left
              · intro W hW
                go_simp
                all_goals with_reducible rfl
              try simp only [Act.put, List.setIfInBounds_toArray, List.set_cons_zero, List.set_cons_succ]
              refine wpAnyH_ready (rs := [14]) (by kernel_rfl) (by simp) ?_
              refine AllReadyH.cons (by rw [List.getElem?_toArray]; rfl) (fun K hK => ?_) AllReadyH.nil
              rw [if_pos (by rfl)]
              go_wp2_with fail
              refine (knows_any (HT.out.on h8.1 HT.out.pos)).mono ?_
              rintro e wk ⟨rfl, hbk⟩
              go_wp2_with fail
              refine hK.out _ _ (⟨h8.1.trans (hbk.mono h8.1.size), h8.2.on hbk, RF2.out.on hbk⟩) (fun h14 => ?_)
              clear hK K
              try simp only [Act.put, List.setIfInBounds_toArray, List.set_cons_zero, List.set_cons_succ]
              refine wpAnyH_take (i := 15) (v := ?_) (by rw [List.getElem?_toArray]; rfl) (by kernel_rfl) (by kernel_rfl) (by kernel_rfl) (by exact fun _ _ _ h => h) (Or.inl ⟨by rfl, ?_⟩) h14 ?_
              rotate_left
              · intro W hW
                go_simp
                all_goals with_reducible rfl
              try simp only [Act.put, List.setIfInBounds_toArray, List.set_cons_zero, List.set_cons_succ]
              refine wpAnyH_take (i := 16) (v := ?_) (by rw [List.getElem?_toArray]; rfl) (by kernel_rfl) (by kernel_rfl) (by kernel_rfl) (by exact fun _ _ _ h => h) (Or.inl ⟨by rfl, ?_⟩) h14 ?_
              rotate_left
              · intro W hW
                go_simp
                all_goals with_reducible rfl
              try simp only [Act.put, List.setIfInBounds_toArray, List.set_cons_zero, List.set_cons_succ]
              refine wpAnyH_done (by kernel_rfl) ?_ _
              go_wp2_with fail
              go_ret
              exact ⟨rfl, h14.1⟩
            · obtain rfl : i = L.length := by omega
              clear HCO hcond hil
              cases sm with
              | false =>
                have hNE : Hid (¬ (sa = sb ∧ L = M)) := fun h => Bool.noConfusion (hE.out.2 h)
                clear hE
                have HX := Lib.hid (frm_bytes (sn_bytes sa) (by rw [sn_len]; exact ha2) BL.out)
                have HY := Lib.hid (frm_bytes (sn_bytes sb) (by rw [sn_len]; exact hb2) BM.out)
                have hXY := str_ne HX.out HY.out (fun h => hNE.out (by
                  obtain ⟨h1, h2⟩ := frm_inj (fun b hb => by have := mem_len_le hb; have := LL.out; omega) (fun b hb => by have := mem_len_le hb; have := LM.out; omega) h
                  exact ⟨sn_inj h1, h2⟩))
                obtain ⟨X, hX⟩ : ∃ X, frm (sn sa) L = X := ⟨_, rfl⟩
                obtain ⟨Y, hY⟩ : ∃ Y, frm (sn sb) M = Y := ⟨_, rfl⟩
                rw [hX, hY] at hXY
                have EX := Lib.hid hX
                have EY := Lib.hid hY
                clear hX hY HX HY hNE
                go_wp2_with fail
                refine wp_region_held_drew (S := fun W => Below w.heap.size w W ∧ True) (by kernel_rfl) (⟨hB.out.drew, trivial⟩) (fun h0 => ?_)
                refine wpAnyH_take (i := 0) (v := ?_) (by rw [List.getElem?_toArray]; rfl) (by kernel_rfl) (by kernel_rfl) (by kernel_rfl) (by exact fun _ _ _ h => h) (Or.inl ⟨by rfl, ?_⟩) h0 ?_
                rotate_left
                · intro W hW
                  go_simp
                  all_goals with_reducible rfl
                try simp only [Act.put, List.setIfInBounds_toArray, List.set_cons_zero, List.set_cons_succ]
                refine wpAnyH_take (i := 1) (v := ?_) (by rw [List.getElem?_toArray]; rfl) (by kernel_rfl) (by kernel_rfl) (by kernel_rfl) (by exact fun _ _ _ h => h) (Or.inl ⟨by rfl, ?_⟩) h0 ?_
                rotate_left
                · intro W hW
                  go_simp
                  all_goals with_reducible rfl
                try simp only [Act.put, List.setIfInBounds_toArray, List.set_cons_zero, List.set_cons_succ]
                refine wpAnyH_take (i := 5) (v := ?_) (by rw [List.getElem?_toArray]; rfl) (by kernel_rfl) (by kernel_rfl) (by kernel_rfl) (by exact fun _ _ _ h => h) (Or.inl ⟨by rfl, ?_⟩) h0 ?_
                rotate_left
                · intro W hW
                  go_simp
                  all_goals with_reducible rfl
                try simp only [Act.put, List.setIfInBounds_toArray, List.set_cons_zero, List.set_cons_succ]
                refine wpAnyH_take (i := 6) (v := ?_) (by rw [List.getElem?_toArray]; rfl) (by kernel_rfl) (by kernel_rfl) (by kernel_rfl) (by exact fun _ _ _ h => h) (Or.inl ⟨by rfl, ?_⟩) h0 ?_
                rotate_left
                · intro W hW
                  go_simp
                  all_goals with_reducible rfl
                try simp only [Act.put, List.setIfInBounds_toArray, List.set_cons_zero, List.set_cons_succ]
                refine wpAnyH_take (i := 11) (v := ?_) (by rw [List.getElem?_toArray]; rfl) (by kernel_rfl) (by kernel_rfl) (by kernel_rfl) (by exact fun _ _ _ h => h) (Or.inl ⟨by rfl, ?_⟩) h0 ?_
                rotate_left
                · intro W hW
                  go_simp
                  all_goals with_reducible rfl
                try simp only [Act.put, List.setIfInBounds_toArray, List.set_cons_zero, List.set_cons_succ]
                refine wpAnyH_ready (rs := [2]) (by kernel_rfl) (by simp) ?_
                refine AllReadyH.cons (by rw [List.getElem?_toArray]; rfl) (fun K hK => ?_) AllReadyH.nil
                rw [if_pos (by rfl)]
                go_wp2_with fail
                refine (Parts_any (HL.out.onb h0.1) (by omega) (fun i => by have := getD_len_le L i; have := LL.out; omega)).mono ?_
                rintro e wp1 ⟨vp1, vs1, rfl, hp1⟩
                have RP1 := Lib.hid hp1.rdl
                have hbp1 := hp1.below
                obtain ⟨qp1, cp1, rfl⟩ := own_slice hp1.own
                clear hp1
                go_wp2_with fail
                refine hK.out _ _ (⟨h0.1.trans (hbp1.mono h0.1.size), trivial⟩) (fun h2 => ?_)
                clear hK K
                try simp only [Act.put, List.setIfInBounds_toArray, List.set_cons_zero, List.set_cons_succ]
                clear hbp1
                refine wpAnyH_ready (rs := [3]) (by kernel_rfl) (by simp) ?_
                refine AllReadyH.cons (by rw [List.getElem?_toArray]; rfl) (fun K hK => ?_) AllReadyH.nil
                rw [if_pos (by rfl)]
                have KF1 := Frame_any (s := sa) RP1.out ha2 (by rw [frm_len, sn_len]; have := LL.out; omega)
                rw [EX.out] at KF1
                go_wp2_with fail
                refine KF1.mono ?_
                rintro e wf1 ⟨rfl, hr1, hbf1⟩
                have RF1 := Lib.hid (rdc_of_rw hr1).rd
                clear KF1 hr1
                go_wp2_with fail
                refine hK.out _ _ (⟨h2.1.trans (hbf1.mono h2.1.size), trivial⟩) (fun h3 => ?_)
                clear hK K
                try simp only [Act.put, List.setIfInBounds_toArray, List.set_cons_zero, List.set_cons_succ]
                clear hbf1
                refine wpAnyH_strong (S' := fun W => Below w.heap.size w W ∧ Rd W (.slice (some ⟨wp1.heap.size, 0, none⟩) X.length X.length) X) (fun _ h => ⟨h.1, trivial⟩) ?_
                refine wpAnyH_take (i := 4) (v := ?_) (by rw [List.getElem?_toArray]; rfl) (by kernel_rfl) (by kernel_rfl) (by kernel_rfl) (by exact fun _ _ _ h => h) (Or.inl ⟨by rfl, ?_⟩) ⟨h3.1, RF1.out⟩ ?_
                rotate_left
                · intro W hW
                  have ca := (hW.2).str (P := Tryd.prog) Tryd.underlying22 Tryd.underlying5 Tryd.underlying9
                  go_simp
                  all_goals with_reducible rfl
                try simp only [Act.put, List.setIfInBounds_toArray, List.set_cons_zero, List.set_cons_succ]
                refine wpAnyH_ready (rs := [7]) (by kernel_rfl) (by simp) ?_
                refine AllReadyH.cons (by rw [List.getElem?_toArray]; rfl) (fun K hK => ?_) AllReadyH.nil
                have hx7 := h3.1
                rw [if_pos (by rfl)]
                go_wp2_with fail
                refine (Parts_any (HM.out.onb hx7) (by omega) (fun i => by have := getD_len_le M i; have := LM.out; omega)).mono ?_
                rintro e wp2 ⟨vp2, vs2, rfl, hp2⟩
                have RP2 := Lib.hid hp2.rdl
                have hbp2 := hp2.below
                obtain ⟨qp2, cp2, rfl⟩ := own_slice hp2.own
                clear hp2
                go_wp2_with fail
                refine hK.out _ _ (⟨h3.1.trans (hbp2.mono h3.1.size), RF1.out.on hbp2⟩) (fun h7 => ?_)
                clear hK K
                try simp only [Act.put, List.setIfInBounds_toArray, List.set_cons_zero, List.set_cons_succ]
                clear hbp2 hx7
                refine wpAnyH_ready (rs := [8]) (by kernel_rfl) (by simp) ?_
                refine AllReadyH.cons (by rw [List.getElem?_toArray]; rfl) (fun K hK => ?_) AllReadyH.nil
                rw [if_pos (by rfl)]
                have KF2 := Frame_any (s := sb) RP2.out hb2 (by rw [frm_len, sn_len]; have := LM.out; omega)
                rw [EY.out] at KF2
                go_wp2_with fail
                refine KF2.mono ?_
                rintro e wf2 ⟨rfl, hr2, hbf2⟩
                have RF2 := Lib.hid (rdc_of_rw hr2).rd
                clear KF2 hr2
                go_wp2_with fail
                refine hK.out _ _ (⟨h7.1.trans (hbf2.mono h7.1.size), h7.2.on hbf2⟩) (fun h8 => ?_)
                clear hK K
                try simp only [Act.put, List.setIfInBounds_toArray, List.set_cons_zero, List.set_cons_succ]
                clear hbf2
                refine wpAnyH_strong (S' := fun W => Below w.heap.size w W ∧ Rd W (.slice (some ⟨wp1.heap.size, 0, none⟩) X.length X.length) X ∧ Rd W (.slice (some ⟨wp2.heap.size, 0, none⟩) Y.length Y.length) Y) (fun _ h => ⟨h.1, h.2.1⟩) ?_
                refine wpAnyH_take (i := 9) (v := ?_) (by rw [List.getElem?_toArray]; rfl) (by kernel_rfl) (by kernel_rfl) (by kernel_rfl) (by exact fun _ _ _ h => h) (Or.inl ⟨by rfl, ?_⟩) ⟨h8.1, h8.2, RF2.out⟩ ?_
                rotate_left
                · intro W hW
                  have ca := (hW.2.2).str (P := Tryd.prog) Tryd.underlying22 Tryd.underlying5 Tryd.underlying9
                  go_simp
                  all_goals with_reducible rfl
                try simp only [Act.put, List.setIfInBounds_toArray, List.set_cons_zero, List.set_cons_succ]
                refine wpAnyH_take (i := 10) (v := ?_) (by rw [List.getElem?_toArray]; rfl) (by kernel_rfl) (by kernel_rfl) (by kernel_rfl) (by exact fun _ _ _ h => h) (Or.inl ⟨by rfl, ?_⟩) ⟨h8.1, h8.2, RF2.out⟩ ?_
                rotate_left
                · intro W hW
                  go_simp
                  all_goals with_reducible rfl
                try simp only [Act.put, List.setIfInBounds_toArray, List.set_cons_zero, List.set_cons_succ]
                refine wpAnyH_take (i := 12) (v := ?_) (by rw [List.getElem?_toArray]; rfl) (by kernel_rfl) (by kernel_rfl) (by kernel_rfl) (by exact fun _ _ _ h => h) (Or.inl ⟨by rfl, ?_⟩) ⟨h8.1, h8.2, RF2.out⟩ ?_
                rotate_left
                · intro W hW
                  go_simp
                  all_goals with_reducible rfl
                try simp only [Act.put, List.setIfInBounds_toArray, List.set_cons_zero, List.set_cons_succ]
                refine wpAnyH_take (i := 13) (v := ?_) (by rw [List.getElem?_toArray]; rfl) (by kernel_rfl) (by kernel_rfl) (by kernel_rfl) (by exact fun _ _ _ h => h) (Or.inl ⟨by rfl, ?_⟩) ⟨h8.1, h8.2, RF2.out⟩ ?_
                rotate_left
                · intro W hW
                  go_simp
                  all_goals with_reducible rfl
                try simp only [Act.put, List.setIfInBounds_toArray, List.set_cons_zero, List.set_cons_succ]
                refine wpAnyH_ready (rs := [14]) (by kernel_rfl) (by simp) ?_
                refine AllReadyH.cons (by rw [List.getElem?_toArray]; rfl) (fun K hK => ?_) AllReadyH.nil
                rw [if_pos (by rfl)]
                go_wp2_with fail
                refine (knows_any (HT.out.on h8.1 HT.out.pos)).mono ?_
                rintro e wk ⟨rfl, hbk⟩
                go_wp2_with fail
                refine hK.out _ _ (⟨h8.1.trans (hbk.mono h8.1.size), h8.2.on hbk, RF2.out.on hbk⟩) (fun h14 => ?_)
                clear hK K
                try simp only [Act.put, List.setIfInBounds_toArray, List.set_cons_zero, List.set_cons_succ]
                refine wpAnyH_take (i := 15) (v := ?_) (by rw [List.getElem?_toArray]; rfl) (by kernel_rfl) (by kernel_rfl) (by kernel_rfl) (by exact fun _ _ _ h => h) (Or.inl ⟨by rfl, ?_⟩) h14 ?_
                rotate_left
                · intro W hW
                  go_simp
                  all_goals with_reducible rfl
                try simp only [Act.put, List.setIfInBounds_toArray, List.set_cons_zero, List.set_cons_succ]
                refine wpAnyH_take (i := 16) (v := ?_) (by rw [List.getElem?_toArray]; rfl) (by kernel_rfl) (by kernel_rfl) (by kernel_rfl) (by exact fun _ _ _ h => h) (Or.inl ⟨by rfl, ?_⟩) h14 ?_
                rotate_left
                · intro W hW
                  go_simp
                  all_goals with_reducible rfl
                try simp only [Act.put, List.setIfInBounds_toArray, List.set_cons_zero, List.set_cons_succ]
                refine wpAnyH_done (by kernel_rfl) ?_ _
                go_wp2_with fail
                go_ret
                exact ⟨rfl, h14.1⟩
              | true =>
                obtain ⟨X, hX⟩ : ∃ X, frm (sn sa) L = X := ⟨_, rfl⟩
                have EX := Lib.hid hX
                have EY : Hid (frm (sn sb) M = X) := by
                  obtain ⟨h1, h2⟩ := hE.out.1 rfl
                  show _ = _
                  rw [← h1, ← h2]; exact hX
                clear hX hE
                go_wp2_with fail
                refine wp_region_held_drew (S := fun W => Below w.heap.size w W ∧ True) (by kernel_rfl) (⟨hB.out.drew, trivial⟩) (fun h0 => ?_)
                refine wpAnyH_take (i := 0) (v := ?_) (by rw [List.getElem?_toArray]; rfl) (by kernel_rfl) (by kernel_rfl) (by kernel_rfl) (by exact fun _ _ _ h => h) (Or.inl ⟨by rfl, ?_⟩) h0 ?_
                rotate_left
                · intro W hW
                  go_simp
                  all_goals with_reducible rfl
                try simp only [Act.put, List.setIfInBounds_toArray, List.set_cons_zero, List.set_cons_succ]
                refine wpAnyH_take (i := 1) (v := ?_) (by rw [List.getElem?_toArray]; rfl) (by kernel_rfl) (by kernel_rfl) (by kernel_rfl) (by exact fun _ _ _ h => h) (Or.inl ⟨by rfl, ?_⟩) h0 ?_
                rotate_left
                · intro W hW
                  go_simp
                  all_goals with_reducible rfl
                try simp only [Act.put, List.setIfInBounds_toArray, List.set_cons_zero, List.set_cons_succ]
                refine wpAnyH_take (i := 5) (v := ?_) (by rw [List.getElem?_toArray]; rfl) (by kernel_rfl) (by kernel_rfl) (by kernel_rfl) (by exact fun _ _ _ h => h) (Or.inl ⟨by rfl, ?_⟩) h0 ?_
                rotate_left
                · intro W hW
                  go_simp
                  all_goals with_reducible rfl
                try simp only [Act.put, List.setIfInBounds_toArray, List.set_cons_zero, List.set_cons_succ]
                refine wpAnyH_take (i := 6) (v := ?_) (by rw [List.getElem?_toArray]; rfl) (by kernel_rfl) (by kernel_rfl) (by kernel_rfl) (by exact fun _ _ _ h => h) (Or.inl ⟨by rfl, ?_⟩) h0 ?_
                rotate_left
                · intro W hW
                  go_simp
                  all_goals with_reducible rfl
                try simp only [Act.put, List.setIfInBounds_toArray, List.set_cons_zero, List.set_cons_succ]
                refine wpAnyH_take (i := 11) (v := ?_) (by rw [List.getElem?_toArray]; rfl) (by kernel_rfl) (by kernel_rfl) (by kernel_rfl) (by exact fun _ _ _ h => h) (Or.inl ⟨by rfl, ?_⟩) h0 ?_
                rotate_left
                · intro W hW
                  go_simp
                  all_goals with_reducible rfl
                try simp only [Act.put, List.setIfInBounds_toArray, List.set_cons_zero, List.set_cons_succ]
                refine wpAnyH_ready (rs := [2]) (by kernel_rfl) (by simp) ?_
                refine AllReadyH.cons (by rw [List.getElem?_toArray]; rfl) (fun K hK => ?_) AllReadyH.nil
                rw [if_pos (by rfl)]
                go_wp2_with fail
                refine (Parts_any (HL.out.onb h0.1) (by omega) (fun i => by have := getD_len_le L i; have := LL.out; omega)).mono ?_
                rintro e wp1 ⟨vp1, vs1, rfl, hp1⟩
                have RP1 := Lib.hid hp1.rdl
                have hbp1 := hp1.below
                obtain ⟨qp1, cp1, rfl⟩ := own_slice hp1.own
                clear hp1
                go_wp2_with fail
                refine hK.out _ _ (⟨h0.1.trans (hbp1.mono h0.1.size), trivial⟩) (fun h2 => ?_)
                clear hK K
                try simp only [Act.put, List.setIfInBounds_toArray, List.set_cons_zero, List.set_cons_succ]
                clear hbp1
                refine wpAnyH_ready (rs := [3]) (by kernel_rfl) (by simp) ?_
                refine AllReadyH.cons (by rw [List.getElem?_toArray]; rfl) (fun K hK => ?_) AllReadyH.nil
                rw [if_pos (by rfl)]
                have KF1 := Frame_any (s := sa) RP1.out ha2 (by rw [frm_len, sn_len]; have := LL.out; omega)
                rw [EX.out] at KF1
                go_wp2_with fail
                refine KF1.mono ?_
                rintro e wf1 ⟨rfl, hr1, hbf1⟩
                have RF1 := Lib.hid (rdc_of_rw hr1).rd
                clear KF1 hr1
                go_wp2_with fail
                refine hK.out _ _ (⟨h2.1.trans (hbf1.mono h2.1.size), trivial⟩) (fun h3 => ?_)
                clear hK K
                try simp only [Act.put, List.setIfInBounds_toArray, List.set_cons_zero, List.set_cons_succ]
                clear hbf1
                refine wpAnyH_strong (S' := fun W => Below w.heap.size w W ∧ Rd W (.slice (some ⟨wp1.heap.size, 0, none⟩) X.length X.length) X) (fun _ h => ⟨h.1, trivial⟩) ?_
                refine wpAnyH_take (i := 4) (v := ?_) (by rw [List.getElem?_toArray]; rfl) (by kernel_rfl) (by kernel_rfl) (by kernel_rfl) (by exact fun _ _ _ h => h) (Or.inl ⟨by rfl, ?_⟩) ⟨h3.1, RF1.out⟩ ?_
                rotate_left
                · intro W hW
                  have ca := (hW.2).str (P := Tryd.prog) Tryd.underlying22 Tryd.underlying5 Tryd.underlying9
                  go_simp
                  all_goals with_reducible rfl
                try simp only [Act.put, List.setIfInBounds_toArray, List.set_cons_zero, List.set_cons_succ]
                refine wpAnyH_ready (rs := [7]) (by kernel_rfl) (by simp) ?_
                refine AllReadyH.cons (by rw [List.getElem?_toArray]; rfl) (fun K hK => ?_) AllReadyH.nil
                have hx7 := h3.1
                rw [if_pos (by rfl)]
                go_wp2_with fail
                refine (Parts_any (HM.out.onb hx7) (by omega) (fun i => by have := getD_len_le M i; have := LM.out; omega)).mono ?_
                rintro e wp2 ⟨vp2, vs2, rfl, hp2⟩
                have RP2 := Lib.hid hp2.rdl
                have hbp2 := hp2.below
                obtain ⟨qp2, cp2, rfl⟩ := own_slice hp2.own
                clear hp2
                go_wp2_with fail
                refine hK.out _ _ (⟨h3.1.trans (hbp2.mono h3.1.size), RF1.out.on hbp2⟩) (fun h7 => ?_)
                clear hK K
                try simp only [Act.put, List.setIfInBounds_toArray, List.set_cons_zero, List.set_cons_succ]
                clear hbp2 hx7
                refine wpAnyH_ready (rs := [8]) (by kernel_rfl) (by simp) ?_
                refine AllReadyH.cons (by rw [List.getElem?_toArray]; rfl) (fun K hK => ?_) AllReadyH.nil
                rw [if_pos (by rfl)]
                have KF2 := Frame_any (s := sb) RP2.out hb2 (by rw [frm_len, sn_len]; have := LM.out; omega)
                rw [EY.out] at KF2
                go_wp2_with fail
                refine KF2.mono ?_
                rintro e wf2 ⟨rfl, hr2, hbf2⟩
                have RF2 := Lib.hid (rdc_of_rw hr2).rd
                clear KF2 hr2
                go_wp2_with fail
                refine hK.out _ _ (⟨h7.1.trans (hbf2.mono h7.1.size), h7.2.on hbf2⟩) (fun h8 => ?_)
                clear hK K
                try simp only [Act.put, List.setIfInBounds_toArray, List.set_cons_zero, List.set_cons_succ]
                clear hbf2
                refine wpAnyH_strong (S' := fun W => Below w.heap.size w W ∧ Rd W (.slice (some ⟨wp1.heap.size, 0, none⟩) X.length X.length) X ∧ Rd W (.slice (some ⟨wp2.heap.size, 0, none⟩) X.length X.length) X) (fun _ h => ⟨h.1, h.2.1⟩) ?_
                refine wpAnyH_take (i := 9) (v := ?_) (by rw [List.getElem?_toArray]; rfl) (by kernel_rfl) (by kernel_rfl) (by kernel_rfl) (by exact fun _ _ _ h => h) (Or.inl ⟨by rfl, ?_⟩) ⟨h8.1, h8.2, RF2.out⟩ ?_
                rotate_left
                · intro W hW
                  have ca := (hW.2.2).str (P := Tryd.prog) Tryd.underlying22 Tryd.underlying5 Tryd.underlying9
                  go_simp
                  all_goals with_reducible rfl
                try simp only [Act.put, List.setIfInBounds_toArray, List.set_cons_zero, List.set_cons_succ]
                refine wpAnyH_take (i := 10) (v := ?_) (by rw [List.getElem?_toArray]; rfl) (by kernel_rfl) (by kernel_rfl) (by kernel_rfl) (by exact fun _ _ _ h => h) (Or.inl ⟨by rfl, ?_⟩) ⟨h8.1, h8.2, RF2.out⟩ ?_
                rotate_left
                · intro W hW
                  go_simp
                  all_goals with_reducible rfl
                try simp only [Act.put, List.setIfInBounds_toArray, List.set_cons_zero, List.set_cons_succ]
                refine wpAnyH_take (i := 12) (v := ?_) (by rw [List.getElem?_toArray]; rfl) (by kernel_rfl) (by kernel_rfl) (by kernel_rfl) (by exact fun _ _ _ h => h) (Or.inl ⟨by rfl, ?_⟩) ⟨h8.1, h8.2, RF2.out⟩ ?_
                rotate_left
                · intro W hW
                  go_simp
                  all_goals with_reducible rfl
                try simp only [Act.put, List.setIfInBounds_toArray, List.set_cons_zero, List.set_cons_succ]
                refine wpAnyH_take (i := 13) (v := ?_) (by rw [List.getElem?_toArray]; rfl) (by kernel_rfl) (by kernel_rfl) (by kernel_rfl) (by exact fun _ _ _ h => h) (Or.inl ⟨by rfl, ?_⟩) ⟨h8.1, h8.2, RF2.out⟩ ?_
                rotate_left
                · intro W hW
                  go_simp
                  all_goals with_reducible rfl
                try simp only [Act.put, List.setIfInBounds_toArray, List.set_cons_zero, List.set_cons_succ]
                refine wpAnyH_ready (rs := [14]) (by kernel_rfl) (by simp) ?_
                refine AllReadyH.cons (by rw [List.getElem?_toArray]; rfl) (fun K hK => ?_) AllReadyH.nil
                rw [if_pos (by rfl)]
                go_wp2_with fail
                refine (knows_any (HT.out.on h8.1 HT.out.pos)).mono ?_
                rintro e wk ⟨rfl, hbk⟩
                go_wp2_with fail
                refine hK.out _ _ (⟨h8.1.trans (hbk.mono h8.1.size), h8.2.on hbk, RF2.out.on hbk⟩) (fun h14 => ?_)
                clear hK K
                try simp only [Act.put, List.setIfInBounds_toArray, List.set_cons_zero, List.set_cons_succ]
                refine wpAnyH_take (i := 15) (v := ?_) (by rw [List.getElem?_toArray]; rfl) (by kernel_rfl) (by kernel_rfl) (by kernel_rfl) (by exact fun _ _ _ h => h) (Or.inl ⟨by rfl, ?_⟩) h14 ?_
                rotate_left
                · intro W hW
                  go_simp
                  all_goals with_reducible rfl
                try simp only [Act.put, List.setIfInBounds_toArray, List.set_cons_zero, List.set_cons_succ]
                refine wpAnyH_take (i := 16) (v := ?_) (by rw [List.getElem?_toArray]; rfl) (by kernel_rfl) (by kernel_rfl) (by kernel_rfl) (by exact fun _ _ _ h => h) (Or.inl ⟨by rfl, ?_⟩) h14 ?_
                rotate_left
                · intro W hW
                  go_simp
                  all_goals with_reducible rfl
                try simp only [Act.put, List.setIfInBounds_toArray, List.set_cons_zero, List.set_cons_succ]
                refine wpAnyH_done (by kernel_rfl) ?_ _
                go_wp2_with fail
                go_ret
                exact ⟨rfl, h14.1⟩
    · go_wp2_with fail
      refine (knows_any HT.out).mono ?_
      rintro e w5 ⟨rfl, hb5⟩
      have B5 := Lib.hid hb5
      clear hb5
      go_wp2_with fail
      go_ret
      exact ⟨rfl, B5.out⟩
  · go_wp2_with fail
    refine (knows_any HT.out).mono ?_
    rintro e w5 ⟨rfl, hb5⟩
    have B5 := Lib.hid hb5
    clear hb5
    go_wp2_with fail
    go_ret
    exact ⟨rfl, B5.out⟩
end Go.Proofs.YtlmpmnngheifkaaDoor
