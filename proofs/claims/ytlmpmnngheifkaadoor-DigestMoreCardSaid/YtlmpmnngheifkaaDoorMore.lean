/-
  DigestMore returns true for all tags, lists of parts, further parts and cuts, and leaves its arguments.
-/
import Derived.Test.YtlmpmnngheifkaaDoorMore0
import Derived.Test.YtlmpmnngheifkaaDoorDgFrames
import Derived.Test.YtlmpmnngheifkaaDoorOpenBlobs
import Derived.Deep.CutRange
namespace Go.Proofs.YtlmpmnngheifkaaDoor
open Go.RowKit
set_option maxRecDepth 100000

/-- What the loop reckons: M is where it begins. -/
def Tt (L : List (List Int)) (M i t : Nat) : Prop := M ≤ t ∧ t ≤ M + 9000 ∧ (t ≤ 4000 → (blobs (L.take i)).length + M = 8 * i + t)
theorem Tt.zero (L : List (List Int)) (M : Nat) : Tt L M 0 M := ⟨Nat.le_refl _, by omega, fun _ => by simp [blobs]⟩
theorem Tt.succ {L : List (List Int)} {M i t : Nat} (h : Tt L M i t) (hi : i < L.length) (ht : t ≤ 4000) : Tt L M (i + 1) (t + min (L.getD i []).length 5000) := by
  obtain ⟨h1, h2, h3⟩ := h
  refine ⟨by omega, by omega, fun h4 => ?_⟩
  have := h3 ht
  rw [blobs_len hi]
  omega
theorem wrap64_in {z : Int} (h0 : -9223372036854775808 ≤ z) (h1 : z < 9223372036854775808) : wrap64 z = z := by unfold wrap64; omega
theorem cut_ok (c : Int) (n : Nat) (hn : n ≤ 1000000) : ∃ k : Nat, k ≤ n ∧ (wrap64 (wrap64 (c.tmod ((n : Int) + 1) + (n : Int)) + 1)).tmod ((n : Int) + 1) = (k : Int) := by
  have h1 : -((n : Int) + 1) < c.tmod ((n : Int) + 1) ∧ c.tmod ((n : Int) + 1) < (n : Int) + 1 := by
    have := Int.natAbs_tmod c ((n : Int) + 1)
    have h2 : c.natAbs % ((n : Int) + 1).natAbs < ((n : Int) + 1).natAbs := Nat.mod_lt _ (by omega)
    omega
  rw [wrap64_in (z := c.tmod ((n : Int) + 1) + (n : Int)) (by omega) (by omega), wrap64_in (by omega) (by omega)]
  have h3 : 0 ≤ c.tmod ((n : Int) + 1) + (n : Int) + 1 := by omega
  have h4 := Int.tmod_nonneg ((n : Int) + 1) h3
  have h5 := Int.tmod_lt_of_pos (c.tmod ((n : Int) + 1) + (n : Int) + 1) (show (0 : Int) < (n : Int) + 1 by omega)
  exact ⟨((c.tmod ((n : Int) + 1) + (n : Int) + 1).tmod ((n : Int) + 1)).toNat, by omega, by omega⟩

theorem rd_take {w : World} {q : Option Addr} {c k : Nat} {xs : List Int} (h : xs = [] ∨ ∃ b off, q = some ⟨b, off, none⟩ ∧ ∀ i, i < xs.length → w.cell? ⟨b, off + i, none⟩ = some (.int .u8 (xs.getD i 0))) (hk : k ≤ xs.length) : Rd w (.slice q k c) (xs.take k) := by
  refine ⟨q, c, by rw [List.length_take]; congr 1; omega, ?_⟩
  rcases h with rfl | ⟨b, off, rfl, h⟩
  · exact .inl (by simp)
  · refine .inr ⟨b, off, rfl, fun i hi => ?_⟩
    rw [List.length_take] at hi
    rw [h i (by omega)]
    simp [List.getD, show i < k by omega]
theorem rd_drop {w : World} {q : Option Addr} {c k : Nat} {xs : List Int} (h : xs = [] ∨ ∃ b off, q = some ⟨b, off, none⟩ ∧ ∀ i, i < xs.length → w.cell? ⟨b, off + i, none⟩ = some (.int .u8 (xs.getD i 0))) (hk : k ≤ xs.length) (hc : xs.length ≤ c) : Rd w (.slice (if c = k then q else Option.map (fun x => x.add k) q) (xs.length - k) (c - k)) (xs.drop k) := by
  refine ⟨_, _, by rw [List.length_drop], ?_⟩
  by_cases hck : c = k
  · exact .inl (List.drop_eq_nil_of_le (by omega))
  · rw [if_neg hck]
    rcases h with rfl | ⟨b, off, rfl, h⟩
    · exact .inl (by simp)
    · refine .inr ⟨b, off + k, by simp [addr_add], fun i hi => ?_⟩
      rw [List.length_drop] at hi
      rw [Nat.add_assoc, h (k + i) (by omega)]
      simp [List.getD]
section
variable {W0 W w2 : World} {vp : Value} {vs : List Value} {L : List (List Int)} {v1 v2 v' : Value} {x1 x2 : List Int}
theorem m3_alloc (h : M3 W0 W vp vs L v1 x1 v2 x2) : M3 W0 (W.alloc (.cells #[v1, v2] 22)) vp vs L v1 x1 v2 x2 := h.on ((Below.refl _ _).alloc (Nat.le_refl _) _)
theorem m3_own (h : M3 W0 W vp vs L v1 x1 v2 x2) : W.ownsRow 0 22 1 vp L.length vs := by have := h.pown; rw [h.plen] at this; exact this
theorem m3_fin {q : Option Addr} {c : Nat} (h : M3 W0 W vp vs L v1 x1 v2 x2) (own : w2.ownsRow 0 22 1 (.slice q (L.length + 2) c) (L.length + 2) (vs ++ [v1, v2])) (grow : W.grownBy w2 vp.ownBlock) : RdL w2 (.slice q (L.length + 2) c) (L ++ [x1, x2]) [] ∧ Below W0.heap.size W0 w2 := by
  refine h.fin (us := [v1, v2]) (M := [x1, x2]) (fun i u hu => ?_) rfl (by rw [h.plen]; exact own) grow
  rcases i with _ | _ | i
  · exact .inl ⟨by simpa using hu.symm, rfl⟩
  · exact .inr ⟨by simpa using hu.symm, rfl⟩
  · simp at hu
theorem src_two {P : Program} {tx e' : TypeId} (hk : P.underlying tx = some (.slice e')) (W : World) (v1 v2 : Value) (h1 : ∃ q n c, v1 = .slice q n c) (h2 : ∃ q n c, v2 = .slice q n c) : Src P 1 tx (.slice (some ⟨W.heap.size, 0, none⟩) 2 2) 2 [v1, v2] (W.alloc (.cells #[v1, v2] 22)) := by
  refine Src.ofSlice _ hk _ _ _ _ rfl (fun j u hu => ?_) (fun u hu => ?_)
  · rw [addr_add, Nat.zero_add, Joins.cell_of_block (heap_alloc_new W _)]
    simpa using hu
  · obtain ⟨_, _, _, rfl⟩ := h1
    obtain ⟨_, _, _, rfl⟩ := h2
    simp only [List.mem_cons, List.not_mem_nil, or_false] at hu
    rcases hu with rfl | rfl <;> rfl
end

theorem four_rdl {W : World} {v1 v2 v3 v4 : Value} {A B C D : List Int} (h1 : Rd W v1 A) (h2 : Rd W v2 B) (h3 : Rd W v3 C) (h4 : Rd W v4 D) : RdL (W.alloc (.cells #[v1, v2, v3, v4] 22)) (.slice (some ⟨W.heap.size, 0, none⟩) 4 4) [A, B, C, D] [] := by
  refine ⟨_, 4, rfl, .inr ⟨W.heap.size, 0, rfl, by simp, fun i hi => ?_⟩⟩
  have hb := heap_alloc_new W (.cells #[v1, v2, v3, v4] 22)
  rw [Nat.zero_add, Joins.cell_of_block hb]
  have e : i = 0 ∨ i = 1 ∨ i = 2 ∨ i = 3 := by simp at hi; omega
  rcases e with rfl | rfl | rfl | rfl
  · exact ⟨v1, rfl, h1.alloc _, by simp⟩
  · exact ⟨v2, rfl, h2.alloc _, by simp⟩
  · exact ⟨v3, rfl, h3.alloc _, by simp⟩
  · exact ⟨v4, rfl, h4.alloc _, by simp⟩
theorem four_bytes {A B C D : List Int} (h1 : Bytes A) (h2 : Bytes B) (h3 : Bytes C) (h4 : Bytes D) : ∀ b ∈ [A, B, C, D], Bytes b := fun b hb => by
  simp only [List.mem_cons, List.not_mem_nil, or_false] at hb
  rcases hb with rfl | rfl | rfl | rfl <;> assumption
theorem four_len {A B C D : List Int} (h1 : A.length ≤ 100000) (h2 : B.length ≤ 100000) (h3 : C.length ≤ 100000) (h4 : D.length ≤ 100000) (i : Nat) : ([A, B, C, D].getD i []).length ≤ 100000000000 := by
  rcases i with _ | _ | _ | _ | i <;> simp <;> omega
theorem add_x {s t : ByteArray} (h : s ++ (⟨#[120]⟩ : ByteArray) = t) : ∀ W : World, s ++ (⟨#[120]⟩ : ByteArray) = t := fun _ => h

set_option maxHeartbeats 16000000 in
theorem More_walk {w : World} {s : ByteArray} {v vm : Value} {L : List (List Int)} {xs : List Int} {cz : Int} (hs : s.size ≤ maxLen) (hL : RdL w v L []) (bL : ∀ b ∈ L, Bytes b) (hX : RdC w vm xs) (bX : Bytes xs) (hln : L.length ≤ maxLen) (hxn : xs.length ≤ maxLen) (hT : Tbl w) :
    Calls Tryd.prog 8 #[.string s, v, vm, .int .i64 cz] w fun e w' => e = .returned (.bool true) ∧ Below w.heap.size w w' := by
  unfold maxLen at hln hxn
  obtain ⟨q, c, rfl⟩ : ∃ q c, v = .slice q L.length c := by obtain ⟨q, c, e, _⟩ := hL; exact ⟨q, c, e⟩
  obtain ⟨qm, cm, rfl, hcm, hxq⟩ := hX
  replace hX : Rd w (.slice qm xs.length cm) xs := ⟨qm, cm, rfl, hxq⟩
  have HXQ := Lib.hid hxq
  clear hxq
  have HL := Lib.hid hL
  have HXS := Lib.hid hX
  have HT := Lib.hid hT
  have hss := hs
  unfold maxLen at hss
  replace hs := Lib.hid hs
  replace bL := Lib.hid bL
  replace bX := Lib.hid bX
  obtain ⟨i0, hi, hz0, hz1, hz2⟩ := info_parts Tryd.infoU8
  obtain ⟨j0, hj, ez0, ez1, ez2⟩ := info_parts Tryd.infoU8s
  replace hi := Lib.hid hi
  replace hz0 := Lib.hid hz0
  replace hz1 := Lib.hid hz1
  replace hz2 := Lib.hid hz2
  replace hj := Lib.hid hj
  replace ez0 := Lib.hid ez0
  replace ez1 := Lib.hid ez1
  replace ez2 := Lib.hid ez2
  clear hL hT hX
  go_enter Tryd.func8, Tryd.ntmps8
  go_wp2_with fail
  go_loopw [9, 10] (fun tv iv wr => ∃ (i t : Nat), iv = .int .i64 i ∧ tv = .int .i64 t ∧ i ≤ L.length ∧ Hid (Tt L xs.length i t) ∧ Hid (Below w.heap.size w wr)) (fun _ iv _ => L.length - (intOf iv).toNat)
  case atStart => exact ⟨0, xs.length, rfl, rfl, by omega, Tt.zero L _, Below.refl _ _⟩
  case round =>
    obtain ⟨i, t, rfl, rfl, hi', hTo, HB⟩ := hrel
    have ht5 := hTo.out.2.1
    have ht6 := hTo.out.1
    by_cases ht2 : t ≤ 4000
    · have d0 : decide ((t : Int) ≤ 4000) = true := by rw [decide_eq_true_iff]; omega
      have d1 : decide (4000 < (t : Int)) = false := by rw [decide_eq_false_iff_not]; omega
      by_cases hlt : i < L.length
      · obtain ⟨b, off, r, m, k, -, rfl, -, hc1, rfl, -, -⟩ := HL.out.at hlt
        have HC1 := Lib.hid (oldW HB.out hc1)
        have HN := Lib.hid (hTo.out.succ hlt ht2)
        have i0 : (0 : Int) ≤ (i : Int) := by omega
        have i1 : (i : Int) < (L.length : Int) := by omega
        obtain ⟨lb, hlb⟩ : ∃ lb, (L.getD i []).length = lb := ⟨_, rfl⟩
        rw [hlb] at HC1 HN
        clear hc1 hlb hTo
        have cc := HC1.out
        go_wp2_with fail
        go_roundw
        case rel => exact ⟨i + 1, _, by go_num, by go_num, by omega, HN, HB⟩
        case measure => simp [intOf]; omega
      · obtain rfl : i = L.length := by omega
        have hbl := hTo.out.2.2 ht2
        rw [List.take_length] at hbl
        have HBL := Lib.hid hbl
        clear hbl hTo hlt
        by_cases hg : s.size ≤ 200
        · have d2 : decide (200 < (s.size : Int)) = false := by rw [decide_eq_false_iff_not]; omega
          by_cases hm : L.length ≤ 200
          · have d3 : decide (200 < (L.length : Int)) = false := by rw [decide_eq_false_iff_not]; omega
            have hbl := HBL.out
            have hxl : xs.length ≤ 4000 := by omega
            have hll : ∀ i, (L.getD i []).length ≤ 6000 := fun i => by have := getD_len_le L i; omega
            have HLL := Lib.hid hll
            have hBLn : (blobs L).length ≤ 8 * L.length + 4000 := by omega
            have HA : Hid (∃ X, frm (sn s) L = X) := ⟨_, rfl⟩
            obtain ⟨FA, hFA⟩ : ∃ F, sha (frm (sn s) L) = F := ⟨_, rfl⟩
            have lFA := Lib.hid (show FA.length = 32 by rw [← hFA]; exact sha_len _)
            have EFA := Lib.hid hFA
            clear hFA hbl HA
            go_wp2_with fail
            refine (Parts_any (HL.out.onb HB.out) (by omega) (fun i => by have := HLL.out i; omega)).mono ?_
            rintro e w1 ⟨vp, vs, rfl, hp⟩
            have RP := Lib.hid hp.rdl
            have B1 := Lib.hid (HB.out.trans (hp.below.mono HB.out.size))
            obtain ⟨qp, cp, rfl⟩ := own_slice hp.own
            clear hp HB
            go_wp2_with fail
            have KT := Tagged_any (s := s) (t := s) RP.out (HT.out.on B1.out HT.out.pos) hs.out (cut_small (by omega)) (by rw [frm_len, sn_len]; omega) (frm_bytes (sn_bytes s) (by rw [sn_len]; omega) bL.out)
            rw [EFA.out] at KT
            refine KT.mono ?_
            rintro e w2 ⟨rfl, hb2⟩
            have B2 := Lib.hid (B1.out.trans (hb2.mono B1.out.size))
            have RZ := HashAt.new w2 zero32
            have hth := RZ.there zero32_len
            have RX := Lib.hid (RZ.put zero32_len lFA.out)
            have BW : Below w2.heap.size w2 ((w2.alloc (.cells (hc zero32).toArray 26)).setCells w2.heap.size 0 (hc FA)) := below_setCells' _ (Nat.le_refl _) _ _ ((Below.refl _ _).alloc (Nat.le_refl _) _)
            have B3 := Lib.hid (B2.out.trans (BW.mono B2.out.size))
            have hh2 : w.heap.size ≤ w2.heap.size := B2.out.size
            have lF := lFA.out
            clear RZ BW hb2 KT B1 B2 RP
            go_wp2_with fail
            clear hth
            generalize (w2.alloc (.cells (hc zero32).toArray 26)).setCells w2.heap.size 0 (hc FA) = w3 at *
            generalize w2.heap.size = bh at *
            refine (Parts_any (HL.out.onb B3.out) (by omega) (fun i => by have := HLL.out i; omega)).mono ?_
            rintro e w4 ⟨vp, vs, rfl, hp⟩
            have M4 := Lib.hid ((M3.start w3 (Below.refl _ _)).call hp)
            have hvl := M4.out.plen
            obtain ⟨qp, cp, rfl⟩ := own_slice hp.own
            have HX4 := Lib.hid ((HXS.out.on (B3.out.trans (M4.out.below.mono B3.out.size))).on ((Below.refl w4.heap.size w4).alloc (Nat.le_refl _) (.cells #[] 5)))
            clear hp
            go_wp2_with (at_builtin; refine wpList_append_row rfl _ _ rfl Tryd.underlying22 hi.out hz0.out hz1.out hz2.out rfl (own_empty w4 5 1) (Rd.src (P := Tryd.prog) Tryd.underlying22 HX4.out) ?b1 ?b2 ?_)
            case b1 => unfold maxLen; omega
            (try case b2 => omega)
            intro q5 k5 w5 own5 grow5 fr5
            have M5 : Hid (M3 w3 w5 (.slice qp L.length cp) vs L (.slice q5 xs.length k5) xs nilV []) := by
              show M3 _ _ _ _ _ _ _ _ _
              have h := (M4.out.new1 rfl).grow1 (ys := xs) (m := xs.length) rfl (by rw [List.length_nil, Nat.zero_add]; exact own5) grow5 (by first | exact fr5 | simpa using fr5)
              rw [List.nil_append] at h
              exact h
            clear own5 grow5 fr5 M4 HX4
            have M6 := Lib.hid (M5.out.on ((Below.refl w5.heap.size w5).alloc (Nat.le_refl _) (.cells #[.slice q5 xs.length k5] 22)))
            have OW : (w5.alloc (.cells #[.slice q5 xs.length k5] 22)).ownsRow 0 22 1 (.slice qp L.length cp) L.length vs := by have := M6.out.pown; rw [hvl] at this; exact this
            go_wp2_with (at_builtin; refine wpList_append_row rfl _ _ rfl Tryd.underlying30 hj.out ez0.out ez1.out ez2.out rfl OW (news := [.slice q5 xs.length k5]) (m := 1) ?rd ?b3 ?b4 ?_)
            case rd =>
              refine Src.ofSlice _ Tryd.underlying30 _ _ _ _ rfl (fun j u hu => ?_) (fun u hu => ?_)
              · rw [addr_add, Nat.zero_add, Joins.cell_of_block (heap_alloc_new w5 _)]
                simpa using hu
              · obtain rfl := List.mem_singleton.1 hu
                rfl
            case b3 => unfold maxLen; omega
            (try case b4 => omega)
            intro q7 k7 w7 own7 grow7 fr7
            have F7 := M6.out.fin (us := [.slice q5 xs.length k5]) (M := [xs]) (fun i u hu => by
              rcases i with _ | i
              · exact .inl ⟨by simpa using hu.symm, rfl⟩
              · simp at hu) rfl (by rw [hvl]; exact own7) grow7
            have RX7 := Lib.hid F7.1
            have B7 := Lib.hid F7.2
            clear own7 grow7 fr7 M6 M5 OW F7 hvl
            obtain ⟨kc, hkc, ekc⟩ := cut_ok cz xs.length (by omega)
            go_wp2_with fail
            skip
            clear ekc
            have kc0 : (0 : Int) ≤ (kc : Int) := by omega
            have kc1 : (kc : Int) ≤ (xs.length : Int) := by omega
            have kc2 : (kc : Int) ≤ (cm : Int) := by omega
            go_cut [13] from 71 to 84 (fun s13 wx => ∃ q c, s13 = .slice q (L.length + 2) c ∧ Hid (Below w7.heap.size w7 wx ∧ RdL wx (.slice q (L.length + 2) c) (L ++ [xs.take kc, xs.drop kc]) []))
            case first =>
              have BX := B3.out.trans (B7.out.mono B3.out.size)
              have HL7 := Lib.hid (HL.out.onb BX)
              have HT7 := Lib.hid (HT.out.on BX HT.out.pos)
              have R1 : Hid (Rd w7 (.slice qm kc cm) (xs.take kc)) := (rd_take HXQ.out hkc).on BX
              have R2 : Hid (Rd w7 (.slice (if cm = kc then qm else Option.map (fun x => x.add kc) qm) (xs.length - kc) (cm - kc)) (xs.drop kc)) := (rd_drop HXQ.out hkc hcm).on BX
              have ht1 : (xs.take kc).length ≤ 4000 := by rw [List.length_take]; omega
              have ht2 : (xs.drop kc).length ≤ 4000 := by rw [List.length_drop]; omega
              have e76 : ([] : List Int).length + (xs.take kc).length = kc := by rw [List.length_nil, List.length_take]; omega
              have e81 : ([] : List Int).length + (xs.drop kc).length = xs.length - kc := by rw [List.length_nil, List.length_drop]; omega
              refine wp_region_held_drew (S := fun _ => True) (by kernel_rfl) (trivial) (fun h0 => ?_)
              refine wpAnyH_take (i := 0) (v := ?_) (by rw [List.getElem?_toArray]; rfl) (by kernel_rfl) (by kernel_rfl) (by kernel_rfl) (by exact fun _ _ _ h => h) (Or.inl ⟨by rfl, ?_⟩) h0 ?_
              rotate_left
              · intro W hW
                go_simp
                all_goals with_reducible rfl
              try simp only [Act.put, List.setIfInBounds_toArray, List.set_cons_zero, List.set_cons_succ]
              refine wpAnyH_take (i := 3) (v := ?_) (by rw [List.getElem?_toArray]; rfl) (by kernel_rfl) (by kernel_rfl) (by kernel_rfl) (by exact fun _ _ _ h => h) (Or.inl ⟨by rfl, ?_⟩) h0 ?_
              rotate_left
              · intro W hW
                go_simp
                all_goals with_reducible rfl
              try simp only [Act.put, List.setIfInBounds_toArray, List.set_cons_zero, List.set_cons_succ]
              refine wpAnyH_take (i := 4) (v := ?_) (by rw [List.getElem?_toArray]; rfl) (by kernel_rfl) (by kernel_rfl) (by kernel_rfl) (by exact fun _ _ _ h => h) (Or.inl ⟨by rfl, ?_⟩) h0 ?_
              rotate_left
              · intro W hW
                go_simp
                all_goals with_reducible rfl
              try simp only [Act.put, List.setIfInBounds_toArray, List.set_cons_zero, List.set_cons_succ]
              refine wpAnyH_take (i := 5) (v := ?_) (by rw [List.getElem?_toArray]; rfl) (by kernel_rfl) (by kernel_rfl) (by kernel_rfl) (by exact fun _ _ _ h => h) (Or.inl ⟨by rfl, ?_⟩) h0 ?_
              rotate_left
              · intro W hW
                go_simp
                all_goals with_reducible rfl
              try simp only [Act.put, List.setIfInBounds_toArray, List.set_cons_zero, List.set_cons_succ]
              refine wpAnyH_take (i := 8) (v := ?_) (by rw [List.getElem?_toArray]; rfl) (by kernel_rfl) (by kernel_rfl) (by kernel_rfl) (by exact fun _ _ _ h => h) (Or.inl ⟨by rfl, ?_⟩) h0 ?_
              rotate_left
              · intro W hW
                go_simp
                all_goals with_reducible rfl
              try simp only [Act.put, List.setIfInBounds_toArray, List.set_cons_zero, List.set_cons_succ]
              refine wpAnyH_take (i := 9) (v := ?_) (by rw [List.getElem?_toArray]; rfl) (by kernel_rfl) (by kernel_rfl) (by kernel_rfl) (by exact fun _ _ _ h => h) (Or.inl ⟨by rfl, ?_⟩) h0 ?_
              rotate_left
              · intro W hW
                go_simp
                all_goals with_reducible rfl
              try simp only [Act.put, List.setIfInBounds_toArray, List.set_cons_zero, List.set_cons_succ]
              refine wpAnyH_take (i := 10) (v := ?_) (by rw [List.getElem?_toArray]; rfl) (by kernel_rfl) (by kernel_rfl) (by kernel_rfl) (by exact fun _ _ _ h => h) (Or.inl ⟨by rfl, ?_⟩) h0 ?_
              rotate_left
              · intro W hW
                go_simp
                all_goals with_reducible rfl
              try simp only [Act.put, List.setIfInBounds_toArray, List.set_cons_zero, List.set_cons_succ]
              generalize (if cm = kc then qm else Option.map (fun x => x.add kc) qm) = q81 at R2 ⊢
              have M0 := Lib.hid (M3.start w7 (Below.refl _ w7).drew)
              generalize w7.drew = v0 at M0 ⊢
              refine wpAnyH_ready (rs := [1, 2, 7]) (by kernel_rfl) (by simp) ?_
              refine AllReadyH.cons (by rw [List.getElem?_toArray]; rfl) (fun K hK => ?_) (AllReadyH.cons (by rw [List.getElem?_toArray]; rfl) (fun K hK => ?_) (AllReadyH.cons (by rw [List.getElem?_toArray]; rfl) (fun K hK => ?_) AllReadyH.nil))
              · rw [if_pos (by rfl)]
                go_wp2_with fail
                refine (Parts_any (HL7.out.onb M0.out.below) (by omega) (fun i => by have := HLL.out i; omega)).mono ?_
                rintro e v1 ⟨vp, vs, rfl, hp⟩
                obtain ⟨qp, cp, rfl⟩ := own_slice hp.own
                have M1 := Lib.hid (M0.out.call hp)
                clear hp
                go_wp2_with fail
                refine hK.out _ _ (trivial) (fun _ => ?_)
                clear hK K
                skip
                try simp only [Act.put, List.setIfInBounds_toArray, List.set_cons_zero, List.set_cons_succ]
                refine wpAnyH_ready (rs := [2, 7]) (by kernel_rfl) (by simp) ?_
                refine AllReadyH.cons (by rw [List.getElem?_toArray]; rfl) (fun K hK => ?_) (AllReadyH.cons (by rw [List.getElem?_toArray]; rfl) (fun K hK => ?_) AllReadyH.nil)
                · rw [if_pos (by rfl)]
                  go_wp2_with fail
                  have M12 := Lib.hid (M1.out.new1 (k := v1.heap.size) rfl)
                  generalize v1.alloc (.cells #[] 5) = v12 at M12 ⊢
                  refine hK.out _ _ (trivial) (fun _ => ?_)
                  clear hK K
                  clear M1
                  try simp only [Act.put, List.setIfInBounds_toArray, List.set_cons_zero, List.set_cons_succ]
                  refine wpAnyH_ready (rs := [6, 7]) (by kernel_rfl) (by simp) ?_
                  refine AllReadyH.cons (by rw [List.getElem?_toArray]; rfl) (fun K hK => ?_) (AllReadyH.cons (by rw [List.getElem?_toArray]; rfl) (fun K hK => ?_) AllReadyH.nil)
                  · rw [if_pos (by rfl)]
                    refine wp_append_row _ _ rfl Tryd.underlying22 hi.out hz0.out hz1.out hz2.out rfl M12.out.o1 (Rd.src (xs := xs.take kc) Tryd.underlying22 (R1.out.on M12.out.below)) (by have := ht1; unfold maxLen; simp only [List.length_nil]; omega) (by have := ht1; simp only [List.length_nil]; omega) ?_
                    intro q126 k126 v126 own126 grow126 fr126
                    have M126 := Lib.hid (M12.out.grow1 rfl own126 grow126 fr126)
                    rw [List.nil_append] at M126
                    clear own126 grow126 fr126
                    refine hK.out _ _ (trivial) (fun _ => ?_)
                    clear hK K
                    clear M12
                    try simp only [Act.put, List.setIfInBounds_toArray, List.set_cons_zero, List.set_cons_succ]
                    rw [e76] at M126 ⊢
                    refine wpAnyH_ready (rs := [7]) (by kernel_rfl) (by simp) ?_
                    refine AllReadyH.cons (by rw [List.getElem?_toArray]; rfl) (fun K hK => ?_) AllReadyH.nil
                    rw [if_pos (by rfl)]
                    go_wp2_with fail
                    have M1267 := Lib.hid (M126.out.new2 (k := v126.heap.size) rfl)
                    generalize v126.alloc (.cells #[] 5) = v1267 at M1267 ⊢
                    refine hK.out _ _ (trivial) (fun _ => ?_)
                    clear hK K
                    clear M126
                    try simp only [Act.put, List.setIfInBounds_toArray, List.set_cons_zero, List.set_cons_succ]
                    refine wpAnyH_ready (rs := [11]) (by kernel_rfl) (by simp) ?_
                    refine AllReadyH.cons (by rw [List.getElem?_toArray]; rfl) (fun K hK => ?_) AllReadyH.nil
                    rw [if_pos (by rfl)]
                    refine wp_append_row _ _ rfl Tryd.underlying22 hi.out hz0.out hz1.out hz2.out rfl M1267.out.o2 (Rd.src (xs := xs.drop kc) Tryd.underlying22 (R2.out.on M1267.out.below)) (by have := ht2; unfold maxLen; simp only [List.length_nil]; omega) (by have := ht2; simp only [List.length_nil]; omega) ?_
                    intro q126711 k126711 v126711 own126711 grow126711 fr126711
                    have M126711 := Lib.hid (M1267.out.grow2 rfl own126711 grow126711 fr126711)
                    rw [List.nil_append] at M126711
                    clear own126711 grow126711 fr126711
                    refine hK.out _ _ (trivial) (fun _ => ?_)
                    clear hK K
                    clear M1267
                    try simp only [Act.put, List.setIfInBounds_toArray, List.set_cons_zero, List.set_cons_succ]
                    rw [e81] at M126711 ⊢
                    have hvl := M126711.out.plen
                    skip
                    refine wpAnyH_ready (rs := [12]) (by kernel_rfl) (by simp) ?_
                    refine AllReadyH.cons (by rw [List.getElem?_toArray]; rfl) (fun K hK => ?_) AllReadyH.nil
                    rw [if_pos (by rfl)]
                    go_wp2_with fail
                    have M9 := Lib.hid (m3_alloc M126711.out)
                    refine hK.out _ _ (trivial) (fun _ => ?_)
                    clear hK K
                    try simp only [Act.put, List.setIfInBounds_toArray, List.set_cons_zero, List.set_cons_succ]
                    refine wpAnyH_ready (rs := [13]) (by kernel_rfl) (by simp) ?_
                    refine AllReadyH.cons (by rw [List.getElem?_toArray]; rfl) (fun K hK => ?_) AllReadyH.nil
                    rw [if_pos (by rfl)]
                    refine wp_append_row _ _ rfl Tryd.underlying30 hj.out ez0.out ez1.out ez2.out rfl (m3_own M9.out) (src_two (P := Tryd.prog) Tryd.underlying30 v126711 _ _ ⟨_, _, _, rfl⟩ ⟨_, _, _, rfl⟩) (by unfold maxLen; omega) (by omega) ?_
                    intro q9 k9 w9 own9 grow9 fr9
                    have F9 := Lib.hid (m3_fin M9.out own9 grow9)
                    clear own9 grow9 fr9 M9
                    refine hK.out _ _ (trivial) (fun _ => ?_)
                    clear hK K
                    try simp only [Act.put, List.setIfInBounds_toArray, List.set_cons_zero, List.set_cons_succ]
                    refine wpAnyH_take (i := 14) (v := ?_) (by rw [List.getElem?_toArray]; rfl) (by kernel_rfl) (by kernel_rfl) (by kernel_rfl) (by exact fun _ _ _ h => h) (Or.inl ⟨by rfl, ?_⟩) h0 ?_
                    rotate_left
                    · intro W hW
                      go_simp
                      all_goals with_reducible rfl
                    try simp only [Act.put, List.setIfInBounds_toArray, List.set_cons_zero, List.set_cons_succ]
                    refine wpAnyH_done (by kernel_rfl) ?_ _
                    go_wp2_with fail
                    go_meet
                    exact ⟨_, _, rfl, F9.out.2, F9.out.1⟩
                  · rw [if_pos (by rfl)]
                    go_wp2_with fail
                    have M127 := Lib.hid (M12.out.new2 (k := v12.heap.size) rfl)
                    generalize v12.alloc (.cells #[] 5) = v127 at M127 ⊢
                    refine hK.out _ _ (trivial) (fun _ => ?_)
                    clear hK K
                    clear M12
                    try simp only [Act.put, List.setIfInBounds_toArray, List.set_cons_zero, List.set_cons_succ]
                    refine wpAnyH_ready (rs := [6]) (by kernel_rfl) (by simp) ?_
                    refine AllReadyH.cons (by rw [List.getElem?_toArray]; rfl) (fun K hK => ?_) AllReadyH.nil
                    rw [if_pos (by rfl)]
                    refine wp_append_row _ _ rfl Tryd.underlying22 hi.out hz0.out hz1.out hz2.out rfl M127.out.o1 (Rd.src (xs := xs.take kc) Tryd.underlying22 (R1.out.on M127.out.below)) (by have := ht1; unfold maxLen; simp only [List.length_nil]; omega) (by have := ht1; simp only [List.length_nil]; omega) ?_
                    intro q1276 k1276 v1276 own1276 grow1276 fr1276
                    have M1276 := Lib.hid (M127.out.grow1 rfl own1276 grow1276 fr1276)
                    rw [List.nil_append] at M1276
                    clear own1276 grow1276 fr1276
                    refine hK.out _ _ (trivial) (fun _ => ?_)
                    clear hK K
                    clear M127
                    try simp only [Act.put, List.setIfInBounds_toArray, List.set_cons_zero, List.set_cons_succ]
                    rw [e76] at M1276 ⊢
                    refine wpAnyH_ready (rs := [11]) (by kernel_rfl) (by simp) ?_
                    refine AllReadyH.cons (by rw [List.getElem?_toArray]; rfl) (fun K hK => ?_) AllReadyH.nil
                    rw [if_pos (by rfl)]
                    refine wp_append_row _ _ rfl Tryd.underlying22 hi.out hz0.out hz1.out hz2.out rfl M1276.out.o2 (Rd.src (xs := xs.drop kc) Tryd.underlying22 (R2.out.on M1276.out.below)) (by have := ht2; unfold maxLen; simp only [List.length_nil]; omega) (by have := ht2; simp only [List.length_nil]; omega) ?_
                    intro q127611 k127611 v127611 own127611 grow127611 fr127611
                    have M127611 := Lib.hid (M1276.out.grow2 rfl own127611 grow127611 fr127611)
                    rw [List.nil_append] at M127611
                    clear own127611 grow127611 fr127611
                    refine hK.out _ _ (trivial) (fun _ => ?_)
                    clear hK K
                    clear M1276
                    try simp only [Act.put, List.setIfInBounds_toArray, List.set_cons_zero, List.set_cons_succ]
                    rw [e81] at M127611 ⊢
                    have hvl := M127611.out.plen
                    skip
                    refine wpAnyH_ready (rs := [12]) (by kernel_rfl) (by simp) ?_
                    refine AllReadyH.cons (by rw [List.getElem?_toArray]; rfl) (fun K hK => ?_) AllReadyH.nil
                    rw [if_pos (by rfl)]
                    go_wp2_with fail
                    have M9 := Lib.hid (m3_alloc M127611.out)
                    refine hK.out _ _ (trivial) (fun _ => ?_)
                    clear hK K
                    try simp only [Act.put, List.setIfInBounds_toArray, List.set_cons_zero, List.set_cons_succ]
                    refine wpAnyH_ready (rs := [13]) (by kernel_rfl) (by simp) ?_
                    refine AllReadyH.cons (by rw [List.getElem?_toArray]; rfl) (fun K hK => ?_) AllReadyH.nil
                    rw [if_pos (by rfl)]
                    refine wp_append_row _ _ rfl Tryd.underlying30 hj.out ez0.out ez1.out ez2.out rfl (m3_own M9.out) (src_two (P := Tryd.prog) Tryd.underlying30 v127611 _ _ ⟨_, _, _, rfl⟩ ⟨_, _, _, rfl⟩) (by unfold maxLen; omega) (by omega) ?_
                    intro q9 k9 w9 own9 grow9 fr9
                    have F9 := Lib.hid (m3_fin M9.out own9 grow9)
                    clear own9 grow9 fr9 M9
                    refine hK.out _ _ (trivial) (fun _ => ?_)
                    clear hK K
                    try simp only [Act.put, List.setIfInBounds_toArray, List.set_cons_zero, List.set_cons_succ]
                    refine wpAnyH_take (i := 14) (v := ?_) (by rw [List.getElem?_toArray]; rfl) (by kernel_rfl) (by kernel_rfl) (by kernel_rfl) (by exact fun _ _ _ h => h) (Or.inl ⟨by rfl, ?_⟩) h0 ?_
                    rotate_left
                    · intro W hW
                      go_simp
                      all_goals with_reducible rfl
                    try simp only [Act.put, List.setIfInBounds_toArray, List.set_cons_zero, List.set_cons_succ]
                    refine wpAnyH_done (by kernel_rfl) ?_ _
                    go_wp2_with fail
                    go_meet
                    exact ⟨_, _, rfl, F9.out.2, F9.out.1⟩
                · rw [if_pos (by rfl)]
                  go_wp2_with fail
                  have M17 := Lib.hid (M1.out.new2 (k := v1.heap.size) rfl)
                  generalize v1.alloc (.cells #[] 5) = v17 at M17 ⊢
                  refine hK.out _ _ (trivial) (fun _ => ?_)
                  clear hK K
                  clear M1
                  try simp only [Act.put, List.setIfInBounds_toArray, List.set_cons_zero, List.set_cons_succ]
                  refine wpAnyH_ready (rs := [2]) (by kernel_rfl) (by simp) ?_
                  refine AllReadyH.cons (by rw [List.getElem?_toArray]; rfl) (fun K hK => ?_) AllReadyH.nil
                  rw [if_pos (by rfl)]
                  go_wp2_with fail
                  have M172 := Lib.hid (M17.out.new1 (k := v17.heap.size) rfl)
                  generalize v17.alloc (.cells #[] 5) = v172 at M172 ⊢
                  refine hK.out _ _ (trivial) (fun _ => ?_)
                  clear hK K
                  clear M17
                  try simp only [Act.put, List.setIfInBounds_toArray, List.set_cons_zero, List.set_cons_succ]
                  refine wpAnyH_ready (rs := [6]) (by kernel_rfl) (by simp) ?_
                  refine AllReadyH.cons (by rw [List.getElem?_toArray]; rfl) (fun K hK => ?_) AllReadyH.nil
                  rw [if_pos (by rfl)]
                  refine wp_append_row _ _ rfl Tryd.underlying22 hi.out hz0.out hz1.out hz2.out rfl M172.out.o1 (Rd.src (xs := xs.take kc) Tryd.underlying22 (R1.out.on M172.out.below)) (by have := ht1; unfold maxLen; simp only [List.length_nil]; omega) (by have := ht1; simp only [List.length_nil]; omega) ?_
                  intro q1726 k1726 v1726 own1726 grow1726 fr1726
                  have M1726 := Lib.hid (M172.out.grow1 rfl own1726 grow1726 fr1726)
                  rw [List.nil_append] at M1726
                  clear own1726 grow1726 fr1726
                  refine hK.out _ _ (trivial) (fun _ => ?_)
                  clear hK K
                  clear M172
                  try simp only [Act.put, List.setIfInBounds_toArray, List.set_cons_zero, List.set_cons_succ]
                  rw [e76] at M1726 ⊢
                  refine wpAnyH_ready (rs := [11]) (by kernel_rfl) (by simp) ?_
                  refine AllReadyH.cons (by rw [List.getElem?_toArray]; rfl) (fun K hK => ?_) AllReadyH.nil
                  rw [if_pos (by rfl)]
                  refine wp_append_row _ _ rfl Tryd.underlying22 hi.out hz0.out hz1.out hz2.out rfl M1726.out.o2 (Rd.src (xs := xs.drop kc) Tryd.underlying22 (R2.out.on M1726.out.below)) (by have := ht2; unfold maxLen; simp only [List.length_nil]; omega) (by have := ht2; simp only [List.length_nil]; omega) ?_
                  intro q172611 k172611 v172611 own172611 grow172611 fr172611
                  have M172611 := Lib.hid (M1726.out.grow2 rfl own172611 grow172611 fr172611)
                  rw [List.nil_append] at M172611
                  clear own172611 grow172611 fr172611
                  refine hK.out _ _ (trivial) (fun _ => ?_)
                  clear hK K
                  clear M1726
                  try simp only [Act.put, List.setIfInBounds_toArray, List.set_cons_zero, List.set_cons_succ]
                  rw [e81] at M172611 ⊢
                  have hvl := M172611.out.plen
                  skip
                  refine wpAnyH_ready (rs := [12]) (by kernel_rfl) (by simp) ?_
                  refine AllReadyH.cons (by rw [List.getElem?_toArray]; rfl) (fun K hK => ?_) AllReadyH.nil
                  rw [if_pos (by rfl)]
                  go_wp2_with fail
                  have M9 := Lib.hid (m3_alloc M172611.out)
                  refine hK.out _ _ (trivial) (fun _ => ?_)
                  clear hK K
                  try simp only [Act.put, List.setIfInBounds_toArray, List.set_cons_zero, List.set_cons_succ]
                  refine wpAnyH_ready (rs := [13]) (by kernel_rfl) (by simp) ?_
                  refine AllReadyH.cons (by rw [List.getElem?_toArray]; rfl) (fun K hK => ?_) AllReadyH.nil
                  rw [if_pos (by rfl)]
                  refine wp_append_row _ _ rfl Tryd.underlying30 hj.out ez0.out ez1.out ez2.out rfl (m3_own M9.out) (src_two (P := Tryd.prog) Tryd.underlying30 v172611 _ _ ⟨_, _, _, rfl⟩ ⟨_, _, _, rfl⟩) (by unfold maxLen; omega) (by omega) ?_
                  intro q9 k9 w9 own9 grow9 fr9
                  have F9 := Lib.hid (m3_fin M9.out own9 grow9)
                  clear own9 grow9 fr9 M9
                  refine hK.out _ _ (trivial) (fun _ => ?_)
                  clear hK K
                  try simp only [Act.put, List.setIfInBounds_toArray, List.set_cons_zero, List.set_cons_succ]
                  refine wpAnyH_take (i := 14) (v := ?_) (by rw [List.getElem?_toArray]; rfl) (by kernel_rfl) (by kernel_rfl) (by kernel_rfl) (by exact fun _ _ _ h => h) (Or.inl ⟨by rfl, ?_⟩) h0 ?_
                  rotate_left
                  · intro W hW
                    go_simp
                    all_goals with_reducible rfl
                  try simp only [Act.put, List.setIfInBounds_toArray, List.set_cons_zero, List.set_cons_succ]
                  refine wpAnyH_done (by kernel_rfl) ?_ _
                  go_wp2_with fail
                  go_meet
                  exact ⟨_, _, rfl, F9.out.2, F9.out.1⟩
              · rw [if_pos (by rfl)]
                go_wp2_with fail
                have M2 := Lib.hid (M0.out.new1 (k := v0.heap.size) rfl)
                generalize v0.alloc (.cells #[] 5) = v2 at M2 ⊢
                refine hK.out _ _ (trivial) (fun _ => ?_)
                clear hK K
                skip
                try simp only [Act.put, List.setIfInBounds_toArray, List.set_cons_zero, List.set_cons_succ]
                refine wpAnyH_ready (rs := [1, 7]) (by kernel_rfl) (by simp) ?_
                refine AllReadyH.cons (by rw [List.getElem?_toArray]; rfl) (fun K hK => ?_) (AllReadyH.cons (by rw [List.getElem?_toArray]; rfl) (fun K hK => ?_) AllReadyH.nil)
                · rw [if_pos (by rfl)]
                  go_wp2_with fail
                  refine (Parts_any (HL7.out.onb M2.out.below) (by omega) (fun i => by have := HLL.out i; omega)).mono ?_
                  rintro e v21 ⟨vp, vs, rfl, hp⟩
                  obtain ⟨qp, cp, rfl⟩ := own_slice hp.own
                  have M21 := Lib.hid (M2.out.call hp)
                  clear hp
                  go_wp2_with fail
                  refine hK.out _ _ (trivial) (fun _ => ?_)
                  clear hK K
                  clear M2
                  try simp only [Act.put, List.setIfInBounds_toArray, List.set_cons_zero, List.set_cons_succ]
                  refine wpAnyH_ready (rs := [6, 7]) (by kernel_rfl) (by simp) ?_
                  refine AllReadyH.cons (by rw [List.getElem?_toArray]; rfl) (fun K hK => ?_) (AllReadyH.cons (by rw [List.getElem?_toArray]; rfl) (fun K hK => ?_) AllReadyH.nil)
                  · rw [if_pos (by rfl)]
                    refine wp_append_row _ _ rfl Tryd.underlying22 hi.out hz0.out hz1.out hz2.out rfl M21.out.o1 (Rd.src (xs := xs.take kc) Tryd.underlying22 (R1.out.on M21.out.below)) (by have := ht1; unfold maxLen; simp only [List.length_nil]; omega) (by have := ht1; simp only [List.length_nil]; omega) ?_
                    intro q216 k216 v216 own216 grow216 fr216
                    have M216 := Lib.hid (M21.out.grow1 rfl own216 grow216 fr216)
                    rw [List.nil_append] at M216
                    clear own216 grow216 fr216
                    refine hK.out _ _ (trivial) (fun _ => ?_)
                    clear hK K
                    clear M21
                    try simp only [Act.put, List.setIfInBounds_toArray, List.set_cons_zero, List.set_cons_succ]
                    rw [e76] at M216 ⊢
                    refine wpAnyH_ready (rs := [7]) (by kernel_rfl) (by simp) ?_
                    refine AllReadyH.cons (by rw [List.getElem?_toArray]; rfl) (fun K hK => ?_) AllReadyH.nil
                    rw [if_pos (by rfl)]
                    go_wp2_with fail
                    have M2167 := Lib.hid (M216.out.new2 (k := v216.heap.size) rfl)
                    generalize v216.alloc (.cells #[] 5) = v2167 at M2167 ⊢
                    refine hK.out _ _ (trivial) (fun _ => ?_)
                    clear hK K
                    clear M216
                    try simp only [Act.put, List.setIfInBounds_toArray, List.set_cons_zero, List.set_cons_succ]
                    refine wpAnyH_ready (rs := [11]) (by kernel_rfl) (by simp) ?_
                    refine AllReadyH.cons (by rw [List.getElem?_toArray]; rfl) (fun K hK => ?_) AllReadyH.nil
                    rw [if_pos (by rfl)]
                    refine wp_append_row _ _ rfl Tryd.underlying22 hi.out hz0.out hz1.out hz2.out rfl M2167.out.o2 (Rd.src (xs := xs.drop kc) Tryd.underlying22 (R2.out.on M2167.out.below)) (by have := ht2; unfold maxLen; simp only [List.length_nil]; omega) (by have := ht2; simp only [List.length_nil]; omega) ?_
                    intro q216711 k216711 v216711 own216711 grow216711 fr216711
                    have M216711 := Lib.hid (M2167.out.grow2 rfl own216711 grow216711 fr216711)
                    rw [List.nil_append] at M216711
                    clear own216711 grow216711 fr216711
                    refine hK.out _ _ (trivial) (fun _ => ?_)
                    clear hK K
                    clear M2167
                    try simp only [Act.put, List.setIfInBounds_toArray, List.set_cons_zero, List.set_cons_succ]
                    rw [e81] at M216711 ⊢
                    have hvl := M216711.out.plen
                    skip
                    refine wpAnyH_ready (rs := [12]) (by kernel_rfl) (by simp) ?_
                    refine AllReadyH.cons (by rw [List.getElem?_toArray]; rfl) (fun K hK => ?_) AllReadyH.nil
                    rw [if_pos (by rfl)]
                    go_wp2_with fail
                    have M9 := Lib.hid (m3_alloc M216711.out)
                    refine hK.out _ _ (trivial) (fun _ => ?_)
                    clear hK K
                    try simp only [Act.put, List.setIfInBounds_toArray, List.set_cons_zero, List.set_cons_succ]
                    refine wpAnyH_ready (rs := [13]) (by kernel_rfl) (by simp) ?_
                    refine AllReadyH.cons (by rw [List.getElem?_toArray]; rfl) (fun K hK => ?_) AllReadyH.nil
                    rw [if_pos (by rfl)]
                    refine wp_append_row _ _ rfl Tryd.underlying30 hj.out ez0.out ez1.out ez2.out rfl (m3_own M9.out) (src_two (P := Tryd.prog) Tryd.underlying30 v216711 _ _ ⟨_, _, _, rfl⟩ ⟨_, _, _, rfl⟩) (by unfold maxLen; omega) (by omega) ?_
                    intro q9 k9 w9 own9 grow9 fr9
                    have F9 := Lib.hid (m3_fin M9.out own9 grow9)
                    clear own9 grow9 fr9 M9
                    refine hK.out _ _ (trivial) (fun _ => ?_)
                    clear hK K
                    try simp only [Act.put, List.setIfInBounds_toArray, List.set_cons_zero, List.set_cons_succ]
                    refine wpAnyH_take (i := 14) (v := ?_) (by rw [List.getElem?_toArray]; rfl) (by kernel_rfl) (by kernel_rfl) (by kernel_rfl) (by exact fun _ _ _ h => h) (Or.inl ⟨by rfl, ?_⟩) h0 ?_
                    rotate_left
                    · intro W hW
                      go_simp
                      all_goals with_reducible rfl
                    try simp only [Act.put, List.setIfInBounds_toArray, List.set_cons_zero, List.set_cons_succ]
                    refine wpAnyH_done (by kernel_rfl) ?_ _
                    go_wp2_with fail
                    go_meet
                    exact ⟨_, _, rfl, F9.out.2, F9.out.1⟩
                  · rw [if_pos (by rfl)]
                    go_wp2_with fail
                    have M217 := Lib.hid (M21.out.new2 (k := v21.heap.size) rfl)
                    generalize v21.alloc (.cells #[] 5) = v217 at M217 ⊢
                    refine hK.out _ _ (trivial) (fun _ => ?_)
                    clear hK K
                    clear M21
                    try simp only [Act.put, List.setIfInBounds_toArray, List.set_cons_zero, List.set_cons_succ]
                    refine wpAnyH_ready (rs := [6]) (by kernel_rfl) (by simp) ?_
                    refine AllReadyH.cons (by rw [List.getElem?_toArray]; rfl) (fun K hK => ?_) AllReadyH.nil
                    rw [if_pos (by rfl)]
                    refine wp_append_row _ _ rfl Tryd.underlying22 hi.out hz0.out hz1.out hz2.out rfl M217.out.o1 (Rd.src (xs := xs.take kc) Tryd.underlying22 (R1.out.on M217.out.below)) (by have := ht1; unfold maxLen; simp only [List.length_nil]; omega) (by have := ht1; simp only [List.length_nil]; omega) ?_
                    intro q2176 k2176 v2176 own2176 grow2176 fr2176
                    have M2176 := Lib.hid (M217.out.grow1 rfl own2176 grow2176 fr2176)
                    rw [List.nil_append] at M2176
                    clear own2176 grow2176 fr2176
                    refine hK.out _ _ (trivial) (fun _ => ?_)
                    clear hK K
                    clear M217
                    try simp only [Act.put, List.setIfInBounds_toArray, List.set_cons_zero, List.set_cons_succ]
                    rw [e76] at M2176 ⊢
                    refine wpAnyH_ready (rs := [11]) (by kernel_rfl) (by simp) ?_
                    refine AllReadyH.cons (by rw [List.getElem?_toArray]; rfl) (fun K hK => ?_) AllReadyH.nil
                    rw [if_pos (by rfl)]
                    refine wp_append_row _ _ rfl Tryd.underlying22 hi.out hz0.out hz1.out hz2.out rfl M2176.out.o2 (Rd.src (xs := xs.drop kc) Tryd.underlying22 (R2.out.on M2176.out.below)) (by have := ht2; unfold maxLen; simp only [List.length_nil]; omega) (by have := ht2; simp only [List.length_nil]; omega) ?_
                    intro q217611 k217611 v217611 own217611 grow217611 fr217611
                    have M217611 := Lib.hid (M2176.out.grow2 rfl own217611 grow217611 fr217611)
                    rw [List.nil_append] at M217611
                    clear own217611 grow217611 fr217611
                    refine hK.out _ _ (trivial) (fun _ => ?_)
                    clear hK K
                    clear M2176
                    try simp only [Act.put, List.setIfInBounds_toArray, List.set_cons_zero, List.set_cons_succ]
                    rw [e81] at M217611 ⊢
                    have hvl := M217611.out.plen
                    skip
                    refine wpAnyH_ready (rs := [12]) (by kernel_rfl) (by simp) ?_
                    refine AllReadyH.cons (by rw [List.getElem?_toArray]; rfl) (fun K hK => ?_) AllReadyH.nil
                    rw [if_pos (by rfl)]
                    go_wp2_with fail
                    have M9 := Lib.hid (m3_alloc M217611.out)
                    refine hK.out _ _ (trivial) (fun _ => ?_)
                    clear hK K
                    try simp only [Act.put, List.setIfInBounds_toArray, List.set_cons_zero, List.set_cons_succ]
                    refine wpAnyH_ready (rs := [13]) (by kernel_rfl) (by simp) ?_
                    refine AllReadyH.cons (by rw [List.getElem?_toArray]; rfl) (fun K hK => ?_) AllReadyH.nil
                    rw [if_pos (by rfl)]
                    refine wp_append_row _ _ rfl Tryd.underlying30 hj.out ez0.out ez1.out ez2.out rfl (m3_own M9.out) (src_two (P := Tryd.prog) Tryd.underlying30 v217611 _ _ ⟨_, _, _, rfl⟩ ⟨_, _, _, rfl⟩) (by unfold maxLen; omega) (by omega) ?_
                    intro q9 k9 w9 own9 grow9 fr9
                    have F9 := Lib.hid (m3_fin M9.out own9 grow9)
                    clear own9 grow9 fr9 M9
                    refine hK.out _ _ (trivial) (fun _ => ?_)
                    clear hK K
                    try simp only [Act.put, List.setIfInBounds_toArray, List.set_cons_zero, List.set_cons_succ]
                    refine wpAnyH_take (i := 14) (v := ?_) (by rw [List.getElem?_toArray]; rfl) (by kernel_rfl) (by kernel_rfl) (by kernel_rfl) (by exact fun _ _ _ h => h) (Or.inl ⟨by rfl, ?_⟩) h0 ?_
                    rotate_left
                    · intro W hW
                      go_simp
                      all_goals with_reducible rfl
                    try simp only [Act.put, List.setIfInBounds_toArray, List.set_cons_zero, List.set_cons_succ]
                    refine wpAnyH_done (by kernel_rfl) ?_ _
                    go_wp2_with fail
                    go_meet
                    exact ⟨_, _, rfl, F9.out.2, F9.out.1⟩
                · rw [if_pos (by rfl)]
                  go_wp2_with fail
                  have M27 := Lib.hid (M2.out.new2 (k := v2.heap.size) rfl)
                  generalize v2.alloc (.cells #[] 5) = v27 at M27 ⊢
                  refine hK.out _ _ (trivial) (fun _ => ?_)
                  clear hK K
                  clear M2
                  try simp only [Act.put, List.setIfInBounds_toArray, List.set_cons_zero, List.set_cons_succ]
                  refine wpAnyH_ready (rs := [1]) (by kernel_rfl) (by simp) ?_
                  refine AllReadyH.cons (by rw [List.getElem?_toArray]; rfl) (fun K hK => ?_) AllReadyH.nil
                  rw [if_pos (by rfl)]
                  go_wp2_with fail
                  refine (Parts_any (HL7.out.onb M27.out.below) (by omega) (fun i => by have := HLL.out i; omega)).mono ?_
                  rintro e v271 ⟨vp, vs, rfl, hp⟩
                  obtain ⟨qp, cp, rfl⟩ := own_slice hp.own
                  have M271 := Lib.hid (M27.out.call hp)
                  clear hp
                  go_wp2_with fail
                  refine hK.out _ _ (trivial) (fun _ => ?_)
                  clear hK K
                  clear M27
                  try simp only [Act.put, List.setIfInBounds_toArray, List.set_cons_zero, List.set_cons_succ]
                  refine wpAnyH_ready (rs := [6]) (by kernel_rfl) (by simp) ?_
                  refine AllReadyH.cons (by rw [List.getElem?_toArray]; rfl) (fun K hK => ?_) AllReadyH.nil
                  rw [if_pos (by rfl)]
                  refine wp_append_row _ _ rfl Tryd.underlying22 hi.out hz0.out hz1.out hz2.out rfl M271.out.o1 (Rd.src (xs := xs.take kc) Tryd.underlying22 (R1.out.on M271.out.below)) (by have := ht1; unfold maxLen; simp only [List.length_nil]; omega) (by have := ht1; simp only [List.length_nil]; omega) ?_
                  intro q2716 k2716 v2716 own2716 grow2716 fr2716
                  have M2716 := Lib.hid (M271.out.grow1 rfl own2716 grow2716 fr2716)
                  rw [List.nil_append] at M2716
                  clear own2716 grow2716 fr2716
                  refine hK.out _ _ (trivial) (fun _ => ?_)
                  clear hK K
                  clear M271
                  try simp only [Act.put, List.setIfInBounds_toArray, List.set_cons_zero, List.set_cons_succ]
                  rw [e76] at M2716 ⊢
                  refine wpAnyH_ready (rs := [11]) (by kernel_rfl) (by simp) ?_
                  refine AllReadyH.cons (by rw [List.getElem?_toArray]; rfl) (fun K hK => ?_) AllReadyH.nil
                  rw [if_pos (by rfl)]
                  refine wp_append_row _ _ rfl Tryd.underlying22 hi.out hz0.out hz1.out hz2.out rfl M2716.out.o2 (Rd.src (xs := xs.drop kc) Tryd.underlying22 (R2.out.on M2716.out.below)) (by have := ht2; unfold maxLen; simp only [List.length_nil]; omega) (by have := ht2; simp only [List.length_nil]; omega) ?_
                  intro q271611 k271611 v271611 own271611 grow271611 fr271611
                  have M271611 := Lib.hid (M2716.out.grow2 rfl own271611 grow271611 fr271611)
                  rw [List.nil_append] at M271611
                  clear own271611 grow271611 fr271611
                  refine hK.out _ _ (trivial) (fun _ => ?_)
                  clear hK K
                  clear M2716
                  try simp only [Act.put, List.setIfInBounds_toArray, List.set_cons_zero, List.set_cons_succ]
                  rw [e81] at M271611 ⊢
                  have hvl := M271611.out.plen
                  skip
                  refine wpAnyH_ready (rs := [12]) (by kernel_rfl) (by simp) ?_
                  refine AllReadyH.cons (by rw [List.getElem?_toArray]; rfl) (fun K hK => ?_) AllReadyH.nil
                  rw [if_pos (by rfl)]
                  go_wp2_with fail
                  have M9 := Lib.hid (m3_alloc M271611.out)
                  refine hK.out _ _ (trivial) (fun _ => ?_)
                  clear hK K
                  try simp only [Act.put, List.setIfInBounds_toArray, List.set_cons_zero, List.set_cons_succ]
                  refine wpAnyH_ready (rs := [13]) (by kernel_rfl) (by simp) ?_
                  refine AllReadyH.cons (by rw [List.getElem?_toArray]; rfl) (fun K hK => ?_) AllReadyH.nil
                  rw [if_pos (by rfl)]
                  refine wp_append_row _ _ rfl Tryd.underlying30 hj.out ez0.out ez1.out ez2.out rfl (m3_own M9.out) (src_two (P := Tryd.prog) Tryd.underlying30 v271611 _ _ ⟨_, _, _, rfl⟩ ⟨_, _, _, rfl⟩) (by unfold maxLen; omega) (by omega) ?_
                  intro q9 k9 w9 own9 grow9 fr9
                  have F9 := Lib.hid (m3_fin M9.out own9 grow9)
                  clear own9 grow9 fr9 M9
                  refine hK.out _ _ (trivial) (fun _ => ?_)
                  clear hK K
                  try simp only [Act.put, List.setIfInBounds_toArray, List.set_cons_zero, List.set_cons_succ]
                  refine wpAnyH_take (i := 14) (v := ?_) (by rw [List.getElem?_toArray]; rfl) (by kernel_rfl) (by kernel_rfl) (by kernel_rfl) (by exact fun _ _ _ h => h) (Or.inl ⟨by rfl, ?_⟩) h0 ?_
                  rotate_left
                  · intro W hW
                    go_simp
                    all_goals with_reducible rfl
                  try simp only [Act.put, List.setIfInBounds_toArray, List.set_cons_zero, List.set_cons_succ]
                  refine wpAnyH_done (by kernel_rfl) ?_ _
                  go_wp2_with fail
                  go_meet
                  exact ⟨_, _, rfl, F9.out.2, F9.out.1⟩
              · rw [if_pos (by rfl)]
                go_wp2_with fail
                have M7 := Lib.hid (M0.out.new2 (k := v0.heap.size) rfl)
                generalize v0.alloc (.cells #[] 5) = v7 at M7 ⊢
                refine hK.out _ _ (trivial) (fun _ => ?_)
                clear hK K
                skip
                try simp only [Act.put, List.setIfInBounds_toArray, List.set_cons_zero, List.set_cons_succ]
                refine wpAnyH_ready (rs := [1, 2]) (by kernel_rfl) (by simp) ?_
                refine AllReadyH.cons (by rw [List.getElem?_toArray]; rfl) (fun K hK => ?_) (AllReadyH.cons (by rw [List.getElem?_toArray]; rfl) (fun K hK => ?_) AllReadyH.nil)
                · rw [if_pos (by rfl)]
                  go_wp2_with fail
                  refine (Parts_any (HL7.out.onb M7.out.below) (by omega) (fun i => by have := HLL.out i; omega)).mono ?_
                  rintro e v71 ⟨vp, vs, rfl, hp⟩
                  obtain ⟨qp, cp, rfl⟩ := own_slice hp.own
                  have M71 := Lib.hid (M7.out.call hp)
                  clear hp
                  go_wp2_with fail
                  refine hK.out _ _ (trivial) (fun _ => ?_)
                  clear hK K
                  clear M7
                  try simp only [Act.put, List.setIfInBounds_toArray, List.set_cons_zero, List.set_cons_succ]
                  refine wpAnyH_ready (rs := [2]) (by kernel_rfl) (by simp) ?_
                  refine AllReadyH.cons (by rw [List.getElem?_toArray]; rfl) (fun K hK => ?_) AllReadyH.nil
                  rw [if_pos (by rfl)]
                  go_wp2_with fail
                  have M712 := Lib.hid (M71.out.new1 (k := v71.heap.size) rfl)
                  generalize v71.alloc (.cells #[] 5) = v712 at M712 ⊢
                  refine hK.out _ _ (trivial) (fun _ => ?_)
                  clear hK K
                  clear M71
                  try simp only [Act.put, List.setIfInBounds_toArray, List.set_cons_zero, List.set_cons_succ]
                  refine wpAnyH_ready (rs := [6]) (by kernel_rfl) (by simp) ?_
                  refine AllReadyH.cons (by rw [List.getElem?_toArray]; rfl) (fun K hK => ?_) AllReadyH.nil
                  rw [if_pos (by rfl)]
                  refine wp_append_row _ _ rfl Tryd.underlying22 hi.out hz0.out hz1.out hz2.out rfl M712.out.o1 (Rd.src (xs := xs.take kc) Tryd.underlying22 (R1.out.on M712.out.below)) (by have := ht1; unfold maxLen; simp only [List.length_nil]; omega) (by have := ht1; simp only [List.length_nil]; omega) ?_
                  intro q7126 k7126 v7126 own7126 grow7126 fr7126
                  have M7126 := Lib.hid (M712.out.grow1 rfl own7126 grow7126 fr7126)
                  rw [List.nil_append] at M7126
                  clear own7126 grow7126 fr7126
                  refine hK.out _ _ (trivial) (fun _ => ?_)
                  clear hK K
                  clear M712
                  try simp only [Act.put, List.setIfInBounds_toArray, List.set_cons_zero, List.set_cons_succ]
                  rw [e76] at M7126 ⊢
                  refine wpAnyH_ready (rs := [11]) (by kernel_rfl) (by simp) ?_
                  refine AllReadyH.cons (by rw [List.getElem?_toArray]; rfl) (fun K hK => ?_) AllReadyH.nil
                  rw [if_pos (by rfl)]
                  refine wp_append_row _ _ rfl Tryd.underlying22 hi.out hz0.out hz1.out hz2.out rfl M7126.out.o2 (Rd.src (xs := xs.drop kc) Tryd.underlying22 (R2.out.on M7126.out.below)) (by have := ht2; unfold maxLen; simp only [List.length_nil]; omega) (by have := ht2; simp only [List.length_nil]; omega) ?_
                  intro q712611 k712611 v712611 own712611 grow712611 fr712611
                  have M712611 := Lib.hid (M7126.out.grow2 rfl own712611 grow712611 fr712611)
                  rw [List.nil_append] at M712611
                  clear own712611 grow712611 fr712611
                  refine hK.out _ _ (trivial) (fun _ => ?_)
                  clear hK K
                  clear M7126
                  try simp only [Act.put, List.setIfInBounds_toArray, List.set_cons_zero, List.set_cons_succ]
                  rw [e81] at M712611 ⊢
                  have hvl := M712611.out.plen
                  skip
                  refine wpAnyH_ready (rs := [12]) (by kernel_rfl) (by simp) ?_
                  refine AllReadyH.cons (by rw [List.getElem?_toArray]; rfl) (fun K hK => ?_) AllReadyH.nil
                  rw [if_pos (by rfl)]
                  go_wp2_with fail
                  have M9 := Lib.hid (m3_alloc M712611.out)
                  refine hK.out _ _ (trivial) (fun _ => ?_)
                  clear hK K
                  try simp only [Act.put, List.setIfInBounds_toArray, List.set_cons_zero, List.set_cons_succ]
                  refine wpAnyH_ready (rs := [13]) (by kernel_rfl) (by simp) ?_
                  refine AllReadyH.cons (by rw [List.getElem?_toArray]; rfl) (fun K hK => ?_) AllReadyH.nil
                  rw [if_pos (by rfl)]
                  refine wp_append_row _ _ rfl Tryd.underlying30 hj.out ez0.out ez1.out ez2.out rfl (m3_own M9.out) (src_two (P := Tryd.prog) Tryd.underlying30 v712611 _ _ ⟨_, _, _, rfl⟩ ⟨_, _, _, rfl⟩) (by unfold maxLen; omega) (by omega) ?_
                  intro q9 k9 w9 own9 grow9 fr9
                  have F9 := Lib.hid (m3_fin M9.out own9 grow9)
                  clear own9 grow9 fr9 M9
                  refine hK.out _ _ (trivial) (fun _ => ?_)
                  clear hK K
                  try simp only [Act.put, List.setIfInBounds_toArray, List.set_cons_zero, List.set_cons_succ]
                  refine wpAnyH_take (i := 14) (v := ?_) (by rw [List.getElem?_toArray]; rfl) (by kernel_rfl) (by kernel_rfl) (by kernel_rfl) (by exact fun _ _ _ h => h) (Or.inl ⟨by rfl, ?_⟩) h0 ?_
                  rotate_left
                  · intro W hW
                    go_simp
                    all_goals with_reducible rfl
                  try simp only [Act.put, List.setIfInBounds_toArray, List.set_cons_zero, List.set_cons_succ]
                  refine wpAnyH_done (by kernel_rfl) ?_ _
                  go_wp2_with fail
                  go_meet
                  exact ⟨_, _, rfl, F9.out.2, F9.out.1⟩
                · rw [if_pos (by rfl)]
                  go_wp2_with fail
                  have M72 := Lib.hid (M7.out.new1 (k := v7.heap.size) rfl)
                  generalize v7.alloc (.cells #[] 5) = v72 at M72 ⊢
                  refine hK.out _ _ (trivial) (fun _ => ?_)
                  clear hK K
                  clear M7
                  try simp only [Act.put, List.setIfInBounds_toArray, List.set_cons_zero, List.set_cons_succ]
                  refine wpAnyH_ready (rs := [1]) (by kernel_rfl) (by simp) ?_
                  refine AllReadyH.cons (by rw [List.getElem?_toArray]; rfl) (fun K hK => ?_) AllReadyH.nil
                  rw [if_pos (by rfl)]
                  go_wp2_with fail
                  refine (Parts_any (HL7.out.onb M72.out.below) (by omega) (fun i => by have := HLL.out i; omega)).mono ?_
                  rintro e v721 ⟨vp, vs, rfl, hp⟩
                  obtain ⟨qp, cp, rfl⟩ := own_slice hp.own
                  have M721 := Lib.hid (M72.out.call hp)
                  clear hp
                  go_wp2_with fail
                  refine hK.out _ _ (trivial) (fun _ => ?_)
                  clear hK K
                  clear M72
                  try simp only [Act.put, List.setIfInBounds_toArray, List.set_cons_zero, List.set_cons_succ]
                  refine wpAnyH_ready (rs := [6]) (by kernel_rfl) (by simp) ?_
                  refine AllReadyH.cons (by rw [List.getElem?_toArray]; rfl) (fun K hK => ?_) AllReadyH.nil
                  rw [if_pos (by rfl)]
                  refine wp_append_row _ _ rfl Tryd.underlying22 hi.out hz0.out hz1.out hz2.out rfl M721.out.o1 (Rd.src (xs := xs.take kc) Tryd.underlying22 (R1.out.on M721.out.below)) (by have := ht1; unfold maxLen; simp only [List.length_nil]; omega) (by have := ht1; simp only [List.length_nil]; omega) ?_
                  intro q7216 k7216 v7216 own7216 grow7216 fr7216
                  have M7216 := Lib.hid (M721.out.grow1 rfl own7216 grow7216 fr7216)
                  rw [List.nil_append] at M7216
                  clear own7216 grow7216 fr7216
                  refine hK.out _ _ (trivial) (fun _ => ?_)
                  clear hK K
                  clear M721
                  try simp only [Act.put, List.setIfInBounds_toArray, List.set_cons_zero, List.set_cons_succ]
                  rw [e76] at M7216 ⊢
                  refine wpAnyH_ready (rs := [11]) (by kernel_rfl) (by simp) ?_
                  refine AllReadyH.cons (by rw [List.getElem?_toArray]; rfl) (fun K hK => ?_) AllReadyH.nil
                  rw [if_pos (by rfl)]
                  refine wp_append_row _ _ rfl Tryd.underlying22 hi.out hz0.out hz1.out hz2.out rfl M7216.out.o2 (Rd.src (xs := xs.drop kc) Tryd.underlying22 (R2.out.on M7216.out.below)) (by have := ht2; unfold maxLen; simp only [List.length_nil]; omega) (by have := ht2; simp only [List.length_nil]; omega) ?_
                  intro q721611 k721611 v721611 own721611 grow721611 fr721611
                  have M721611 := Lib.hid (M7216.out.grow2 rfl own721611 grow721611 fr721611)
                  rw [List.nil_append] at M721611
                  clear own721611 grow721611 fr721611
                  refine hK.out _ _ (trivial) (fun _ => ?_)
                  clear hK K
                  clear M7216
                  try simp only [Act.put, List.setIfInBounds_toArray, List.set_cons_zero, List.set_cons_succ]
                  rw [e81] at M721611 ⊢
                  have hvl := M721611.out.plen
                  skip
                  refine wpAnyH_ready (rs := [12]) (by kernel_rfl) (by simp) ?_
                  refine AllReadyH.cons (by rw [List.getElem?_toArray]; rfl) (fun K hK => ?_) AllReadyH.nil
                  rw [if_pos (by rfl)]
                  go_wp2_with fail
                  have M9 := Lib.hid (m3_alloc M721611.out)
                  refine hK.out _ _ (trivial) (fun _ => ?_)
                  clear hK K
                  try simp only [Act.put, List.setIfInBounds_toArray, List.set_cons_zero, List.set_cons_succ]
                  refine wpAnyH_ready (rs := [13]) (by kernel_rfl) (by simp) ?_
                  refine AllReadyH.cons (by rw [List.getElem?_toArray]; rfl) (fun K hK => ?_) AllReadyH.nil
                  rw [if_pos (by rfl)]
                  refine wp_append_row _ _ rfl Tryd.underlying30 hj.out ez0.out ez1.out ez2.out rfl (m3_own M9.out) (src_two (P := Tryd.prog) Tryd.underlying30 v721611 _ _ ⟨_, _, _, rfl⟩ ⟨_, _, _, rfl⟩) (by unfold maxLen; omega) (by omega) ?_
                  intro q9 k9 w9 own9 grow9 fr9
                  have F9 := Lib.hid (m3_fin M9.out own9 grow9)
                  clear own9 grow9 fr9 M9
                  refine hK.out _ _ (trivial) (fun _ => ?_)
                  clear hK K
                  try simp only [Act.put, List.setIfInBounds_toArray, List.set_cons_zero, List.set_cons_succ]
                  refine wpAnyH_take (i := 14) (v := ?_) (by rw [List.getElem?_toArray]; rfl) (by kernel_rfl) (by kernel_rfl) (by kernel_rfl) (by exact fun _ _ _ h => h) (Or.inl ⟨by rfl, ?_⟩) h0 ?_
                  rotate_left
                  · intro W hW
                    go_simp
                    all_goals with_reducible rfl
                  try simp only [Act.put, List.setIfInBounds_toArray, List.set_cons_zero, List.set_cons_succ]
                  refine wpAnyH_done (by kernel_rfl) ?_ _
                  go_wp2_with fail
                  go_meet
                  exact ⟨_, _, rfl, F9.out.2, F9.out.1⟩
            case rest =>
              obtain ⟨qy, cy, rfl, HY⟩ := hcut
              have B8 := Lib.hid (B3.out.trans ((B7.out.trans (HY.out.1.mono B7.out.size)).mono B3.out.size))
              have HK8 := Lib.hid (RX.out.on (B7.out.trans (HY.out.1.mono B7.out.size)))
              have RX8 := Lib.hid (RX7.out.onb HY.out.1)
              have RY8 := Lib.hid HY.out.2
              have HT8 := Lib.hid (HT.out.on B8.out HT.out.pos)
              have HL8 := Lib.hid (HL.out.onb B8.out)
              clear HY RX7 RX B7 B3 HT HL HXS HXQ
              go_wp2_with fail
              refine (knows_any HT8.out).mono ?_
              rintro e wk ⟨rfl, hbk⟩
              have BK := Lib.hid (B8.out.trans (hbk.mono B8.out.size))
              have HK := Lib.hid (HK8.out.on hbk)
              have RXk := Lib.hid (RX8.out.onb hbk)
              have RYk := Lib.hid (RY8.out.onb hbk)
              have HTk := Lib.hid (HT8.out.on hbk HT8.out.pos)
              have HLk := Lib.hid (HL8.out.onb hbk)
              clear hbk B8 HK8 RX8 RY8 HT8 HL8
              obtain ⟨sX, hsXe⟩ : ∃ t, s ++ (⟨#[120]⟩ : ByteArray) = t := ⟨_, rfl⟩
              have szX : Hid (sX.size = s.size + 1) := by
                show _ = _
                rw [← hsXe, ByteArray.size_append]; rfl
              have hsX : Hid (sX.size ≤ maxLen) := by
                show _ ≤ _
                rw [szX.out]; unfold maxLen; omega
              have EX := Lib.hid (add_x hsXe)
              have HNT : Hid (sn s ≠ sn sX) := by
                show _ ≠ _
                intro e
                have e1 := congrArg List.length e
                rw [sn_len, sn_len, szX.out] at e1; omega
              have hxt : (xs.take kc).length + (xs.drop kc).length = xs.length := by rw [List.length_take, List.length_drop]; omega
              have bLx : ∀ b ∈ L ++ [xs], Bytes b := fun b hb => by
                rcases List.mem_append.1 hb with hb | hb
                · exact bL.out b hb
                · obtain rfl := List.mem_singleton.1 hb; exact bX.out
              have bLy : ∀ b ∈ L ++ [xs.take kc, xs.drop kc], Bytes b := fun b hb => by
                rcases List.mem_append.1 hb with hb | hb
                · exact bL.out b hb
                · simp only [List.mem_cons, List.not_mem_nil, or_false] at hb
                  rcases hb with rfl | rfl
                  · exact fun z hz => bX.out z (List.mem_of_mem_take hz)
                  · exact fun z hz => bX.out z (List.mem_of_mem_drop hz)
              have lbx : (blobs (L ++ [xs])).length = (blobs L).length + 8 + xs.length := by rw [blobs_app]; simp [blobs]; omega
              have lby : (blobs (L ++ [xs.take kc, xs.drop kc])).length = (blobs L).length + 16 + xs.length := by rw [blobs_app, List.length_append, ← hxt]; simp [blobs]; omega
              have lsx := szX.out
              have lA : Hid ((frm (sn s) L).length ≤ 100000) := by show _ ≤ _; rw [frm_len, sn_len]; omega
              have lB : Hid ((frm (sn s) (L ++ [xs])).length ≤ 100000) := by show _ ≤ _; rw [frm_len, sn_len]; omega
              have lC : Hid ((frm (sn sX) L).length ≤ 100000) := by show _ ≤ _; rw [frm_len, sn_len]; omega
              have lD : Hid ((frm (sn s) (L ++ [xs.take kc, xs.drop kc])).length ≤ 100000) := by show _ ≤ _; rw [frm_len, sn_len]; omega
              have bA := Lib.hid (frm_bytes (sn_bytes s) (by rw [sn_len]; omega) bL.out)
              have bB := Lib.hid (frm_bytes (sn_bytes s) (by rw [sn_len]; omega) bLx)
              have bC := Lib.hid (frm_bytes (sn_bytes sX) (by rw [sn_len]; omega) bL.out)
              have bD := Lib.hid (frm_bytes (sn_bytes s) (by rw [sn_len]; omega) bLy)
              have SM : Hid ((∀ b ∈ L, b.length < 18446744073709551616) ∧ (∀ b ∈ L ++ [xs], b.length < 18446744073709551616) ∧ ∀ b ∈ L ++ [xs.take kc, xs.drop kc], b.length < 18446744073709551616) := by
                have h0 : ∀ b ∈ L, b.length < 18446744073709551616 := fun b hb => by
                  obtain ⟨i, hi, rfl⟩ := List.getElem_of_mem hb
                  have := HLL.out i
                  rw [show L.getD i [] = L[i] by simp [List.getD, hi]] at this
                  omega
                refine ⟨h0, fun b hb => ?_, fun b hb => ?_⟩
                · rcases List.mem_append.1 hb with hb | hb
                  · exact h0 b hb
                  · obtain rfl := List.mem_singleton.1 hb; omega
                · rcases List.mem_append.1 hb with hb | hb
                  · exact h0 b hb
                  · simp only [List.mem_cons, List.not_mem_nil, or_false] at hb
                    rcases hb with rfl | rfl <;> omega
              have N01 : Hid (frm (sn s) L ≠ frm (sn s) (L ++ [xs])) := fun e => by
                have := congrArg List.length (frm_inj SM.out.1 SM.out.2.1 e).2
                simp at this
              have N02 : Hid (frm (sn s) L ≠ frm (sn sX) L) := fun e => HNT.out (frm_inj SM.out.1 SM.out.1 e).1
              have N13 : Hid (frm (sn s) (L ++ [xs]) ≠ frm (sn s) (L ++ [xs.take kc, xs.drop kc])) := fun e => by
                have := congrArg List.length (frm_inj SM.out.2.1 SM.out.2.2 e).2
                simp at this
              clear bLx bLy lbx lby lsx hxt SM HNT
              obtain ⟨FB, hFB⟩ : ∃ F, sha (frm (sn s) (L ++ [xs])) = F := ⟨_, rfl⟩
              obtain ⟨FC, hFC⟩ : ∃ F, sha (frm (sn sX) L) = F := ⟨_, rfl⟩
              obtain ⟨FD, hFD⟩ : ∃ F, sha (frm (sn s) (L ++ [xs.take kc, xs.drop kc])) = F := ⟨_, rfl⟩
              have lFB := Lib.hid (show FB.length = 32 by rw [← hFB]; exact sha_len _)
              have lFC := Lib.hid (show FC.length = 32 by rw [← hFC]; exact sha_len _)
              have lFD := Lib.hid (show FD.length = 32 by rw [← hFD]; exact sha_len _)
              have EB := Lib.hid hFB
              have EC := Lib.hid hFC
              have ED := Lib.hid hFD
              clear hFB hFC hFD
              obtain ⟨xA, hxA⟩ : ∃ x, frm (sn s) L = x := ⟨_, rfl⟩
              obtain ⟨xB, hxB⟩ : ∃ x, frm (sn s) (L ++ [xs]) = x := ⟨_, rfl⟩
              obtain ⟨xC, hxC⟩ : ∃ x, frm (sn sX) L = x := ⟨_, rfl⟩
              obtain ⟨xD, hxD⟩ : ∃ x, frm (sn s) (L ++ [xs.take kc, xs.drop kc]) = x := ⟨_, rfl⟩
              have XA := Lib.hid hxA
              have XB := Lib.hid hxB
              have XC := Lib.hid hxC
              have XD := Lib.hid hxD
              have lA2 := Lib.hid (show xA.length ≤ 100000 by rw [← hxA]; exact lA.out)
              have lB2 := Lib.hid (show xB.length ≤ 100000 by rw [← hxB]; exact lB.out)
              have lC2 := Lib.hid (show xC.length ≤ 100000 by rw [← hxC]; exact lC.out)
              have lD2 := Lib.hid (show xD.length ≤ 100000 by rw [← hxD]; exact lD.out)
              have bA2 := Lib.hid (show Bytes xA by rw [← hxA]; exact bA.out)
              have bB2 := Lib.hid (show Bytes xB by rw [← hxB]; exact bB.out)
              have bC2 := Lib.hid (show Bytes xC by rw [← hxC]; exact bC.out)
              have bD2 := Lib.hid (show Bytes xD by rw [← hxD]; exact bD.out)
              have sA := Lib.hid (show sha xA = FA by rw [← hxA]; exact EFA.out)
              have sB := Lib.hid (show sha xB = FB by rw [← hxB]; exact EB.out)
              have sC := Lib.hid (show sha xC = FC by rw [← hxC]; exact EC.out)
              have sD := Lib.hid (show sha xD = FD by rw [← hxD]; exact ED.out)
              have n01 := Lib.hid (show xA ≠ xB by rw [← hxA, ← hxB]; exact N01.out)
              have n02 := Lib.hid (show xA ≠ xC by rw [← hxA, ← hxC]; exact N02.out)
              have n13 := Lib.hid (show xB ≠ xD by rw [← hxB, ← hxD]; exact N13.out)
              clear hxA hxB hxC hxD N01 N02 N13 hsXe
              go_wp2_with fail
              by_cases r1 : FB = FA
              · have D1 : Hid ((FB == FA) = true) := by show _ = _; rw [r1]; exact beq_self_eq_true _
                have SR : Hid (sha xA = sha xB) := by show _ = _; rw [sA.out, sB.out, r1]
                clear r1
                refine wp_region_held_drew (S := fun W => HashAt W bh FA ∧ Below wk.heap.size wk W) (by kernel_rfl) (⟨HK.out, (Below.refl _ _).drew⟩) (fun h0 => ?_)
                refine wpAnyH_take (i := 0) (v := ?_) (by rw [List.getElem?_toArray]; rfl) (by kernel_rfl) (by kernel_rfl) (by kernel_rfl) (by exact fun _ _ _ h => h) (Or.inl ⟨by rfl, ?_⟩) h0 ?_
                rotate_left
                · intro W hW
                  go_simp
                  all_goals with_reducible rfl
                try simp only [Act.put, List.setIfInBounds_toArray, List.set_cons_zero, List.set_cons_succ]
                refine wpAnyH_take (i := 1) (v := ?_) (by rw [List.getElem?_toArray]; rfl) (by kernel_rfl) (by kernel_rfl) (by kernel_rfl) (by exact fun _ _ _ h => h) (Or.inl ⟨by rfl, ?_⟩) h0 ?_
                rotate_left
                · intro W hW
                  go_simp
                  all_goals with_reducible rfl
                try simp only [Act.put, List.setIfInBounds_toArray, List.set_cons_zero, List.set_cons_succ]
                refine wpAnyH_take (i := 3) (v := ?_) (by rw [List.getElem?_toArray]; rfl) (by kernel_rfl) (by kernel_rfl) (by kernel_rfl) (by exact fun _ _ _ h => h) (Or.inl ⟨by rfl, ?_⟩) h0 ?_
                rotate_left
                · intro W hW
                  have hr := hW.1.row lFA.out
                  go_simp
                  all_goals with_reducible rfl
                try simp only [Act.put, List.setIfInBounds_toArray, List.set_cons_zero, List.set_cons_succ]
                refine wpAnyH_ready (rs := [2]) (by kernel_rfl) (by simp) ?_
                refine AllReadyH.cons (by rw [List.getElem?_toArray]; rfl) (fun K hK => ?_) AllReadyH.nil
                rw [if_pos (by rfl)]
                have KK := Tagged_any (s := s) (t := s) (RXk.out.onb h0.2) (HTk.out.on h0.2 HTk.out.pos) hs.out (cut_small (by omega)) (Nat.le_trans lB.out (by decide)) bB.out
                rw [EB.out] at KK
                go_wp2_with fail
                refine KK.mono ?_
                rintro e y2 ⟨rfl, hb2⟩
                clear KK
                go_wp2_with fail
                refine hK.out _ _ (⟨h0.1.on hb2, h0.2.trans (hb2.mono h0.2.size)⟩) (fun h2 => ?_)
                clear hK K
                try simp only [Act.put, List.setIfInBounds_toArray, List.set_cons_zero, List.set_cons_succ]
                refine wpAnyH_take (i := 4) (v := ?_) (by rw [List.getElem?_toArray]; rfl) (by kernel_rfl) (by kernel_rfl) (by kernel_rfl) (by exact fun _ _ _ h => h) (Or.inl ⟨by rfl, ?_⟩) h2 ?_
                rotate_left
                · intro W hW
                  have l1 := lFA.out
                  have l2 := lFB.out
                  have d1 := D1.out
                  go_simp
                  all_goals with_reducible rfl
                try simp only [Act.put, List.setIfInBounds_toArray, List.set_cons_zero, List.set_cons_succ]
                refine wpAnyH_take (i := 5) (v := ?_) (by rw [List.getElem?_toArray]; rfl) (by kernel_rfl) (by kernel_rfl) (by kernel_rfl) (by exact fun _ _ _ h => h) (Or.inl ⟨by rfl, ?_⟩) h2 ?_
                rotate_left
                · intro W hW
                  go_simp
                  all_goals with_reducible rfl
                try simp only [Act.put, List.setIfInBounds_toArray, List.set_cons_zero, List.set_cons_succ]
                refine wpAnyH_take (i := 6) (v := undef) (by rw [List.getElem?_toArray]; rfl) (by kernel_rfl) (by kernel_rfl) (by kernel_rfl) (by exact fun _ _ _ h => h) (Or.inr ⟨by rfl, rfl⟩) h2 ?_
                try simp only [Act.put, List.setIfInBounds_toArray, List.set_cons_zero, List.set_cons_succ]
                refine wpAnyH_take (i := 7) (v := undef) (by rw [List.getElem?_toArray]; rfl) (by kernel_rfl) (by kernel_rfl) (by kernel_rfl) (by exact fun _ _ _ h => h) (Or.inr ⟨by rfl, rfl⟩) h2 ?_
                try simp only [Act.put, List.setIfInBounds_toArray, List.set_cons_zero, List.set_cons_succ]
                refine wpAnyH_take (i := 8) (v := undef) (by rw [List.getElem?_toArray]; rfl) (by kernel_rfl) (by kernel_rfl) (by kernel_rfl) (by exact fun _ _ _ h => h) (Or.inr ⟨by rfl, rfl⟩) h2 ?_
                try simp only [Act.put, List.setIfInBounds_toArray, List.set_cons_zero, List.set_cons_succ]
                refine wpAnyH_take (i := 11) (v := undef) (by rw [List.getElem?_toArray]; rfl) (by kernel_rfl) (by kernel_rfl) (by kernel_rfl) (by exact fun _ _ _ h => h) (Or.inr ⟨by rfl, rfl⟩) h2 ?_
                try simp only [Act.put, List.setIfInBounds_toArray, List.set_cons_zero, List.set_cons_succ]
                refine wpAnyH_take (i := 9) (v := undef) (by rw [List.getElem?_toArray]; rfl) (by kernel_rfl) (by kernel_rfl) (by kernel_rfl) (by exact fun _ _ _ h => h) (Or.inr ⟨by rfl, rfl⟩) h2 ?_
                try simp only [Act.put, List.setIfInBounds_toArray, List.set_cons_zero, List.set_cons_succ]
                refine wpAnyH_take (i := 10) (v := undef) (by rw [List.getElem?_toArray]; rfl) (by kernel_rfl) (by kernel_rfl) (by kernel_rfl) (by exact fun _ _ _ h => h) (Or.inr ⟨by rfl, rfl⟩) h2 ?_
                try simp only [Act.put, List.setIfInBounds_toArray, List.set_cons_zero, List.set_cons_succ]
                refine wpAnyH_take (i := 12) (v := undef) (by rw [List.getElem?_toArray]; rfl) (by kernel_rfl) (by kernel_rfl) (by kernel_rfl) (by exact fun _ _ _ h => h) (Or.inr ⟨by rfl, rfl⟩) h2 ?_
                try simp only [Act.put, List.setIfInBounds_toArray, List.set_cons_zero, List.set_cons_succ]
                refine wpAnyH_take (i := 13) (v := ?_) (by rw [List.getElem?_toArray]; rfl) (by kernel_rfl) (by kernel_rfl) (by kernel_rfl) (by exact fun _ _ _ h => h) (Or.inl ⟨by rfl, ?_⟩) h2 ?_
                rotate_left
                · intro W hW
                  go_simp
                  all_goals with_reducible rfl
                try simp only [Act.put, List.setIfInBounds_toArray, List.set_cons_zero, List.set_cons_succ]
                refine wpAnyH_take (i := 14) (v := ?_) (by rw [List.getElem?_toArray]; rfl) (by kernel_rfl) (by kernel_rfl) (by kernel_rfl) (by exact fun _ _ _ h => h) (Or.inl ⟨by rfl, ?_⟩) h2 ?_
                rotate_left
                · intro W hW
                  go_simp
                  all_goals with_reducible rfl
                try simp only [Act.put, List.setIfInBounds_toArray, List.set_cons_zero, List.set_cons_succ]
                refine wpAnyH_take (i := 15) (v := undef) (by rw [List.getElem?_toArray]; rfl) (by kernel_rfl) (by kernel_rfl) (by kernel_rfl) (by exact fun _ _ _ h => h) (Or.inr ⟨by rfl, rfl⟩) h2 ?_
                try simp only [Act.put, List.setIfInBounds_toArray, List.set_cons_zero, List.set_cons_succ]
                refine wpAnyH_take (i := 16) (v := undef) (by rw [List.getElem?_toArray]; rfl) (by kernel_rfl) (by kernel_rfl) (by kernel_rfl) (by exact fun _ _ _ h => h) (Or.inr ⟨by rfl, rfl⟩) h2 ?_
                try simp only [Act.put, List.setIfInBounds_toArray, List.set_cons_zero, List.set_cons_succ]
                refine wpAnyH_take (i := 18) (v := undef) (by rw [List.getElem?_toArray]; rfl) (by kernel_rfl) (by kernel_rfl) (by kernel_rfl) (by exact fun _ _ _ h => h) (Or.inr ⟨by rfl, rfl⟩) h2 ?_
                try simp only [Act.put, List.setIfInBounds_toArray, List.set_cons_zero, List.set_cons_succ]
                refine wpAnyH_take (i := 19) (v := undef) (by rw [List.getElem?_toArray]; rfl) (by kernel_rfl) (by kernel_rfl) (by kernel_rfl) (by exact fun _ _ _ h => h) (Or.inr ⟨by rfl, rfl⟩) h2 ?_
                try simp only [Act.put, List.setIfInBounds_toArray, List.set_cons_zero, List.set_cons_succ]
                refine wpAnyH_take (i := 17) (v := undef) (by rw [List.getElem?_toArray]; rfl) (by kernel_rfl) (by kernel_rfl) (by kernel_rfl) (by exact fun _ _ _ h => h) (Or.inr ⟨by rfl, rfl⟩) h2 ?_
                try simp only [Act.put, List.setIfInBounds_toArray, List.set_cons_zero, List.set_cons_succ]
                refine wpAnyH_take (i := 20) (v := undef) (by rw [List.getElem?_toArray]; rfl) (by kernel_rfl) (by kernel_rfl) (by kernel_rfl) (by exact fun _ _ _ h => h) (Or.inr ⟨by rfl, rfl⟩) h2 ?_
                try simp only [Act.put, List.setIfInBounds_toArray, List.set_cons_zero, List.set_cons_succ]
                refine wpAnyH_take (i := 21) (v := undef) (by rw [List.getElem?_toArray]; rfl) (by kernel_rfl) (by kernel_rfl) (by kernel_rfl) (by exact fun _ _ _ h => h) (Or.inr ⟨by rfl, rfl⟩) h2 ?_
                try simp only [Act.put, List.setIfInBounds_toArray, List.set_cons_zero, List.set_cons_succ]
                refine wpAnyH_take (i := 22) (v := ?_) (by rw [List.getElem?_toArray]; rfl) (by kernel_rfl) (by kernel_rfl) (by kernel_rfl) (by exact fun _ _ _ h => h) (Or.inl ⟨by rfl, ?_⟩) h2 ?_
                rotate_left
                · intro W hW
                  go_simp
                  all_goals with_reducible rfl
                try simp only [Act.put, List.setIfInBounds_toArray, List.set_cons_zero, List.set_cons_succ]
                refine wpAnyH_done (by kernel_rfl) ?_ _
                have Bz := h2.2
                have HLz := Lib.hid (HLk.out.onb Bz)
                have RXz := Lib.hid (RXk.out.onb Bz)
                have RYz := Lib.hid (RYk.out.onb Bz)
                have BZ := Lib.hid (BK.out.trans (Bz.mono BK.out.size))
                clear Bz
                go_wp2_with fail
                have KA := refFrame_any (s := s) (t := s) HLz.out hs.out (cut_small (by omega)) (Nat.le_trans lA.out (by decide))
                rw [XA.out] at KA
                refine KA.mono ?_
                rintro e a1 ⟨qa, na, ca, rfl, fa⟩
                have ba := fa.below
                have RA1 := Lib.hid fa.rd
                have RXa := Lib.hid (RXz.out.onb ba)
                have HLa := Lib.hid (HLz.out.onb ba)
                have RYa := Lib.hid (RYz.out.onb ba)
                have BA1 := Lib.hid (BZ.out.trans (ba.mono BZ.out.size))
                clear fa ba KA HLz RXz RYz BZ
                go_wp2_with fail
                have KB := refFrame_any (s := s) (t := s) RXa.out hs.out (cut_small (by omega)) (Nat.le_trans lB.out (by decide))
                rw [XB.out] at KB
                refine KB.mono ?_
                rintro e a2 ⟨qb, nb, cb, rfl, fb⟩
                have bb := fb.below
                have RB2 := Lib.hid fb.rd
                have RA2 := Lib.hid (RA1.out.on bb)
                have HLb := Lib.hid (HLa.out.onb bb)
                have RYb := Lib.hid (RYa.out.onb bb)
                have BA2 := Lib.hid (BA1.out.trans (bb.mono BA1.out.size))
                clear fb bb KB RA1 RXa HLa RYa BA1
                have ex := EX.out a2
                have e7 : ¬ 9223372036854775807 < s.size + 1 := by omega
                go_wp2_with fail
                have KC := refFrame_any (s := sX) (t := sX) HLb.out hsX.out (cut_small (by rw [szX.out]; omega)) (Nat.le_trans lC.out (by decide))
                rw [XC.out] at KC
                refine KC.mono ?_
                rintro e a3 ⟨qc, nc, cc, rfl, fc⟩
                have bc := fc.below
                have RC3 := Lib.hid fc.rd
                have RA3 := Lib.hid (RA2.out.on bc)
                have RB3 := Lib.hid (RB2.out.on bc)
                have RYc := Lib.hid (RYb.out.onb bc)
                have BA3 := Lib.hid (BA2.out.trans (bc.mono BA2.out.size))
                clear fc bc KC RA2 RB2 HLb RYb BA2 ex
                go_wp2_with fail
                have KD := refFrame_any (s := s) (t := s) RYc.out hs.out (cut_small (by omega)) (Nat.le_trans lD.out (by decide))
                rw [XD.out] at KD
                refine KD.mono ?_
                rintro e a4 ⟨qd, nd, cd, rfl, fd⟩
                have bd := fd.below
                have RL4 := Lib.hid (four_rdl (RA3.out.on bd) (RB3.out.on bd) (RC3.out.on bd) fd.rd)
                have BA4 := Lib.hid ((BA3.out.trans (bd.mono BA3.out.size)).alloc (BA3.out.trans (bd.mono BA3.out.size)).size (.cells #[.slice qa na ca, .slice qb nb cb, .slice qc nc cc, .slice qd nd cd] 22))
                clear fd bd KD RA3 RB3 RC3 RYc BA3
                go_wp2_with fail
                refine (Clash_any RL4.out (four_bytes bA2.out bB2.out bC2.out bD2.out) (four_len lA2.out lB2.out lC2.out lD2.out) (by simp) (m := 0) (n := 1) (by decide) (by simp) SR.out n01.out).mono ?_
                rintro e a5 ⟨rfl, hb5⟩
                have BF := Lib.hid (BA4.out.trans (hb5.mono BA4.out.size))
                clear hb5 RL4
                go_wp2_with fail
                go_ret
                exact ⟨rfl, BF.out⟩
              · have D1 : Hid ((FB == FA) = false) := by show _ = _; simpa using r1
                clear r1
                by_cases r2 : FC = FA
                · have D2 : Hid ((FC == FA) = true) := by show _ = _; rw [r2]; exact beq_self_eq_true _
                  have SR : Hid (sha xA = sha xC) := by show _ = _; rw [sA.out, sC.out, r2]
                  clear r2
                  refine wp_region_held_drew (S := fun W => HashAt W bh FA ∧ Below wk.heap.size wk W) (by kernel_rfl) (⟨HK.out, (Below.refl _ _).drew⟩) (fun h0 => ?_)
                  refine wpAnyH_take (i := 0) (v := ?_) (by rw [List.getElem?_toArray]; rfl) (by kernel_rfl) (by kernel_rfl) (by kernel_rfl) (by exact fun _ _ _ h => h) (Or.inl ⟨by rfl, ?_⟩) h0 ?_
                  rotate_left
                  · intro W hW
                    go_simp
                    all_goals with_reducible rfl
                  try simp only [Act.put, List.setIfInBounds_toArray, List.set_cons_zero, List.set_cons_succ]
                  refine wpAnyH_take (i := 1) (v := ?_) (by rw [List.getElem?_toArray]; rfl) (by kernel_rfl) (by kernel_rfl) (by kernel_rfl) (by exact fun _ _ _ h => h) (Or.inl ⟨by rfl, ?_⟩) h0 ?_
                  rotate_left
                  · intro W hW
                    go_simp
                    all_goals with_reducible rfl
                  try simp only [Act.put, List.setIfInBounds_toArray, List.set_cons_zero, List.set_cons_succ]
                  refine wpAnyH_take (i := 3) (v := ?_) (by rw [List.getElem?_toArray]; rfl) (by kernel_rfl) (by kernel_rfl) (by kernel_rfl) (by exact fun _ _ _ h => h) (Or.inl ⟨by rfl, ?_⟩) h0 ?_
                  rotate_left
                  · intro W hW
                    have hr := hW.1.row lFA.out
                    go_simp
                    all_goals with_reducible rfl
                  try simp only [Act.put, List.setIfInBounds_toArray, List.set_cons_zero, List.set_cons_succ]
                  refine wpAnyH_ready (rs := [2]) (by kernel_rfl) (by simp) ?_
                  refine AllReadyH.cons (by rw [List.getElem?_toArray]; rfl) (fun K hK => ?_) AllReadyH.nil
                  rw [if_pos (by rfl)]
                  have KK := Tagged_any (s := s) (t := s) (RXk.out.onb h0.2) (HTk.out.on h0.2 HTk.out.pos) hs.out (cut_small (by omega)) (Nat.le_trans lB.out (by decide)) bB.out
                  rw [EB.out] at KK
                  go_wp2_with fail
                  refine KK.mono ?_
                  rintro e y2 ⟨rfl, hb2⟩
                  clear KK
                  go_wp2_with fail
                  refine hK.out _ _ (⟨h0.1.on hb2, h0.2.trans (hb2.mono h0.2.size)⟩) (fun h2 => ?_)
                  clear hK K
                  try simp only [Act.put, List.setIfInBounds_toArray, List.set_cons_zero, List.set_cons_succ]
                  refine wpAnyH_take (i := 4) (v := ?_) (by rw [List.getElem?_toArray]; rfl) (by kernel_rfl) (by kernel_rfl) (by kernel_rfl) (by exact fun _ _ _ h => h) (Or.inl ⟨by rfl, ?_⟩) h2 ?_
                  rotate_left
                  · intro W hW
                    have l1 := lFA.out
                    have l2 := lFB.out
                    have d1 := D1.out
                    go_simp
                    all_goals with_reducible rfl
                  try simp only [Act.put, List.setIfInBounds_toArray, List.set_cons_zero, List.set_cons_succ]
                  refine wpAnyH_take (i := 5) (v := ?_) (by rw [List.getElem?_toArray]; rfl) (by kernel_rfl) (by kernel_rfl) (by kernel_rfl) (by exact fun _ _ _ h => h) (Or.inl ⟨by rfl, ?_⟩) h2 ?_
                  rotate_left
                  · intro W hW
                    go_simp
                    all_goals with_reducible rfl
                  try simp only [Act.put, List.setIfInBounds_toArray, List.set_cons_zero, List.set_cons_succ]
                  refine wpAnyH_take (i := 6) (v := ?_) (by rw [List.getElem?_toArray]; rfl) (by kernel_rfl) (by kernel_rfl) (by kernel_rfl) (by exact fun _ _ _ h => h) (Or.inl ⟨by rfl, ?_⟩) h2 ?_
                  rotate_left
                  · intro W hW
                    go_simp
                    all_goals with_reducible rfl
                  try simp only [Act.put, List.setIfInBounds_toArray, List.set_cons_zero, List.set_cons_succ]
                  refine wpAnyH_take (i := 7) (v := ?_) (by rw [List.getElem?_toArray]; rfl) (by kernel_rfl) (by kernel_rfl) (by kernel_rfl) (by exact fun _ _ _ h => h) (Or.inl ⟨by rfl, ?_⟩) h2 ?_
                  rotate_left
                  · intro W hW
                    have ex := EX.out W
                    have e7 : ¬ 9223372036854775807 < s.size + 1 := by omega
                    go_simp
                    all_goals with_reducible rfl
                  try simp only [Act.put, List.setIfInBounds_toArray, List.set_cons_zero, List.set_cons_succ]
                  refine wpAnyH_take (i := 8) (v := ?_) (by rw [List.getElem?_toArray]; rfl) (by kernel_rfl) (by kernel_rfl) (by kernel_rfl) (by exact fun _ _ _ h => h) (Or.inl ⟨by rfl, ?_⟩) h2 ?_
                  rotate_left
                  · intro W hW
                    go_simp
                    all_goals with_reducible rfl
                  try simp only [Act.put, List.setIfInBounds_toArray, List.set_cons_zero, List.set_cons_succ]
                  refine wpAnyH_take (i := 11) (v := ?_) (by rw [List.getElem?_toArray]; rfl) (by kernel_rfl) (by kernel_rfl) (by kernel_rfl) (by exact fun _ _ _ h => h) (Or.inl ⟨by rfl, ?_⟩) h2 ?_
                  rotate_left
                  · intro W hW
                    have hr := hW.1.row lFA.out
                    go_simp
                    all_goals with_reducible rfl
                  try simp only [Act.put, List.setIfInBounds_toArray, List.set_cons_zero, List.set_cons_succ]
                  refine wpAnyH_ready (rs := [9]) (by kernel_rfl) (by simp) ?_
                  refine AllReadyH.cons (by rw [List.getElem?_toArray]; rfl) (fun K hK => ?_) AllReadyH.nil
                  rw [if_pos (by rfl)]
                  have KK := Parts_any (HLk.out.onb h2.2) (by omega) (fun i => by have := HLL.out i; omega)
                  skip
                  go_wp2_with fail
                  refine KK.mono ?_
                  rintro e y9 ⟨vp9, vs9, rfl, hp9⟩
                  have hb9 := hp9.below
                  have RP9 := Lib.hid hp9.rdl
                  obtain ⟨qp9, cp9, rfl⟩ := own_slice hp9.own
                  clear hp9
                  clear KK
                  go_wp2_with fail
                  refine hK.out _ _ (⟨h2.1.on hb9, h2.2.trans (hb9.mono h2.2.size)⟩) (fun h9 => ?_)
                  clear hK K
                  try simp only [Act.put, List.setIfInBounds_toArray, List.set_cons_zero, List.set_cons_succ]
                  refine wpAnyH_ready (rs := [10]) (by kernel_rfl) (by simp) ?_
                  refine AllReadyH.cons (by rw [List.getElem?_toArray]; rfl) (fun K hK => ?_) AllReadyH.nil
                  rw [if_pos (by rfl)]
                  have KK := Tagged_any (s := sX) (t := sX) RP9.out (HTk.out.on h9.2 HTk.out.pos) hsX.out (cut_small (by rw [szX.out]; omega)) (Nat.le_trans lC.out (by decide)) bC.out
                  rw [EC.out] at KK
                  go_wp2_with fail
                  refine KK.mono ?_
                  rintro e y10 ⟨rfl, hb10⟩
                  clear KK
                  go_wp2_with fail
                  refine hK.out _ _ (⟨h9.1.on hb10, h9.2.trans (hb10.mono h9.2.size)⟩) (fun h10 => ?_)
                  clear hK K
                  try simp only [Act.put, List.setIfInBounds_toArray, List.set_cons_zero, List.set_cons_succ]
                  refine wpAnyH_take (i := 12) (v := ?_) (by rw [List.getElem?_toArray]; rfl) (by kernel_rfl) (by kernel_rfl) (by kernel_rfl) (by exact fun _ _ _ h => h) (Or.inl ⟨by rfl, ?_⟩) h10 ?_
                  rotate_left
                  · intro W hW
                    have l1 := lFA.out
                    have l2 := lFC.out
                    have d2 := D2.out
                    go_simp
                    all_goals with_reducible rfl
                  try simp only [Act.put, List.setIfInBounds_toArray, List.set_cons_zero, List.set_cons_succ]
                  refine wpAnyH_take (i := 13) (v := ?_) (by rw [List.getElem?_toArray]; rfl) (by kernel_rfl) (by kernel_rfl) (by kernel_rfl) (by exact fun _ _ _ h => h) (Or.inl ⟨by rfl, ?_⟩) h10 ?_
                  rotate_left
                  · intro W hW
                    go_simp
                    all_goals with_reducible rfl
                  try simp only [Act.put, List.setIfInBounds_toArray, List.set_cons_zero, List.set_cons_succ]
                  refine wpAnyH_take (i := 14) (v := ?_) (by rw [List.getElem?_toArray]; rfl) (by kernel_rfl) (by kernel_rfl) (by kernel_rfl) (by exact fun _ _ _ h => h) (Or.inl ⟨by rfl, ?_⟩) h10 ?_
                  rotate_left
                  · intro W hW
                    go_simp
                    all_goals with_reducible rfl
                  try simp only [Act.put, List.setIfInBounds_toArray, List.set_cons_zero, List.set_cons_succ]
                  refine wpAnyH_take (i := 15) (v := undef) (by rw [List.getElem?_toArray]; rfl) (by kernel_rfl) (by kernel_rfl) (by kernel_rfl) (by exact fun _ _ _ h => h) (Or.inr ⟨by rfl, rfl⟩) h10 ?_
                  try simp only [Act.put, List.setIfInBounds_toArray, List.set_cons_zero, List.set_cons_succ]
                  refine wpAnyH_take (i := 16) (v := undef) (by rw [List.getElem?_toArray]; rfl) (by kernel_rfl) (by kernel_rfl) (by kernel_rfl) (by exact fun _ _ _ h => h) (Or.inr ⟨by rfl, rfl⟩) h10 ?_
                  try simp only [Act.put, List.setIfInBounds_toArray, List.set_cons_zero, List.set_cons_succ]
                  refine wpAnyH_take (i := 18) (v := undef) (by rw [List.getElem?_toArray]; rfl) (by kernel_rfl) (by kernel_rfl) (by kernel_rfl) (by exact fun _ _ _ h => h) (Or.inr ⟨by rfl, rfl⟩) h10 ?_
                  try simp only [Act.put, List.setIfInBounds_toArray, List.set_cons_zero, List.set_cons_succ]
                  refine wpAnyH_take (i := 19) (v := undef) (by rw [List.getElem?_toArray]; rfl) (by kernel_rfl) (by kernel_rfl) (by kernel_rfl) (by exact fun _ _ _ h => h) (Or.inr ⟨by rfl, rfl⟩) h10 ?_
                  try simp only [Act.put, List.setIfInBounds_toArray, List.set_cons_zero, List.set_cons_succ]
                  refine wpAnyH_take (i := 17) (v := undef) (by rw [List.getElem?_toArray]; rfl) (by kernel_rfl) (by kernel_rfl) (by kernel_rfl) (by exact fun _ _ _ h => h) (Or.inr ⟨by rfl, rfl⟩) h10 ?_
                  try simp only [Act.put, List.setIfInBounds_toArray, List.set_cons_zero, List.set_cons_succ]
                  refine wpAnyH_take (i := 20) (v := undef) (by rw [List.getElem?_toArray]; rfl) (by kernel_rfl) (by kernel_rfl) (by kernel_rfl) (by exact fun _ _ _ h => h) (Or.inr ⟨by rfl, rfl⟩) h10 ?_
                  try simp only [Act.put, List.setIfInBounds_toArray, List.set_cons_zero, List.set_cons_succ]
                  refine wpAnyH_take (i := 21) (v := undef) (by rw [List.getElem?_toArray]; rfl) (by kernel_rfl) (by kernel_rfl) (by kernel_rfl) (by exact fun _ _ _ h => h) (Or.inr ⟨by rfl, rfl⟩) h10 ?_
                  try simp only [Act.put, List.setIfInBounds_toArray, List.set_cons_zero, List.set_cons_succ]
                  refine wpAnyH_take (i := 22) (v := ?_) (by rw [List.getElem?_toArray]; rfl) (by kernel_rfl) (by kernel_rfl) (by kernel_rfl) (by exact fun _ _ _ h => h) (Or.inl ⟨by rfl, ?_⟩) h10 ?_
                  rotate_left
                  · intro W hW
                    go_simp
                    all_goals with_reducible rfl
                  try simp only [Act.put, List.setIfInBounds_toArray, List.set_cons_zero, List.set_cons_succ]
                  refine wpAnyH_done (by kernel_rfl) ?_ _
                  have Bz := h10.2
                  have HLz := Lib.hid (HLk.out.onb Bz)
                  have RXz := Lib.hid (RXk.out.onb Bz)
                  have RYz := Lib.hid (RYk.out.onb Bz)
                  have BZ := Lib.hid (BK.out.trans (Bz.mono BK.out.size))
                  clear Bz
                  go_wp2_with fail
                  have KA := refFrame_any (s := s) (t := s) HLz.out hs.out (cut_small (by omega)) (Nat.le_trans lA.out (by decide))
                  rw [XA.out] at KA
                  refine KA.mono ?_
                  rintro e a1 ⟨qa, na, ca, rfl, fa⟩
                  have ba := fa.below
                  have RA1 := Lib.hid fa.rd
                  have RXa := Lib.hid (RXz.out.onb ba)
                  have HLa := Lib.hid (HLz.out.onb ba)
                  have RYa := Lib.hid (RYz.out.onb ba)
                  have BA1 := Lib.hid (BZ.out.trans (ba.mono BZ.out.size))
                  clear fa ba KA HLz RXz RYz BZ
                  go_wp2_with fail
                  have KB := refFrame_any (s := s) (t := s) RXa.out hs.out (cut_small (by omega)) (Nat.le_trans lB.out (by decide))
                  rw [XB.out] at KB
                  refine KB.mono ?_
                  rintro e a2 ⟨qb, nb, cb, rfl, fb⟩
                  have bb := fb.below
                  have RB2 := Lib.hid fb.rd
                  have RA2 := Lib.hid (RA1.out.on bb)
                  have HLb := Lib.hid (HLa.out.onb bb)
                  have RYb := Lib.hid (RYa.out.onb bb)
                  have BA2 := Lib.hid (BA1.out.trans (bb.mono BA1.out.size))
                  clear fb bb KB RA1 RXa HLa RYa BA1
                  have ex := EX.out a2
                  have e7 : ¬ 9223372036854775807 < s.size + 1 := by omega
                  go_wp2_with fail
                  have KC := refFrame_any (s := sX) (t := sX) HLb.out hsX.out (cut_small (by rw [szX.out]; omega)) (Nat.le_trans lC.out (by decide))
                  rw [XC.out] at KC
                  refine KC.mono ?_
                  rintro e a3 ⟨qc, nc, cc, rfl, fc⟩
                  have bc := fc.below
                  have RC3 := Lib.hid fc.rd
                  have RA3 := Lib.hid (RA2.out.on bc)
                  have RB3 := Lib.hid (RB2.out.on bc)
                  have RYc := Lib.hid (RYb.out.onb bc)
                  have BA3 := Lib.hid (BA2.out.trans (bc.mono BA2.out.size))
                  clear fc bc KC RA2 RB2 HLb RYb BA2 ex
                  go_wp2_with fail
                  have KD := refFrame_any (s := s) (t := s) RYc.out hs.out (cut_small (by omega)) (Nat.le_trans lD.out (by decide))
                  rw [XD.out] at KD
                  refine KD.mono ?_
                  rintro e a4 ⟨qd, nd, cd, rfl, fd⟩
                  have bd := fd.below
                  have RL4 := Lib.hid (four_rdl (RA3.out.on bd) (RB3.out.on bd) (RC3.out.on bd) fd.rd)
                  have BA4 := Lib.hid ((BA3.out.trans (bd.mono BA3.out.size)).alloc (BA3.out.trans (bd.mono BA3.out.size)).size (.cells #[.slice qa na ca, .slice qb nb cb, .slice qc nc cc, .slice qd nd cd] 22))
                  clear fd bd KD RA3 RB3 RC3 RYc BA3
                  go_wp2_with fail
                  refine (Clash_any RL4.out (four_bytes bA2.out bB2.out bC2.out bD2.out) (four_len lA2.out lB2.out lC2.out lD2.out) (by simp) (m := 0) (n := 2) (by decide) (by simp) SR.out n02.out).mono ?_
                  rintro e a5 ⟨rfl, hb5⟩
                  have BF := Lib.hid (BA4.out.trans (hb5.mono BA4.out.size))
                  clear hb5 RL4
                  go_wp2_with fail
                  go_ret
                  exact ⟨rfl, BF.out⟩
                · have D2 : Hid ((FC == FA) = false) := by show _ = _; simpa using r2
                  clear r2
                  by_cases r3 : FB = FD
                  · have D3 : Hid ((FB == FD) = true) := by show _ = _; rw [r3]; exact beq_self_eq_true _
                    have SR : Hid (sha xB = sha xD) := by show _ = _; rw [sB.out, sD.out, r3]
                    clear r3
                    refine wp_region_held_drew (S := fun W => HashAt W bh FA ∧ Below wk.heap.size wk W) (by kernel_rfl) (⟨HK.out, (Below.refl _ _).drew⟩) (fun h0 => ?_)
                    refine wpAnyH_take (i := 0) (v := ?_) (by rw [List.getElem?_toArray]; rfl) (by kernel_rfl) (by kernel_rfl) (by kernel_rfl) (by exact fun _ _ _ h => h) (Or.inl ⟨by rfl, ?_⟩) h0 ?_
                    rotate_left
                    · intro W hW
                      go_simp
                      all_goals with_reducible rfl
                    try simp only [Act.put, List.setIfInBounds_toArray, List.set_cons_zero, List.set_cons_succ]
                    refine wpAnyH_take (i := 1) (v := ?_) (by rw [List.getElem?_toArray]; rfl) (by kernel_rfl) (by kernel_rfl) (by kernel_rfl) (by exact fun _ _ _ h => h) (Or.inl ⟨by rfl, ?_⟩) h0 ?_
                    rotate_left
                    · intro W hW
                      go_simp
                      all_goals with_reducible rfl
                    try simp only [Act.put, List.setIfInBounds_toArray, List.set_cons_zero, List.set_cons_succ]
                    refine wpAnyH_take (i := 3) (v := ?_) (by rw [List.getElem?_toArray]; rfl) (by kernel_rfl) (by kernel_rfl) (by kernel_rfl) (by exact fun _ _ _ h => h) (Or.inl ⟨by rfl, ?_⟩) h0 ?_
                    rotate_left
                    · intro W hW
                      have hr := hW.1.row lFA.out
                      go_simp
                      all_goals with_reducible rfl
                    try simp only [Act.put, List.setIfInBounds_toArray, List.set_cons_zero, List.set_cons_succ]
                    refine wpAnyH_ready (rs := [2]) (by kernel_rfl) (by simp) ?_
                    refine AllReadyH.cons (by rw [List.getElem?_toArray]; rfl) (fun K hK => ?_) AllReadyH.nil
                    rw [if_pos (by rfl)]
                    have KK := Tagged_any (s := s) (t := s) (RXk.out.onb h0.2) (HTk.out.on h0.2 HTk.out.pos) hs.out (cut_small (by omega)) (Nat.le_trans lB.out (by decide)) bB.out
                    rw [EB.out] at KK
                    go_wp2_with fail
                    refine KK.mono ?_
                    rintro e y2 ⟨rfl, hb2⟩
                    clear KK
                    go_wp2_with fail
                    refine hK.out _ _ (⟨h0.1.on hb2, h0.2.trans (hb2.mono h0.2.size)⟩) (fun h2 => ?_)
                    clear hK K
                    try simp only [Act.put, List.setIfInBounds_toArray, List.set_cons_zero, List.set_cons_succ]
                    refine wpAnyH_take (i := 4) (v := ?_) (by rw [List.getElem?_toArray]; rfl) (by kernel_rfl) (by kernel_rfl) (by kernel_rfl) (by exact fun _ _ _ h => h) (Or.inl ⟨by rfl, ?_⟩) h2 ?_
                    rotate_left
                    · intro W hW
                      have l1 := lFA.out
                      have l2 := lFB.out
                      have d1 := D1.out
                      go_simp
                      all_goals with_reducible rfl
                    try simp only [Act.put, List.setIfInBounds_toArray, List.set_cons_zero, List.set_cons_succ]
                    refine wpAnyH_take (i := 5) (v := ?_) (by rw [List.getElem?_toArray]; rfl) (by kernel_rfl) (by kernel_rfl) (by kernel_rfl) (by exact fun _ _ _ h => h) (Or.inl ⟨by rfl, ?_⟩) h2 ?_
                    rotate_left
                    · intro W hW
                      go_simp
                      all_goals with_reducible rfl
                    try simp only [Act.put, List.setIfInBounds_toArray, List.set_cons_zero, List.set_cons_succ]
                    refine wpAnyH_take (i := 6) (v := ?_) (by rw [List.getElem?_toArray]; rfl) (by kernel_rfl) (by kernel_rfl) (by kernel_rfl) (by exact fun _ _ _ h => h) (Or.inl ⟨by rfl, ?_⟩) h2 ?_
                    rotate_left
                    · intro W hW
                      go_simp
                      all_goals with_reducible rfl
                    try simp only [Act.put, List.setIfInBounds_toArray, List.set_cons_zero, List.set_cons_succ]
                    refine wpAnyH_take (i := 7) (v := ?_) (by rw [List.getElem?_toArray]; rfl) (by kernel_rfl) (by kernel_rfl) (by kernel_rfl) (by exact fun _ _ _ h => h) (Or.inl ⟨by rfl, ?_⟩) h2 ?_
                    rotate_left
                    · intro W hW
                      have ex := EX.out W
                      have e7 : ¬ 9223372036854775807 < s.size + 1 := by omega
                      go_simp
                      all_goals with_reducible rfl
                    try simp only [Act.put, List.setIfInBounds_toArray, List.set_cons_zero, List.set_cons_succ]
                    refine wpAnyH_take (i := 8) (v := ?_) (by rw [List.getElem?_toArray]; rfl) (by kernel_rfl) (by kernel_rfl) (by kernel_rfl) (by exact fun _ _ _ h => h) (Or.inl ⟨by rfl, ?_⟩) h2 ?_
                    rotate_left
                    · intro W hW
                      go_simp
                      all_goals with_reducible rfl
                    try simp only [Act.put, List.setIfInBounds_toArray, List.set_cons_zero, List.set_cons_succ]
                    refine wpAnyH_take (i := 11) (v := ?_) (by rw [List.getElem?_toArray]; rfl) (by kernel_rfl) (by kernel_rfl) (by kernel_rfl) (by exact fun _ _ _ h => h) (Or.inl ⟨by rfl, ?_⟩) h2 ?_
                    rotate_left
                    · intro W hW
                      have hr := hW.1.row lFA.out
                      go_simp
                      all_goals with_reducible rfl
                    try simp only [Act.put, List.setIfInBounds_toArray, List.set_cons_zero, List.set_cons_succ]
                    refine wpAnyH_ready (rs := [9]) (by kernel_rfl) (by simp) ?_
                    refine AllReadyH.cons (by rw [List.getElem?_toArray]; rfl) (fun K hK => ?_) AllReadyH.nil
                    rw [if_pos (by rfl)]
                    have KK := Parts_any (HLk.out.onb h2.2) (by omega) (fun i => by have := HLL.out i; omega)
                    skip
                    go_wp2_with fail
                    refine KK.mono ?_
                    rintro e y9 ⟨vp9, vs9, rfl, hp9⟩
                    have hb9 := hp9.below
                    have RP9 := Lib.hid hp9.rdl
                    obtain ⟨qp9, cp9, rfl⟩ := own_slice hp9.own
                    clear hp9
                    clear KK
                    go_wp2_with fail
                    refine hK.out _ _ (⟨h2.1.on hb9, h2.2.trans (hb9.mono h2.2.size)⟩) (fun h9 => ?_)
                    clear hK K
                    try simp only [Act.put, List.setIfInBounds_toArray, List.set_cons_zero, List.set_cons_succ]
                    refine wpAnyH_ready (rs := [10]) (by kernel_rfl) (by simp) ?_
                    refine AllReadyH.cons (by rw [List.getElem?_toArray]; rfl) (fun K hK => ?_) AllReadyH.nil
                    rw [if_pos (by rfl)]
                    have KK := Tagged_any (s := sX) (t := sX) RP9.out (HTk.out.on h9.2 HTk.out.pos) hsX.out (cut_small (by rw [szX.out]; omega)) (Nat.le_trans lC.out (by decide)) bC.out
                    rw [EC.out] at KK
                    go_wp2_with fail
                    refine KK.mono ?_
                    rintro e y10 ⟨rfl, hb10⟩
                    clear KK
                    go_wp2_with fail
                    refine hK.out _ _ (⟨h9.1.on hb10, h9.2.trans (hb10.mono h9.2.size)⟩) (fun h10 => ?_)
                    clear hK K
                    try simp only [Act.put, List.setIfInBounds_toArray, List.set_cons_zero, List.set_cons_succ]
                    refine wpAnyH_take (i := 12) (v := ?_) (by rw [List.getElem?_toArray]; rfl) (by kernel_rfl) (by kernel_rfl) (by kernel_rfl) (by exact fun _ _ _ h => h) (Or.inl ⟨by rfl, ?_⟩) h10 ?_
                    rotate_left
                    · intro W hW
                      have l1 := lFA.out
                      have l2 := lFC.out
                      have d2 := D2.out
                      go_simp
                      all_goals with_reducible rfl
                    try simp only [Act.put, List.setIfInBounds_toArray, List.set_cons_zero, List.set_cons_succ]
                    refine wpAnyH_take (i := 13) (v := ?_) (by rw [List.getElem?_toArray]; rfl) (by kernel_rfl) (by kernel_rfl) (by kernel_rfl) (by exact fun _ _ _ h => h) (Or.inl ⟨by rfl, ?_⟩) h10 ?_
                    rotate_left
                    · intro W hW
                      go_simp
                      all_goals with_reducible rfl
                    try simp only [Act.put, List.setIfInBounds_toArray, List.set_cons_zero, List.set_cons_succ]
                    refine wpAnyH_take (i := 14) (v := ?_) (by rw [List.getElem?_toArray]; rfl) (by kernel_rfl) (by kernel_rfl) (by kernel_rfl) (by exact fun _ _ _ h => h) (Or.inl ⟨by rfl, ?_⟩) h10 ?_
                    rotate_left
                    · intro W hW
                      go_simp
                      all_goals with_reducible rfl
                    try simp only [Act.put, List.setIfInBounds_toArray, List.set_cons_zero, List.set_cons_succ]
                    refine wpAnyH_take (i := 15) (v := ?_) (by rw [List.getElem?_toArray]; rfl) (by kernel_rfl) (by kernel_rfl) (by kernel_rfl) (by exact fun _ _ _ h => h) (Or.inl ⟨by rfl, ?_⟩) h10 ?_
                    rotate_left
                    · intro W hW
                      go_simp
                      all_goals with_reducible rfl
                    try simp only [Act.put, List.setIfInBounds_toArray, List.set_cons_zero, List.set_cons_succ]
                    refine wpAnyH_take (i := 16) (v := ?_) (by rw [List.getElem?_toArray]; rfl) (by kernel_rfl) (by kernel_rfl) (by kernel_rfl) (by exact fun _ _ _ h => h) (Or.inl ⟨by rfl, ?_⟩) h10 ?_
                    rotate_left
                    · intro W hW
                      go_simp
                      all_goals with_reducible rfl
                    try simp only [Act.put, List.setIfInBounds_toArray, List.set_cons_zero, List.set_cons_succ]
                    refine wpAnyH_take (i := 18) (v := ?_) (by rw [List.getElem?_toArray]; rfl) (by kernel_rfl) (by kernel_rfl) (by kernel_rfl) (by exact fun _ _ _ h => h) (Or.inl ⟨by rfl, ?_⟩) h10 ?_
                    rotate_left
                    · intro W hW
                      go_simp
                      all_goals with_reducible rfl
                    try simp only [Act.put, List.setIfInBounds_toArray, List.set_cons_zero, List.set_cons_succ]
                    refine wpAnyH_take (i := 19) (v := ?_) (by rw [List.getElem?_toArray]; rfl) (by kernel_rfl) (by kernel_rfl) (by kernel_rfl) (by exact fun _ _ _ h => h) (Or.inl ⟨by rfl, ?_⟩) h10 ?_
                    rotate_left
                    · intro W hW
                      go_simp
                      all_goals with_reducible rfl
                    try simp only [Act.put, List.setIfInBounds_toArray, List.set_cons_zero, List.set_cons_succ]
                    refine wpAnyH_ready (rs := [17]) (by kernel_rfl) (by simp) ?_
                    refine AllReadyH.cons (by rw [List.getElem?_toArray]; rfl) (fun K hK => ?_) AllReadyH.nil
                    rw [if_pos (by rfl)]
                    have KK := Tagged_any (s := s) (t := s) (RXk.out.onb h10.2) (HTk.out.on h10.2 HTk.out.pos) hs.out (cut_small (by omega)) (Nat.le_trans lB.out (by decide)) bB.out
                    rw [EB.out] at KK
                    go_wp2_with fail
                    refine KK.mono ?_
                    rintro e y17 ⟨rfl, hb17⟩
                    clear KK
                    go_wp2_with fail
                    refine hK.out _ _ (⟨h10.1.on hb17, h10.2.trans (hb17.mono h10.2.size)⟩) (fun h17 => ?_)
                    clear hK K
                    try simp only [Act.put, List.setIfInBounds_toArray, List.set_cons_zero, List.set_cons_succ]
                    refine wpAnyH_ready (rs := [20]) (by kernel_rfl) (by simp) ?_
                    refine AllReadyH.cons (by rw [List.getElem?_toArray]; rfl) (fun K hK => ?_) AllReadyH.nil
                    rw [if_pos (by rfl)]
                    have KK := Tagged_any (s := s) (t := s) (RYk.out.onb h17.2) (HTk.out.on h17.2 HTk.out.pos) hs.out (cut_small (by omega)) (Nat.le_trans lD.out (by decide)) bD.out
                    rw [ED.out] at KK
                    go_wp2_with fail
                    refine KK.mono ?_
                    rintro e y20 ⟨rfl, hb20⟩
                    clear KK
                    go_wp2_with fail
                    refine hK.out _ _ (⟨h17.1.on hb20, h17.2.trans (hb20.mono h17.2.size)⟩) (fun h20 => ?_)
                    clear hK K
                    try simp only [Act.put, List.setIfInBounds_toArray, List.set_cons_zero, List.set_cons_succ]
                    refine wpAnyH_take (i := 21) (v := ?_) (by rw [List.getElem?_toArray]; rfl) (by kernel_rfl) (by kernel_rfl) (by kernel_rfl) (by exact fun _ _ _ h => h) (Or.inl ⟨by rfl, ?_⟩) h20 ?_
                    rotate_left
                    · intro W hW
                      have l1 := lFB.out
                      have l2 := lFD.out
                      have d3 := D3.out
                      go_simp
                      all_goals with_reducible rfl
                    try simp only [Act.put, List.setIfInBounds_toArray, List.set_cons_zero, List.set_cons_succ]
                    refine wpAnyH_take (i := 22) (v := ?_) (by rw [List.getElem?_toArray]; rfl) (by kernel_rfl) (by kernel_rfl) (by kernel_rfl) (by exact fun _ _ _ h => h) (Or.inl ⟨by rfl, ?_⟩) h20 ?_
                    rotate_left
                    · intro W hW
                      go_simp
                      all_goals with_reducible rfl
                    try simp only [Act.put, List.setIfInBounds_toArray, List.set_cons_zero, List.set_cons_succ]
                    refine wpAnyH_done (by kernel_rfl) ?_ _
                    have Bz := h20.2
                    have HLz := Lib.hid (HLk.out.onb Bz)
                    have RXz := Lib.hid (RXk.out.onb Bz)
                    have RYz := Lib.hid (RYk.out.onb Bz)
                    have BZ := Lib.hid (BK.out.trans (Bz.mono BK.out.size))
                    clear Bz
                    go_wp2_with fail
                    have KA := refFrame_any (s := s) (t := s) HLz.out hs.out (cut_small (by omega)) (Nat.le_trans lA.out (by decide))
                    rw [XA.out] at KA
                    refine KA.mono ?_
                    rintro e a1 ⟨qa, na, ca, rfl, fa⟩
                    have ba := fa.below
                    have RA1 := Lib.hid fa.rd
                    have RXa := Lib.hid (RXz.out.onb ba)
                    have HLa := Lib.hid (HLz.out.onb ba)
                    have RYa := Lib.hid (RYz.out.onb ba)
                    have BA1 := Lib.hid (BZ.out.trans (ba.mono BZ.out.size))
                    clear fa ba KA HLz RXz RYz BZ
                    go_wp2_with fail
                    have KB := refFrame_any (s := s) (t := s) RXa.out hs.out (cut_small (by omega)) (Nat.le_trans lB.out (by decide))
                    rw [XB.out] at KB
                    refine KB.mono ?_
                    rintro e a2 ⟨qb, nb, cb, rfl, fb⟩
                    have bb := fb.below
                    have RB2 := Lib.hid fb.rd
                    have RA2 := Lib.hid (RA1.out.on bb)
                    have HLb := Lib.hid (HLa.out.onb bb)
                    have RYb := Lib.hid (RYa.out.onb bb)
                    have BA2 := Lib.hid (BA1.out.trans (bb.mono BA1.out.size))
                    clear fb bb KB RA1 RXa HLa RYa BA1
                    have ex := EX.out a2
                    have e7 : ¬ 9223372036854775807 < s.size + 1 := by omega
                    go_wp2_with fail
                    have KC := refFrame_any (s := sX) (t := sX) HLb.out hsX.out (cut_small (by rw [szX.out]; omega)) (Nat.le_trans lC.out (by decide))
                    rw [XC.out] at KC
                    refine KC.mono ?_
                    rintro e a3 ⟨qc, nc, cc, rfl, fc⟩
                    have bc := fc.below
                    have RC3 := Lib.hid fc.rd
                    have RA3 := Lib.hid (RA2.out.on bc)
                    have RB3 := Lib.hid (RB2.out.on bc)
                    have RYc := Lib.hid (RYb.out.onb bc)
                    have BA3 := Lib.hid (BA2.out.trans (bc.mono BA2.out.size))
                    clear fc bc KC RA2 RB2 HLb RYb BA2 ex
                    go_wp2_with fail
                    have KD := refFrame_any (s := s) (t := s) RYc.out hs.out (cut_small (by omega)) (Nat.le_trans lD.out (by decide))
                    rw [XD.out] at KD
                    refine KD.mono ?_
                    rintro e a4 ⟨qd, nd, cd, rfl, fd⟩
                    have bd := fd.below
                    have RL4 := Lib.hid (four_rdl (RA3.out.on bd) (RB3.out.on bd) (RC3.out.on bd) fd.rd)
                    have BA4 := Lib.hid ((BA3.out.trans (bd.mono BA3.out.size)).alloc (BA3.out.trans (bd.mono BA3.out.size)).size (.cells #[.slice qa na ca, .slice qb nb cb, .slice qc nc cc, .slice qd nd cd] 22))
                    clear fd bd KD RA3 RB3 RC3 RYc BA3
                    go_wp2_with fail
                    refine (Clash_any RL4.out (four_bytes bA2.out bB2.out bC2.out bD2.out) (four_len lA2.out lB2.out lC2.out lD2.out) (by simp) (m := 1) (n := 3) (by decide) (by simp) SR.out n13.out).mono ?_
                    rintro e a5 ⟨rfl, hb5⟩
                    have BF := Lib.hid (BA4.out.trans (hb5.mono BA4.out.size))
                    clear hb5 RL4
                    go_wp2_with fail
                    go_ret
                    exact ⟨rfl, BF.out⟩
                  · have D3 : Hid ((FB == FD) = false) := by show _ = _; simpa using r3
                    clear r3
                    refine wp_region_held_drew (S := fun W => HashAt W bh FA ∧ Below wk.heap.size wk W) (by kernel_rfl) (⟨HK.out, (Below.refl _ _).drew⟩) (fun h0 => ?_)
                    refine wpAnyH_take (i := 0) (v := ?_) (by rw [List.getElem?_toArray]; rfl) (by kernel_rfl) (by kernel_rfl) (by kernel_rfl) (by exact fun _ _ _ h => h) (Or.inl ⟨by rfl, ?_⟩) h0 ?_
                    rotate_left
                    · intro W hW
                      go_simp
                      all_goals with_reducible rfl
                    try simp only [Act.put, List.setIfInBounds_toArray, List.set_cons_zero, List.set_cons_succ]
                    refine wpAnyH_take (i := 1) (v := ?_) (by rw [List.getElem?_toArray]; rfl) (by kernel_rfl) (by kernel_rfl) (by kernel_rfl) (by exact fun _ _ _ h => h) (Or.inl ⟨by rfl, ?_⟩) h0 ?_
                    rotate_left
                    · intro W hW
                      go_simp
                      all_goals with_reducible rfl
                    try simp only [Act.put, List.setIfInBounds_toArray, List.set_cons_zero, List.set_cons_succ]
                    refine wpAnyH_take (i := 3) (v := ?_) (by rw [List.getElem?_toArray]; rfl) (by kernel_rfl) (by kernel_rfl) (by kernel_rfl) (by exact fun _ _ _ h => h) (Or.inl ⟨by rfl, ?_⟩) h0 ?_
                    rotate_left
                    · intro W hW
                      have hr := hW.1.row lFA.out
                      go_simp
                      all_goals with_reducible rfl
                    try simp only [Act.put, List.setIfInBounds_toArray, List.set_cons_zero, List.set_cons_succ]
                    refine wpAnyH_ready (rs := [2]) (by kernel_rfl) (by simp) ?_
                    refine AllReadyH.cons (by rw [List.getElem?_toArray]; rfl) (fun K hK => ?_) AllReadyH.nil
                    rw [if_pos (by rfl)]
                    have KK := Tagged_any (s := s) (t := s) (RXk.out.onb h0.2) (HTk.out.on h0.2 HTk.out.pos) hs.out (cut_small (by omega)) (Nat.le_trans lB.out (by decide)) bB.out
                    rw [EB.out] at KK
                    go_wp2_with fail
                    refine KK.mono ?_
                    rintro e y2 ⟨rfl, hb2⟩
                    clear KK
                    go_wp2_with fail
                    refine hK.out _ _ (⟨h0.1.on hb2, h0.2.trans (hb2.mono h0.2.size)⟩) (fun h2 => ?_)
                    clear hK K
                    try simp only [Act.put, List.setIfInBounds_toArray, List.set_cons_zero, List.set_cons_succ]
                    refine wpAnyH_take (i := 4) (v := ?_) (by rw [List.getElem?_toArray]; rfl) (by kernel_rfl) (by kernel_rfl) (by kernel_rfl) (by exact fun _ _ _ h => h) (Or.inl ⟨by rfl, ?_⟩) h2 ?_
                    rotate_left
                    · intro W hW
                      have l1 := lFA.out
                      have l2 := lFB.out
                      have d1 := D1.out
                      go_simp
                      all_goals with_reducible rfl
                    try simp only [Act.put, List.setIfInBounds_toArray, List.set_cons_zero, List.set_cons_succ]
                    refine wpAnyH_take (i := 5) (v := ?_) (by rw [List.getElem?_toArray]; rfl) (by kernel_rfl) (by kernel_rfl) (by kernel_rfl) (by exact fun _ _ _ h => h) (Or.inl ⟨by rfl, ?_⟩) h2 ?_
                    rotate_left
                    · intro W hW
                      go_simp
                      all_goals with_reducible rfl
                    try simp only [Act.put, List.setIfInBounds_toArray, List.set_cons_zero, List.set_cons_succ]
                    refine wpAnyH_take (i := 6) (v := ?_) (by rw [List.getElem?_toArray]; rfl) (by kernel_rfl) (by kernel_rfl) (by kernel_rfl) (by exact fun _ _ _ h => h) (Or.inl ⟨by rfl, ?_⟩) h2 ?_
                    rotate_left
                    · intro W hW
                      go_simp
                      all_goals with_reducible rfl
                    try simp only [Act.put, List.setIfInBounds_toArray, List.set_cons_zero, List.set_cons_succ]
                    refine wpAnyH_take (i := 7) (v := ?_) (by rw [List.getElem?_toArray]; rfl) (by kernel_rfl) (by kernel_rfl) (by kernel_rfl) (by exact fun _ _ _ h => h) (Or.inl ⟨by rfl, ?_⟩) h2 ?_
                    rotate_left
                    · intro W hW
                      have ex := EX.out W
                      have e7 : ¬ 9223372036854775807 < s.size + 1 := by omega
                      go_simp
                      all_goals with_reducible rfl
                    try simp only [Act.put, List.setIfInBounds_toArray, List.set_cons_zero, List.set_cons_succ]
                    refine wpAnyH_take (i := 8) (v := ?_) (by rw [List.getElem?_toArray]; rfl) (by kernel_rfl) (by kernel_rfl) (by kernel_rfl) (by exact fun _ _ _ h => h) (Or.inl ⟨by rfl, ?_⟩) h2 ?_
                    rotate_left
                    · intro W hW
                      go_simp
                      all_goals with_reducible rfl
                    try simp only [Act.put, List.setIfInBounds_toArray, List.set_cons_zero, List.set_cons_succ]
                    refine wpAnyH_take (i := 11) (v := ?_) (by rw [List.getElem?_toArray]; rfl) (by kernel_rfl) (by kernel_rfl) (by kernel_rfl) (by exact fun _ _ _ h => h) (Or.inl ⟨by rfl, ?_⟩) h2 ?_
                    rotate_left
                    · intro W hW
                      have hr := hW.1.row lFA.out
                      go_simp
                      all_goals with_reducible rfl
                    try simp only [Act.put, List.setIfInBounds_toArray, List.set_cons_zero, List.set_cons_succ]
                    refine wpAnyH_ready (rs := [9]) (by kernel_rfl) (by simp) ?_
                    refine AllReadyH.cons (by rw [List.getElem?_toArray]; rfl) (fun K hK => ?_) AllReadyH.nil
                    rw [if_pos (by rfl)]
                    have KK := Parts_any (HLk.out.onb h2.2) (by omega) (fun i => by have := HLL.out i; omega)
                    skip
                    go_wp2_with fail
                    refine KK.mono ?_
                    rintro e y9 ⟨vp9, vs9, rfl, hp9⟩
                    have hb9 := hp9.below
                    have RP9 := Lib.hid hp9.rdl
                    obtain ⟨qp9, cp9, rfl⟩ := own_slice hp9.own
                    clear hp9
                    clear KK
                    go_wp2_with fail
                    refine hK.out _ _ (⟨h2.1.on hb9, h2.2.trans (hb9.mono h2.2.size)⟩) (fun h9 => ?_)
                    clear hK K
                    try simp only [Act.put, List.setIfInBounds_toArray, List.set_cons_zero, List.set_cons_succ]
                    refine wpAnyH_ready (rs := [10]) (by kernel_rfl) (by simp) ?_
                    refine AllReadyH.cons (by rw [List.getElem?_toArray]; rfl) (fun K hK => ?_) AllReadyH.nil
                    rw [if_pos (by rfl)]
                    have KK := Tagged_any (s := sX) (t := sX) RP9.out (HTk.out.on h9.2 HTk.out.pos) hsX.out (cut_small (by rw [szX.out]; omega)) (Nat.le_trans lC.out (by decide)) bC.out
                    rw [EC.out] at KK
                    go_wp2_with fail
                    refine KK.mono ?_
                    rintro e y10 ⟨rfl, hb10⟩
                    clear KK
                    go_wp2_with fail
                    refine hK.out _ _ (⟨h9.1.on hb10, h9.2.trans (hb10.mono h9.2.size)⟩) (fun h10 => ?_)
                    clear hK K
                    try simp only [Act.put, List.setIfInBounds_toArray, List.set_cons_zero, List.set_cons_succ]
                    refine wpAnyH_take (i := 12) (v := ?_) (by rw [List.getElem?_toArray]; rfl) (by kernel_rfl) (by kernel_rfl) (by kernel_rfl) (by exact fun _ _ _ h => h) (Or.inl ⟨by rfl, ?_⟩) h10 ?_
                    rotate_left
                    · intro W hW
                      have l1 := lFA.out
                      have l2 := lFC.out
                      have d2 := D2.out
                      go_simp
                      all_goals with_reducible rfl
                    try simp only [Act.put, List.setIfInBounds_toArray, List.set_cons_zero, List.set_cons_succ]
                    refine wpAnyH_take (i := 13) (v := ?_) (by rw [List.getElem?_toArray]; rfl) (by kernel_rfl) (by kernel_rfl) (by kernel_rfl) (by exact fun _ _ _ h => h) (Or.inl ⟨by rfl, ?_⟩) h10 ?_
                    rotate_left
                    · intro W hW
                      go_simp
                      all_goals with_reducible rfl
                    try simp only [Act.put, List.setIfInBounds_toArray, List.set_cons_zero, List.set_cons_succ]
                    refine wpAnyH_take (i := 14) (v := ?_) (by rw [List.getElem?_toArray]; rfl) (by kernel_rfl) (by kernel_rfl) (by kernel_rfl) (by exact fun _ _ _ h => h) (Or.inl ⟨by rfl, ?_⟩) h10 ?_
                    rotate_left
                    · intro W hW
                      go_simp
                      all_goals with_reducible rfl
                    try simp only [Act.put, List.setIfInBounds_toArray, List.set_cons_zero, List.set_cons_succ]
                    refine wpAnyH_take (i := 15) (v := ?_) (by rw [List.getElem?_toArray]; rfl) (by kernel_rfl) (by kernel_rfl) (by kernel_rfl) (by exact fun _ _ _ h => h) (Or.inl ⟨by rfl, ?_⟩) h10 ?_
                    rotate_left
                    · intro W hW
                      go_simp
                      all_goals with_reducible rfl
                    try simp only [Act.put, List.setIfInBounds_toArray, List.set_cons_zero, List.set_cons_succ]
                    refine wpAnyH_take (i := 16) (v := ?_) (by rw [List.getElem?_toArray]; rfl) (by kernel_rfl) (by kernel_rfl) (by kernel_rfl) (by exact fun _ _ _ h => h) (Or.inl ⟨by rfl, ?_⟩) h10 ?_
                    rotate_left
                    · intro W hW
                      go_simp
                      all_goals with_reducible rfl
                    try simp only [Act.put, List.setIfInBounds_toArray, List.set_cons_zero, List.set_cons_succ]
                    refine wpAnyH_take (i := 18) (v := ?_) (by rw [List.getElem?_toArray]; rfl) (by kernel_rfl) (by kernel_rfl) (by kernel_rfl) (by exact fun _ _ _ h => h) (Or.inl ⟨by rfl, ?_⟩) h10 ?_
                    rotate_left
                    · intro W hW
                      go_simp
                      all_goals with_reducible rfl
                    try simp only [Act.put, List.setIfInBounds_toArray, List.set_cons_zero, List.set_cons_succ]
                    refine wpAnyH_take (i := 19) (v := ?_) (by rw [List.getElem?_toArray]; rfl) (by kernel_rfl) (by kernel_rfl) (by kernel_rfl) (by exact fun _ _ _ h => h) (Or.inl ⟨by rfl, ?_⟩) h10 ?_
                    rotate_left
                    · intro W hW
                      go_simp
                      all_goals with_reducible rfl
                    try simp only [Act.put, List.setIfInBounds_toArray, List.set_cons_zero, List.set_cons_succ]
                    refine wpAnyH_ready (rs := [17]) (by kernel_rfl) (by simp) ?_
                    refine AllReadyH.cons (by rw [List.getElem?_toArray]; rfl) (fun K hK => ?_) AllReadyH.nil
                    rw [if_pos (by rfl)]
                    have KK := Tagged_any (s := s) (t := s) (RXk.out.onb h10.2) (HTk.out.on h10.2 HTk.out.pos) hs.out (cut_small (by omega)) (Nat.le_trans lB.out (by decide)) bB.out
                    rw [EB.out] at KK
                    go_wp2_with fail
                    refine KK.mono ?_
                    rintro e y17 ⟨rfl, hb17⟩
                    clear KK
                    go_wp2_with fail
                    refine hK.out _ _ (⟨h10.1.on hb17, h10.2.trans (hb17.mono h10.2.size)⟩) (fun h17 => ?_)
                    clear hK K
                    try simp only [Act.put, List.setIfInBounds_toArray, List.set_cons_zero, List.set_cons_succ]
                    refine wpAnyH_ready (rs := [20]) (by kernel_rfl) (by simp) ?_
                    refine AllReadyH.cons (by rw [List.getElem?_toArray]; rfl) (fun K hK => ?_) AllReadyH.nil
                    rw [if_pos (by rfl)]
                    have KK := Tagged_any (s := s) (t := s) (RYk.out.onb h17.2) (HTk.out.on h17.2 HTk.out.pos) hs.out (cut_small (by omega)) (Nat.le_trans lD.out (by decide)) bD.out
                    rw [ED.out] at KK
                    go_wp2_with fail
                    refine KK.mono ?_
                    rintro e y20 ⟨rfl, hb20⟩
                    clear KK
                    go_wp2_with fail
                    refine hK.out _ _ (⟨h17.1.on hb20, h17.2.trans (hb20.mono h17.2.size)⟩) (fun h20 => ?_)
                    clear hK K
                    try simp only [Act.put, List.setIfInBounds_toArray, List.set_cons_zero, List.set_cons_succ]
                    refine wpAnyH_take (i := 21) (v := ?_) (by rw [List.getElem?_toArray]; rfl) (by kernel_rfl) (by kernel_rfl) (by kernel_rfl) (by exact fun _ _ _ h => h) (Or.inl ⟨by rfl, ?_⟩) h20 ?_
                    rotate_left
                    · intro W hW
                      have l1 := lFB.out
                      have l2 := lFD.out
                      have d3 := D3.out
                      go_simp
                      all_goals with_reducible rfl
                    try simp only [Act.put, List.setIfInBounds_toArray, List.set_cons_zero, List.set_cons_succ]
                    refine wpAnyH_take (i := 22) (v := ?_) (by rw [List.getElem?_toArray]; rfl) (by kernel_rfl) (by kernel_rfl) (by kernel_rfl) (by exact fun _ _ _ h => h) (Or.inl ⟨by rfl, ?_⟩) h20 ?_
                    rotate_left
                    · intro W hW
                      go_simp
                      all_goals with_reducible rfl
                    try simp only [Act.put, List.setIfInBounds_toArray, List.set_cons_zero, List.set_cons_succ]
                    refine wpAnyH_done (by kernel_rfl) ?_ _
                    have BF := Lib.hid (BK.out.trans (h20.2.mono BK.out.size))
                    go_wp2_with fail
                    go_ret
                    exact ⟨rfl, BF.out⟩
          · have d3 : decide (200 < (L.length : Int)) = true := by rw [decide_eq_true_iff]; omega
            go_wp2_with fail
            refine (knows_any (HT.out.on HB.out HT.out.pos)).mono ?_
            rintro e w5 ⟨rfl, hb5⟩
            have B5 := Lib.hid (HB.out.trans (hb5.mono HB.out.size))
            clear hb5
            go_wp2_with fail
            go_ret
            exact ⟨rfl, B5.out⟩
        · have d2 : decide (200 < (s.size : Int)) = true := by rw [decide_eq_true_iff]; omega
          go_wp2_with fail
          refine (knows_any (HT.out.on HB.out HT.out.pos)).mono ?_
          rintro e w5 ⟨rfl, hb5⟩
          have B5 := Lib.hid (HB.out.trans (hb5.mono HB.out.size))
          clear hb5
          go_wp2_with fail
          go_ret
          exact ⟨rfl, B5.out⟩
    · have d0 : decide ((t : Int) ≤ 4000) = false := by rw [decide_eq_false_iff_not]; omega
      have d1 : decide (4000 < (t : Int)) = true := by rw [decide_eq_true_iff]; omega
      go_wp2_with fail
      all_goals
        refine (knows_any (HT.out.on HB.out HT.out.pos)).mono ?_
        rintro e w5 ⟨rfl, hb5⟩
        have B5 := Lib.hid (HB.out.trans (hb5.mono HB.out.size))
        clear hb5
        go_wp2_with fail
        go_ret
        exact ⟨rfl, B5.out⟩
end Go.Proofs.YtlmpmnngheifkaaDoor
