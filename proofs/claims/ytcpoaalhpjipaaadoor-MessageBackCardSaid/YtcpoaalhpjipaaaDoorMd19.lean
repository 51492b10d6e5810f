/-
  A batch's bytes, of the program.; What is read of bytes that were written, and of a part of them, or of more.; The law's copies of Txs.
-/
import Derived.Test.YtcpoaalhpjipaaaDoorMd18
namespace Go.Proofs.YtcpoaalhpjipaaaDoor
set_option maxRecDepth 100000
open Go.RowKit

set_option maxHeartbeats 2000000 in
theorem number_any {n : Int} (w : World) :
    Calls Tryd.prog 43 #[.int .u64 n] w fun e w' => ∃ u, e = .returned u ∧ NewRow w (be8 n) u w' := by
  have b1 : Below w.heap.size w (w.alloc (.cells #[.bool true, .slice none 0 0] 137)) := (Below.refl _ _).alloc (Nat.le_refl _) _
  have b2 : Below (w.alloc (.cells #[.bool true, .slice none 0 0] 137)).heap.size (w.alloc (.cells #[.bool true, .slice none 0 0] 137)) ((w.alloc (.cells #[.bool true, .slice none 0 0] 137)).alloc (.cells #[.int .u64 n] 22)) := (Below.refl _ _).alloc (Nat.le_refl _) _
  have HW := Lib.hid ((WrV.new w).on b2)
  have hz : (w.alloc (.cells #[.bool true, .slice none 0 0] 137)).heap.size = w.heap.size + 1 := by simp
  have HR : Hid (RdN ((w.alloc (.cells #[.bool true, .slice none 0 0] 137)).alloc (.cells #[.int .u64 n] 22)) (.slice (some ⟨w.heap.size + 1, 0, none⟩) 1 1) [n] (w.heap.size :: (Value.slice none 0 0).ownBlock.toList)) := by
    refine ⟨_, 1, rfl, .inr ⟨w.heap.size + 1, 0, rfl, by simp [Value.ownBlock], fun i hi => ?_⟩⟩
    obtain rfl : i = 0 := (by simpa using hi)
    have := heap_alloc_new (w.alloc (.cells #[.bool true, .slice none 0 0] 137)) (.cells #[.int .u64 n] 22)
    rw [hz] at this
    exact (Joins.cell_of_block this 0).trans rfl
  have B2 := Lib.hid (b1.trans (b2.mono b1.size))
  clear b1 b2 hz
  go_enter Tryd.func43, Tryd.ntmps43
  go_wp2_with fail
  refine (NewWriter_any w).mono ?_
  rintro e w1 ⟨rfl, rfl⟩
  go_wp2_with fail
  refine (WUint_fits HW.out HR.out (by simp)).mono ?_
  rintro e w2 ⟨rfl, hS⟩
  obtain ⟨q, c, hW2, hC, hF⟩ := hS.own
  have hx : ([] ++ nums [n]) = be8 n := by simp [nums]
  simp only [hx] at hW2 hF
  have HW2 := Lib.hid hW2
  have B3 := Lib.hid (B2.out.trans (hC.toBelow B2.out.size (fun k hk => by simp [Value.ownBlock] at hk; omega)))
  clear hS hW2 hC hF hx HW HR
  go_wp2_with fail
  refine (WBytes_any HW2.out (by rw [be8_len]; omega)).mono ?_
  rintro e w3 ⟨u, rfl, hN⟩
  have HN : Hid (NewRow w (be8 n) u w3) := ⟨hN.1, hN.2.1, B3.out.trans (hN.2.2.1.mono B3.out.size), fun k hk => Nat.le_trans B3.out.size (hN.2.2.2 k hk)⟩
  clear hN
  go_wp2_with fail
  go_ret
  exact ⟨u, rfl, HN.out⟩

theorem NewRow.bus {w w' : World} {xs : List Int} {v : Value} (h : NewRow w xs v w') : BuS w w' v xs := ⟨h.2.1, h.2.2.2, h.2.2.1⟩
/-- A batch's bytes, its first i Txs. -/
def baB (ep : Int) (L : List Tg) (i : Nat) : List Int := be8 ep ++ (be8 L.length ++ ((L.take i).map txB).flatten)
theorem baB_succ {ep : Int} {L : List Tg} {i : Nat} (hi : i < L.length) : baB ep L (i + 1) = baB ep L i ++ txB (L.getD i tg0) := by
  have e : L.take (i + 1) = L.take i ++ [L.getD i tg0] := by
    rw [List.take_add_one]
    simp [List.getD, hi]
  unfold baB
  rw [e, List.map_append, List.flatten_append]
  simp
theorem okL_get {L : List Tg} (h : okL L = true) {i : Nat} (hi : i < L.length) : okT (L.getD i tg0) (L.getD i tg0).data.length = true := by
  have e : L.getD i tg0 = L[i] := by simp [List.getD, hi]
  rw [e]
  exact List.all_eq_true.1 h _ (List.getElem_mem hi)
theorem okT_kd {t : Tg} {n : Nat} (h : okT t n = true) : 0 ≤ t.kd ∧ n ≤ 256 := by
  unfold okT at h
  simp only [Bool.and_eq_true, decide_eq_true_eq] at h
  obtain ⟨⟨_, h2⟩, h3⟩ := h
  refine ⟨?_, by omega⟩
  unfold okK at h3
  split at h3
  · omega
  · split at h3
    · omega
    · split at h3
      · omega
      · simp at h3
theorem baB_len {ep : Int} {L : List Tg} (h : okL L = true) : ∀ i, i ≤ L.length → (baB ep L i).length ≤ 16 + i * 336
  | 0, _ => by simp [baB, be8_len]
  | i + 1, hi => by
    have h1 := baB_len (ep := ep) h i (by omega)
    have h2 := (okT_kd (okL_get h (i := i) (by omega))).2
    rw [baB_succ (by omega), List.length_append, txB_len]
    omega
theorem RdC.nil (w : World) : RdC w (.slice none 0 0) [] := ⟨none, 0, rfl, by simp, .inl rfl⟩
theorem rdC_of {w W : World} {v : Value} {xs : List Int} (h : BuS w W v xs) : RdC W v xs := by
  obtain ⟨q, c, rfl, hx⟩ := h.rd
  refine ⟨q, c, rfl, ?_, hx⟩
  rcases h.own.2 with ⟨_, h0⟩ | ⟨g, cap, cur, h1, _, hg, hnc, hcm, hcs, htake⟩
  · omega
  · simp only [Value.slice.injEq, true_and] at h1
    omega
def pBB (ep : Int) (L : List Tg) : List Int := if okB L = true then baB ep L L.length else []
def pBE (L : List Tg) : Int := if okB L = true then 0 else 1

set_option maxHeartbeats 8000000 in
theorem PutBatch_any {w : World} {ep : Int} {q : Option Addr} {c : Nat} {L : List Tg} (hr : RdTx w q L) (ok : TgsOk L) (hn : L.length ≤ 140737488355328) :
    Calls Tryd.prog 22 #[.agg #[.int .u64 ep, .slice q L.length c]] w fun e w' => ∃ q' k', e = .returned (.tuple #[.slice q' (pBB ep L).length k', .int .i64 (pBE L)]) ∧ RdC w' (.slice q' (pBB ep L).length k') (pBB ep L) ∧ Below w.heap.size w w' := by
  obtain ⟨i0, hi, hz0, hz1, hz2⟩ := info_parts Tryd.infoU8
  replace hi := Lib.hid hi
  replace hz0 := Lib.hid hz0
  replace hz1 := Lib.hid hz1
  replace hz2 := Lib.hid hz2
  have HR : Hid (∀ W, Below w.heap.size w W → RdTx W q L) := fun W hb => hr.on hb
  have OK := Lib.hid ok
  have KR := Lib.hid (fun (W : World) (h : RdTx W q L) => rightBatch_any (ep := ep) (c := c) h ok hn)
  have YES : Hid (okB L = true → pBB ep L = baB ep L L.length ∧ pBE L = 0 ∧ L.length ≤ 8 ∧ okL L = true) := fun h => by
    have h' := h
    unfold okB at h'
    simp only [Bool.and_eq_true, decide_eq_true_eq] at h'
    exact ⟨if_pos h, if_pos h, h'.1, h'.2⟩
  have NO : Hid (okB L = false → pBB ep L = [] ∧ pBE L = 1) := fun h => by unfold pBB pBE; rw [h]; exact ⟨rfl, rfl⟩
  have HB0 : Hid (baB ep L 0 = be8 ep ++ be8 L.length) := by show _ = _; simp [baB]
  obtain ⟨res, hres⟩ : ∃ res, okB L = res := ⟨_, rfl⟩
  rw [hres] at KR YES NO
  obtain ⟨n, hnn⟩ : ∃ n, L.length = n := ⟨_, rfl⟩
  have LN := Lib.hid hnn
  rw [hnn] at KR YES HB0 hn ⊢
  have b0 : Below w.heap.size w (w.alloc (.cells #[.int .u64 ep, .slice q n c] 59)) := (Below.refl _ _).alloc (Nat.le_refl _) _
  have B0 := Lib.hid b0
  have K0 : Hid ((w.alloc (.cells #[.int .u64 ep, .slice q n c] 59)).heap[w.heap.size]? = some (.cells #[.int .u64 ep, .slice q n c] 59 (0, 0))) := heap_alloc_new w (.cells #[.int .u64 ep, .slice q n c] 59)
  have c0 : (w.alloc (.cells #[.int .u64 ep, .slice q n c] 59)).cell? ⟨w.heap.size, 0, none⟩ = some (.int .u64 ep) := (Joins.cell_of_block K0.out 0).trans rfl
  have c1 : (w.alloc (.cells #[.int .u64 ep, .slice q n c] 59)).cell? ⟨w.heap.size, 1, none⟩ = some (.slice q n c) := (Joins.cell_of_block K0.out 1).trans rfl
  clear hr ok hres b0 hnn
  go_enter Tryd.func22, Tryd.ntmps22
  go_wp2_with fail
  clear c0 c1
  generalize w.alloc (.cells #[.int .u64 ep, .slice q n c] 59) = w0 at *
  refine (KR.out _ (HR.out _ B0.out)).mono ?_
  rintro e w1 ⟨rfl, hb1⟩
  have K1 : Hid (w1.heap[w.heap.size]? = some (.cells #[.int .u64 ep, .slice q n c] 59 (0, 0))) := by show _ = _; rw [hb1.block _ (Array.getElem?_eq_some_iff.1 K0.out).1]; exact K0.out
  have B1 := Lib.hid (B0.out.trans (hb1.mono B0.out.size))
  clear hb1 K0 B0 KR
  cases res with
  | false =>
    have E := Lib.hid (NO.out rfl)
    clear NO YES
    go_wp2_with fail
    go_ret2
    exact ⟨none, 0, by rw [E.out.1, E.out.2]; rfl, by rw [E.out.1]; exact RdC.nil w1, B1.out⟩
  | true =>
  have E := Lib.hid (YES.out rfl)
  have hn8 := E.out.2.2.1
  have OL := Lib.hid E.out.2.2.2
  have u2 : IntKind.u64.wrap (n : Int) = (n : Int) := by rw [IntKind.wrap_u64]; omega
  clear NO YES
  go_wp2_with fail
  refine wp_region_held_drew (S := fun W => W.heap[w.heap.size]? = some (.cells #[.int .u64 ep, .slice q n c] 59 (0, 0))) (by kernel_rfl) (show w1.drew.heap[w.heap.size]? = _ from K1.out) (fun h0 => ?_)
  have B2 : Hid (Below w.heap.size w w1.drew) := Lib.hid B1.out.drew
  clear K1 B1
  generalize w1.drew = w2 at *
  refine wpAnyH_take (i := 0) (v := ?_) (by rw [List.getElem?_toArray]; rfl) (by kernel_rfl) (by kernel_rfl) (by kernel_rfl) (by exact fun _ _ _ h => h) (Or.inl ⟨by rfl, ?_⟩) h0 ?_
  rotate_left
  · intro W hW
    have c0 := (Joins.cell_of_block hW 0).trans (rfl : _ = some _)
    have c1 := (Joins.cell_of_block hW 1).trans (rfl : _ = some _)
    go_simp
    all_goals with_reducible rfl
  try simp only [Act.put, List.setIfInBounds_toArray, List.set_cons_zero, List.set_cons_succ]
  refine wpAnyH_take (i := 1) (v := ?_) (by rw [List.getElem?_toArray]; rfl) (by kernel_rfl) (by kernel_rfl) (by kernel_rfl) (by exact fun _ _ _ h => h) (Or.inl ⟨by rfl, ?_⟩) h0 ?_
  rotate_left
  · intro W hW
    have c0 := (Joins.cell_of_block hW 0).trans (rfl : _ = some _)
    have c1 := (Joins.cell_of_block hW 1).trans (rfl : _ = some _)
    go_simp
    all_goals with_reducible rfl
  try simp only [Act.put, List.setIfInBounds_toArray, List.set_cons_zero, List.set_cons_succ]
  refine wpAnyH_take (i := 3) (v := ?_) (by rw [List.getElem?_toArray]; rfl) (by kernel_rfl) (by kernel_rfl) (by kernel_rfl) (by exact fun _ _ _ h => h) (Or.inl ⟨by rfl, ?_⟩) h0 ?_
  rotate_left
  · intro W hW
    have c0 := (Joins.cell_of_block hW 0).trans (rfl : _ = some _)
    have c1 := (Joins.cell_of_block hW 1).trans (rfl : _ = some _)
    go_simp
    all_goals with_reducible rfl
  try simp only [Act.put, List.setIfInBounds_toArray, List.set_cons_zero, List.set_cons_succ]
  refine wpAnyH_take (i := 4) (v := ?_) (by rw [List.getElem?_toArray]; rfl) (by kernel_rfl) (by kernel_rfl) (by kernel_rfl) (by exact fun _ _ _ h => h) (Or.inl ⟨by rfl, ?_⟩) h0 ?_
  rotate_left
  · intro W hW
    have c0 := (Joins.cell_of_block hW 0).trans (rfl : _ = some _)
    have c1 := (Joins.cell_of_block hW 1).trans (rfl : _ = some _)
    go_simp
    all_goals with_reducible rfl
  try simp only [Act.put, List.setIfInBounds_toArray, List.set_cons_zero, List.set_cons_succ]
  refine wpAnyH_take (i := 5) (v := ?_) (by rw [List.getElem?_toArray]; rfl) (by kernel_rfl) (by kernel_rfl) (by kernel_rfl) (by exact fun _ _ _ h => h) (Or.inl ⟨by rfl, ?_⟩) h0 ?_
  rotate_left
  · intro W hW
    have c0 := (Joins.cell_of_block hW 0).trans (rfl : _ = some _)
    have c1 := (Joins.cell_of_block hW 1).trans (rfl : _ = some _)
    go_simp
    all_goals with_reducible rfl
  try simp only [Act.put, List.setIfInBounds_toArray, List.set_cons_zero, List.set_cons_succ]
  refine wpAnyH_take (i := 6) (v := ?_) (by rw [List.getElem?_toArray]; rfl) (by kernel_rfl) (by kernel_rfl) (by kernel_rfl) (by exact fun _ _ _ h => h) (Or.inl ⟨by rfl, ?_⟩) h0 ?_
  rotate_left
  · intro W hW
    have c0 := (Joins.cell_of_block hW 0).trans (rfl : _ = some _)
    have c1 := (Joins.cell_of_block hW 1).trans (rfl : _ = some _)
    go_simp
    all_goals with_reducible rfl
  try simp only [Act.put, List.setIfInBounds_toArray, List.set_cons_zero, List.set_cons_succ]
  refine wpAnyH_ready (rs := [2]) (by kernel_rfl) (by simp) ?_
  refine AllReadyH.cons (by rw [List.getElem?_toArray]; rfl) (fun K hK => ?_) AllReadyH.nil
  rw [if_pos (by rfl)]
  go_wp2_with fail
  refine (number_any (n := ep) w2).mono ?_
  rintro e w3 ⟨u3, rfl, hN⟩
  have hs := hN.bus
  obtain ⟨a3, o3, rfl⟩ := hs.len
  have M3 : w3.heap[w.heap.size]? = some (.cells #[.int .u64 ep, .slice q n c] 59 (0, 0)) := by rw [hs.below.block _ (Array.getElem?_eq_some_iff.1 h0).1]; exact h0
  have S3 := Lib.hid (hs.base B2.out)
  rw [be8_len]
  clear hN hs
  go_wp2_with fail
  refine hK.out _ _ (M3) (fun h3 => ?_)
  clear M3
  clear hK K
  try simp only [Act.put, List.setIfInBounds_toArray, List.set_cons_zero, List.set_cons_succ]
  refine wpAnyH_ready (rs := [7]) (by kernel_rfl) (by simp) ?_
  refine AllReadyH.cons (by rw [List.getElem?_toArray]; rfl) (fun K hK => ?_) AllReadyH.nil
  rw [if_pos (by rfl)]
  go_wp2_with fail
  refine (number_any (n := (n : Int)) w3).mono ?_
  rintro e w4 ⟨u4, rfl, hN⟩
  have hs := hN.bus
  obtain ⟨a4, o4, rfl⟩ := hs.len
  have M4 : w4.heap[w.heap.size]? = some (.cells #[.int .u64 ep, .slice q n c] 59 (0, 0)) := by rw [hs.below.block _ (Array.getElem?_eq_some_iff.1 h3).1]; exact h3
  have S4 := Lib.hid (S3.out.on hs.below)
  have R4 := Lib.hid hs.rd
  rw [be8_len] at R4 ⊢
  have L4 : Hid ((be8 (n : Int)).length = 8) := be8_len _
  have L3 : Hid ((be8 ep).length = 8) := be8_len _
  clear hN hs S3
  go_wp2_with fail
  refine hK.out _ _ (M4) (fun h4 => ?_)
  clear M4
  clear hK K
  try simp only [Act.put, List.setIfInBounds_toArray, List.set_cons_zero, List.set_cons_succ]
  refine wpAnyH_ready (rs := [8]) (by kernel_rfl) (by simp) ?_
  refine AllReadyH.cons (by rw [List.getElem?_toArray]; rfl) (fun K hK => ?_) AllReadyH.nil
  rw [if_pos (by rfl)]
  refine wp_append_row _ _ rfl Tryd.underlying25 hi.out hz0.out hz1.out hz2.out rfl (by have := S4.out.own; rw [L3.out] at this; exact this) (by have := R4.out.src (P := Tryd.prog) Tryd.underlying25; rw [L4.out] at this; exact this) (by unfold maxLen; omega) (by omega) ?_
  intro a7 o7 w7 own7 grow7 fr7
  have M7 : w7.heap[w.heap.size]? = some (.cells #[.int .u64 ep, .slice q n c] 59 (0, 0)) := by
    have gr : w4.grownBy w7 (Value.slice a3 8 o3).ownBlock := grow7
    rw [gr.block _ (Array.getElem?_eq_some_iff.1 h4).1 (fun e => own_ne S4.out.own h4 (by decide) (by
      have e2 : (Value.slice a3 (be8 ep).length o3).ownBlock = (Value.slice a3 8 o3).ownBlock := by rw [L3.out]
      rw [e2]; exact e.symm))]
    exact h4
  have S6 : Hid (BuS w w7 (.slice a7 (8 + 8) o7) (be8 ep ++ be8 (n : Int))) := (show BuS w w4 (.slice a3 8 o3) (be8 ep) by have := S4.out; rw [L3.out] at this; exact this).app L3.out L4.out own7 grow7 fr7
  clear own7 grow7 fr7 S4 R4 L3 L4
  refine hK.out _ _ (M7) (fun h7 => ?_)
  clear M7
  clear hK K
  try simp only [Act.put, List.setIfInBounds_toArray, List.set_cons_zero, List.set_cons_succ]
  refine wpAnyH_take (i := 9) (v := ?_) (by rw [List.getElem?_toArray]; rfl) (by kernel_rfl) (by kernel_rfl) (by kernel_rfl) (by exact fun _ _ _ h => h) (Or.inl ⟨by rfl, ?_⟩) h7 ?_
  rotate_left
  · intro W hW
    have c0 := (Joins.cell_of_block hW 0).trans (rfl : _ = some _)
    have c1 := (Joins.cell_of_block hW 1).trans (rfl : _ = some _)
    go_simp
    all_goals with_reducible rfl
  try simp only [Act.put, List.setIfInBounds_toArray, List.set_cons_zero, List.set_cons_succ]
  refine wpAnyH_done (by kernel_rfl) ?_ _
  have S7 : Hid (BuS w w7 (.slice a7 (baB ep L 0).length o7) (baB ep L 0)) := by
    have e1 : (baB ep L 0).length = 8 + 8 := by rw [HB0.out, List.length_append, be8_len, be8_len]
    rw [e1, HB0.out]
    exact S6.out
  have ea : (8 + 8 : Nat) = (baB ep L 0).length := by rw [HB0.out, List.length_append, be8_len, be8_len]
  have c1 : w7.cell? ⟨w.heap.size, 1, none⟩ = some (.slice q n c) := (Joins.cell_of_block h7 1).trans rfl
  have K7 := Lib.hid h7
  try simp only [ea]
  clear S6 h0 h7 ea
  go_wp2_with fail
  clear c1
  go_loopw [4, 22] (fun bv iv wr => ∃ (i : Nat) (qa : Option Addr) (ca : Nat), iv = .int .i64 (i : Int) ∧ i ≤ n ∧ bv = .slice qa (baB ep L i).length ca ∧ Hid (BuS w wr (.slice qa (baB ep L i).length ca) (baB ep L i))) (fun _ iv _ => n - (intOf iv).toNat)
  case atStart => exact ⟨0, a7, o7, rfl, by omega, rfl, S7⟩
  case round =>
    clear S7 K7
    obtain ⟨i, qa, ca, rfl, hil, rfl, hS⟩ := hrel
    by_cases hlt : i < n
    · have hlt' : Hid (i < L.length) := by have := LN.out; show _ < _; omega
      have hne : L ≠ [] := fun e => by have := hlt'.out; rw [e] at this; simp at this
      obtain ⟨b, off, rfl, hx2⟩ := (HR.out _ hS.out.below).resolve_left hne
      obtain ⟨qi, ki, r10, rh⟩ := hx2 i hlt'.out
      have oks := OK.out.get hlt'.out
      obtain ⟨hkd, h256⟩ := okT_kd (okL_get OL.out hlt'.out)
      have HSU := Lib.hid (baB_succ (ep := ep) hlt'.out)
      have HL1 := Lib.hid (baB_len (ep := ep) OL.out i (by have := hlt'.out; omega))
      have HL2 := Lib.hid (baB_len (ep := ep) OL.out (i + 1) (by have := hlt'.out; omega))
      obtain ⟨t, htx⟩ : ∃ t, L.getD i tg0 = t := ⟨_, rfl⟩
      rw [htx] at r10 rh oks HSU hkd h256
      obtain ⟨BA, hBA⟩ : ∃ BA, baB ep L i = BA := ⟨_, rfl⟩
      obtain ⟨BN, hBN⟩ : ∃ BN, baB ep L (i + 1) = BN := ⟨_, rfl⟩
      have HBN := Lib.hid hBN
      rw [hBA] at hS HSU HL1 ⊢
      rw [hBN] at HSU HL2
      have hlen := txRow_len t qi t.data.length ki
      have bA : Below wr.heap.size wr (wr.alloc (.cells (txRow tg0 none 0 0).toArray 72)) := (Below.refl _ _).alloc (Nat.le_refl _) _
      have KA := TxAt.new wr 72 tg0 none 0 0
      have th := KA.there
      have cs : Below wr.heap.size wr ((wr.alloc (.cells (txRow tg0 none 0 0).toArray 72)).setCells wr.heap.size 0 (txRow t qi t.data.length ki)) := below_setCells' _ (Nat.le_refl _) _ _ bA
      have K1 := (KA.put t qi t.data.length ki)
      have hrow := K1.row
      have R1 := Lib.hid (rh.on cs)
      have S1 := Lib.hid (hS.out.on cs)
      have OT := Lib.hid oks
      have HK := Lib.hid hkd
      have H256 := Lib.hid h256
      have szz : ((wr.alloc (.cells (txRow tg0 none 0 0).toArray 72)).setCells wr.heap.size 0 (txRow t qi t.data.length ki)).heap.size = wr.heap.size + 1 := by rw [size_setCells]; simp
      clear hx2 hne rh oks htx hS bA KA cs K1 hBA hBN hkd h256
      go_wp2_with fail
      clear r10 th szz hrow
      refine (txBytes_any OT.out.1 HK.out R1.out H256.out).mono ?_
      rintro e w5 ⟨u, rfl, hb⟩
      have S5 := Lib.hid (S1.out.on hb.below)
      obtain ⟨q5, k5, rfl⟩ := hb.len
      have RD := Lib.hid hb.rd
      have hl1 : BA.length ≤ 16 + 8 * 336 := by have := HL1.out; omega
      have hl2 : (txB t).length ≤ 336 := by rw [txB_len]; have := H256.out; omega
      clear hb S1 R1
      obtain ⟨TB, hTB⟩ : ∃ TB, txB t = TB := ⟨_, rfl⟩
      rw [hTB] at RD HSU hl2 ⊢
      clear hTB
      go_wp2_with (at_builtin; refine wpList_append_row rfl _ _ rfl Tryd.underlying25 hi.out hz0.out hz1.out hz2.out rfl S5.out.own (RD.out.src (P := Tryd.prog) Tryd.underlying25) ?b1 ?b2 ?_)
      case b1 => unfold maxLen; omega
      case b2 => omega
      intro q6 k6 w6 own6 grow6 fr6
      have S6' : BuS w w6 (.slice q6 (BA.length + TB.length) k6) (BA ++ TB) := S5.out.app rfl rfl own6 grow6 fr6
      have eL : BA.length + TB.length = BN.length := by rw [HSU.out, List.length_append]
      have S6 : Hid (BuS w w6 (.slice q6 BN.length k6) BN) := by
        rw [← eL, HSU.out]; exact S6'
      rw [eL]
      clear own6 grow6 fr6 S6' eL S5 RD HSU hl1 hl2
      go_wp2_with fail
      go_roundw
      case rel => exact ⟨i + 1, q6, k6, by go_num, by omega, by rw [HBN.out], by rw [HBN.out]; exact S6⟩
      case measure => simp [intOf]; omega
    · obtain rfl : i = n := by omega
      have EE : Hid (pBB ep L = baB ep L i) := E.out.1
      have RDD := Lib.hid (rdC_of hS.out)
      have BEE := Lib.hid hS.out.below
      clear hS
      go_wp2_with fail
      go_ret2
      exact ⟨qa, ca, by rw [EE.out, E.out.2.1]; rfl, by rw [EE.out]; exact RDD.out, BEE.out⟩
end Go.Proofs.YtcpoaalhpjipaaaDoor
namespace Go.Proofs.YtcpoaalhpjipaaaDoor
set_option maxRecDepth 100000
open Go.RowKit

/-! ### What was written -/
theorem drop9 {xs A X : List Int} {pos k : Nat} (h : xs.drop pos = A ++ X) (hA : A.length = k) (hk : 0 < k) : pos + k ≤ xs.length ∧ (xs.drop pos).take k = A ∧ xs.drop (pos + k) = X := by
  have hl : (xs.drop pos).length = k + X.length := by rw [h, List.length_append, hA]
  rw [List.length_drop] at hl
  refine ⟨by omega, by rw [h]; exact List.take_left' hA, by rw [← List.drop_drop, h]; exact List.drop_left' hA⟩
theorem nAt_back {xs X : List Int} {pos : Nat} {n : Int} (h : xs.drop pos = be8 n ++ X) (h0 : 0 ≤ n) (h1 : n < 18446744073709551616) : pos + 8 ≤ xs.length ∧ nAt xs pos = n ∧ xs.drop (pos + 8) = X := by
  obtain ⟨d1, d2, d3⟩ := drop9 h (be8_len n) (by omega)
  exact ⟨d1, by unfold nAt; rw [d2, num_be8 h0 h1], d3⟩
theorem pd_congr {f g : Nat → Int} (h : ∀ i, i < 32 → f i = g i) (o : Nat) : ∀ m, o + m ≤ 32 → pd f o m = pd g o m
  | 0, _ => rfl
  | m + 1, hm => by
    have := pd_congr h o m (by omega)
    unfold pd
    rw [this, h (o + m) (by omega)]
theorem w4_back {xs X : List Int} {pos : Nat} {x : W4} (h : xs.drop pos = x.bytes ++ X) (hx : D4 x.a x.b x.c x.d) : pos + 32 ≤ xs.length ∧ w4 xs pos = x ∧ xs.drop (pos + 32) = X := by
  obtain ⟨d1, d2, d3⟩ := drop9 h x.len (by omega)
  have hf : ∀ i, i < 32 → wf xs pos i = by_ (V x.a x.b x.c x.d) i := fun i hi => by
    unfold wf
    have e1 : xs.getD (pos + (31 - i)) 0 = ((xs.drop pos).take 32).getD (31 - i) 0 := by simp [List.getD, show 31 - i < 32 by omega]
    rw [e1, d2]
    unfold W4.bytes
    rw [bys_at _ (31 - i) (by omega), show 31 - (31 - i) = i by omega]
  obtain ⟨p0, p1, p2, p3⟩ := pd_V hx
  refine ⟨d1, ?_, d3⟩
  unfold w4
  rw [pd_congr hf 0 8 (by omega), pd_congr hf 8 8 (by omega), pd_congr hf 16 8 (by omega), pd_congr hf 24 8 (by omega), p0, p1, p2, p3]
theorem fU_no {xs : List Int} {pos k : Nat} (h : pos + k ≤ xs.length) : fU false xs pos k = false := fU_ok h
theorem uV_false (xs : List Int) (pos : Nat) : uV false xs pos = nAt xs pos := rfl
theorem wV_false (xs : List Int) (pos : Nat) : wV false xs pos = w4 xs pos := rfl
theorem blob_back {xs D X : List Int} {pos : Nat} (h : xs.drop pos = be8 D.length ++ (D ++ X)) (hl : D.length ≤ 65536) : fB false xs pos = false ∧ bD false xs pos = D ∧ xs.drop (pos + 8 + D.length) = X := by
  obtain ⟨d1, d2, d3⟩ := nAt_back h (by omega) (by omega)
  have hl2 : (xs.drop (pos + 8)).length = D.length + X.length := by rw [d3, List.length_append]
  rw [List.length_drop] at hl2
  refine ⟨?_, ?_, ?_⟩
  · simp only [fB, d2, Bool.false_or, Bool.or_eq_false_iff, decide_eq_false_iff_not, Int.toNat_natCast]
    exact ⟨⟨by omega, by omega⟩, by omega⟩
  · unfold bD
    rw [if_neg (by simp), d2, d3, Int.toNat_natCast]
    exact List.take_left' rfl
  · rw [← List.drop_drop, d3]
    exact List.drop_left' rfl
theorem m_back {m : Mg} (ok : m.ok) (hl : m.data.length ≤ 65536) : g6 (mgB m) = false ∧ mM (mgB m) = m := by
  have h0 : (mgB m).drop 0 = be8 m.no ++ (be8 m.se ++ (be8 m.ta ++ (m.val.bytes ++ (be8 m.gas ++ (be8 m.data.length ++ (m.data ++ [])))))) := by simp [mgB, mgH]
  generalize mgB m = xs at *
  obtain ⟨a1, b1, c1⟩ := nAt_back h0 ok.no.1 ok.no.2
  obtain ⟨a2, b2, c2⟩ := nAt_back c1 ok.se.1 ok.se.2
  obtain ⟨a3, b3, c3⟩ := nAt_back c2 ok.ta.1 ok.ta.2
  obtain ⟨a4, b4, c4⟩ := w4_back c3 ok.val
  obtain ⟨a5, b5, c5⟩ := nAt_back c4 ok.gas.1 ok.gas.2
  obtain ⟨a6, b6, c6⟩ := blob_back c5 hl
  have e1 : g1 xs = false := fU_ok a1
  have e2 : g2 xs = false := by unfold g2; rw [e1]; exact fU_ok a2
  have e3 : g3 xs = false := by unfold g3; rw [e2]; exact fU_ok a3
  have e4 : g4 xs = false := by unfold g4; rw [e3]; exact fU_ok a4
  have e5 : g5 xs = false := by unfold g5; rw [e4]; exact fU_ok a5
  have e6 : g6 xs = false := by unfold g6; rw [e5]; exact a6
  refine ⟨e6, ?_⟩
  unfold mM
  rw [e1, e2, e3, e4, e5, e6, uV_false, uV_false, uV_false, uV_false, wV_false]
  have z1 : nAt xs 0 = m.no := b1
  have z2 : nAt xs 8 = m.se := b2
  have z3 : nAt xs 16 = m.ta := b3
  have z4 : w4 xs 24 = m.val := b4
  have z5 : nAt xs 56 = m.gas := b5
  have z6 : bD false xs 64 = m.data := b6
  rw [z1, z2, z3, z4, z5, z6]
theorem mOk_back {m : Mg} (ok : m.ok) (hl : m.data.length ≤ 65536) : mOk (mgB m) = okM m := by
  obtain ⟨e1, e2⟩ := m_back ok hl
  unfold mOk mEnd
  rw [e1, e2, mgB_len]
  simp
theorem t_back {xs X : List Int} {p : Nat} {t : Tg} (h : xs.drop p = txB t ++ X) (ok : t.ok) (hk : 0 ≤ t.kd ∧ t.kd ≤ 3) (hl : t.data.length ≤ 65536) : t7 xs p false = false ∧ tM xs p false = t ∧ xs.drop (tE xs p false) = X ∧ tE xs p false = p + (txB t).length := by
  have h0 : xs.drop p = be8 t.kd ++ (be8 t.fr ++ (be8 t.no ++ (be8 t.to ++ (t.val.bytes ++ (be8 t.gas ++ (be8 t.data.length ++ (t.data ++ X))))))) := by rw [h]; simp [txB]
  obtain ⟨a1, b1, c1⟩ := nAt_back h0 hk.1 (by omega)
  obtain ⟨a2, b2, c2⟩ := nAt_back c1 ok.fr.1 ok.fr.2
  obtain ⟨a3, b3, c3⟩ := nAt_back c2 ok.no.1 ok.no.2
  obtain ⟨a4, b4, c4⟩ := nAt_back c3 ok.to.1 ok.to.2
  obtain ⟨a5, b5, c5⟩ := w4_back c4 ok.val
  obtain ⟨a6, b6, c6⟩ := nAt_back c5 ok.gas.1 ok.gas.2
  obtain ⟨a7, b7, c7⟩ := blob_back c6 hl
  have e1 : t1 xs p false = false := by
    simp only [t1, fC, b1, Bool.false_or, Bool.or_eq_false_iff, decide_eq_false_iff_not]
    exact ⟨by omega, by omega⟩
  have e2 : t2 xs p false = false := by unfold t2; rw [e1]; exact fU_ok a2
  have e3 : t3 xs p false = false := by unfold t3; rw [e2]; exact fU_ok a3
  have e4 : t4 xs p false = false := by unfold t4; rw [e3]; exact fU_ok a4
  have e5 : t5 xs p false = false := by unfold t5; rw [e4]; exact fU_ok a5
  have e6 : t6 xs p false = false := by unfold t6; rw [e5]; exact fU_ok a6
  have e7 : t7 xs p false = false := by unfold t7; rw [e6]; exact a7
  have em : tM xs p false = t := by
    unfold tM
    rw [e1, e2, e3, e4, e5, e6, e7, uV_false, uV_false, uV_false, uV_false, uV_false, wV_false, b1, b2, b3, b4, b5, b6, b7]
  have ee : tE xs p false = p + 8 + 8 + 8 + 8 + 32 + 8 + 8 + t.data.length := by unfold tE; rw [em]
  exact ⟨e7, em, by rw [ee]; exact c7, by rw [ee, txB_len]; omega⟩
theorem okT_kd3 {t : Tg} {n : Nat} (h : okT t n = true) : 0 ≤ t.kd ∧ t.kd ≤ 3 := by
  unfold okT at h
  simp only [Bool.and_eq_true, decide_eq_true_eq] at h
  have h3 := h.2
  unfold okK at h3
  split at h3
  · omega
  · split at h3
    · omega
    · split at h3
      · omega
      · simp at h3
theorem b_back {ep : Int} {L : List Tg} (he : 0 ≤ ep ∧ ep < 18446744073709551616) (ok : TgsOk L) (hB : okB L = true) : (∀ i, i ≤ L.length → bIt (baB ep L L.length) i = (L.take i, (baB ep L i).length, false)) ∧ bN (baB ep L L.length) = L.length := by
  unfold okB at hB
  simp only [Bool.and_eq_true, decide_eq_true_eq] at hB
  obtain ⟨h8, hL⟩ := hB
  have split9 : ∀ i, i ≤ L.length → baB ep L L.length = baB ep L i ++ ((L.drop i).map txB).flatten := fun i hi => by
    have e : L.take L.length = L.take i ++ L.drop i := by rw [List.take_length, List.take_append_drop]
    unfold baB
    rw [e, List.map_append, List.flatten_append]
    simp
  have h0 : (baB ep L L.length).drop 0 = be8 ep ++ (be8 (L.length : Int) ++ ((L.take L.length).map txB).flatten) := by simp [baB]
  obtain ⟨a1, b1, c1⟩ := nAt_back h0 he.1 he.2
  obtain ⟨a2, b2, c2⟩ := nAt_back c1 (by omega) (by omega)
  have z2 : nAt (baB ep L L.length) 8 = (L.length : Int) := b2
  have e0 : fC (fU false (baB ep L L.length) 0 8) (baB ep L L.length) 8 8 = false := by
    rw [fU_ok a1]
    simp only [fC, z2, Bool.false_or, Bool.or_eq_false_iff, decide_eq_false_iff_not]
    exact ⟨by omega, by omega⟩
  have key : ∀ i, i ≤ L.length → bIt (baB ep L L.length) i = (L.take i, (baB ep L i).length, false) := by
    intro i
    induction i with
    | zero =>
      intro _
      simp only [bIt, e0, List.take_zero]
      simp [baB, be8_len]
    | succ i ih =>
      intro hi
      have ih' := ih (by omega)
      have hlt : i < L.length := by omega
      have hg := ok.get hlt
      have hT := okL_get hL hlt
      have hd : (baB ep L L.length).drop (baB ep L i).length = txB (L.getD i tg0) ++ ((L.drop (i + 1)).map txB).flatten := by
        rw [split9 (i + 1) hi, baB_succ hlt, List.append_assoc]
        exact List.drop_left' rfl
      obtain ⟨f1, f2, _, f4⟩ := t_back hd hg.1 (okT_kd3 hT) (by have := (okT_kd hT).2; omega)
      simp only [bIt, ih', f1, f2]
      refine Prod.ext ?_ (Prod.ext ?_ rfl)
      · show L.take i ++ [L.getD i tg0] = L.take (i + 1)
        rw [List.take_add_one]
        simp [List.getD, hlt]
      · show tE _ _ _ = _
        rw [f4, baB_succ hlt, List.length_append]
  refine ⟨key, ?_⟩
  unfold bN
  have e1 : (bIt (baB ep L L.length) 0).2.2 = false := e0
  rw [e1, uV_false, z2, Int.toNat_natCast]
theorem bOk_back {ep : Int} {L : List Tg} (he : 0 ≤ ep ∧ ep < 18446744073709551616) (ok : TgsOk L) (hB : okB L = true) : bOk (baB ep L L.length) = true := by
  obtain ⟨h1, h2⟩ := b_back he ok hB
  unfold bOk brOk
  rw [h2, h1 L.length (Nat.le_refl _)]
  simp [hB]

/-! ### A part, and more -/
section
variable {ys zs : List Int} {pos k : Nat} {f : Bool}
theorem nAt_pre (h : pos + 8 ≤ ys.length) : nAt (ys ++ zs) pos = nAt ys pos := by
  unfold nAt
  rw [List.drop_append_of_le_length (by omega), List.take_append_of_le_length (by rw [List.length_drop]; omega)]
theorem fU_pre (h : fU f ys pos k = false) : f = false ∧ pos + k ≤ ys.length ∧ fU f (ys ++ zs) pos k = false := by
  simp only [fU, Bool.or_eq_false_iff, decide_eq_false_iff_not] at h ⊢
  exact ⟨h.1, by omega, h.1, by rw [List.length_append]; omega⟩
theorem fC_pre {most : Nat} (h : fC f ys pos most = false) : f = false ∧ pos + 8 ≤ ys.length ∧ fC f (ys ++ zs) pos most = false := by
  simp only [fC, Bool.or_eq_false_iff, decide_eq_false_iff_not] at h ⊢
  have hp : pos + 8 ≤ ys.length := by omega
  exact ⟨h.1.1, hp, ⟨h.1.1, by rw [List.length_append]; omega⟩, by rw [nAt_pre hp]; exact h.2⟩
theorem fB_pre (h : fB f ys pos = false) : f = false ∧ fB f (ys ++ zs) pos = false ∧ bD false (ys ++ zs) pos = bD false ys pos := by
  simp only [fB, Bool.or_eq_false_iff, decide_eq_false_iff_not] at h ⊢
  have hp : pos + 8 ≤ ys.length := by omega
  refine ⟨h.1.1.1, ⟨⟨⟨h.1.1.1, by rw [List.length_append]; omega⟩, by rw [nAt_pre hp]; exact h.1.2⟩, by rw [nAt_pre hp, List.length_append]; omega⟩, ?_⟩
  unfold bD
  rw [if_neg (by simp), if_neg (by simp), nAt_pre hp, List.drop_append_of_le_length (by omega), List.take_append_of_le_length (by rw [List.length_drop]; omega)]
theorem uV_pre (h : pos + 8 ≤ ys.length) : uV false (ys ++ zs) pos = uV false ys pos := nAt_pre h
theorem w4_pre (h : pos + 32 ≤ ys.length) : wV false (ys ++ zs) pos = wV false ys pos := by
  have hf : ∀ i, i < 32 → wf (ys ++ zs) pos i = wf ys pos i := fun i hi => by
    unfold wf
    simp only [List.getD]
    rw [List.getElem?_append_left (by omega)]
  show w4 _ _ = w4 _ _
  unfold w4
  rw [pd_congr hf 0 8 (by omega), pd_congr hf 8 8 (by omega), pd_congr hf 16 8 (by omega), pd_congr hf 24 8 (by omega)]
end
theorem m_pre {ys zs : List Int} (h : g6 ys = false) : g6 (ys ++ zs) = false ∧ mM (ys ++ zs) = mM ys := by
  obtain ⟨h5, k6, b6⟩ := fB_pre (zs := zs) h
  obtain ⟨h4, l5, k5⟩ := fU_pre (zs := zs) (show fU (g4 ys) ys 56 8 = false from h5)
  obtain ⟨h3, l4, k4⟩ := fU_pre (zs := zs) (show fU (g3 ys) ys 24 32 = false from h4)
  obtain ⟨h2, l3, k3⟩ := fU_pre (zs := zs) (show fU (g2 ys) ys 16 8 = false from h3)
  obtain ⟨h1, l2, k2⟩ := fU_pre (zs := zs) (show fU (g1 ys) ys 8 8 = false from h2)
  obtain ⟨_, l1, k1⟩ := fU_pre (zs := zs) (show fU false ys 0 8 = false from h1)
  have e1 : g1 (ys ++ zs) = false := k1
  have e2 : g2 (ys ++ zs) = false := by unfold g2; rw [e1]; rw [h1] at k2; exact k2
  have e3 : g3 (ys ++ zs) = false := by unfold g3; rw [e2]; rw [h2] at k3; exact k3
  have e4 : g4 (ys ++ zs) = false := by unfold g4; rw [e3]; rw [h3] at k4; exact k4
  have e5 : g5 (ys ++ zs) = false := by unfold g5; rw [e4]; rw [h4] at k5; exact k5
  have e6 : g6 (ys ++ zs) = false := by unfold g6; rw [e5]; rw [h5] at k6; exact k6
  refine ⟨e6, ?_⟩
  unfold mM
  rw [e1, e2, e3, e4, e5, e6, h1, h2, h3, h4, h5, h, uV_pre l1, uV_pre l2, uV_pre l3, uV_pre l5, w4_pre l4, b6]
theorem t_pre {ys zs : List Int} {p : Nat} {f : Bool} (h : t7 ys p f = false) : f = false ∧ t7 (ys ++ zs) p f = false ∧ tM (ys ++ zs) p f = tM ys p f ∧ tE (ys ++ zs) p f = tE ys p f := by
  obtain ⟨h6, k7, b7⟩ := fB_pre (zs := zs) h
  obtain ⟨h5, l6, k6⟩ := fU_pre (zs := zs) (show fU (t5 ys p f) ys _ 8 = false from h6)
  obtain ⟨h4, l5, k5⟩ := fU_pre (zs := zs) (show fU (t4 ys p f) ys _ 32 = false from h5)
  obtain ⟨h3, l4, k4⟩ := fU_pre (zs := zs) (show fU (t3 ys p f) ys _ 8 = false from h4)
  obtain ⟨h2, l3, k3⟩ := fU_pre (zs := zs) (show fU (t2 ys p f) ys _ 8 = false from h3)
  obtain ⟨h1, l2, k2⟩ := fU_pre (zs := zs) (show fU (t1 ys p f) ys _ 8 = false from h2)
  obtain ⟨h0, l1, k1⟩ := fC_pre (zs := zs) (show fC f ys p 3 = false from h1)
  have e1 : t1 (ys ++ zs) p f = false := k1
  have e2 : t2 (ys ++ zs) p f = false := by unfold t2; rw [e1]; rw [h1] at k2; exact k2
  have e3 : t3 (ys ++ zs) p f = false := by unfold t3; rw [e2]; rw [h2] at k3; exact k3
  have e4 : t4 (ys ++ zs) p f = false := by unfold t4; rw [e3]; rw [h3] at k4; exact k4
  have e5 : t5 (ys ++ zs) p f = false := by unfold t5; rw [e4]; rw [h4] at k5; exact k5
  have e6 : t6 (ys ++ zs) p f = false := by unfold t6; rw [e5]; rw [h5] at k6; exact k6
  have e7 : t7 (ys ++ zs) p f = false := by unfold t7; rw [e6]; rw [h6] at k7; exact k7
  have em : tM (ys ++ zs) p f = tM ys p f := by
    unfold tM
    rw [e1, e2, e3, e4, e5, e6, e7, h1, h2, h3, h4, h5, h6, h, uV_pre l1, uV_pre l2, uV_pre l3, uV_pre l4, uV_pre l6, w4_pre l5, b7]
  exact ⟨h0, e7, em, by unfold tE; rw [em]⟩
theorem b_pre {ys zs : List Int} : ∀ i, (bIt ys i).2.2 = false → (bIt ys 0).2.2 = false ∧ bIt (ys ++ zs) i = bIt ys i
  | 0, h => by
    have h' : fC (fU false ys 0 8) ys 8 8 = false := h
    obtain ⟨h1, l2, k2⟩ := fC_pre (zs := zs) h'
    obtain ⟨_, l1, k1⟩ := fU_pre (zs := zs) h1
    refine ⟨h, ?_⟩
    show ([], 16, fC (fU false (ys ++ zs) 0 8) (ys ++ zs) 8 8) = (([] : List Tg), 16, fC (fU false ys 0 8) ys 8 8)
    rw [h', k1]
    rw [h1] at k2
    rw [k2]
  | i + 1, h => by
    have h' : t7 ys (bIt ys i).2.1 (bIt ys i).2.2 = false := h
    obtain ⟨h0, k1, k2, k3⟩ := t_pre (zs := zs) h'
    obtain ⟨z, ih⟩ := b_pre (zs := zs) i h0
    refine ⟨z, ?_⟩
    simp only [bIt, ih, k1, k2, k3, h']
theorem bN_pre {ys zs : List Int} (h : (bIt ys 0).2.2 = false) : bN (ys ++ zs) = bN ys := by
  obtain ⟨_, e⟩ := b_pre (zs := zs) 0 h
  have h' : fC (fU false ys 0 8) ys 8 8 = false := h
  obtain ⟨_, l2, _⟩ := fC_pre (zs := zs) h'
  unfold bN
  rw [e, h, uV_pre l2]
/-! ### The law's four questions -/
theorem mE_cut {xs : List Int} {k : Nat} (h : mOk xs = true) (hk : k < xs.length) : mE (xs.take k) = 21 := by
  unfold mE
  rw [if_neg]
  intro h2
  simp only [mOk, Bool.and_eq_true, Bool.not_eq_true', decide_eq_true_eq] at h h2
  obtain ⟨e1, e2⟩ := m_pre (zs := xs.drop k) h2.1.1
  rw [List.take_append_drop] at e1 e2
  have h3 := h2.1.2
  have h4 := h.1.2
  unfold mEnd at h3 h4
  rw [e2] at h4
  rw [List.length_take] at h3
  omega
theorem mE_more {xs zs : List Int} (h : mOk xs = true) : mE (xs ++ zs) = if zs.length = 0 then 0 else 21 := by
  by_cases hz : zs = []
  · subst hz
    rw [List.append_nil]
    exact if_pos h
  · have hl : zs.length ≠ 0 := fun e => hz (List.eq_nil_of_length_eq_zero e)
    rw [if_neg hl]
    unfold mE
    rw [if_neg]
    intro h2
    simp only [mOk, Bool.and_eq_true, Bool.not_eq_true', decide_eq_true_eq] at h h2
    obtain ⟨e1, e2⟩ := m_pre (zs := zs) h.1.1
    have h3 := h2.1.2
    have h4 := h.1.2
    unfold mEnd at h3 h4
    rw [e2, List.length_append] at h3
    omega
theorem bE_cut {xs : List Int} {k : Nat} (h : bOk xs = true) (hk : k < xs.length) : bE (xs.take k) = 21 := by
  unfold bE
  rw [if_neg]
  intro h2
  simp only [bOk, brOk, Bool.and_eq_true, Bool.not_eq_true', decide_eq_true_eq] at h h2
  obtain ⟨z, e⟩ := b_pre (zs := xs.drop k) _ h2.1.1
  have en := bN_pre (zs := xs.drop k) z
  rw [List.take_append_drop] at e en
  have h3 := h2.1.2
  have h4 := h.1.2
  rw [en, e] at h4
  rw [List.length_take] at h3
  omega
theorem bE_more {xs zs : List Int} (h : bOk xs = true) : bE (xs ++ zs) = if zs.length = 0 then 0 else 21 := by
  by_cases hz : zs = []
  · subst hz
    rw [List.append_nil]
    exact if_pos h
  · have hl : zs.length ≠ 0 := fun e => hz (List.eq_nil_of_length_eq_zero e)
    rw [if_neg hl]
    unfold bE
    rw [if_neg]
    intro h2
    simp only [bOk, brOk, Bool.and_eq_true, Bool.not_eq_true', decide_eq_true_eq] at h h2
    obtain ⟨z, e⟩ := b_pre (zs := zs) _ h.1.1
    have en := bN_pre (zs := zs) z
    have h3 := h2.1.2
    have h4 := h.1.2
    rw [en, e, List.length_append] at h3
    omega
end Go.Proofs.YtcpoaalhpjipaaaDoor
namespace Go.Proofs.YtcpoaalhpjipaaaDoor
set_option maxRecDepth 100000
open Go.RowKit

set_option maxHeartbeats 4000000 in
theorem Tx_any {w : World} {m : Tg} {q : Option Addr} {k : Nat} (hr : Rd w (.slice q m.data.length k) m.data) (hl : m.data.length ≤ 140737488355328) :
    Calls Tryd.prog 45 #[.agg (txRow m q m.data.length k).toArray] w fun e w' => ∃ q' k', e = .returned (.agg (txRow m q' m.data.length k').toArray) ∧ BuS w w' (.slice q' m.data.length k') m.data := by
  obtain ⟨i0, hi, hz0, hz1, hz2⟩ := info_parts Tryd.infoU8
  replace hi := Lib.hid hi
  replace hz0 := Lib.hid hz0
  replace hz1 := Lib.hid hz1
  replace hz2 := Lib.hid hz2
  obtain ⟨D, hD⟩ : ∃ D, m.data = D := ⟨_, rfl⟩
  rw [hD] at hr hl ⊢
  obtain ⟨n, hn⟩ : ∃ n, D.length = n := ⟨_, rfl⟩
  have LN := Lib.hid hn
  rw [hn] at hr hl ⊢
  have b1 : Below w.heap.size w (w.alloc (.cells (txRow m q n k).toArray 54)) := (Below.refl _ _).alloc (Nat.le_refl _) _
  have b2 : Below (w.alloc (.cells (txRow m q n k).toArray 54)).heap.size (w.alloc (.cells (txRow m q n k).toArray 54)) ((w.alloc (.cells (txRow m q n k).toArray 54)).alloc (.cells (txRow tg0 none 0 0).toArray 72)) := (Below.refl _ _).alloc (Nat.le_refl _) _
  have b0 := b1.trans (b2.mono b1.size)
  have K0 := Lib.hid ((TxAt.new w 54 m q n k).on b2)
  have R0 := Lib.hid (TxAt.new (w.alloc (.cells (txRow m q n k).toArray 54)) 72 tg0 none 0 0)
  have hz : (w.alloc (.cells (txRow m q n k).toArray 54)).heap.size = w.heap.size + 1 := by simp
  rw [hz] at R0
  have V0 := Lib.hid (hr.on b0)
  have B0 := Lib.hid b0
  have SZ : Hid (((w.alloc (.cells (txRow m q n k).toArray 54)).alloc (.cells (txRow tg0 none 0 0).toArray 72)).heap.size = w.heap.size + 2) := by show _ = _; simp
  have RM := Lib.hid (fun (W : World) (q : Option Addr) (n k : Nat) => Tryd.run_txp W m q n k)
  clear hr hn hD b1 b2 b0 hz
  go_enter Tryd.func45, Tryd.ntmps45
  go_wp2_with fail
  generalize ((w.alloc (.cells (txRow m q n k).toArray 54)).alloc (.cells (txRow tg0 none 0 0).toArray 72)) = w0 at *
  refine wp_region_held_drew (S := fun W => TxAt W w.heap.size 54 m q n k) (by kernel_rfl) (show TxAt w0.drew w.heap.size 54 m q n k from K0.out) (fun h0 => ?_)
  replace R0 : Hid (TxAt w0.drew (w.heap.size + 1) 72 tg0 none 0 0) := R0.out
  replace V0 : Hid (Rd w0.drew (.slice q n k) D) := V0.out
  replace B0 : Hid (Below w.heap.size w w0.drew) := B0.out.drew
  replace SZ : Hid (w0.drew.heap.size = w.heap.size + 2) := SZ.out
  clear K0
  generalize w0.drew = w0 at *
  refine wpAnyH_take (i := 0) (v := ?_) (by rw [List.getElem?_toArray]; rfl) (by kernel_rfl) (by kernel_rfl) (by kernel_rfl) (by exact fun _ _ _ h => h) (Or.inl ⟨by rfl, ?_⟩) h0 ?_
  rotate_left
  · intro W hW
    obtain ⟨c0, c1, c2, c3, c4, c5, c6, c7, c8, c9⟩ := hW.cells
    go_simp
    all_goals with_reducible rfl
  try simp only [Act.put, List.setIfInBounds_toArray, List.set_cons_zero, List.set_cons_succ]
  refine wpAnyH_take (i := 1) (v := ?_) (by rw [List.getElem?_toArray]; rfl) (by kernel_rfl) (by kernel_rfl) (by kernel_rfl) (by exact fun _ _ _ h => h) (Or.inl ⟨by rfl, ?_⟩) h0 ?_
  rotate_left
  · intro W hW
    obtain ⟨c0, c1, c2, c3, c4, c5, c6, c7, c8, c9⟩ := hW.cells
    go_simp
    all_goals with_reducible rfl
  try simp only [Act.put, List.setIfInBounds_toArray, List.set_cons_zero, List.set_cons_succ]
  refine wpAnyH_take (i := 2) (v := ?_) (by rw [List.getElem?_toArray]; rfl) (by kernel_rfl) (by kernel_rfl) (by kernel_rfl) (by exact fun _ _ _ h => h) (Or.inl ⟨by rfl, ?_⟩) h0 ?_
  rotate_left
  · intro W hW
    obtain ⟨c0, c1, c2, c3, c4, c5, c6, c7, c8, c9⟩ := hW.cells
    go_simp
    all_goals with_reducible rfl
  try simp only [Act.put, List.setIfInBounds_toArray, List.set_cons_zero, List.set_cons_succ]
  refine wpAnyH_take (i := 3) (v := ?_) (by rw [List.getElem?_toArray]; rfl) (by kernel_rfl) (by kernel_rfl) (by kernel_rfl) (by exact fun _ _ _ h => h) (Or.inl ⟨by rfl, ?_⟩) h0 ?_
  rotate_left
  · intro W hW
    obtain ⟨c0, c1, c2, c3, c4, c5, c6, c7, c8, c9⟩ := hW.cells
    go_simp
    all_goals with_reducible rfl
  try simp only [Act.put, List.setIfInBounds_toArray, List.set_cons_zero, List.set_cons_succ]
  refine wpAnyH_take (i := 4) (v := ?_) (by rw [List.getElem?_toArray]; rfl) (by kernel_rfl) (by kernel_rfl) (by kernel_rfl) (by exact fun _ _ _ h => h) (Or.inl ⟨by rfl, ?_⟩) h0 ?_
  rotate_left
  · intro W hW
    obtain ⟨c0, c1, c2, c3, c4, c5, c6, c7, c8, c9⟩ := hW.cells
    go_simp
    all_goals with_reducible rfl
  try simp only [Act.put, List.setIfInBounds_toArray, List.set_cons_zero, List.set_cons_succ]
  refine wpAnyH_take (i := 5) (v := ?_) (by rw [List.getElem?_toArray]; rfl) (by kernel_rfl) (by kernel_rfl) (by kernel_rfl) (by exact fun _ _ _ h => h) (Or.inl ⟨by rfl, ?_⟩) h0 ?_
  rotate_left
  · intro W hW
    obtain ⟨c0, c1, c2, c3, c4, c5, c6, c7, c8, c9⟩ := hW.cells
    go_simp
    all_goals with_reducible rfl
  try simp only [Act.put, List.setIfInBounds_toArray, List.set_cons_zero, List.set_cons_succ]
  refine wpAnyH_take (i := 6) (v := ?_) (by rw [List.getElem?_toArray]; rfl) (by kernel_rfl) (by kernel_rfl) (by kernel_rfl) (by exact fun _ _ _ h => h) (Or.inl ⟨by rfl, ?_⟩) h0 ?_
  rotate_left
  · intro W hW
    obtain ⟨c0, c1, c2, c3, c4, c5, c6, c7, c8, c9⟩ := hW.cells
    go_simp
    all_goals with_reducible rfl
  try simp only [Act.put, List.setIfInBounds_toArray, List.set_cons_zero, List.set_cons_succ]
  refine wpAnyH_take (i := 7) (v := ?_) (by rw [List.getElem?_toArray]; rfl) (by kernel_rfl) (by kernel_rfl) (by kernel_rfl) (by exact fun _ _ _ h => h) (Or.inl ⟨by rfl, ?_⟩) h0 ?_
  rotate_left
  · intro W hW
    obtain ⟨c0, c1, c2, c3, c4, c5, c6, c7, c8, c9⟩ := hW.cells
    go_simp
    all_goals with_reducible rfl
  try simp only [Act.put, List.setIfInBounds_toArray, List.set_cons_zero, List.set_cons_succ]
  refine wpAnyH_take (i := 8) (v := ?_) (by rw [List.getElem?_toArray]; rfl) (by kernel_rfl) (by kernel_rfl) (by kernel_rfl) (by exact fun _ _ _ h => h) (Or.inl ⟨by rfl, ?_⟩) h0 ?_
  rotate_left
  · intro W hW
    obtain ⟨c0, c1, c2, c3, c4, c5, c6, c7, c8, c9⟩ := hW.cells
    go_simp
    all_goals with_reducible rfl
  try simp only [Act.put, List.setIfInBounds_toArray, List.set_cons_zero, List.set_cons_succ]
  refine wpAnyH_take (i := 9) (v := ?_) (by rw [List.getElem?_toArray]; rfl) (by kernel_rfl) (by kernel_rfl) (by kernel_rfl) (by exact fun _ _ _ h => h) (Or.inl ⟨by rfl, ?_⟩) h0 ?_
  rotate_left
  · intro W hW
    obtain ⟨c0, c1, c2, c3, c4, c5, c6, c7, c8, c9⟩ := hW.cells
    go_simp
    all_goals with_reducible rfl
  try simp only [Act.put, List.setIfInBounds_toArray, List.set_cons_zero, List.set_cons_succ]
  refine wpAnyH_take (i := 10) (v := ?_) (by rw [List.getElem?_toArray]; rfl) (by kernel_rfl) (by kernel_rfl) (by kernel_rfl) (by exact fun _ _ _ h => h) (Or.inl ⟨by rfl, ?_⟩) h0 ?_
  rotate_left
  · intro W hW
    obtain ⟨c0, c1, c2, c3, c4, c5, c6, c7, c8, c9⟩ := hW.cells
    go_simp
    all_goals with_reducible rfl
  try simp only [Act.put, List.setIfInBounds_toArray, List.set_cons_zero, List.set_cons_succ]
  refine wpAnyH_take (i := 11) (v := ?_) (by rw [List.getElem?_toArray]; rfl) (by kernel_rfl) (by kernel_rfl) (by kernel_rfl) (by exact fun _ _ _ h => h) (Or.inl ⟨by rfl, ?_⟩) h0 ?_
  rotate_left
  · intro W hW
    obtain ⟨c0, c1, c2, c3, c4, c5, c6, c7, c8, c9⟩ := hW.cells
    go_simp
    all_goals with_reducible rfl
  try simp only [Act.put, List.setIfInBounds_toArray, List.set_cons_zero, List.set_cons_succ]
  refine wpAnyH_take (i := 13) (v := ?_) (by rw [List.getElem?_toArray]; rfl) (by kernel_rfl) (by kernel_rfl) (by kernel_rfl) (by exact fun _ _ _ h => h) (Or.inl ⟨by rfl, ?_⟩) h0 ?_
  rotate_left
  · intro W hW
    obtain ⟨c0, c1, c2, c3, c4, c5, c6, c7, c8, c9⟩ := hW.cells
    go_simp
    all_goals with_reducible rfl
  try simp only [Act.put, List.setIfInBounds_toArray, List.set_cons_zero, List.set_cons_succ]
  refine wpAnyH_take (i := 14) (v := ?_) (by rw [List.getElem?_toArray]; rfl) (by kernel_rfl) (by kernel_rfl) (by kernel_rfl) (by exact fun _ _ _ h => h) (Or.inl ⟨by rfl, ?_⟩) h0 ?_
  rotate_left
  · intro W hW
    obtain ⟨c0, c1, c2, c3, c4, c5, c6, c7, c8, c9⟩ := hW.cells
    go_simp
    all_goals with_reducible rfl
  try simp only [Act.put, List.setIfInBounds_toArray, List.set_cons_zero, List.set_cons_succ]
  refine wpAnyH_ready (rs := [12]) (by kernel_rfl) (by simp) ?_
  refine AllReadyH.cons (by rw [List.getElem?_toArray]; rfl) (fun K hK => ?_) AllReadyH.nil
  rw [if_pos (by rfl)]
  have b3 : Below w0.heap.size w0 (w0.alloc (.cells #[] 5)) := (Below.refl _ _).alloc (Nat.le_refl _) _
  have B3 := Lib.hid b3
  have E3 := Lib.hid (own_empty w0 5 1)
  have V3 := Lib.hid (V0.out.on b3)
  have K3 : TxAt (w0.alloc (.cells #[] 5)) w.heap.size 54 m q n k := TxAt.on h0 b3
  clear b3
  go_wp2_with fail
  refine hK.out _ _ (K3) (fun h3 => ?_)
  clear hK K K3
  try simp only [Act.put, List.setIfInBounds_toArray, List.set_cons_zero, List.set_cons_succ]
  generalize hw3 : (w0.alloc (.cells #[] 5)) = w3 at *
  clear hw3
  refine wpAnyH_ready (rs := [15]) (by kernel_rfl) (by simp) ?_
  refine AllReadyH.cons (by rw [List.getElem?_toArray]; rfl) (fun K hK => ?_) AllReadyH.nil
  rw [if_pos (by rfl)]
  refine wp_append_row _ _ rfl Tryd.underlying25 hi.out hz0.out hz1.out hz2.out rfl E3.out (V3.out.src (P := Tryd.prog) Tryd.underlying25) (by rw [LN.out]; unfold maxLen; omega) (by rw [LN.out]; omega) ?_
  intro q6 k6 w6 own6' grow6' fr6'
  have grow6 : w3.grownBy w6 (Value.slice (some ⟨w0.heap.size, 0, none⟩) 0 0).ownBlock := grow6'
  have own6 : w6.ownsRow 0 5 1 (.slice q6 n k6) n (bc D) := by have := own6'; simp only [LN.out, Nat.zero_add, List.nil_append] at this; exact this
  have G6 : Below w0.heap.size w0 w6 := B3.out.grown grow6 B3.out.size (fun j hj => by simp [Value.ownBlock] at hj; omega)
  have K6 : TxAt w6 w.heap.size 54 m q n k := TxAt.on h0 G6
  have R6 := Lib.hid (R0.out.on G6)
  have B6 := Lib.hid (B0.out.trans (G6.mono B0.out.size))
  have S6 : Hid (BuS w w6 (.slice q6 n k6) D) := by
    refine ⟨by rw [LN.out]; exact own6, fun g hg => ?_, B6.out⟩
    rcases fr6' with e | e
    · have e' : (Value.slice q6 (0 + D.length) k6).ownBlock = (Value.slice (some ⟨w0.heap.size, 0, none⟩) 0 0).ownBlock := e
      have e2 : (Value.slice q6 n k6).ownBlock = (Value.slice q6 (0 + D.length) k6).ownBlock := by cases q6 <;> rfl
      rw [e2, e'] at hg
      have := SZ.out
      simp [Value.ownBlock] at hg; omega
    · have e' : (Value.slice q6 (0 + D.length) k6).ownBlock = some w3.heap.size := e
      have e2 : (Value.slice q6 n k6).ownBlock = (Value.slice q6 (0 + D.length) k6).ownBlock := by cases q6 <;> rfl
      rw [e2, e'] at hg
      have := B3.out.size
      have := SZ.out
      simp at hg; omega
  have N6 : Hid ((Value.slice q6 n k6).ownBlock ≠ some (w.heap.size + 1)) := own_ne own6 R6.out (by decide)
  simp only [LN.out, Nat.zero_add]
  clear own6' grow6' fr6' own6 grow6 G6
  refine hK.out _ _ (K6) (fun h6 => ?_)
  clear hK K K6
  try simp only [Act.put, List.setIfInBounds_toArray, List.set_cons_zero, List.set_cons_succ]
  have hrm := fun W => RM.out W q6 n k6
  refine wpAnyH_take (i := 16) (v := ?_) (by rw [List.getElem?_toArray]; rfl) (by kernel_rfl) (by kernel_rfl) (by kernel_rfl) (by exact fun _ _ _ h => h) (Or.inl ⟨by rfl, ?_⟩) h6 ?_
  rotate_left
  · intro W hW
    obtain ⟨c0, c1, c2, c3, c4, c5, c6, c7, c8, c9⟩ := hW.cells
    go_simp
    all_goals with_reducible rfl
  try simp only [Act.put, List.setIfInBounds_toArray, List.set_cons_zero, List.set_cons_succ]
  refine wpAnyH_ready (rs := [17]) (by kernel_rfl) (by simp) ?_
  refine AllReadyH.cons (by rw [List.getElem?_toArray]; rfl) (fun K hK => ?_) AllReadyH.nil
  rw [if_pos (by rfl)]
  have th := R6.out.there
  have hput := (R6.out.put m q6 n k6).row
  have cS : Chg w6 (w6.setCells (w.heap.size + 1) 0 (txRow m q6 n k6)) [w.heap.size + 1] := chg_setCells _ _ _ (Chg.refl _ _)
  have S7 : Hid (BuS w (w6.setCells (w.heap.size + 1) 0 (txRow m q6 n k6)) (.slice q6 n k6) D) :=
    ⟨own_keep S6.out.own (fun j hj => cS.block j (own_lt S6.out.own hj) (fun hm => by
      obtain rfl : j = w.heap.size + 1 := by simpa using hm
      exact N6.out hj)), S6.out.fresh, below_setCells' (w.heap.size + 1) (by omega) _ _ S6.out.below⟩
  have K7 : TxAt (w6.setCells (w.heap.size + 1) 0 (txRow m q6 n k6)) w.heap.size 54 m q n k := TxAt.chg h6 cS (by simp)
  clear S6 cS N6 hrm
  go_wp2_with fail
  refine hK.out _ _ (K7) (fun h7 => ?_)
  clear hK K K7
  try simp only [Act.put, List.setIfInBounds_toArray, List.set_cons_zero, List.set_cons_succ]
  refine wpAnyH_done (by kernel_rfl) ?_ _
  clear h0 h3 h6 h7
  go_wp2_with fail
  refine bodyPost_ret (v := .agg (txRow m q6 n k6).toArray) (by simp [results, Tryd.results45, go_sem, hput]) rfl ⟨q6, k6, rfl, by have := S7.out; rw [LN.out] at *; exact this⟩

/-- Txs that were copied: rows of one's own. -/
structure OwT (w W : World) (v : Value) (L : List Tg) (done : List Value) : Prop where
  own : W.ownsRow 0 72 10 v L.length done
  rows : done.length = L.length * 10 ∧ ∀ j, j < L.length → ∃ q k, (done.drop (j * 10)).take 10 = txRow (L.getD j tg0) q (L.getD j tg0).data.length k ∧ W.ownsRow 0 5 1 (.slice q (L.getD j tg0).data.length k) (L.getD j tg0).data.length (bc (L.getD j tg0).data)
  fresh : ∀ g, v.ownBlock = some g → w.heap.size ≤ g
  below : Below w.heap.size w W
theorem OwT.on {w W W' : World} {v : Value} {L : List Tg} {done : List Value} (h : OwT w W v L done) (hb : Below W.heap.size W W') : OwT w W' v L done := by
  refine ⟨own_on h.own hb, ⟨h.rows.1, fun j hj => ?_⟩, h.fresh, h.below.trans (hb.mono h.below.size)⟩
  obtain ⟨q, k, h1, h2⟩ := h.rows.2 j hj
  exact ⟨q, k, h1, own_on h2 hb⟩
theorem OwT.rd {w W : World} {q : Option Addr} {c : Nat} {L : List Tg} {done : List Value} (h : OwT w W (.slice q L.length c) L done) : RdTx W q L := by
  rcases h.own.2 with ⟨e, h0⟩ | ⟨g, cap, cur, e, _, hg, hnc, hcm, hcs', htake⟩
  · exact .inl (List.eq_nil_of_length_eq_zero h0)
  · simp only [Value.slice.injEq] at e
    obtain ⟨rfl, -, rfl⟩ := e
    refine .inr ⟨g, 0, rfl, fun j hj => ?_⟩
    obtain ⟨qi, ki, h1, h2⟩ := h.rows.2 j hj
    refine ⟨qi, ki, ?_, rd_of_row h2⟩
    have hl := h.rows.1
    have hc2 : cur = (done ++ cur.toList.drop (L.length * 10)).toArray := by
      apply Array.ext'
      show cur.toList = done ++ cur.toList.drop (L.length * 10)
      rw [← htake, List.take_append_drop]
    rw [hc2] at hg
    rw [rowOf_block hg, Nat.zero_add, ← h1]
    have e : ((done ++ cur.toList.drop (L.length * 10)).drop (j * 10)).take 10 = (done.drop (j * 10)).take 10 := by
      rw [List.drop_append_of_le_length (by omega), List.take_append_of_le_length (by rw [List.length_drop]; omega)]
    rw [← e]
    simp [List.take_drop]
theorem OwT.grow {w W W2 : World} {q : Option Addr} {c : Nat} {L : List Tg} {done : List Value} {t : Tg} {v : Value} {qi : Option Addr} {ki : Nat} (h : OwT w W v L done) (hd : W.ownsRow 0 5 1 (.slice qi t.data.length ki) t.data.length (bc t.data)) (own : W2.ownsRow 0 72 10 (.slice q (L.length + 1) c) (L.length + 1) (done ++ txRow t qi t.data.length ki)) (grow : W.grownBy W2 v.ownBlock) (fr : (Value.slice q (L.length + 1) c).ownBlock = v.ownBlock ∨ (Value.slice q (L.length + 1) c).ownBlock = some W.heap.size) : OwT w W2 (.slice q (L.length + 1) c) (L ++ [t]) (done ++ txRow t qi t.data.length ki) := by
  have keep : ∀ {u : Value} {m : Nat} {ys : List Value}, W.ownsRow 0 5 1 u m ys → W2.ownsRow 0 5 1 u m ys := fun hu => own_keep hu (fun g e' => grow.block g (own_lt hu e') (fun e2 => own_two hu h.own (by decide) e' e2.symm))
  refine ⟨by rw [List.length_append, List.length_singleton]; exact own, ⟨by simp [h.rows.1, txRow_len]; omega, fun j hj => ?_⟩, fun g hg => ?_, h.below.grown grow h.below.size (fun g hg => h.fresh g hg)⟩
  · have hl := h.rows.1
    by_cases e : j = L.length
    · subst e
      have e1 : (L ++ [t]).getD L.length tg0 = t := by simp [List.getD]
      rw [e1]
      exact ⟨qi, ki, by rw [List.drop_left' hl]; exact List.take_of_length_le (by rw [txRow_len]; omega), keep hd⟩
    · have hj2 : j < L.length := by simp at hj; omega
      have e1 : (L ++ [t]).getD j tg0 = L.getD j tg0 := by simp [List.getD, List.getElem?_append_left hj2]
      obtain ⟨q', k', h1, h2⟩ := h.rows.2 j hj2
      rw [e1]
      refine ⟨q', k', ?_, keep h2⟩
      rw [List.drop_append_of_le_length (by omega), List.take_append_of_le_length (by rw [List.length_drop]; omega)]
      exact h1
  · rcases fr with e | e
    · rw [e] at hg; exact h.fresh g hg
    · rw [e] at hg; have := h.below.size; simp at hg; omega
@[go_sem ↓] theorem Tryd.slice_tx (ps : Array (Nat × Value)) : Instr.buildSlice 56 1 ps = rowNew 56 ps := rfl
theorem Tryd.run_slice_tx (w : World) (R : List Value) (hR : R.length = 10) :
    (rowNew 56 #[(0, .agg R.toArray)]).run Tryd.prog w = .ok (.slice (some ⟨w.heap.size, 0, none⟩) 1 1) (w.alloc (.cells R.toArray 72)) :=
  run_bs_one w Tryd.underlying56 (by kernel_rfl) (Tryd.zero_txp w) (n := 10) (by decide) (by decide) hR
theorem tx0_cells : (Value.agg (txRow tg0 none 0 0).toArray).cells.size = 10 := by rfl
theorem src_tx {P : Program} {tx e' : TypeId} {w : World} {R : List Value} (hk : P.underlying tx = some (.slice e')) (hR : R.length = 10) (h1 : ∀ u ∈ R, u.oneCell' = true) : Src P 10 tx (.slice (some ⟨w.heap.size, 0, none⟩) 1 1) 1 R (w.alloc (.cells R.toArray 72)) := by
  refine Src.ofSlice _ hk _ _ _ _ (by rw [hR]) (fun j u hu => ?_) h1
  rw [addr_add, Joins.cell_of_block (heap_alloc_new w (.cells R.toArray 72)), Nat.zero_add]
  simpa using hu

set_option maxHeartbeats 8000000 in
theorem Txs_any {w : World} {q : Option Addr} {c : Nat} {L : List Tg} (hr : RdTx w q L) (ok : TgsOk L) (hn : L.length ≤ 12) :
    Calls Tryd.prog 23 #[.slice q L.length c] w fun e w' => ∃ q' c' done, e = .returned (.slice q' L.length c') ∧ OwT w w' (.slice q' L.length c') L done := by
  obtain ⟨i0, hi, hz0, hz1, hz2⟩ := info_parts Tryd.infoTx
  replace hi := Lib.hid hi
  replace hz0 := Lib.hid hz0
  replace hz1 := Lib.hid hz1
  replace hz2 := Lib.hid hz2
  have HR : Hid (∀ W, Below w.heap.size w W → RdTx W q L) := fun W hb => hr.on hb
  have OK := Lib.hid ok
  have O0 : Hid (OwT w w (.slice none 0 0) (L.take 0) []) := ⟨World.ownsRow_nil w 0 _ 10, ⟨rfl, fun j hj => by simp at hj⟩, by simp [Value.ownBlock], Below.refl _ _⟩
  clear hr ok
  go_enter Tryd.func23, Tryd.ntmps23
  go_wp2_with fail
  go_loopw [3, 4] (fun ov iv wr => ∃ (i : Nat) (qo : Option Addr) (co : Nat) (done : List Value), iv = .int .i64 (i : Int) ∧ i ≤ L.length ∧ ov = .slice qo i co ∧ Hid (OwT w wr (.slice qo i co) (L.take i) done)) (fun _ iv _ => L.length - (intOf iv).toNat)
  case atStart => exact ⟨0, none, 0, [], rfl, by omega, rfl, O0⟩
  case round =>
    clear O0
    obtain ⟨i, qo, co, done, rfl, hil, rfl, hS⟩ := hrel
    by_cases hlt : i < L.length
    · have hne : L ≠ [] := fun e => by rw [e] at hlt; simp at hlt
      obtain ⟨b, off, rfl, hx2⟩ := (HR.out _ hS.out.below).resolve_left hne
      obtain ⟨qi, ki, r10, rh⟩ := hx2 i hlt
      have oks := OK.out.get hlt
      have HTK : Hid (L.take (i + 1) = L.take i ++ [L.getD i tg0]) := by
        show _ = _
        rw [List.take_add_one]
        simp [List.getD, hlt]
      have hlL : (L.take i).length = i := by rw [List.length_take]; omega
      have HLL := Lib.hid hlL
      obtain ⟨t, htx⟩ : ∃ t, L.getD i tg0 = t := ⟨_, rfl⟩
      rw [htx] at r10 rh oks HTK
      obtain ⟨Li, hLi⟩ : ∃ Li, L.take i = Li := ⟨_, rfl⟩
      rw [hLi] at HTK HLL hS
      have hlen := txRow_len t qi t.data.length ki
      have R1 := Lib.hid rh
      have OT := Lib.hid oks
      clear hx2 hne rh oks htx hlL hLi
      go_wp2_with fail
      clear r10
      refine (Tx_any R1.out OT.out.2).mono ?_
      rintro e w2 ⟨q2, k2, rfl, hB⟩
      have O2 := Lib.hid (hS.out.on hB.below)
      have hRl := txRow_len t q2 t.data.length k2
      have hRo := Lib.hid (txRow_one t q2 t.data.length k2)
      have D2 := Lib.hid hB.own
      have hsl := Tryd.run_slice_tx w2 (txRow t q2 t.data.length k2) hRl
      have b3 : Below w2.heap.size w2 (w2.alloc (.cells (txRow t q2 t.data.length k2).toArray 72)) := (Below.refl _ _).alloc (Nat.le_refl _) _
      have O3 := Lib.hid (O2.out.on b3)
      have D3 := Lib.hid (own_on D2.out b3)
      have X3 := Lib.hid (src_tx (P := Tryd.prog) (w := w2) Tryd.underlying56 hRl hRo.out)
      clear hB O2 D2 hS b3 R1
      go_wp2_with (at_builtin; refine wpList_append_row rfl _ _ rfl Tryd.underlying56 hi.out hz0.out hz1.out hz2.out tx0_cells (by have := O3.out.own; rw [HLL.out] at this; exact this) X3.out ?b1 ?b2 ?_)
      case b1 => unfold maxLen; omega
      case b2 => omega
      intro q6 k6 w6 own6 grow6 fr6
      have O6 : Hid (OwT w w6 (.slice q6 (i + 1) k6) (L.take (i + 1)) (done ++ txRow t q2 t.data.length k2)) := by
        have hll := HLL.out
        rw [HTK.out]
        subst hll
        exact O3.out.grow D3.out own6 grow6 (by simpa using fr6)
      clear own6 grow6 fr6 O3 D3 X3 hsl
      go_wp2_with fail
      go_roundw
      case rel => exact ⟨i + 1, q6, k6, _, by go_num, by omega, rfl, O6⟩
      case measure => simp [intOf]; omega
    · obtain rfl : i = L.length := by omega
      have O9 : Hid (OwT w wr (.slice qo L.length co) L done) := by
        have := hS.out
        rw [List.take_length] at this
        exact this
      clear hS
      go_wp2_with fail
      go_ret
      exact ⟨_, _, _, rfl, O9.out⟩
end Go.Proofs.YtcpoaalhpjipaaaDoor
