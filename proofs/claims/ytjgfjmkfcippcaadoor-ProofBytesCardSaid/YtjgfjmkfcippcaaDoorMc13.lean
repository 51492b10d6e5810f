/-
  The law's copy of steps.; The root behind steps, in package proof.; A made row of steps that is filled in place.
-/
import Derived.Test.YtjgfjmkfcippcaaDoorMc11
import Derived.Test.YtjgfjmkfcippcaaDoorMc12
namespace Go.Proofs.YtjgfjmkfcippcaaDoor
set_option maxRecDepth 100000
open Go.RowKit

theorem sp_one (s : Sp) (q : Option Addr) (n k : Nat) : ∀ u ∈ spRow s (.slice q n k), u.oneCell' = true := by
  intro u hu
  simp only [spRow, pfRow, List.mem_append, List.mem_cons, List.not_mem_nil, or_false] at hu
  rcases hu with hu | hu | hu | rfl
  · exact (Array.all_eq_true_iff_forall_mem.1 (hc_one _)) u (by simpa using hu)
  · exact (Array.all_eq_true_iff_forall_mem.1 (hc_one _)) u (by simpa using hu)
  · exact (Array.all_eq_true_iff_forall_mem.1 (hc_one _)) u (by simpa using hu)
  · rfl
theorem src_one {P : Program} {tx e' : TypeId} {w : World} {R : List Value} (hk : P.underlying tx = some (.slice e')) (hR : R.length = 97) (h1 : ∀ u ∈ R, u.oneCell' = true) : Src P 97 tx (.slice (some ⟨w.heap.size, 0, none⟩) 1 1) 1 R (w.alloc (.cells R.toArray 101)) := by
  refine Src.ofSlice _ hk _ _ _ _ (by rw [hR]) (fun j u hu => ?_) h1
  rw [addr_add, Joins.cell_of_block (heap_alloc_new w (.cells R.toArray 101)), Nat.zero_add]
  simpa using hu

set_option maxHeartbeats 16000000 in
theorem Own6_any {w : World} {q : Option Addr} {c : Nat} {L : List Sp} (hs : RdSp w q L) (ok : SpOk L) (hn : L.length * 120 ≤ 140737488355328) :
    Calls Tryd.prog 32 #[.slice q L.length c] w fun e w' => ∃ q' c' Q, e = .returned (.slice q' L.length c') ∧ OwP w w' (.slice q' L.length c') L L.length Q := by
  obtain ⟨i0, hi, hz0, hz1, hz2⟩ := info_parts Tryd.infoSt
  replace hi := Lib.hid hi
  replace hz0 := Lib.hid hz0
  replace hz1 := Lib.hid hz1
  replace hz2 := Lib.hid hz2
  have HR := Lib.hid hs
  have OK := Lib.hid ok
  have S0 := Lib.hid (OwP.start w L (fun _ => (none, 0)))
  have NN := Lib.hid hn
  have hn2 : L.length ≤ 140737488355328 := by omega
  clear hs ok hn
  go_enter Tryd.func32, Tryd.ntmps32
  go_wp2_with fail
  go_loopw [3, 4] (fun ov iv wr => ∃ (i : Nat) (qo : Option Addr) (co : Nat) (Q : Nat → Option Addr × Nat), iv = .int .i64 (i : Int) ∧ i ≤ L.length ∧ ov = .slice qo i co ∧ Hid (OwP w wr (.slice qo i co) L i Q)) (fun _ iv _ => L.length - (intOf iv).toNat)
  case atStart => exact ⟨0, none, 0, fun _ => (none, 0), rfl, by omega, rfl, S0⟩
  case round =>
    clear S0
    obtain ⟨i, qo, co, Q, rfl, hi', rfl, hS⟩ := hrel
    by_cases hlt : i < L.length
    · have hne : L ≠ [] := fun e => by rw [e] at hlt; simp at hlt
      obtain ⟨b, off, rfl, hx⟩ := HR.out.resolve_left hne
      obtain ⟨qi, ki, r97, rh⟩ := hx i hlt
      have oks := OK.out.get hlt
      have EQ := Lib.hid (show ∀ q' k', spF L (fun j => if j = i then (q', k') else Q j) i = spRow (L.getD i sp0) (.slice q' (L.getD i sp0).sides.length k') from fun q' k' => by unfold spF; simp)
      obtain ⟨s, hsx⟩ : ∃ s, L.getD i sp0 = s := ⟨_, rfl⟩
      have HSX := Lib.hid hsx
      rw [hsx] at r97 rh oks EQ
      have RK : Hid (∀ W, Below w.heap.size w W → rowOf W b (off + i * 97) 32 = hc s.key ∧ rowOf W b (off + i * 97 + 32) 32 = hc s.old ∧ rowOf W b (off + i * 97 + 64) 33 = pfRow s.mask (.slice qi s.sides.length ki) ∧ RdHs W qi s.sides) := fun W hb => by
        have h97 : rowOf W b (off + i * 97) 97 = spRow s (.slice qi s.sides.length ki) := by rw [rowOf_on (by rw [r97, spRow_len oks]; omega) hb]; exact r97
        exact ⟨sp_key oks h97, sp_old oks h97, sp_pf oks h97, rh.on (fun j hj => (oks.hs.get j hj).1) hb⟩
      have OKS := Lib.hid oks
      have lk := oks.key
      have lo := oks.old
      have lm := oks.mask
      have hlk := hc_len s.key
      have hlo := hc_len s.old
      have hlp := pfRow_len oks.mask (.slice qi s.sides.length ki)
      clear hx hne r97 rh oks hsx
      go_wp2_with fail
      refine wp_region_held_drew (S := fun W => Below w.heap.size w W) (by kernel_rfl) (hS.out.below.drew) (fun h0 => ?_)
      replace hS := Lib.hid (hS.out.on ((Below.refl _ _).drew))
      generalize wr.drew = wr at *
      refine wpAnyH_take (i := 0) (v := ?_) (by rw [List.getElem?_toArray]; rfl) (by kernel_rfl) (by kernel_rfl) (by kernel_rfl) (by exact fun _ _ _ h => h) (Or.inl ⟨by rfl, ?_⟩) h0 ?_
      rotate_left
      · intro W hW
        go_simp
        all_goals with_reducible rfl
      try simp only [Act.put, List.setIfInBounds_toArray, List.set_cons_zero, List.set_cons_succ]
      refine wpAnyH_take (i := 1) (v := ?_) (by rw [List.getElem?_toArray]; rfl) (by kernel_rfl) (by kernel_rfl) (by kernel_rfl) (by exact fun _ _ _ h => h) (Or.inl ⟨by rfl, ?_⟩) h0 ?_
      rotate_left
      · intro W hW
        go_simp
        all_goals with_reducible rfl
      try simp only [Act.put, List.setIfInBounds_toArray, List.set_cons_zero, List.set_cons_succ]
      refine wpAnyH_take (i := 2) (v := ?_) (by rw [List.getElem?_toArray]; rfl) (by kernel_rfl) (by kernel_rfl) (by kernel_rfl) (by exact fun _ _ _ h => h) (Or.inl ⟨by rfl, ?_⟩) h0 ?_
      rotate_left
      · intro W hW
        go_simp
        all_goals with_reducible rfl
      try simp only [Act.put, List.setIfInBounds_toArray, List.set_cons_zero, List.set_cons_succ]
      refine wpAnyH_take (i := 3) (v := ?_) (by rw [List.getElem?_toArray]; rfl) (by kernel_rfl) (by kernel_rfl) (by kernel_rfl) (by exact fun _ _ _ h => h) (Or.inl ⟨by rfl, ?_⟩) h0 ?_
      rotate_left
      · intro W hW
        go_simp
        all_goals with_reducible rfl
      try simp only [Act.put, List.setIfInBounds_toArray, List.set_cons_zero, List.set_cons_succ]
      refine wpAnyH_take (i := 4) (v := ?_) (by rw [List.getElem?_toArray]; rfl) (by kernel_rfl) (by kernel_rfl) (by kernel_rfl) (by exact fun _ _ _ h => h) (Or.inl ⟨by rfl, ?_⟩) h0 ?_
      rotate_left
      · intro W hW
        go_simp
        all_goals with_reducible rfl
      try simp only [Act.put, List.setIfInBounds_toArray, List.set_cons_zero, List.set_cons_succ]
      refine wpAnyH_take (i := 5) (v := ?_) (by rw [List.getElem?_toArray]; rfl) (by kernel_rfl) (by kernel_rfl) (by kernel_rfl) (by exact fun _ _ _ h => h) (Or.inl ⟨by rfl, ?_⟩) h0 ?_
      rotate_left
      · intro W hW
        have cc := (RK.out W hW).1
        go_simp
        all_goals with_reducible rfl
      try simp only [Act.put, List.setIfInBounds_toArray, List.set_cons_zero, List.set_cons_succ]
      refine wpAnyH_take (i := 6) (v := ?_) (by rw [List.getElem?_toArray]; rfl) (by kernel_rfl) (by kernel_rfl) (by kernel_rfl) (by exact fun _ _ _ h => h) (Or.inl ⟨by rfl, ?_⟩) h0 ?_
      rotate_left
      · intro W hW
        go_simp
        all_goals with_reducible rfl
      try simp only [Act.put, List.setIfInBounds_toArray, List.set_cons_zero, List.set_cons_succ]
      refine wpAnyH_take (i := 7) (v := ?_) (by rw [List.getElem?_toArray]; rfl) (by kernel_rfl) (by kernel_rfl) (by kernel_rfl) (by exact fun _ _ _ h => h) (Or.inl ⟨by rfl, ?_⟩) h0 ?_
      rotate_left
      · intro W hW
        go_simp
        all_goals with_reducible rfl
      try simp only [Act.put, List.setIfInBounds_toArray, List.set_cons_zero, List.set_cons_succ]
      refine wpAnyH_take (i := 8) (v := ?_) (by rw [List.getElem?_toArray]; rfl) (by kernel_rfl) (by kernel_rfl) (by kernel_rfl) (by exact fun _ _ _ h => h) (Or.inl ⟨by rfl, ?_⟩) h0 ?_
      rotate_left
      · intro W hW
        go_simp
        all_goals with_reducible rfl
      try simp only [Act.put, List.setIfInBounds_toArray, List.set_cons_zero, List.set_cons_succ]
      refine wpAnyH_take (i := 9) (v := ?_) (by rw [List.getElem?_toArray]; rfl) (by kernel_rfl) (by kernel_rfl) (by kernel_rfl) (by exact fun _ _ _ h => h) (Or.inl ⟨by rfl, ?_⟩) h0 ?_
      rotate_left
      · intro W hW
        go_simp
        all_goals with_reducible rfl
      try simp only [Act.put, List.setIfInBounds_toArray, List.set_cons_zero, List.set_cons_succ]
      refine wpAnyH_take (i := 10) (v := ?_) (by rw [List.getElem?_toArray]; rfl) (by kernel_rfl) (by kernel_rfl) (by kernel_rfl) (by exact fun _ _ _ h => h) (Or.inl ⟨by rfl, ?_⟩) h0 ?_
      rotate_left
      · intro W hW
        have cc := (RK.out W hW).2.1
        go_simp
        all_goals with_reducible rfl
      try simp only [Act.put, List.setIfInBounds_toArray, List.set_cons_zero, List.set_cons_succ]
      refine wpAnyH_take (i := 11) (v := ?_) (by rw [List.getElem?_toArray]; rfl) (by kernel_rfl) (by kernel_rfl) (by kernel_rfl) (by exact fun _ _ _ h => h) (Or.inl ⟨by rfl, ?_⟩) h0 ?_
      rotate_left
      · intro W hW
        go_simp
        all_goals with_reducible rfl
      try simp only [Act.put, List.setIfInBounds_toArray, List.set_cons_zero, List.set_cons_succ]
      refine wpAnyH_take (i := 12) (v := ?_) (by rw [List.getElem?_toArray]; rfl) (by kernel_rfl) (by kernel_rfl) (by kernel_rfl) (by exact fun _ _ _ h => h) (Or.inl ⟨by rfl, ?_⟩) h0 ?_
      rotate_left
      · intro W hW
        go_simp
        all_goals with_reducible rfl
      try simp only [Act.put, List.setIfInBounds_toArray, List.set_cons_zero, List.set_cons_succ]
      refine wpAnyH_take (i := 13) (v := ?_) (by rw [List.getElem?_toArray]; rfl) (by kernel_rfl) (by kernel_rfl) (by kernel_rfl) (by exact fun _ _ _ h => h) (Or.inl ⟨by rfl, ?_⟩) h0 ?_
      rotate_left
      · intro W hW
        go_simp
        all_goals with_reducible rfl
      try simp only [Act.put, List.setIfInBounds_toArray, List.set_cons_zero, List.set_cons_succ]
      refine wpAnyH_take (i := 14) (v := ?_) (by rw [List.getElem?_toArray]; rfl) (by kernel_rfl) (by kernel_rfl) (by kernel_rfl) (by exact fun _ _ _ h => h) (Or.inl ⟨by rfl, ?_⟩) h0 ?_
      rotate_left
      · intro W hW
        go_simp
        all_goals with_reducible rfl
      try simp only [Act.put, List.setIfInBounds_toArray, List.set_cons_zero, List.set_cons_succ]
      refine wpAnyH_take (i := 15) (v := ?_) (by rw [List.getElem?_toArray]; rfl) (by kernel_rfl) (by kernel_rfl) (by kernel_rfl) (by exact fun _ _ _ h => h) (Or.inl ⟨by rfl, ?_⟩) h0 ?_
      rotate_left
      · intro W hW
        have cc := (RK.out W hW).2.2.1
        go_simp
        all_goals with_reducible rfl
      try simp only [Act.put, List.setIfInBounds_toArray, List.set_cons_zero, List.set_cons_succ]
      refine wpAnyH_ready (rs := [16]) (by kernel_rfl) (by simp) ?_
      refine AllReadyH.cons (by rw [List.getElem?_toArray]; rfl) (fun K hK => ?_) AllReadyH.nil
      rw [if_pos (by rfl)]
      go_wp2_with fail
      refine (Proof_any (k := ki) lm (RK.out _ h0).2.2.2 OKS.out.hs OKS.out.n32).mono ?_
      rintro e w2 ⟨q', k', rfl, hN⟩
      have O2 := Lib.hid (hS.out.on hN.below)
      have N2 := Lib.hid (hN.base hS.out.below)
      have B2 := hS.out.below.trans (hN.below.mono hS.out.below.size)
      go_wp2_with fail
      refine hK.out _ _ (B2) (fun h2 => ?_)
      clear hK K
      try simp only [Act.put, List.setIfInBounds_toArray, List.set_cons_zero, List.set_cons_succ]
      have hst := fun W => Tryd.run_st W s OKS.out (.slice q' s.sides.length k') rfl
      have hRl := spRow_len OKS.out (.slice q' s.sides.length k')
      have hRo := Lib.hid (sp_one s q' s.sides.length k')
      have EQ2 := Lib.hid (EQ.out q' k')
      obtain ⟨R, hR⟩ : ∃ R, spRow s (.slice q' s.sides.length k') = R := ⟨_, rfl⟩
      rw [hR] at hst hRl hRo EQ2
      clear hR
      refine wpAnyH_take (i := 17) (v := ?_) (by rw [List.getElem?_toArray]; rfl) (by kernel_rfl) (by kernel_rfl) (by kernel_rfl) (by exact fun _ _ _ h => h) (Or.inl ⟨by rfl, ?_⟩) h2 ?_
      rotate_left
      · intro W hW
        go_simp
        all_goals with_reducible rfl
      try simp only [Act.put, List.setIfInBounds_toArray, List.set_cons_zero, List.set_cons_succ]
      refine wpAnyH_ready (rs := [18]) (by kernel_rfl) (by simp) ?_
      refine AllReadyH.cons (by rw [List.getElem?_toArray]; rfl) (fun K hK => ?_) AllReadyH.nil
      rw [if_pos (by rfl)]
      have hsl := Tryd.run_slice_st w2 R hRl
      have b3 : Below w2.heap.size w2 (w2.alloc (.cells R.toArray 101)) := (Below.refl _ _).alloc (Nat.le_refl _) _
      have O3 := Lib.hid (O2.out.on b3)
      have N3 := Lib.hid (N2.out.on b3)
      have X3 := Lib.hid (src_one (P := Tryd.prog) (w := w2) Tryd.underlying58 hRl hRo.out)
      go_wp2_with fail
      refine hK.out _ _ (h2.alloc h2.size _) (fun h3 => ?_)
      clear hK K
      try simp only [Act.put, List.setIfInBounds_toArray, List.set_cons_zero, List.set_cons_succ]
      clear hsl
      have hw2 := O2.out.below.size
      generalize w2.alloc (.cells R.toArray 101) = w3 at *
      refine wpAnyH_ready (rs := [19]) (by kernel_rfl) (by simp) ?_
      refine AllReadyH.cons (by rw [List.getElem?_toArray]; rfl) (fun K hK => ?_) AllReadyH.nil
      rw [if_pos (by rfl)]
      refine wp_append_row _ _ rfl Tryd.underlying58 hi.out hz0.out hz1.out hz2.out st0_cells O3.out.own X3.out ?b1 ?b2 ?_
      case b1 => unfold maxLen; omega
      case b2 => have := NN.out; omega
      intro q6 k6 w6 own6 grow6 fr6
      have B6 := O3.out.below.grown grow6 O3.out.below.size (fun g hg => O3.out.fresh g hg)
      have O6 : Hid (OwP w w6 (.slice q6 (i + 1) k6) L (i + 1) (fun j => if j = i then (q', k') else Q j)) := by
        refine ⟨?_, fun j hj => ?_, fun g hg => ?_, B6⟩
        · have e1 : rowsN (spF L (fun j => if j = i then (q', k') else Q j)) (i + 1) = rowsN (spF L Q) i ++ R := by
            rw [rowsN, EQ2.out, rowsN_cong i (g := spF L Q) (fun j hj => by unfold spF; simp [show j ≠ i by omega])]
          rw [e1]; exact own6
        · by_cases e : j = i
          · subst e
            simp only [if_true]
            rw [HSX.out]
            exact N3.out.keep O3.out.own grow6 B6
          · simp only [if_neg e]
            exact (O3.out.each j (by omega)).keep O3.out.own grow6 B6
        · rcases fr6 with e | e
          · rw [e] at hg; exact O3.out.fresh g hg
          · rw [e] at hg; have := O3.out.below.size; simp at hg; omega
      clear own6 grow6 fr6
      refine hK.out _ _ (B6) (fun h6 => ?_)
      clear hK K
      try simp only [Act.put, List.setIfInBounds_toArray, List.set_cons_zero, List.set_cons_succ]
      refine wpAnyH_take (i := 20) (v := ?_) (by rw [List.getElem?_toArray]; rfl) (by kernel_rfl) (by kernel_rfl) (by kernel_rfl) (by exact fun _ _ _ h => h) (Or.inl ⟨by rfl, ?_⟩) h6 ?_
      rotate_left
      · intro W hW
        go_simp
        all_goals with_reducible rfl
      try simp only [Act.put, List.setIfInBounds_toArray, List.set_cons_zero, List.set_cons_succ]
      refine wpAnyH_done (by kernel_rfl) ?_ _
      go_wp2_with fail
      go_roundw
      case rel => exact ⟨i + 1, _, _, _, by go_num, by omega, rfl, O6⟩
      case measure => simp [intOf]; omega
    · obtain rfl : i = L.length := by omega
      have OE := hS
      clear hS
      go_wp2_with fail
      go_ret
      exact ⟨_, _, _, rfl, OE.out⟩
end Go.Proofs.YtjgfjmkfcippcaaDoor
namespace Go.Proofs.YtjgfjmkfcippcaaDoor
set_option maxRecDepth 100000
open Go.RowKit

def stE (R : List Int) (s : Sp) : Int := updE R s.key s.old s.mask s.sides
def stH (R : List Int) (s : Sp) (N : List Int) : List Int := updH R s.key s.old N s.mask s.sides
def wkO (L : List Sp) (Ns : List (List Int)) : Nat → Nat → List Int → List Int × Int
  | 0, _, R => (R, 0)
  | n + 1, i, R => if stE R (L.getD i sp0) = 0 then wkO L Ns n (i + 1) (stH R (L.getD i sp0) (Ns.getD i [])) else (zero32, stE R (L.getD i sp0))
def walkR (G : List Int) (L : List Sp) (Ns : List (List Int)) : List Int × Int := if L.length = Ns.length then wkO L Ns L.length 0 G else (zero32, 1)
theorem wkO_len (L : List Sp) (Ns : List (List Int)) : ∀ n i (R : List Int), R.length = 32 → (wkO L Ns n i R).1.length = 32
  | 0, _, _, h => h
  | n + 1, i, R, _ => by
    unfold wkO
    split
    · exact wkO_len L Ns n (i + 1) _ (updH_len _ _ _ _ _ _)
    · exact zero32_len
theorem walkR_len {G : List Int} (L : List Sp) (Ns : List (List Int)) (h : G.length = 32) : (walkR G L Ns).1.length = 32 := by
  unfold walkR
  split
  · exact wkO_len _ _ _ _ _ h
  · exact zero32_len
/-- What stands in memory within Walk. -/
structure WkS (w wr : World) (R : List Int) : Prop where
  below : Below w.heap.size w wr
  hR : HashAt wr w.heap.size R
  hA : HashAt wr (w.heap.size + 1) zero32
theorem WkS.on {w W W' : World} {R : List Int} (h : WkS w W R) (hb : Below W.heap.size W W') : WkS w W' R := ⟨h.below.trans (hb.mono h.below.size), h.hR.on hb, h.hA.on hb⟩
theorem WkS.put {w W : World} {R X : List Int} (h : WkS w W R) (lR : R.length = 32) (lX : X.length = 32) : WkS w (W.setCells w.heap.size 0 (hc X)) X :=
  ⟨below_setCells' _ (Nat.le_refl _) _ _ h.below, h.hR.put lR lX, h.hA.others (by omega) _ _⟩
theorem WkS.others {w W : World} {R : List Int} (h : WkS w W R) {b : Nat} (hb : w.heap.size + 1 < b) (o : Nat) (vs : List Value) : WkS w (W.setCells b o vs) R :=
  ⟨below_setCells' _ (by omega) _ _ h.below, h.hR.others (by omega) _ _, h.hA.others (by omega) _ _⟩
/-- A block that holds a step. -/
def StB (w : World) (b : Nat) (R : List Value) : Prop := w.heap[b]? = some (.cells R.toArray 101 (0, 0))
theorem StB.lt {w : World} {b : Nat} {R : List Value} (h : StB w b R) : b < w.heap.size := (Array.getElem?_eq_some_iff.1 h).1
theorem StB.on {w w' : World} {b : Nat} {R : List Value} (h : StB w b R) (hb : Below w.heap.size w w') : StB w' b R := by
  unfold StB
  rw [hb.block b h.lt]; exact h
theorem StB.others {w : World} {b k : Nat} {R : List Value} (h : StB w b R) (hk : b ≠ k) (o : Nat) (vs : List Value) : StB (w.setCells k o vs) b R := by
  unfold StB
  rw [setCells_other hk]; exact h
theorem StB.row {w : World} {b : Nat} {R : List Value} (h : StB w b R) (hR : R.length = 97) : rowOf w b 0 97 = R := by
  rw [rowOf_block h]
  simp [List.take_of_length_le (Nat.le_of_eq hR)]
theorem StB.put (w : World) (Z : List Value) {R : List Value} (hZ : Z.length = 97) (hR : R.length = 97) : StB ((w.alloc (.cells Z.toArray 101)).setCells w.heap.size 0 R) w.heap.size R := by
  have h := heap_alloc_new w (.cells Z.toArray 101)
  have := setCells_block (b := w.heap.size) (t := 101) (fr := (0, 0)) R (o := 0) (w := w.alloc (.cells Z.toArray 101)) (pre := []) (mid := Z) (post := []) (by simpa using h) rfl (by rw [hZ, hR])
  simpa [StB] using this
theorem run_storeCells_st {P : Program} (w : World) (Z R : List Value) (hZ : Z.length = 97) (hR : R.length = 97) (h1 : ∀ u ∈ R, u.oneCell' = true) : (storeCells ⟨w.heap.size, 0, none⟩ R 0).run P (w.alloc (.cells Z.toArray 101)) = .ok () ((w.alloc (.cells Z.toArray 101)).setCells w.heap.size 0 R) := by
  have hb := heap_alloc_new w (.cells Z.toArray 101)
  have hth : (w.alloc (.cells Z.toArray 101)).there w.heap.size 0 97 := fun j hj => by
    refine ⟨?_, Joins.unfrozen_of_block hb _⟩
    rw [cell_of_row _ _ _ _ _ _ hb]
    simp [hZ]; omega
  have := run_storeCells_cells (P := P) w.heap.size 0 R 0 (w.alloc (.cells Z.toArray 101)) (fun j hj => by rw [hR] at hj; simpa using (hth j hj).1) (fun j hj => by simp) h1
  simpa using this
@[go_sem ↓] theorem load97 (a : Addr) : loadCellsFrom a 0 97 #[] = rowLoad a 97 := rfl
@[go_sem ↓] theorem Tryd.zero_st' (w : World) : (zeroValue 101).run Tryd.prog w = .ok (.agg st0.toArray) w := Tryd.zero_st w
theorem st0_len : st0.length = 97 := rfl

set_option maxHeartbeats 16000000 in
theorem pWalk_any {w : World} {G : List Int} {q qn : Option Addr} {c cn : Nat} {L : List Sp} {Ns : List (List Int)} (hT : Tbl w) (hG : G.length = 32) (hs : RdSp w q L) (ok : SpOk L) (hl : L.length ≤ 12) (hsn : RdHs w qn Ns) (okn : HsOk Ns) (hnn : Ns.length ≤ 140737488355328) :
    Calls Tryd.prog 33 #[.agg (hc G).toArray, .slice q L.length c, .slice qn Ns.length cn] w fun e w' => e = .returned (.tuple #[.agg (hc (walkR G L Ns).1).toArray, .int .i64 (walkR G L Ns).2]) ∧ Below w.heap.size w w' := by
  have H1 := HashAt.new (w.alloc (.cells (hc G).toArray 23)) zero32
  simp only [World.size_alloc] at H1
  have S0 : Hid (WkS w ((w.alloc (.cells (hc G).toArray 23)).alloc (.cells (hc zero32).toArray 23)) G) := ⟨((Below.refl w.heap.size w).alloc (Nat.le_refl _) _).alloc (by simp) _, (HashAt.new w G).alloc _, H1⟩
  have HS : Hid (∀ W, Below w.heap.size w W → RdSp W q L) := fun W hb => hs.on ok hb
  have HN : Hid (∀ W, Below w.heap.size w W → RdHs W qn Ns) := fun W hb => hsn.on (fun i hi => (okn.get i hi).1) hb
  have OK := Lib.hid ok
  have OKN := Lib.hid okn
  have HT := Lib.hid hT
  have hlG := hc_len G
  have z32 := zero32_len
  have thA := S0.out.hA.there zero32_len
  clear H1 hs ok hsn okn hT
  by_cases heq : L.length = Ns.length
  · have HE := Lib.hid (show walkR G L Ns = wkO L Ns L.length 0 G by unfold walkR; rw [if_pos heq])
    have HQ := Lib.hid heq
    obtain ⟨n, hn⟩ : ∃ n, L.length = n := ⟨_, rfl⟩
    have HLn := Lib.hid hn
    have HNn := Lib.hid (show Ns.length = n by rw [← heq, hn])
    rw [show Ns.length = n by rw [← heq, hn]] at hnn
    rw [hn] at hl HE
    have hL2 : (Value.slice q L.length c) = .slice q n c := by rw [hn]
    have hN2 : (Value.slice qn Ns.length cn) = .slice qn n cn := by rw [← heq, hn]
    rw [hL2, hN2]
    clear hL2 hN2 hn heq thA
    go_enter Tryd.func33, Tryd.ntmps33
    go_wp2_with fail
    generalize (w.alloc (.cells (hc G).toArray 23)).alloc (.cells (hc zero32).toArray 23) = w1 at *
    go_loopw [20] (fun iv wr => ∃ (i : Nat) (R : List Int), iv = .int .i64 (i : Int) ∧ i ≤ n ∧ R.length = 32 ∧ Hid (wkO L Ns (n - i) i R = wkO L Ns n 0 G) ∧ Hid (WkS w wr R)) (fun iv _ => n - (intOf iv).toNat)
    case atStart => exact ⟨0, G, rfl, by omega, hG, rfl, S0⟩
    case round =>
      clear S0
      obtain ⟨i, R, rfl, hi, lR, hO, hS⟩ := hrel
      have hlR := hc_len R
      by_cases hlt : i < n
      · have hiL : i < L.length := by rw [HLn.out]; exact hlt
        have hiN : i < Ns.length := by rw [HNn.out]; exact hlt
        have HO := Lib.hid (show wkO L Ns (n - i) i R = if stE R (L.getD i sp0) = 0 then wkO L Ns (n - (i + 1)) (i + 1) (stH R (L.getD i sp0) (Ns.getD i [])) else (zero32, stE R (L.getD i sp0)) by rw [show n - i = (n - (i + 1)) + 1 by omega, wkO])
        have oks := OK.out.get hiL
        obtain ⟨lN, bN0⟩ := OKN.out.get i hiN
        have bN := Lib.hid bN0
        obtain ⟨b, off, rfl, hx⟩ := (HS.out _ hS.out.below).resolve_left (fun e => by rw [e] at hiL; simp at hiL)
        obtain ⟨qi, ki, r97, rh⟩ := hx i hiL
        obtain ⟨bn, offn, rfl, hxn⟩ := (HN.out _ hS.out.below).resolve_left (fun e => by rw [e] at hiN; simp at hiN)
        have rn := hxn i hiN
        obtain ⟨s, hsx⟩ : ∃ s, L.getD i sp0 = s := ⟨_, rfl⟩
        obtain ⟨N, hNx⟩ : ∃ N, Ns.getD i [] = N := ⟨_, rfl⟩
        rw [hsx] at r97 rh oks HO
        rw [hNx] at rn lN bN HO
        have OKS := Lib.hid oks
        have lk := oks.key
        have lo := oks.old
        have lm := oks.mask
        have hlk := hc_len s.key
        have hlo := hc_len s.old
        have hlN := hc_len N
        have hlp := pfRow_len oks.mask (.slice qi s.sides.length ki)
        have hns := oks.n32
        have RN : Hid (∀ W, Below wr.heap.size wr W → rowOf W bn (offn + i * 32) 32 = hc N) := fun W hb => by rw [rowOf_on (by rw [rn, hc_len, lN]; omega) hb]; exact rn
        have RH : Hid (∀ W, Below wr.heap.size wr W → RdHs W qi s.sides) := fun W hb => rh.on (fun j hj => (oks.hs.get j hj).1) hb
        have R9 : Hid (∀ W, Below wr.heap.size wr W → rowOf W b (off + i * 97) 97 = spRow s (.slice qi s.sides.length ki)) := fun W hb => by rw [rowOf_on (by rw [r97, spRow_len oks]; omega) hb]; exact r97
        have hRl := spRow_len oks (.slice qi s.sides.length ki)
        have hRo := Lib.hid (sp_one s qi s.sides.length ki)
        obtain ⟨Z, hZ⟩ : ∃ Z, spRow s (.slice qi s.sides.length ki) = Z := ⟨_, rfl⟩
        have HZZ := Lib.hid hZ
        rw [hZ] at r97 hRl hRo
        have hst := run_storeCells_st (P := Tryd.prog) wr st0 Z st0_len hRl hRo.out
        have B2 : Below wr.heap.size wr ((wr.alloc (.cells st0.toArray 101)).setCells wr.heap.size 0 Z) := below_setCells' _ (Nat.le_refl _) _ _ ((Below.refl _ _).alloc (Nat.le_refl _) _)
        have T := Lib.hid (hS.out.on B2)
        have Q9 := Lib.hid (StB.put wr st0 st0_len hRl)
        have hbR := hS.out.hA.lt
        have B2h := Lib.hid B2
        clear hx hxn rn rh oks bN0 hsx hNx hZ hS B2
        go_wp2_with fail
        clear hst r97
        obtain ⟨b9, hq⟩ : ∃ b9, b9 = wr.heap.size := ⟨_, rfl⟩
        rw [← hq] at T Q9 B2h hbR RN RH R9 ⊢
        generalize (wr.alloc (.cells st0.toArray 101)).setCells b9 0 Z = w4 at *
        replace RN : Hid (∀ W, Below w4.heap.size w4 W → rowOf W bn (offn + i * 32) 32 = hc N) := fun W hb => RN.out W (B2h.out.trans (hb.mono (Nat.le_of_lt Q9.out.lt)))
        replace RH : Hid (∀ W, Below w4.heap.size w4 W → RdHs W qi s.sides) := fun W hb => RH.out W (B2h.out.trans (hb.mono (Nat.le_of_lt Q9.out.lt)))
        clear hq B2h R9
        refine wp_region_held_drew (S := fun W => Below w4.drew.heap.size w4.drew W) (by kernel_rfl) (Below.refl _ _) (fun h0 => ?_)
        replace T := Lib.hid (T.out.on ((Below.refl _ _).drew))
        replace RN : Hid (∀ W, Below w4.drew.heap.size w4.drew W → rowOf W bn (offn + i * 32) 32 = hc N) := fun W hb => RN.out W (((Below.refl _ _).drew).trans hb)
        replace RH : Hid (∀ W, Below w4.drew.heap.size w4.drew W → RdHs W qi s.sides) := fun W hb => RH.out W (((Below.refl _ _).drew).trans hb)
        replace Q9 := Lib.hid (Q9.out.on ((Below.refl _ _).drew))
        generalize w4.drew = w4 at *
        refine wpAnyH_take (i := 0) (v := ?_) (by rw [List.getElem?_toArray]; rfl) (by kernel_rfl) (by kernel_rfl) (by kernel_rfl) (by exact fun _ _ _ h => h) (Or.inl ⟨by rfl, ?_⟩) h0 ?_
        rotate_left
        · intro W hW
          have cc := (T.out.on hW).hR.row lR
          go_simp
          all_goals with_reducible rfl
        try simp only [Act.put, List.setIfInBounds_toArray, List.set_cons_zero, List.set_cons_succ]
        refine wpAnyH_take (i := 1) (v := ?_) (by rw [List.getElem?_toArray]; rfl) (by kernel_rfl) (by kernel_rfl) (by kernel_rfl) (by exact fun _ _ _ h => h) (Or.inl ⟨by rfl, ?_⟩) h0 ?_
        rotate_left
        · intro W hW
          go_simp
          all_goals with_reducible rfl
        try simp only [Act.put, List.setIfInBounds_toArray, List.set_cons_zero, List.set_cons_succ]
        refine wpAnyH_take (i := 2) (v := ?_) (by rw [List.getElem?_toArray]; rfl) (by kernel_rfl) (by kernel_rfl) (by kernel_rfl) (by exact fun _ _ _ h => h) (Or.inl ⟨by rfl, ?_⟩) h0 ?_
        rotate_left
        · intro W hW
          have h9 : rowOf W b9 0 97 = spRow s (.slice qi s.sides.length ki) := by rw [HZZ.out]; exact (Q9.out.on hW).row hRl
          have cc := sp_key OKS.out h9
          go_simp
          all_goals with_reducible rfl
        try simp only [Act.put, List.setIfInBounds_toArray, List.set_cons_zero, List.set_cons_succ]
        refine wpAnyH_take (i := 3) (v := ?_) (by rw [List.getElem?_toArray]; rfl) (by kernel_rfl) (by kernel_rfl) (by kernel_rfl) (by exact fun _ _ _ h => h) (Or.inl ⟨by rfl, ?_⟩) h0 ?_
        rotate_left
        · intro W hW
          go_simp
          all_goals with_reducible rfl
        try simp only [Act.put, List.setIfInBounds_toArray, List.set_cons_zero, List.set_cons_succ]
        refine wpAnyH_take (i := 4) (v := ?_) (by rw [List.getElem?_toArray]; rfl) (by kernel_rfl) (by kernel_rfl) (by kernel_rfl) (by exact fun _ _ _ h => h) (Or.inl ⟨by rfl, ?_⟩) h0 ?_
        rotate_left
        · intro W hW
          have h9 : rowOf W b9 0 97 = spRow s (.slice qi s.sides.length ki) := by rw [HZZ.out]; exact (Q9.out.on hW).row hRl
          have cc := sp_old OKS.out h9
          rw [Nat.zero_add] at cc
          go_simp
          all_goals with_reducible rfl
        try simp only [Act.put, List.setIfInBounds_toArray, List.set_cons_zero, List.set_cons_succ]
        refine wpAnyH_take (i := 5) (v := ?_) (by rw [List.getElem?_toArray]; rfl) (by kernel_rfl) (by kernel_rfl) (by kernel_rfl) (by exact fun _ _ _ h => h) (Or.inl ⟨by rfl, ?_⟩) h0 ?_
        rotate_left
        · intro W hW
          go_simp
          all_goals with_reducible rfl
        try simp only [Act.put, List.setIfInBounds_toArray, List.set_cons_zero, List.set_cons_succ]
        refine wpAnyH_take (i := 6) (v := ?_) (by rw [List.getElem?_toArray]; rfl) (by kernel_rfl) (by kernel_rfl) (by kernel_rfl) (by exact fun _ _ _ h => h) (Or.inl ⟨by rfl, ?_⟩) h0 ?_
        rotate_left
        · intro W hW
          go_simp
          all_goals with_reducible rfl
        try simp only [Act.put, List.setIfInBounds_toArray, List.set_cons_zero, List.set_cons_succ]
        refine wpAnyH_take (i := 7) (v := ?_) (by rw [List.getElem?_toArray]; rfl) (by kernel_rfl) (by kernel_rfl) (by kernel_rfl) (by exact fun _ _ _ h => h) (Or.inl ⟨by rfl, ?_⟩) h0 ?_
        rotate_left
        · intro W hW
          go_simp
          all_goals with_reducible rfl
        try simp only [Act.put, List.setIfInBounds_toArray, List.set_cons_zero, List.set_cons_succ]
        refine wpAnyH_take (i := 8) (v := ?_) (by rw [List.getElem?_toArray]; rfl) (by kernel_rfl) (by kernel_rfl) (by kernel_rfl) (by exact fun _ _ _ h => h) (Or.inl ⟨by rfl, ?_⟩) h0 ?_
        rotate_left
        · intro W hW
          have cc := RN.out W hW
          go_simp
          all_goals with_reducible rfl
        try simp only [Act.put, List.setIfInBounds_toArray, List.set_cons_zero, List.set_cons_succ]
        refine wpAnyH_take (i := 9) (v := ?_) (by rw [List.getElem?_toArray]; rfl) (by kernel_rfl) (by kernel_rfl) (by kernel_rfl) (by exact fun _ _ _ h => h) (Or.inl ⟨by rfl, ?_⟩) h0 ?_
        rotate_left
        · intro W hW
          go_simp
          all_goals with_reducible rfl
        try simp only [Act.put, List.setIfInBounds_toArray, List.set_cons_zero, List.set_cons_succ]
        refine wpAnyH_take (i := 10) (v := ?_) (by rw [List.getElem?_toArray]; rfl) (by kernel_rfl) (by kernel_rfl) (by kernel_rfl) (by exact fun _ _ _ h => h) (Or.inl ⟨by rfl, ?_⟩) h0 ?_
        rotate_left
        · intro W hW
          have h9 : rowOf W b9 0 97 = spRow s (.slice qi s.sides.length ki) := by rw [HZZ.out]; exact (Q9.out.on hW).row hRl
          have cc := sp_pf OKS.out h9
          rw [Nat.zero_add] at cc
          go_simp
          all_goals with_reducible rfl
        try simp only [Act.put, List.setIfInBounds_toArray, List.set_cons_zero, List.set_cons_succ]
        refine wpAnyH_ready (rs := [11, 15]) (by kernel_rfl) (by simp) ?_
        refine AllReadyH.cons (by rw [List.getElem?_toArray]; rfl) (fun K hK => ?_) (AllReadyH.cons (by rw [List.getElem?_toArray]; rfl) (fun K hK => ?_) AllReadyH.nil)
        · rw [if_pos (by rfl)]
          have TB := T.out.below
          go_wp2_with fail
          refine (pUpdate_any (k := ki) (HT.out.on TB HT.out.pos) lR lk lo lN lm OKS.out.bk OKS.out.bo bN.out OKS.out.bm (RH.out _ h0) OKS.out.hs (by omega)).mono ?_
          rintro e w6 ⟨rfl, hb6⟩
          have HI := Lib.hid (show stE R s = updE R s.key s.old s.mask s.sides from rfl)
          have HJ := Lib.hid (show stH R s N = updH R s.key s.old N s.mask s.sides from rfl)
          have lX := updH_len R s.key s.old N s.mask s.sides
          obtain ⟨X, hX⟩ : ∃ X, updH R s.key s.old N s.mask s.sides = X := ⟨_, rfl⟩
          obtain ⟨eX, hE⟩ : ∃ eX, updE R s.key s.old s.mask s.sides = eX := ⟨_, rfl⟩
          rw [hX] at lX HJ ⊢
          rw [hE] at HI ⊢
          clear hX hE
          have hlX := hc_len X
          have T6 := Lib.hid (T.out.on hb6)
          go_wp2_with fail
          refine hK.out _ _ (h0.trans hb6) (fun h6 => ?_)
          clear hK K
          try simp only [Act.put, List.setIfInBounds_toArray, List.set_cons_zero, List.set_cons_succ]
          refine wpAnyH_take (i := 12) (v := ?_) (by rw [List.getElem?_toArray]; rfl) (by kernel_rfl) (by kernel_rfl) (by kernel_rfl) (by exact fun _ _ _ h => h) (Or.inl ⟨by rfl, ?_⟩) h6 ?_
          rotate_left
          · intro W hW
            go_simp
            all_goals with_reducible rfl
          try simp only [Act.put, List.setIfInBounds_toArray, List.set_cons_zero, List.set_cons_succ]
          refine wpAnyH_take (i := 13) (v := ?_) (by rw [List.getElem?_toArray]; rfl) (by kernel_rfl) (by kernel_rfl) (by kernel_rfl) (by exact fun _ _ _ h => h) (Or.inl ⟨by rfl, ?_⟩) h6 ?_
          rotate_left
          · intro W hW
            go_simp
            all_goals with_reducible rfl
          try simp only [Act.put, List.setIfInBounds_toArray, List.set_cons_zero, List.set_cons_succ]
          refine wpAnyH_take (i := 14) (v := ?_) (by rw [List.getElem?_toArray]; rfl) (by kernel_rfl) (by kernel_rfl) (by kernel_rfl) (by exact fun _ _ _ h => h) (Or.inl ⟨by rfl, ?_⟩) h6 ?_
          rotate_left
          · intro W hW
            go_simp
            all_goals with_reducible rfl
          try simp only [Act.put, List.setIfInBounds_toArray, List.set_cons_zero, List.set_cons_succ]
          refine wpAnyH_ready (rs := [15]) (by kernel_rfl) (by simp) ?_
          refine AllReadyH.cons (by rw [List.getElem?_toArray]; rfl) (fun K hK => ?_) AllReadyH.nil
          rw [if_pos (by rfl)]
          have HX := Lib.hid (HashAt.new w6 zero32)
          have T1 := Lib.hid (T6.out.on ((Below.refl _ _).alloc (Nat.le_refl _) (.cells (hc zero32).toArray 23)))
          have hbx := T6.out.hA.lt
          have hbw := h6.size
          have B7 := h6.alloc h6.size (.cells (hc zero32).toArray 23)
          go_wp2_with fail
          refine hK.out _ _ (B7) (fun h7 => ?_)
          clear hK K
          try simp only [Act.put, List.setIfInBounds_toArray, List.set_cons_zero, List.set_cons_succ]
          obtain ⟨bx, hbq⟩ : ∃ bx, bx = w6.heap.size := ⟨_, rfl⟩
          rw [← hbq] at HX hbx hbw ⊢
          generalize w6.alloc (.cells (hc zero32).toArray 23) = w7 at *
          clear hbq
          refine wpAnyH_ready (rs := [16]) (by kernel_rfl) (by simp) ?_
          refine AllReadyH.cons (by rw [List.getElem?_toArray]; rfl) (fun K hK => ?_) AllReadyH.nil
          rw [if_pos (by rfl)]
          have thX := HX.out.there zero32_len
          have HX2 := Lib.hid (HX.out.put zero32_len lX)
          have T2 := Lib.hid (T1.out.others hbx 0 (hc X))
          have B8 : Below w4.heap.size w4 (w7.setCells bx 0 (hc X)) := below_setCells' _ hbw _ _ B7
          go_wp2_with fail
          refine hK.out _ _ (B8) (fun h8 => ?_)
          clear hK K
          try simp only [Act.put, List.setIfInBounds_toArray, List.set_cons_zero, List.set_cons_succ]
          refine wpAnyH_take (i := 17) (v := ?_) (by rw [List.getElem?_toArray]; rfl) (by kernel_rfl) (by kernel_rfl) (by kernel_rfl) (by exact fun _ _ _ h => h) (Or.inl ⟨by rfl, ?_⟩) h8 ?_
          rotate_left
          · intro W hW
            go_simp
            all_goals with_reducible rfl
          try simp only [Act.put, List.setIfInBounds_toArray, List.set_cons_zero, List.set_cons_succ]
          refine wpAnyH_done (by kernel_rfl) ?_ _
          clear thX B8 B7 T1 HX
          clear h8
          generalize w7.setCells bx 0 (hc X) = w8 at *
          by_cases he : eX = 0
          · have de : (eX != 0) = false := by rw [he]; rfl
            have rX := HX2.out.row lX
            have thR := T2.out.hR.there lR
            have T3 := Lib.hid (T2.out.put lR lX)
            have HO2 := Lib.hid (show wkO L Ns (n - (i + 1)) (i + 1) X = wkO L Ns n 0 G by rw [← hO.out, HO.out, HI.out, if_pos he, HJ.out])
            clear he T2 HX2
            go_wp2_with fail
            go_roundw
            case rel => exact ⟨i + 1, X, by go_num, by omega, lX, HO2, T3⟩
            case measure => simp [intOf]; omega
          · have de : (eX != 0) = true := by simpa using he
            have thA := T2.out.hA.there zero32_len
            have hput := (T2.out.hA.put zero32_len zero32_len).row zero32_len
            have BE := Lib.hid (below_setCells' (B := w.heap.size) (w.heap.size + 1) (by omega) (hc zero32) 0 T2.out.below)
            have HO2 := Lib.hid (show walkR G L Ns = (zero32, eX) by rw [HE.out, ← hO.out, HO.out, HI.out, if_neg he])
            clear he T2 HX2
            repeat (first | go_values | go_skip | go_guarded | go_step | go_upon | go_back)
            refine bodyPost_ret (v := .tuple #[.agg (hc zero32).toArray, .int .i64 eX]) (by simp [results, Tryd.results33, go_sem, hput, z32]) rfl ⟨by rw [HO2.out], BE.out⟩
        · rw [if_pos (by rfl)]
          have HX0 := Lib.hid (HashAt.new w4 zero32)
          have T5 := Lib.hid (T.out.on ((Below.refl _ _).alloc (Nat.le_refl _) (.cells (hc zero32).toArray 23)))
          have hbx := T.out.hA.lt
          have B5 := h0.alloc h0.size (.cells (hc zero32).toArray 23)
          go_wp2_with fail
          refine hK.out _ _ (B5) (fun h5 => ?_)
          clear hK K
          try simp only [Act.put, List.setIfInBounds_toArray, List.set_cons_zero, List.set_cons_succ]
          refine wpAnyH_ready (rs := [11]) (by kernel_rfl) (by simp) ?_
          refine AllReadyH.cons (by rw [List.getElem?_toArray]; rfl) (fun K hK => ?_) AllReadyH.nil
          rw [if_pos (by rfl)]
          have TB := T5.out.below
          go_wp2_with fail
          refine (pUpdate_any (k := ki) (HT.out.on TB HT.out.pos) lR lk lo lN lm OKS.out.bk OKS.out.bo bN.out OKS.out.bm (RH.out _ B5) OKS.out.hs (by omega)).mono ?_
          rintro e w6 ⟨rfl, hb6⟩
          have HI := Lib.hid (show stE R s = updE R s.key s.old s.mask s.sides from rfl)
          have HJ := Lib.hid (show stH R s N = updH R s.key s.old N s.mask s.sides from rfl)
          have lX := updH_len R s.key s.old N s.mask s.sides
          obtain ⟨X, hX⟩ : ∃ X, updH R s.key s.old N s.mask s.sides = X := ⟨_, rfl⟩
          obtain ⟨eX, hE⟩ : ∃ eX, updE R s.key s.old s.mask s.sides = eX := ⟨_, rfl⟩
          rw [hX] at lX HJ ⊢
          rw [hE] at HI ⊢
          clear hX hE
          have hlX := hc_len X
          have T1 := Lib.hid (T5.out.on hb6)
          have HX := Lib.hid (HX0.out.on hb6)
          have B7 := B5.trans (hb6.mono B5.size)
          have hbw : w4.heap.size ≤ w4.heap.size := Nat.le_refl _
          go_wp2_with fail
          refine hK.out _ _ (B7) (fun h7 => ?_)
          clear hK K
          try simp only [Act.put, List.setIfInBounds_toArray, List.set_cons_zero, List.set_cons_succ]
          obtain ⟨w7, hw7⟩ : ∃ w7 : World, w7 = w6 := ⟨_, rfl⟩
          rw [← hw7] at HX T1 B7 h7 ⊢
          clear hw7
          refine wpAnyH_take (i := 12) (v := ?_) (by rw [List.getElem?_toArray]; rfl) (by kernel_rfl) (by kernel_rfl) (by kernel_rfl) (by exact fun _ _ _ h => h) (Or.inl ⟨by rfl, ?_⟩) h7 ?_
          rotate_left
          · intro W hW
            go_simp
            all_goals with_reducible rfl
          try simp only [Act.put, List.setIfInBounds_toArray, List.set_cons_zero, List.set_cons_succ]
          refine wpAnyH_take (i := 13) (v := ?_) (by rw [List.getElem?_toArray]; rfl) (by kernel_rfl) (by kernel_rfl) (by kernel_rfl) (by exact fun _ _ _ h => h) (Or.inl ⟨by rfl, ?_⟩) h7 ?_
          rotate_left
          · intro W hW
            go_simp
            all_goals with_reducible rfl
          try simp only [Act.put, List.setIfInBounds_toArray, List.set_cons_zero, List.set_cons_succ]
          refine wpAnyH_take (i := 14) (v := ?_) (by rw [List.getElem?_toArray]; rfl) (by kernel_rfl) (by kernel_rfl) (by kernel_rfl) (by exact fun _ _ _ h => h) (Or.inl ⟨by rfl, ?_⟩) h7 ?_
          rotate_left
          · intro W hW
            go_simp
            all_goals with_reducible rfl
          try simp only [Act.put, List.setIfInBounds_toArray, List.set_cons_zero, List.set_cons_succ]
          refine wpAnyH_ready (rs := [16]) (by kernel_rfl) (by simp) ?_
          refine AllReadyH.cons (by rw [List.getElem?_toArray]; rfl) (fun K hK => ?_) AllReadyH.nil
          rw [if_pos (by rfl)]
          have thX := HX.out.there zero32_len
          have HX2 := Lib.hid (HX.out.put zero32_len lX)
          have T2 := Lib.hid (T1.out.others hbx 0 (hc X))
          have B8 : Below w4.heap.size w4 (w7.setCells w4.heap.size 0 (hc X)) := below_setCells' _ hbw _ _ B7
          go_wp2_with fail
          refine hK.out _ _ (B8) (fun h8 => ?_)
          clear hK K
          try simp only [Act.put, List.setIfInBounds_toArray, List.set_cons_zero, List.set_cons_succ]
          refine wpAnyH_take (i := 17) (v := ?_) (by rw [List.getElem?_toArray]; rfl) (by kernel_rfl) (by kernel_rfl) (by kernel_rfl) (by exact fun _ _ _ h => h) (Or.inl ⟨by rfl, ?_⟩) h8 ?_
          rotate_left
          · intro W hW
            go_simp
            all_goals with_reducible rfl
          try simp only [Act.put, List.setIfInBounds_toArray, List.set_cons_zero, List.set_cons_succ]
          refine wpAnyH_done (by kernel_rfl) ?_ _
          clear thX B8 B7 T1 HX
          clear h8
          generalize w7.setCells w4.heap.size 0 (hc X) = w8 at *
          by_cases he : eX = 0
          · have de : (eX != 0) = false := by rw [he]; rfl
            have rX := HX2.out.row lX
            have thR := T2.out.hR.there lR
            have T3 := Lib.hid (T2.out.put lR lX)
            have HO2 := Lib.hid (show wkO L Ns (n - (i + 1)) (i + 1) X = wkO L Ns n 0 G by rw [← hO.out, HO.out, HI.out, if_pos he, HJ.out])
            clear he T2 HX2
            go_wp2_with fail
            go_roundw
            case rel => exact ⟨i + 1, X, by go_num, by omega, lX, HO2, T3⟩
            case measure => simp [intOf]; omega
          · have de : (eX != 0) = true := by simpa using he
            have thA := T2.out.hA.there zero32_len
            have hput := (T2.out.hA.put zero32_len zero32_len).row zero32_len
            have BE := Lib.hid (below_setCells' (B := w.heap.size) (w.heap.size + 1) (by omega) (hc zero32) 0 T2.out.below)
            have HO2 := Lib.hid (show walkR G L Ns = (zero32, eX) by rw [HE.out, ← hO.out, HO.out, HI.out, if_neg he])
            clear he T2 HX2
            repeat (first | go_values | go_skip | go_guarded | go_step | go_upon | go_back)
            refine bodyPost_ret (v := .tuple #[.agg (hc zero32).toArray, .int .i64 eX]) (by simp [results, Tryd.results33, go_sem, hput, z32]) rfl ⟨by rw [HO2.out], BE.out⟩
      · obtain rfl : i = n := by omega
        have HO2 := Lib.hid (show walkR G L Ns = (R, 0) by rw [HE.out, ← hO.out, Nat.sub_self]; rfl)
        have rR := hS.out.hR.row lR
        have thA := hS.out.hA.there zero32_len
        have hput := (hS.out.hA.put zero32_len lR).row lR
        have BE := Lib.hid (below_setCells' (B := w.heap.size) (w.heap.size + 1) (by omega) (hc R) 0 hS.out.below)
        clear hS hO
        repeat (first | go_values | go_skip | go_guarded | go_step | go_upon | go_back)
        refine bodyPost_ret (v := .tuple #[.agg (hc R).toArray, .int .i64 0]) (by simp [results, Tryd.results33, go_sem, hput, lR]) rfl ⟨by rw [HO2.out], BE.out⟩
  · have HE := Lib.hid (show walkR G L Ns = (zero32, 1) by unfold walkR; rw [if_neg heq])
    have dl : ((L.length : Int) != (Ns.length : Int)) = true := by simp; omega
    have hput := (S0.out.hA.put zero32_len zero32_len).row zero32_len
    have BE := Lib.hid (below_setCells' (B := w.heap.size) (w.heap.size + 1) (by omega) (hc zero32) 0 S0.out.below)
    clear heq S0
    go_enter Tryd.func33, Tryd.ntmps33
    repeat (first | go_values | go_skip | go_guarded | go_step | go_upon | go_back)
    refine bodyPost_ret (v := .tuple #[.agg (hc zero32).toArray, .int .i64 1]) (by simp [results, Tryd.results33, go_sem, hput, z32]) rfl ⟨by rw [HE.out], BE.out⟩
end Go.Proofs.YtjgfjmkfcippcaaDoor
namespace Go.Proofs.YtjgfjmkfcippcaaDoor
set_option maxRecDepth 100000
open Go.RowKit

/-- Rows of zeros. -/
def zrows (m : Nat) : List Value := rowsN (fun _ => st0) m
theorem zrows_len (m : Nat) : (zrows m).length = m * 97 := rowsN_len m (fun _ _ => st0_len)
theorem zrows_succ (m : Nat) : zrows (m + 1) = st0 ++ zrows m := by
  induction m with
  | zero => simp [zrows, rowsN]
  | succ m ih =>
    have e : zrows (m + 2) = zrows (m + 1) ++ st0 := rfl
    have e2 : zrows (m + 1) = zrows m ++ st0 := rfl
    rw [e, ih, List.append_assoc, ← e2, ih]
theorem st0_at : (List.range 97).map (fun k => st0.toArray[k]!) = st0 := by kernel_rfl
theorem made_st (n : Nat) : (madeCells st0.toArray (n * 97)).toList = zrows n := by
  induction n with
  | zero => simp [madeCells, zrows, rowsN]
  | succ n ih =>
    have hs : st0.toArray.size = 97 := rfl
    have e : zrows (n + 1) = zrows n ++ st0 := rfl
    rw [e, ← ih]
    unfold madeCells
    simp only [Array.toList_map, Array.toList_range, hs]
    rw [show (n + 1) * 97 = n * 97 + 97 by omega, List.range_add, List.map_append, List.map_map]
    congr 1
    refine Eq.trans ?_ st0_at
    refine List.map_congr_left fun k hk => ?_
    have hk' := List.mem_range.1 hk
    show st0.toArray[(n * 97 + k) % 97]! = _
    rw [show (n * 97 + k) % 97 = k by omega]

/-- i steps are laid, cur is under way, m rows of zeros follow. -/
structure GbS (w W : World) (g m i : Nat) (L : List Sp) (Q : Nat → Option Addr × Nat) (cur : List Value) : Prop where
  blk : W.heap[g]? = some (.cells (rowsN (spF L Q) i ++ (cur ++ zrows m)).toArray 101 (0, 0))
  each : ∀ j, j < i → HsS w W (.slice (Q j).1 (L.getD j sp0).sides.length (Q j).2) (L.getD j sp0).sides
  hg : w.heap.size ≤ g
  below : Below w.heap.size w W
  hi : i ≤ L.length
  ok : SpOk L
section
variable {w W W' : World} {g m i : Nat} {L : List Sp} {Q : Nat → Option Addr × Nat} {cur : List Value}
theorem GbS.lt (h : GbS w W g m i L Q cur) : g < W.heap.size := (Array.getElem?_eq_some_iff.1 h.blk).1
theorem GbS.pre (h : GbS w W g m i L Q cur) : (rowsN (spF L Q) i).length = i * 97 := rowsN_len i (fun j hj => spRow_len (h.ok.get (by have := h.hi; omega)) _)
theorem GbS.on (h : GbS w W g m i L Q cur) (hb : Below W.heap.size W W') : GbS w W' g m i L Q cur :=
  ⟨blk_onB2 h.blk hb, fun j hj => (h.each j hj).on hb, h.hg, h.below.trans (hb.mono h.below.size), h.hi, h.ok⟩
theorem GbS.base {w0 : World} (h : GbS w W g m i L Q cur) (hb : Below w0.heap.size w0 w) : GbS w0 W g m i L Q cur := ⟨h.blk, fun j hj => (h.each j hj).base hb, Nat.le_trans hb.size h.hg, hb.trans (h.below.mono hb.size), h.hi, h.ok⟩
/-- The sides' blocks are no other type's. -/
theorem GbS.sides (h : GbS w W g m i L Q cur) {j : Nat} (hj : j < i) {p : Nat} {cs : Array Value} {t : TypeId} {fr : Nat × Nat} (hp : W.heap[p]? = some (.cells cs t fr)) (ht : t ≠ 23) : (Value.slice (Q j).1 (L.getD j sp0).sides.length (Q j).2).ownBlock ≠ some p := own_ne (h.each j hj).own hp ht
theorem GbS.chg (h : GbS w W g m i L Q cur) {K : List Nat} (hc : Chg W W' K) (hK : ∀ k, k ∈ K → w.heap.size ≤ k) (hgK : g ∉ K) (hq : ∀ j, j < i → ∀ k, (Value.slice (Q j).1 (L.getD j sp0).sides.length (Q j).2).ownBlock = some k → k ∉ K) : GbS w W' g m i L Q cur := by
  have hB : Below w.heap.size w W' := h.below.trans (hc.toBelow h.below.size hK)
  refine ⟨by rw [hc.block g h.lt hgK]; exact h.blk, fun j hj => ?_, h.hg, hB, h.hi, h.ok⟩
  have hs := h.each j hj
  exact ⟨own_keep hs.own (fun k hk => hc.block k (own_lt hs.own hk) (hq j hj k hk)), hs.ok, hs.fresh, hB⟩
theorem GbS.put {a mid b vs : List Value} (h : GbS w W g m i L Q (a ++ (mid ++ b))) (hl : mid.length = vs.length) {o : Nat} (ho : o = i * 97 + a.length) : GbS w (W.setCells g o vs) g m i L Q (a ++ (vs ++ b)) := by
  have hB := below_setCells' (B := w.heap.size) g h.hg vs o h.below
  refine ⟨?_, fun j hj => ?_, h.hg, hB, h.hi, h.ok⟩
  · have h1 := h.blk
    rw [show rowsN (spF L Q) i ++ ((a ++ (mid ++ b)) ++ zrows m) = (rowsN (spF L Q) i ++ a) ++ (mid ++ (b ++ zrows m)) by simp only [List.append_assoc]] at h1
    have := setCells_block (b := g) (t := 101) (fr := (0, 0)) vs (o := o) (w := W) h1 (by rw [List.length_append, h.pre, ho]) hl
    rw [show rowsN (spF L Q) i ++ ((a ++ (vs ++ b)) ++ zrows m) = (rowsN (spF L Q) i ++ a) ++ (vs ++ (b ++ zrows m)) by simp only [List.append_assoc]]
    exact this
  · have hs := h.each j hj
    exact ⟨own_keep hs.own (fun k hk => setCells_other (fun e => h.sides hj h.blk (by decide) (by rw [← e]; exact hk)) _ _ _), hs.ok, hs.fresh, hB⟩
theorem GbS.there (h : GbS w W g m i L Q cur) {o n : Nat} (_ho : i * 97 ≤ o) (hn : o + n ≤ i * 97 + cur.length) : W.there g o n := fun j hj => by
  refine ⟨?_, Joins.unfrozen_of_block h.blk _⟩
  rw [cell_of_row _ _ _ _ _ _ h.blk]
  have hp := h.pre
  simp only [List.getElem?_toArray]
  rw [List.getElem?_eq_getElem (by simp only [List.length_append]; omega)]
  rfl
theorem GbS.row (h : GbS w W g m i L Q cur) (hc : cur.length = 97) : rowOf W g (i * 97) 97 = cur := by
  rw [rowOf_block h.blk]
  have := take_midd (rowsN (spF L Q) i) cur (zrows m) (o := i * 97) (n := 97) h.pre hc
  simpa using this
theorem GbS.cell (h : GbS w W g m i L Q cur) {j : Nat} {u : Value} (hu : cur[j]? = some u) : W.cell? ⟨g, i * 97 + j, none⟩ = some u := by
  rw [Joins.cell_of_block h.blk]
  have hj := (List.getElem?_eq_some_iff.1 hu).1
  simp only [List.getElem?_toArray]
  rw [List.getElem?_append_right (by rw [h.pre]; omega), h.pre, Nat.add_sub_cancel_left, List.getElem?_append_left hj]
  exact hu
theorem GbS.begin (h : GbS w W g (m + 1) i L Q []) : GbS w W g m i L Q st0 := by
  refine ⟨?_, h.each, h.hg, h.below, h.hi, h.ok⟩
  have := h.blk
  rw [zrows_succ, List.nil_append] at this
  exact this
/-- The row under way is done. -/
theorem GbS.next {q : Option Addr} {k : Nat} (h : GbS w W g m i L Q (spRow (L.getD i sp0) (.slice q (L.getD i sp0).sides.length k))) (hlt : i < L.length) (hs : HsS w W (.slice q (L.getD i sp0).sides.length k) (L.getD i sp0).sides) :
    GbS w W g m (i + 1) L (fun j => if j = i then (q, k) else Q j) [] := by
  have e1 : rowsN (spF L (fun j => if j = i then (q, k) else Q j)) (i + 1) = rowsN (spF L Q) i ++ spRow (L.getD i sp0) (.slice q (L.getD i sp0).sides.length k) := by
    rw [rowsN, rowsN_cong i (g := spF L Q) (fun j hj => by unfold spF; simp [show j ≠ i by omega])]
    congr 1
    unfold spF
    simp
  refine ⟨?_, fun j hj => ?_, h.hg, h.below, by omega, h.ok⟩
  · rw [e1, List.nil_append, List.append_assoc]
    exact h.blk
  · by_cases e : j = i
    · subst e
      simp only [if_true]
      exact hs
    · simp only [if_neg e]
      exact h.each j (by omega)
theorem GbS.rd (h : GbS w W g m L.length L Q cur) : RdSp W (some ⟨g, 0, none⟩) L := by
  refine .inr ⟨g, 0, rfl, fun j hj => ⟨(Q j).1, (Q j).2, ?_, (h.each j hj).rd.2.1⟩⟩
  rw [rowOf_block h.blk, Nat.zero_add]
  have := rowsN_mid L.length (cur ++ zrows m) (f := spF L Q) (fun j hj => spRow_len (h.ok.get hj) _) j hj
  show _ = spF L Q j
  rw [← this]
  simp [List.take_drop]
end
/-- A row as it is made. -/
theorem GbS.made {w w1 : World} {n : Nat} {L : List Sp} (Q : Nat → Option Addr × Nat) (ok : SpOk L) (own : w1.ownsRow 0 101 97 (.slice (some ⟨w.heap.size, 0, none⟩) n n) n (madeCells (Value.agg st0.toArray).cells (n * 97)).toList) (hg : w.grownBy w1 none) : GbS w w1 w.heap.size n 0 L Q [] := by
  have hb : Below w.heap.size w w1 := (Below.refl _ _).grown hg (Nat.le_refl _) (by intro k hk; simp at hk)
  rcases own.2 with ⟨e, _⟩ | ⟨g', cap, cur, e, _, h1, h2, h3, h4, h5⟩
  · simp at e
  · simp only [Value.slice.injEq, Option.some.injEq, Addr.mk.injEq] at e
    obtain ⟨⟨rfl, -, -⟩, -, rfl⟩ := e
    refine ⟨?_, fun j hj => by omega, Nat.le_refl _, hb, by omega, ok⟩
    rw [h1]
    have e1 : (madeCells (Value.agg st0.toArray).cells (n * 97)).toList = zrows n := made_st n
    rw [e1] at h5
    have hl : cur.toList.length = n * 97 := by rw [Array.length_toList, h4]
    rw [List.take_of_length_le (by omega)] at h5
    simp only [rowsN, List.nil_append]
    rw [← h5]
end Go.Proofs.YtjgfjmkfcippcaaDoor
