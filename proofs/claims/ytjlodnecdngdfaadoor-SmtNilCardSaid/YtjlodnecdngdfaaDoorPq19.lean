/-
  The root behind steps, in package proof.; A trail of changes: its steps in numbers and in memory.
-/
import Derived.Test.YtjlodnecdngdfaaDoorPq17
import Derived.Test.YtjlodnecdngdfaaDoorPq18
namespace Go.Proofs.YtjlodnecdngdfaaDoor
set_option maxRecDepth 100000
open Go.RowKit

def stE (R : List Int) (s : Sp) : Int := updE R s.key s.old s.mask s.sides
def stH (R : List Int) (s : Sp) (N : List Int) : List Int := updH R s.key s.old N s.mask s.sides
def wkO (L : List Sp) (Ns : List (List Int)) : Nat → Nat → List Int → List Int × Int
  | 0, _, R => (R, 0)
  | n + 1, i, R => if stE R (L.getD i sp0) = 0 then wkO L Ns n (i + 1) (stH R (L.getD i sp0) (Ns.getD i [])) else (zero32, stE R (L.getD i sp0))
def walkR (G : List Int) (L : List Sp) (Ns : List (List Int)) : List Int × Int := if L.length = Ns.length then wkO L Ns L.length 0 G else (zero32, 1)
theorem wkO_len (L : List Sp) (Ns : List (List Int)) : ∀ n i (R : List Int), R.length = 32 → (wkO L Ns n i R).1.length = 32
  | 0, _, _, h => h
  | n + 1, i, R, _ => by
    unfold wkO
    split
    · exact wkO_len L Ns n (i + 1) _ (updH_len _ _ _ _ _ _)
    · exact zero32_len
theorem walkR_len {G : List Int} (L : List Sp) (Ns : List (List Int)) (h : G.length = 32) : (walkR G L Ns).1.length = 32 := by
  unfold walkR
  split
  · exact wkO_len _ _ _ _ _ h
  · exact zero32_len
/-- What stands in memory within Walk. -/
structure WkS (w wr : World) (R : List Int) : Prop where
  below : Below w.heap.size w wr
  hR : HashAt wr w.heap.size R
  hA : HashAt wr (w.heap.size + 1) zero32
theorem WkS.on {w W W' : World} {R : List Int} (h : WkS w W R) (hb : Below W.heap.size W W') : WkS w W' R := ⟨h.below.trans (hb.mono h.below.size), h.hR.on hb, h.hA.on hb⟩
theorem WkS.put {w W : World} {R X : List Int} (h : WkS w W R) (lR : R.length = 32) (lX : X.length = 32) : WkS w (W.setCells w.heap.size 0 (hc X)) X :=
  ⟨below_setCells' _ (Nat.le_refl _) _ _ h.below, h.hR.put lR lX, h.hA.others (by omega) _ _⟩
theorem WkS.others {w W : World} {R : List Int} (h : WkS w W R) {b : Nat} (hb : w.heap.size + 1 < b) (o : Nat) (vs : List Value) : WkS w (W.setCells b o vs) R :=
  ⟨below_setCells' _ (by omega) _ _ h.below, h.hR.others (by omega) _ _, h.hA.others (by omega) _ _⟩
/-- A block that holds a step. -/
def StB (w : World) (b : Nat) (R : List Value) : Prop := w.heap[b]? = some (.cells R.toArray 68 (0, 0))
theorem StB.lt {w : World} {b : Nat} {R : List Value} (h : StB w b R) : b < w.heap.size := (Array.getElem?_eq_some_iff.1 h).1
theorem StB.on {w w' : World} {b : Nat} {R : List Value} (h : StB w b R) (hb : Below w.heap.size w w') : StB w' b R := by
  unfold StB
  rw [hb.block b h.lt]; exact h
theorem StB.others {w : World} {b k : Nat} {R : List Value} (h : StB w b R) (hk : b ≠ k) (o : Nat) (vs : List Value) : StB (w.setCells k o vs) b R := by
  unfold StB
  rw [setCells_other hk]; exact h
theorem StB.row {w : World} {b : Nat} {R : List Value} (h : StB w b R) (hR : R.length = 97) : rowOf w b 0 97 = R := by
  rw [rowOf_block h]
  simp [List.take_of_length_le (Nat.le_of_eq hR)]
theorem StB.put (w : World) (Z : List Value) {R : List Value} (hZ : Z.length = 97) (hR : R.length = 97) : StB ((w.alloc (.cells Z.toArray 68)).setCells w.heap.size 0 R) w.heap.size R := by
  have h := heap_alloc_new w (.cells Z.toArray 68)
  have := setCells_block (b := w.heap.size) (t := 68) (fr := (0, 0)) R (o := 0) (w := w.alloc (.cells Z.toArray 68)) (pre := []) (mid := Z) (post := []) (by simpa using h) rfl (by rw [hZ, hR])
  simpa [StB] using this
theorem run_storeCells_st {P : Program} (w : World) (Z R : List Value) (hZ : Z.length = 97) (hR : R.length = 97) (h1 : ∀ u ∈ R, u.oneCell' = true) : (storeCells ⟨w.heap.size, 0, none⟩ R 0).run P (w.alloc (.cells Z.toArray 68)) = .ok () ((w.alloc (.cells Z.toArray 68)).setCells w.heap.size 0 R) := by
  have hb := heap_alloc_new w (.cells Z.toArray 68)
  have hth : (w.alloc (.cells Z.toArray 68)).there w.heap.size 0 97 := fun j hj => by
    refine ⟨?_, Joins.unfrozen_of_block hb _⟩
    rw [cell_of_row _ _ _ _ _ _ hb]
    simp [hZ]; omega
  have := run_storeCells_cells (P := P) w.heap.size 0 R 0 (w.alloc (.cells Z.toArray 68)) (fun j hj => by rw [hR] at hj; simpa using (hth j hj).1) (fun j hj => by simp) h1
  simpa using this
@[go_sem ↓] theorem load97 (a : Addr) : loadCellsFrom a 0 97 #[] = rowLoad a 97 := rfl
@[go_sem ↓] theorem Tryd.zero_st' (w : World) : (zeroValue 68).run Tryd.prog w = .ok (.agg st0.toArray) w := Tryd.zero_st w
theorem st0_len : st0.length = 97 := rfl

set_option maxHeartbeats 16000000 in
theorem pWalk_any {w : World} {G : List Int} {q qn : Option Addr} {c cn : Nat} {L : List Sp} {Ns : List (List Int)} (hT : Tbl w) (hG : G.length = 32) (hs : RdSp w q L) (ok : SpOk L) (hl : L.length ≤ 12) (hsn : RdHs w qn Ns) (okn : HsOk Ns) (hnn : Ns.length ≤ 140737488355328) :
    Calls Tryd.prog 31 #[.agg (hc G).toArray, .slice q L.length c, .slice qn Ns.length cn] w fun e w' => e = .returned (.tuple #[.agg (hc (walkR G L Ns).1).toArray, .int .i64 (walkR G L Ns).2]) ∧ Below w.heap.size w w' := by
  have H1 := HashAt.new (w.alloc (.cells (hc G).toArray 24)) zero32
  simp only [World.size_alloc] at H1
  have S0 : Hid (WkS w ((w.alloc (.cells (hc G).toArray 24)).alloc (.cells (hc zero32).toArray 24)) G) := ⟨((Below.refl w.heap.size w).alloc (Nat.le_refl _) _).alloc (by simp) _, (HashAt.new w G).alloc _, H1⟩
  have HS : Hid (∀ W, Below w.heap.size w W → RdSp W q L) := fun W hb => hs.on ok hb
  have HN : Hid (∀ W, Below w.heap.size w W → RdHs W qn Ns) := fun W hb => hsn.on (fun i hi => (okn.get i hi).1) hb
  have OK := Lib.hid ok
  have OKN := Lib.hid okn
  have HT := Lib.hid hT
  have hlG := hc_len G
  have z32 := zero32_len
  have thA := S0.out.hA.there zero32_len
  clear H1 hs ok hsn okn hT
  by_cases heq : L.length = Ns.length
  · have HE := Lib.hid (show walkR G L Ns = wkO L Ns L.length 0 G by unfold walkR; rw [if_pos heq])
    have HQ := Lib.hid heq
    obtain ⟨n, hn⟩ : ∃ n, L.length = n := ⟨_, rfl⟩
    have HLn := Lib.hid hn
    have HNn := Lib.hid (show Ns.length = n by rw [← heq, hn])
    rw [show Ns.length = n by rw [← heq, hn]] at hnn
    rw [hn] at hl HE
    have hL2 : (Value.slice q L.length c) = .slice q n c := by rw [hn]
    have hN2 : (Value.slice qn Ns.length cn) = .slice qn n cn := by rw [← heq, hn]
    rw [hL2, hN2]
    clear hL2 hN2 hn heq thA
    go_enter Tryd.func31, Tryd.ntmps31
    go_wp2_with fail
    generalize (w.alloc (.cells (hc G).toArray 24)).alloc (.cells (hc zero32).toArray 24) = w1 at *
    go_loopw [20] (fun iv wr => ∃ (i : Nat) (R : List Int), iv = .int .i64 (i : Int) ∧ i ≤ n ∧ R.length = 32 ∧ Hid (wkO L Ns (n - i) i R = wkO L Ns n 0 G) ∧ Hid (WkS w wr R)) (fun iv _ => n - (intOf iv).toNat)
    case atStart => exact ⟨0, G, rfl, by omega, hG, rfl, S0⟩
    case round =>
      clear S0
      obtain ⟨i, R, rfl, hi, lR, hO, hS⟩ := hrel
      have hlR := hc_len R
      by_cases hlt : i < n
      · have hiL : i < L.length := by rw [HLn.out]; exact hlt
        have hiN : i < Ns.length := by rw [HNn.out]; exact hlt
        have HO := Lib.hid (show wkO L Ns (n - i) i R = if stE R (L.getD i sp0) = 0 then wkO L Ns (n - (i + 1)) (i + 1) (stH R (L.getD i sp0) (Ns.getD i [])) else (zero32, stE R (L.getD i sp0)) by rw [show n - i = (n - (i + 1)) + 1 by omega, wkO])
        have oks := OK.out.get hiL
        obtain ⟨lN, bN0⟩ := OKN.out.get i hiN
        have bN := Lib.hid bN0
        obtain ⟨b, off, rfl, hx⟩ := (HS.out _ hS.out.below).resolve_left (fun e => by rw [e] at hiL; simp at hiL)
        obtain ⟨qi, ki, r97, rh⟩ := hx i hiL
        obtain ⟨bn, offn, rfl, hxn⟩ := (HN.out _ hS.out.below).resolve_left (fun e => by rw [e] at hiN; simp at hiN)
        have rn := hxn i hiN
        obtain ⟨s, hsx⟩ : ∃ s, L.getD i sp0 = s := ⟨_, rfl⟩
        obtain ⟨N, hNx⟩ : ∃ N, Ns.getD i [] = N := ⟨_, rfl⟩
        rw [hsx] at r97 rh oks HO
        rw [hNx] at rn lN bN HO
        have OKS := Lib.hid oks
        have lk := oks.key
        have lo := oks.old
        have lm := oks.mask
        have hlk := hc_len s.key
        have hlo := hc_len s.old
        have hlN := hc_len N
        have hlp := pfRow_len oks.mask (.slice qi s.sides.length ki)
        have hns := oks.n32
        have RN : Hid (∀ W, Below wr.heap.size wr W → rowOf W bn (offn + i * 32) 32 = hc N) := fun W hb => by rw [rowOf_on (by rw [rn, hc_len, lN]; omega) hb]; exact rn
        have RH : Hid (∀ W, Below wr.heap.size wr W → RdHs W qi s.sides) := fun W hb => rh.on (fun j hj => (oks.hs.get j hj).1) hb
        have R9 : Hid (∀ W, Below wr.heap.size wr W → rowOf W b (off + i * 97) 97 = spRow s (.slice qi s.sides.length ki)) := fun W hb => by rw [rowOf_on (by rw [r97, spRow_len oks]; omega) hb]; exact r97
        have hRl := spRow_len oks (.slice qi s.sides.length ki)
        have hRo := Lib.hid (sp_one s qi s.sides.length ki)
        obtain ⟨Z, hZ⟩ : ∃ Z, spRow s (.slice qi s.sides.length ki) = Z := ⟨_, rfl⟩
        have HZZ := Lib.hid hZ
        rw [hZ] at r97 hRl hRo
        have hst := run_storeCells_st (P := Tryd.prog) wr st0 Z st0_len hRl hRo.out
        have B2 : Below wr.heap.size wr ((wr.alloc (.cells st0.toArray 68)).setCells wr.heap.size 0 Z) := below_setCells' _ (Nat.le_refl _) _ _ ((Below.refl _ _).alloc (Nat.le_refl _) _)
        have T := Lib.hid (hS.out.on B2)
        have Q9 := Lib.hid (StB.put wr st0 st0_len hRl)
        have hbR := hS.out.hA.lt
        have B2h := Lib.hid B2
        clear hx hxn rn rh oks bN0 hsx hNx hZ hS B2
        go_wp2_with fail
        clear hst r97
        obtain ⟨b9, hq⟩ : ∃ b9, b9 = wr.heap.size := ⟨_, rfl⟩
        rw [← hq] at T Q9 B2h hbR RN RH R9 ⊢
        generalize (wr.alloc (.cells st0.toArray 68)).setCells b9 0 Z = w4 at *
        replace RN : Hid (∀ W, Below w4.heap.size w4 W → rowOf W bn (offn + i * 32) 32 = hc N) := fun W hb => RN.out W (B2h.out.trans (hb.mono (Nat.le_of_lt Q9.out.lt)))
        replace RH : Hid (∀ W, Below w4.heap.size w4 W → RdHs W qi s.sides) := fun W hb => RH.out W (B2h.out.trans (hb.mono (Nat.le_of_lt Q9.out.lt)))
        clear hq B2h R9
        refine wp_region_held_drew (S := fun W => Below w4.drew.heap.size w4.drew W) (by kernel_rfl) (Below.refl _ _) (fun h0 => ?_)
        replace T := Lib.hid (T.out.on ((Below.refl _ _).drew))
        replace RN : Hid (∀ W, Below w4.drew.heap.size w4.drew W → rowOf W bn (offn + i * 32) 32 = hc N) := fun W hb => RN.out W (((Below.refl _ _).drew).trans hb)
        replace RH : Hid (∀ W, Below w4.drew.heap.size w4.drew W → RdHs W qi s.sides) := fun W hb => RH.out W (((Below.refl _ _).drew).trans hb)
        replace Q9 := Lib.hid (Q9.out.on ((Below.refl _ _).drew))
        generalize w4.drew = w4 at *
        refine wpAnyH_take (i := 0) (v := ?_) (by rw [List.getElem?_toArray]; rfl) (by kernel_rfl) (by kernel_rfl) (by kernel_rfl) (by exact fun _ _ _ h => h) (Or.inl ⟨by rfl, ?_⟩) h0 ?_
        rotate_left
        · intro W hW
          have cc := (T.out.on hW).hR.row lR
          go_simp
          all_goals with_reducible rfl
        try simp only [Act.put, List.setIfInBounds_toArray, List.set_cons_zero, List.set_cons_succ]
        refine wpAnyH_take (i := 1) (v := ?_) (by rw [List.getElem?_toArray]; rfl) (by kernel_rfl) (by kernel_rfl) (by kernel_rfl) (by exact fun _ _ _ h => h) (Or.inl ⟨by rfl, ?_⟩) h0 ?_
        rotate_left
        · intro W hW
          go_simp
          all_goals with_reducible rfl
        try simp only [Act.put, List.setIfInBounds_toArray, List.set_cons_zero, List.set_cons_succ]
        refine wpAnyH_take (i := 2) (v := ?_) (by rw [List.getElem?_toArray]; rfl) (by kernel_rfl) (by kernel_rfl) (by kernel_rfl) (by exact fun _ _ _ h => h) (Or.inl ⟨by rfl, ?_⟩) h0 ?_
        rotate_left
        · intro W hW
          have h9 : rowOf W b9 0 97 = spRow s (.slice qi s.sides.length ki) := by rw [HZZ.out]; exact (Q9.out.on hW).row hRl
          have cc := sp_key OKS.out h9
          go_simp
          all_goals with_reducible rfl
        try simp only [Act.put, List.setIfInBounds_toArray, List.set_cons_zero, List.set_cons_succ]
        refine wpAnyH_take (i := 3) (v := ?_) (by rw [List.getElem?_toArray]; rfl) (by kernel_rfl) (by kernel_rfl) (by kernel_rfl) (by exact fun _ _ _ h => h) (Or.inl ⟨by rfl, ?_⟩) h0 ?_
        rotate_left
        · intro W hW
          go_simp
          all_goals with_reducible rfl
        try simp only [Act.put, List.setIfInBounds_toArray, List.set_cons_zero, List.set_cons_succ]
        refine wpAnyH_take (i := 4) (v := ?_) (by rw [List.getElem?_toArray]; rfl) (by kernel_rfl) (by kernel_rfl) (by kernel_rfl) (by exact fun _ _ _ h => h) (Or.inl ⟨by rfl, ?_⟩) h0 ?_
        rotate_left
        · intro W hW
          have h9 : rowOf W b9 0 97 = spRow s (.slice qi s.sides.length ki) := by rw [HZZ.out]; exact (Q9.out.on hW).row hRl
          have cc := sp_old OKS.out h9
          rw [Nat.zero_add] at cc
          go_simp
          all_goals with_reducible rfl
        try simp only [Act.put, List.setIfInBounds_toArray, List.set_cons_zero, List.set_cons_succ]
        refine wpAnyH_take (i := 5) (v := ?_) (by rw [List.getElem?_toArray]; rfl) (by kernel_rfl) (by kernel_rfl) (by kernel_rfl) (by exact fun _ _ _ h => h) (Or.inl ⟨by rfl, ?_⟩) h0 ?_
        rotate_left
        · intro W hW
          go_simp
          all_goals with_reducible rfl
        try simp only [Act.put, List.setIfInBounds_toArray, List.set_cons_zero, List.set_cons_succ]
        refine wpAnyH_take (i := 6) (v := ?_) (by rw [List.getElem?_toArray]; rfl) (by kernel_rfl) (by kernel_rfl) (by kernel_rfl) (by exact fun _ _ _ h => h) (Or.inl ⟨by rfl, ?_⟩) h0 ?_
        rotate_left
        · intro W hW
          go_simp
          all_goals with_reducible rfl
        try simp only [Act.put, List.setIfInBounds_toArray, List.set_cons_zero, List.set_cons_succ]
        refine wpAnyH_take (i := 7) (v := ?_) (by rw [List.getElem?_toArray]; rfl) (by kernel_rfl) (by kernel_rfl) (by kernel_rfl) (by exact fun _ _ _ h => h) (Or.inl ⟨by rfl, ?_⟩) h0 ?_
        rotate_left
        · intro W hW
          go_simp
          all_goals with_reducible rfl
        try simp only [Act.put, List.setIfInBounds_toArray, List.set_cons_zero, List.set_cons_succ]
        refine wpAnyH_take (i := 8) (v := ?_) (by rw [List.getElem?_toArray]; rfl) (by kernel_rfl) (by kernel_rfl) (by kernel_rfl) (by exact fun _ _ _ h => h) (Or.inl ⟨by rfl, ?_⟩) h0 ?_
        rotate_left
        · intro W hW
          have cc := RN.out W hW
          go_simp
          all_goals with_reducible rfl
        try simp only [Act.put, List.setIfInBounds_toArray, List.set_cons_zero, List.set_cons_succ]
        refine wpAnyH_take (i := 9) (v := ?_) (by rw [List.getElem?_toArray]; rfl) (by kernel_rfl) (by kernel_rfl) (by kernel_rfl) (by exact fun _ _ _ h => h) (Or.inl ⟨by rfl, ?_⟩) h0 ?_
        rotate_left
        · intro W hW
          go_simp
          all_goals with_reducible rfl
        try simp only [Act.put, List.setIfInBounds_toArray, List.set_cons_zero, List.set_cons_succ]
        refine wpAnyH_take (i := 10) (v := ?_) (by rw [List.getElem?_toArray]; rfl) (by kernel_rfl) (by kernel_rfl) (by kernel_rfl) (by exact fun _ _ _ h => h) (Or.inl ⟨by rfl, ?_⟩) h0 ?_
        rotate_left
        · intro W hW
          have h9 : rowOf W b9 0 97 = spRow s (.slice qi s.sides.length ki) := by rw [HZZ.out]; exact (Q9.out.on hW).row hRl
          have cc := sp_pf OKS.out h9
          rw [Nat.zero_add] at cc
          go_simp
          all_goals with_reducible rfl
        try simp only [Act.put, List.setIfInBounds_toArray, List.set_cons_zero, List.set_cons_succ]
        refine wpAnyH_ready (rs := [11, 15]) (by kernel_rfl) (by simp) ?_
        refine AllReadyH.cons (by rw [List.getElem?_toArray]; rfl) (fun K hK => ?_) (AllReadyH.cons (by rw [List.getElem?_toArray]; rfl) (fun K hK => ?_) AllReadyH.nil)
        · rw [if_pos (by rfl)]
          have TB := T.out.below
          go_wp2_with fail
          refine (pUpdate_any (k := ki) (HT.out.on TB HT.out.pos) lR lk lo lN lm OKS.out.bk OKS.out.bo bN.out OKS.out.bm (RH.out _ h0) OKS.out.hs (by omega)).mono ?_
          rintro e w6 ⟨rfl, hb6⟩
          have HI := Lib.hid (show stE R s = updE R s.key s.old s.mask s.sides from rfl)
          have HJ := Lib.hid (show stH R s N = updH R s.key s.old N s.mask s.sides from rfl)
          have lX := updH_len R s.key s.old N s.mask s.sides
          obtain ⟨X, hX⟩ : ∃ X, updH R s.key s.old N s.mask s.sides = X := ⟨_, rfl⟩
          obtain ⟨eX, hE⟩ : ∃ eX, updE R s.key s.old s.mask s.sides = eX := ⟨_, rfl⟩
          rw [hX] at lX HJ ⊢
          rw [hE] at HI ⊢
          clear hX hE
          have hlX := hc_len X
          have T6 := Lib.hid (T.out.on hb6)
          go_wp2_with fail
          refine hK.out _ _ (h0.trans hb6) (fun h6 => ?_)
          clear hK K
          try simp only [Act.put, List.setIfInBounds_toArray, List.set_cons_zero, List.set_cons_succ]
          refine wpAnyH_take (i := 12) (v := ?_) (by rw [List.getElem?_toArray]; rfl) (by kernel_rfl) (by kernel_rfl) (by kernel_rfl) (by exact fun _ _ _ h => h) (Or.inl ⟨by rfl, ?_⟩) h6 ?_
          rotate_left
          · intro W hW
            go_simp
            all_goals with_reducible rfl
          try simp only [Act.put, List.setIfInBounds_toArray, List.set_cons_zero, List.set_cons_succ]
          refine wpAnyH_take (i := 13) (v := ?_) (by rw [List.getElem?_toArray]; rfl) (by kernel_rfl) (by kernel_rfl) (by kernel_rfl) (by exact fun _ _ _ h => h) (Or.inl ⟨by rfl, ?_⟩) h6 ?_
          rotate_left
          · intro W hW
            go_simp
            all_goals with_reducible rfl
          try simp only [Act.put, List.setIfInBounds_toArray, List.set_cons_zero, List.set_cons_succ]
          refine wpAnyH_take (i := 14) (v := ?_) (by rw [List.getElem?_toArray]; rfl) (by kernel_rfl) (by kernel_rfl) (by kernel_rfl) (by exact fun _ _ _ h => h) (Or.inl ⟨by rfl, ?_⟩) h6 ?_
          rotate_left
          · intro W hW
            go_simp
            all_goals with_reducible rfl
          try simp only [Act.put, List.setIfInBounds_toArray, List.set_cons_zero, List.set_cons_succ]
          refine wpAnyH_ready (rs := [15]) (by kernel_rfl) (by simp) ?_
          refine AllReadyH.cons (by rw [List.getElem?_toArray]; rfl) (fun K hK => ?_) AllReadyH.nil
          rw [if_pos (by rfl)]
          have HX := Lib.hid (HashAt.new w6 zero32)
          have T1 := Lib.hid (T6.out.on ((Below.refl _ _).alloc (Nat.le_refl _) (.cells (hc zero32).toArray 24)))
          have hbx := T6.out.hA.lt
          have hbw := h6.size
          have B7 := h6.alloc h6.size (.cells (hc zero32).toArray 24)
          go_wp2_with fail
          refine hK.out _ _ (B7) (fun h7 => ?_)
          clear hK K
          try simp only [Act.put, List.setIfInBounds_toArray, List.set_cons_zero, List.set_cons_succ]
          obtain ⟨bx, hbq⟩ : ∃ bx, bx = w6.heap.size := ⟨_, rfl⟩
          rw [← hbq] at HX hbx hbw ⊢
          generalize w6.alloc (.cells (hc zero32).toArray 24) = w7 at *
          clear hbq
          refine wpAnyH_ready (rs := [16]) (by kernel_rfl) (by simp) ?_
          refine AllReadyH.cons (by rw [List.getElem?_toArray]; rfl) (fun K hK => ?_) AllReadyH.nil
          rw [if_pos (by rfl)]
          have thX := HX.out.there zero32_len
          have HX2 := Lib.hid (HX.out.put zero32_len lX)
          have T2 := Lib.hid (T1.out.others hbx 0 (hc X))
          have B8 : Below w4.heap.size w4 (w7.setCells bx 0 (hc X)) := below_setCells' _ hbw _ _ B7
          go_wp2_with fail
          refine hK.out _ _ (B8) (fun h8 => ?_)
          clear hK K
          try simp only [Act.put, List.setIfInBounds_toArray, List.set_cons_zero, List.set_cons_succ]
          refine wpAnyH_take (i := 17) (v := ?_) (by rw [List.getElem?_toArray]; rfl) (by kernel_rfl) (by kernel_rfl) (by kernel_rfl) (by exact fun _ _ _ h => h) (Or.inl ⟨by rfl, ?_⟩) h8 ?_
          rotate_left
          · intro W hW
            go_simp
            all_goals with_reducible rfl
          try simp only [Act.put, List.setIfInBounds_toArray, List.set_cons_zero, List.set_cons_succ]
          refine wpAnyH_done (by kernel_rfl) ?_ _
          clear thX B8 B7 T1 HX
          clear h8
          generalize w7.setCells bx 0 (hc X) = w8 at *
          by_cases he : eX = 0
          · have de : (eX != 0) = false := by rw [he]; rfl
            have rX := HX2.out.row lX
            have thR := T2.out.hR.there lR
            have T3 := Lib.hid (T2.out.put lR lX)
            have HO2 := Lib.hid (show wkO L Ns (n - (i + 1)) (i + 1) X = wkO L Ns n 0 G by rw [← hO.out, HO.out, HI.out, if_pos he, HJ.out])
            clear he T2 HX2
            go_wp2_with fail
            go_roundw
            case rel => exact ⟨i + 1, X, by go_num, by omega, lX, HO2, T3⟩
            case measure => simp [intOf]; omega
          · have de : (eX != 0) = true := by simpa using he
            have thA := T2.out.hA.there zero32_len
            have hput := (T2.out.hA.put zero32_len zero32_len).row zero32_len
            have BE := Lib.hid (below_setCells' (B := w.heap.size) (w.heap.size + 1) (by omega) (hc zero32) 0 T2.out.below)
            have HO2 := Lib.hid (show walkR G L Ns = (zero32, eX) by rw [HE.out, ← hO.out, HO.out, HI.out, if_neg he])
            clear he T2 HX2
            repeat (first | go_values | go_skip | go_guarded | go_step | go_upon | go_back)
            refine bodyPost_ret (v := .tuple #[.agg (hc zero32).toArray, .int .i64 eX]) (by simp [results, Tryd.results31, go_sem, hput, z32]) rfl ⟨by rw [HO2.out], BE.out⟩
        · rw [if_pos (by rfl)]
          have HX0 := Lib.hid (HashAt.new w4 zero32)
          have T5 := Lib.hid (T.out.on ((Below.refl _ _).alloc (Nat.le_refl _) (.cells (hc zero32).toArray 24)))
          have hbx := T.out.hA.lt
          have B5 := h0.alloc h0.size (.cells (hc zero32).toArray 24)
          go_wp2_with fail
          refine hK.out _ _ (B5) (fun h5 => ?_)
          clear hK K
          try simp only [Act.put, List.setIfInBounds_toArray, List.set_cons_zero, List.set_cons_succ]
          refine wpAnyH_ready (rs := [11]) (by kernel_rfl) (by simp) ?_
          refine AllReadyH.cons (by rw [List.getElem?_toArray]; rfl) (fun K hK => ?_) AllReadyH.nil
          rw [if_pos (by rfl)]
          have TB := T5.out.below
          go_wp2_with fail
          refine (pUpdate_any (k := ki) (HT.out.on TB HT.out.pos) lR lk lo lN lm OKS.out.bk OKS.out.bo bN.out OKS.out.bm (RH.out _ B5) OKS.out.hs (by omega)).mono ?_
          rintro e w6 ⟨rfl, hb6⟩
          have HI := Lib.hid (show stE R s = updE R s.key s.old s.mask s.sides from rfl)
          have HJ := Lib.hid (show stH R s N = updH R s.key s.old N s.mask s.sides from rfl)
          have lX := updH_len R s.key s.old N s.mask s.sides
          obtain ⟨X, hX⟩ : ∃ X, updH R s.key s.old N s.mask s.sides = X := ⟨_, rfl⟩
          obtain ⟨eX, hE⟩ : ∃ eX, updE R s.key s.old s.mask s.sides = eX := ⟨_, rfl⟩
          rw [hX] at lX HJ ⊢
          rw [hE] at HI ⊢
          clear hX hE
          have hlX := hc_len X
          have T1 := Lib.hid (T5.out.on hb6)
          have HX := Lib.hid (HX0.out.on hb6)
          have B7 := B5.trans (hb6.mono B5.size)
          have hbw : w4.heap.size ≤ w4.heap.size := Nat.le_refl _
          go_wp2_with fail
          refine hK.out _ _ (B7) (fun h7 => ?_)
          clear hK K
          try simp only [Act.put, List.setIfInBounds_toArray, List.set_cons_zero, List.set_cons_succ]
          obtain ⟨w7, hw7⟩ : ∃ w7 : World, w7 = w6 := ⟨_, rfl⟩
          rw [← hw7] at HX T1 B7 h7 ⊢
          clear hw7
          refine wpAnyH_take (i := 12) (v := ?_) (by rw [List.getElem?_toArray]; rfl) (by kernel_rfl) (by kernel_rfl) (by kernel_rfl) (by exact fun _ _ _ h => h) (Or.inl ⟨by rfl, ?_⟩) h7 ?_
          rotate_left
          · intro W hW
            go_simp
            all_goals with_reducible rfl
          try simp only [Act.put, List.setIfInBounds_toArray, List.set_cons_zero, List.set_cons_succ]
          refine wpAnyH_take (i := 13) (v := ?_) (by rw [List.getElem?_toArray]; rfl) (by kernel_rfl) (by kernel_rfl) (by kernel_rfl) (by exact fun _ _ _ h => h) (Or.inl ⟨by rfl, ?_⟩) h7 ?_
          rotate_left
          · intro W hW
            go_simp
            all_goals with_reducible rfl
          try simp only [Act.put, List.setIfInBounds_toArray, List.set_cons_zero, List.set_cons_succ]
          refine wpAnyH_take (i := 14) (v := ?_) (by rw [List.getElem?_toArray]; rfl) (by kernel_rfl) (by kernel_rfl) (by kernel_rfl) (by exact fun _ _ _ h => h) (Or.inl ⟨by rfl, ?_⟩) h7 ?_
          rotate_left
          · intro W hW
            go_simp
            all_goals with_reducible rfl
          try simp only [Act.put, List.setIfInBounds_toArray, List.set_cons_zero, List.set_cons_succ]
          refine wpAnyH_ready (rs := [16]) (by kernel_rfl) (by simp) ?_
          refine AllReadyH.cons (by rw [List.getElem?_toArray]; rfl) (fun K hK => ?_) AllReadyH.nil
          rw [if_pos (by rfl)]
          have thX := HX.out.there zero32_len
          have HX2 := Lib.hid (HX.out.put zero32_len lX)
          have T2 := Lib.hid (T1.out.others hbx 0 (hc X))
          have B8 : Below w4.heap.size w4 (w7.setCells w4.heap.size 0 (hc X)) := below_setCells' _ hbw _ _ B7
          go_wp2_with fail
          refine hK.out _ _ (B8) (fun h8 => ?_)
          clear hK K
          try simp only [Act.put, List.setIfInBounds_toArray, List.set_cons_zero, List.set_cons_succ]
          refine wpAnyH_take (i := 17) (v := ?_) (by rw [List.getElem?_toArray]; rfl) (by kernel_rfl) (by kernel_rfl) (by kernel_rfl) (by exact fun _ _ _ h => h) (Or.inl ⟨by rfl, ?_⟩) h8 ?_
          rotate_left
          · intro W hW
            go_simp
            all_goals with_reducible rfl
          try simp only [Act.put, List.setIfInBounds_toArray, List.set_cons_zero, List.set_cons_succ]
          refine wpAnyH_done (by kernel_rfl) ?_ _
          clear thX B8 B7 T1 HX
          clear h8
          generalize w7.setCells w4.heap.size 0 (hc X) = w8 at *
          by_cases he : eX = 0
          · have de : (eX != 0) = false := by rw [he]; rfl
            have rX := HX2.out.row lX
            have thR := T2.out.hR.there lR
            have T3 := Lib.hid (T2.out.put lR lX)
            have HO2 := Lib.hid (show wkO L Ns (n - (i + 1)) (i + 1) X = wkO L Ns n 0 G by rw [← hO.out, HO.out, HI.out, if_pos he, HJ.out])
            clear he T2 HX2
            go_wp2_with fail
            go_roundw
            case rel => exact ⟨i + 1, X, by go_num, by omega, lX, HO2, T3⟩
            case measure => simp [intOf]; omega
          · have de : (eX != 0) = true := by simpa using he
            have thA := T2.out.hA.there zero32_len
            have hput := (T2.out.hA.put zero32_len zero32_len).row zero32_len
            have BE := Lib.hid (below_setCells' (B := w.heap.size) (w.heap.size + 1) (by omega) (hc zero32) 0 T2.out.below)
            have HO2 := Lib.hid (show walkR G L Ns = (zero32, eX) by rw [HE.out, ← hO.out, HO.out, HI.out, if_neg he])
            clear he T2 HX2
            repeat (first | go_values | go_skip | go_guarded | go_step | go_upon | go_back)
            refine bodyPost_ret (v := .tuple #[.agg (hc zero32).toArray, .int .i64 eX]) (by simp [results, Tryd.results31, go_sem, hput, z32]) rfl ⟨by rw [HO2.out], BE.out⟩
      · obtain rfl : i = n := by omega
        have HO2 := Lib.hid (show walkR G L Ns = (R, 0) by rw [HE.out, ← hO.out, Nat.sub_self]; rfl)
        have rR := hS.out.hR.row lR
        have thA := hS.out.hA.there zero32_len
        have hput := (hS.out.hA.put zero32_len lR).row lR
        have BE := Lib.hid (below_setCells' (B := w.heap.size) (w.heap.size + 1) (by omega) (hc R) 0 hS.out.below)
        clear hS hO
        repeat (first | go_values | go_skip | go_guarded | go_step | go_upon | go_back)
        refine bodyPost_ret (v := .tuple #[.agg (hc R).toArray, .int .i64 0]) (by simp [results, Tryd.results31, go_sem, hput, lR]) rfl ⟨by rw [HO2.out], BE.out⟩
  · have HE := Lib.hid (show walkR G L Ns = (zero32, 1) by unfold walkR; rw [if_neg heq])
    have dl : ((L.length : Int) != (Ns.length : Int)) = true := by simp; omega
    have hput := (S0.out.hA.put zero32_len zero32_len).row zero32_len
    have BE := Lib.hid (below_setCells' (B := w.heap.size) (w.heap.size + 1) (by omega) (hc zero32) 0 S0.out.below)
    clear heq S0
    go_enter Tryd.func31, Tryd.ntmps31
    repeat (first | go_values | go_skip | go_guarded | go_step | go_upon | go_back)
    refine bodyPost_ret (v := .tuple #[.agg (hc zero32).toArray, .int .i64 1]) (by simp [results, Tryd.results31, go_sem, hput, z32]) rfl ⟨by rw [HE.out], BE.out⟩
end Go.Proofs.YtjlodnecdngdfaaDoor
namespace Go.Proofs.YtjlodnecdngdfaaDoor
open Go.RowKit
set_option maxRecDepth 100000

theorem sp0_app_lt {L : List Sp} {s : Sp} {j : Nat} (h : j < L.length) : (L ++ [s]).getD j sp0 = L.getD j sp0 := by simp [List.getD, List.getElem?_append_left h]
theorem sp0_app_eq {L : List Sp} {s : Sp} : (L ++ [s]).getD L.length sp0 = s := by simp [List.getD]
theorem wkO_snoc {L : List Sp} {Ns : List (List Int)} {s : Sp} {N : List Int} (hl : L.length = Ns.length) : ∀ (n i : Nat) (R R' : List Int), i + n = L.length → wkO L Ns n i R = (R', 0) → stE R' s = 0 → wkO (L ++ [s]) (Ns ++ [N]) (n + 1) i R = (stH R' s N, 0)
  | 0, i, R, R', hi, hw, he => by
    obtain rfl : R = R' := by simpa [wkO] using hw
    obtain rfl : i = L.length := by omega
    unfold wkO
    rw [sp0_app_eq, if_pos he]
    have : (Ns ++ [N]).getD L.length [] = N := by rw [hl]; simp [List.getD]
    rw [this]; rfl
  | n + 1, i, R, R', hi, hw, he => by
    have hlt : i < L.length := by omega
    unfold wkO
    rw [sp0_app_lt hlt]
    unfold wkO at hw
    by_cases h : stE R (L.getD i sp0) = 0
    · rw [if_pos h] at hw ⊢
      have e : (Ns ++ [N]).getD i [] = Ns.getD i [] := by simp [List.getD, List.getElem?_append_left (show i < Ns.length by omega)]
      rw [e]
      exact wkO_snoc hl n (i + 1) _ R' (by omega) hw he
    · rw [if_neg h] at hw
      have := (Prod.mk.inj hw).2
      exact absurd this h
theorem walkR_snoc {L : List Sp} {Ns : List (List Int)} {s : Sp} {N G R' : List Int} (hl : L.length = Ns.length) (hw : walkR G L Ns = (R', 0)) (he : stE R' s = 0) : walkR G (L ++ [s]) (Ns ++ [N]) = (stH R' s N, 0) := by
  unfold walkR at hw ⊢
  rw [if_pos hl] at hw
  rw [if_pos (by simp [hl]), List.length_append, List.length_singleton]
  exact wkO_snoc hl _ 0 G R' (by omega) hw he
theorem walkR_nil (G : List Int) : walkR G [] [] = (G, 0) := rfl
/-- A step of a map's own proof. -/
theorem PvN.step {E E' : List En} {K N M : List Int} {Ss : List (List Int)} (h : PvN (vOf E) (E.map (·.k)) K 256 M Ss) (hE : EnW E) (hE' : EnW E') (hK : KyOk K) (hv : ∀ k, vOf E' k = if k = K then N else vOf E k) :
    stE (rootE E) ⟨K, vOf E K, M, Ss⟩ = 0 ∧ stH (rootE E) ⟨K, vOf E K, M, Ss⟩ N = rootE E' := by
  have h1 : ckS (rootE E) K (vOf E K) M Ss = true := by rw [h.check hE hK]; simp
  have h2 : vOf E' K = N := by rw [hv K, if_pos rfl]
  constructor
  · show updE (rootE E) K (vOf E K) M Ss = 0
    unfold updE
    rw [if_pos h.ok, if_pos h1]
  · show updH (rootE E) K (vOf E K) N M Ss = rootE E'
    unfold updH
    rw [if_pos h.ok, if_pos h1, ← h2]
    exact h.rootOf hE hE' hK (fun k hk => by rw [hv k, if_neg hk])
theorem PvN.spOk {E : List En} {K M : List Int} {Ss : List (List Int)} (h : PvN (vOf E) (E.map (·.k)) K 256 M Ss) (hE : EnW E) (hK : KyOk K) : Sp.ok ⟨K, vOf E K, M, Ss⟩ :=
  ⟨hK.len, (vOf_ok hE.b K).1, h.ky.len, hK.by_, (vOf_ok hE.b K).2, h.ky.by_, h.hs, by have := h.len; show Ss.length * 32 ≤ _; omega⟩
section
variable {w wr w' : World} {v : Value} {L : List Sp} {Q : Nat → Option Addr × Nat}
/-- The sides of a step. -/
def sv (L : List Sp) (Q : Nat → Option Addr × Nat) (j : Nat) : Value := .slice (Q j).1 (L.getD j sp0).sides.length (Q j).2
theorem OwP.chg {S : List Nat} {k : Nat} (h : OwP w wr v L k Q) (hc : Chg wr w' S) (hS : ∀ g ∈ S, w.heap.size ≤ g) (hv : ∀ g, v.ownBlock = some g → g ∉ S) (he : ∀ j, j < k → ∀ g, (sv L Q j).ownBlock = some g → g ∉ S) : OwP w w' v L k Q :=
  ⟨own_chg2 h.own hc hv, fun j hj => (h.each j hj).chg hc hS (he j hj), h.fresh, h.below.trans (hc.toBelow h.below.size hS)⟩
end
/-- A map, its first root, steps, new values. -/
structure TrM (w1 wr : World) (p m c : Nat) (E : List En) (top : Option Addr) (bl : List Nat) (rb : Nat) (R : List Int) (vs : Value) (L : List Sp) (Q : Nat → Option Addr × Nat) (vn : Value) (Ns : List (List Int)) : Prop where
  map : MpW w1 wr p m E c top bl
  hr : HashAt wr rb R
  nr : rb ∉ p :: m :: bl
  lr : w1.heap.size ≤ rb
  st : OwP w1 wr vs L L.length Q
  ns : ∀ g, vs.ownBlock = some g → g ∉ p :: m :: bl
  ne : ∀ j, j < L.length → ∀ g, (sv L Q j).ownBlock = some g → g ∉ p :: m :: bl ∧ vn.ownBlock ≠ some g
  nw : HsS w1 wr vn Ns
  nn : ∀ g, vn.ownBlock = some g → g ∉ p :: m :: bl ∧ ¬ g = rb
section
variable {w1 wr w' : World} {p m c : Nat} {E : List En} {top : Option Addr} {bl : List Nat} {rb : Nat} {R : List Int} {vs vn : Value} {L : List Sp} {Q : Nat → Option Addr × Nat} {Ns : List (List Int)}
theorem TrM.chg {S : List Nat} (h : TrM w1 wr p m c E top bl rb R vs L Q vn Ns) (hc : Chg wr w' S) (hS : ∀ g ∈ S, g ∈ p :: m :: bl) (hm : MpW w1 w' p m E c top bl) : TrM w1 w' p m c E top bl rb R vs L Q vn Ns :=
  ⟨hm, h.hr.chg' hc (fun hi => h.nr (hS _ hi)), h.nr, h.lr, h.st.chg hc (fun g hg => (h.map.noin g (hS g hg)).1) (fun g hg hi => h.ns g hg (hS g hi)) (fun j hj g hg hi => (h.ne j hj g hg).1 (hS g hi)), h.ns, h.ne, h.nw.chg hc (fun g hg => (h.map.noin g (hS g hg)).1) (fun g hg hi => (h.nn g hg).1 (hS g hi)), h.nn⟩
theorem TrM.on (h : TrM w1 wr p m c E top bl rb R vs L Q vn Ns) (hb : Below wr.heap.size wr w') : TrM w1 w' p m c E top bl rb R vs L Q vn Ns :=
  h.chg (Chg.below hb (Nat.le_refl _) []) (by simp) (h.map.on hb)
theorem TrM.root (h : TrM w1 wr p m c E top bl rb R vs L Q vn Ns) (hc : Chg wr w' bl) (hm : MapS w' p m E c top bl) : TrM w1 w' p m c E top bl rb R vs L Q vn Ns :=
  h.chg hc (fun g hg => by simp [hg]) (h.map.chg hc hm)
theorem OwP.lt {k : Nat} (h : OwP w1 wr vs L k Q) {j : Nat} (hj : j < k) {g : Nat} (hg : (sv L Q j).ownBlock = some g) : g < wr.heap.size := own_lt (h.each j hj).own hg
theorem TrM.put {K V : List Int} {e : Ending} (h : TrM w1 wr p m c E top bl rb R vs L Q vn Ns) (hq : PutQ wr p m E bl K V e w') :
    e = .returned (.int .i64 0) ∧ ∃ E' c' top' bl', TrM w1 w' p m c' E' top' bl' rb R vs L Q vn Ns ∧ (∀ k, vOf E' k = if k = K then V else vOf E k) ∧ E'.length ≤ E.length + 1 := by
  obtain ⟨he, hc, E2, c2, top2, bl2, hm2, hin, hv2, h2, _⟩ := hq
  have hI : ∀ g, g < wr.heap.size → g ∉ p :: m :: bl → g ∉ p :: m :: bl2 := fun g hl hg hi => by
    rcases List.mem_cons.1 hi with rfl | hi
    · exact hg (by simp)
    · rcases List.mem_cons.1 hi with rfl | hi
      · exact hg (by simp)
      · rcases hin g hi with hi | hi
        · exact hg (by simp [hi])
        · omega
  have hS : ∀ g ∈ p :: m :: bl, w1.heap.size ≤ g := fun k hk => (h.map.noin k hk).1
  have hm3 : MpW w1 w' p m E2 c2 top2 bl2 := ⟨hm2, h.map.below.trans (hc.toBelow h.map.below.size hS), h.map.pg, h.map.mg, fun g hg => by
    rcases hin g hg with hg | hg
    · exact h.map.bg g hg
    · have := h.map.below.size; omega⟩
  exact ⟨he, E2, c2, top2, bl2, ⟨hm3, h.hr.chg' hc h.nr, hI _ h.hr.lt h.nr, h.lr, h.st.chg hc hS h.ns (fun j hj g hg => (h.ne j hj g hg).1), fun g hg => hI g (own_lt h.st.own hg) (h.ns g hg),
    fun j hj g hg => ⟨hI g (h.st.lt hj hg) (h.ne j hj g hg).1, (h.ne j hj g hg).2⟩, h.nw.chg hc hS (fun g hg => (h.nn g hg).1), fun g hg => ⟨hI g (own_lt h.nw.own hg) (h.nn g hg).1, (h.nn g hg).2⟩⟩, hv2, h2⟩
theorem MpW.grown {row : Option Nat} (h : MpW w1 wr p m E c top bl) (hg : wr.grownBy w' row) (hr : ∀ g, row = some g → w1.heap.size ≤ g ∧ g ∉ p :: m :: bl) : MpW w1 w' p m E c top bl := by
  have hc : Chg wr w' row.toList := Chg.grown hg (fun k hk => by simp [hk])
  have hn : ∀ g ∈ p :: m :: bl, g ∉ row.toList := fun g hin hm => (hr g (by simpa using hm)).2 hin
  exact ⟨h.map.chg hc (hn p (by simp)) (hn m (by simp)) (fun g hg => hn g (by simp [hg])), h.below.trans (hc.toBelow h.below.size (fun k hk => (hr k (by simpa using hk)).1)), h.pg, h.mg, h.bg⟩
/-- A step more. -/
theorem TrM.step {s : Sp} {q' q6 : Option Addr} {k' k6 n : Nat} (h : TrM w1 wr p m c E top bl rb R vs L Q vn Ns) (hn : n = L.length) (hs : HsS w1 wr (.slice q' s.sides.length k') s.sides) (hf : ∀ g, (Value.slice q' s.sides.length k').ownBlock = some g → g ∉ p :: m :: bl ∧ vn.ownBlock ≠ some g)
    (own : w'.ownsRow 0 68 97 (.slice q6 (n + 1) k6) (n + 1) (rowsN (spF L Q) n ++ spRow s (.slice q' s.sides.length k'))) (grow : wr.grownBy w' vs.ownBlock) (fr : (Value.slice q6 (n + 1) k6).ownBlock = vs.ownBlock ∨ (Value.slice q6 (n + 1) k6).ownBlock = some wr.heap.size) :
    TrM w1 w' p m c E top bl rb R (.slice q6 (n + 1) k6) (L ++ [s]) (fun j => if j = L.length then (q', k') else Q j) vn Ns := by
  subst hn
  have hc : Chg wr w' vs.ownBlock.toList := Chg.grown grow (fun k hk => by simp [hk])
  have hB : Below w1.heap.size w1 w' := h.st.below.grown grow h.st.below.size (fun g hg => h.st.fresh g hg)
  have e1 : ∀ j, j < L.length → spF (L ++ [s]) (fun j => if j = L.length then (q', k') else Q j) j = spF L Q j := fun j hj => by
    unfold spF
    rw [sp0_app_lt hj]; simp [show ¬ j = L.length by omega]
  have e2 : spF (L ++ [s]) (fun j => if j = L.length then (q', k') else Q j) L.length = spRow s (.slice q' s.sides.length k') := by
    unfold spF
    rw [sp0_app_eq]; simp
  have e3 : ∀ j, j < L.length → sv (L ++ [s]) (fun j => if j = L.length then (q', k') else Q j) j = sv L Q j := fun j hj => by
    unfold sv
    rw [sp0_app_lt hj]; simp [show ¬ j = L.length by omega]
  have e4 : sv (L ++ [s]) (fun j => if j = L.length then (q', k') else Q j) L.length = .slice q' s.sides.length k' := by
    unfold sv
    rw [sp0_app_eq]; simp
  have hl : (L ++ [s]).length = L.length + 1 := by simp
  refine ⟨h.map.grown grow (fun g hg => ⟨h.st.fresh g hg, h.ns g hg⟩), h.hr.chg' hc (fun hi => own_ne h.st.own h.hr (by decide) (by simpa using hi)), h.nr, h.lr, ?_, ?_, ?_, ?_, h.nn⟩
  · refine ⟨?_, fun j hj => ?_, ?_, hB⟩
    · rw [hl, rowsN, e2, rowsN_cong L.length e1]; exact own
    · rw [hl] at hj
      by_cases e : j = L.length
      · have hk := hs.keep h.st.own grow hB
        have := e4
        unfold sv at this
        rw [e, this, sp0_app_eq]; exact hk
      · have hk := (h.st.each j (by omega)).keep h.st.own grow hB
        have := e3 j (by omega)
        unfold sv at this
        rw [this, sp0_app_lt (by omega)]; exact hk
    · intro g hg
      rcases fr with e | e
      · rw [e] at hg; exact h.st.fresh g hg
      · rw [e] at hg; have := h.st.below.size; simp at hg; omega
  · intro g hg
    rcases fr with e | e
    · rw [e] at hg; exact h.ns g hg
    · rw [e] at hg; intro hi; have := (h.map.noin g hi).2; simp at hg; omega
  · intro j hj g hg
    rw [hl] at hj
    by_cases e : j = L.length
    · rw [e, e4] at hg; exact hf g hg
    · rw [e3 j (by omega)] at hg; exact h.ne j (by omega) g hg
  · exact h.nw.keep h.st.own grow hB
/-- A new value more. -/
theorem TrM.now {N : List Int} {q6 : Option Addr} {k6 n : Nat} (h : TrM w1 wr p m c E top bl rb R vs L Q vn Ns) (hn : n = Ns.length) (lN : N.length = 32) (bN : Bytes N)
    (own : w'.ownsRow 0 24 32 (.slice q6 (n + 1) k6) (n + 1) (hcs Ns ++ hcs [N])) (grow : wr.grownBy w' vn.ownBlock) (fr : (Value.slice q6 (n + 1) k6).ownBlock = vn.ownBlock ∨ (Value.slice q6 (n + 1) k6).ownBlock = some wr.heap.size) :
    TrM w1 w' p m c E top bl rb R vs L Q (.slice q6 (n + 1) k6) (Ns ++ [N]) := by
  subst hn
  have hc : Chg wr w' vn.ownBlock.toList := Chg.grown grow (fun k hk => by simp [hk])
  have hlo : ∀ g ∈ vn.ownBlock.toList, w1.heap.size ≤ g := fun g hg => h.nw.fresh g (by simpa using hg)
  have hnw := h.nw.grow (HsOk.one lN bN) rfl own grow fr
  refine ⟨h.map.grown grow (fun g hg => ⟨h.nw.fresh g hg, (h.nn g hg).1⟩), h.hr.chg' hc (fun hi => (h.nn rb (by simpa using hi)).2 rfl), h.nr, h.lr, ?_, h.ns, ?_, hnw, ?_⟩
  · exact h.st.chg hc hlo (fun g hg hi => own_two h.st.own h.nw.own (by decide) hg (by simpa using hi)) (fun j hj g hg hi => (h.ne j hj g hg).2 (by simpa using hi))
  · intro j hj g hg
    refine ⟨(h.ne j hj g hg).1, fun e => ?_⟩
    rcases fr with e' | e'
    · rw [e'] at e; exact (h.ne j hj g hg).2 e
    · rw [e'] at e; have := h.st.lt hj hg; simp at e; omega
  · intro g hg
    rcases fr with e' | e'
    · rw [e'] at hg; exact h.nn g hg
    · rw [e'] at hg
      obtain rfl : wr.heap.size = g := by simpa using hg
      exact ⟨fun hi => by have := (h.map.noin _ hi).2; omega, fun e => by have := h.hr.lt; omega⟩
end
end Go.Proofs.YtjlodnecdngdfaaDoor
