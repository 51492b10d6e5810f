/-
  The root behind steps, in the document.; The law's Same of steps and their copy.
-/
import Derived.Test.YtjgfjmkfcippcaaDoorMb14
namespace Go.Proofs.YtjgfjmkfcippcaaDoor
set_option maxRecDepth 100000
open Go.RowKit

set_option maxHeartbeats 16000000 in
theorem rWalk_any {w : World} {G : List Int} {q qn : Option Addr} {c cn : Nat} {L : List Sp} {Ns : List (List Int)} (hG : G.length = 32) (hs : RdSp w q L) (ok : SpOk L) (hl : L.length ≤ 12) (hsn : RdHs w qn Ns) (okn : HsOk Ns) (hnn : Ns.length ≤ 140737488355328) :
    Calls Tryd.prog 34 #[.agg (hc G).toArray, .slice q L.length c, .slice qn Ns.length cn] w fun e w' => e = .returned (.tuple #[.agg (hc (walkR G L Ns).1).toArray, .int .i64 (walkR G L Ns).2]) ∧ Below w.heap.size w w' := by
  have H1 := HashAt.new (w.alloc (.cells (hc G).toArray 23)) zero32
  simp only [World.size_alloc] at H1
  have S0 : Hid (WkS w ((w.alloc (.cells (hc G).toArray 23)).alloc (.cells (hc zero32).toArray 23)) G) := ⟨((Below.refl w.heap.size w).alloc (Nat.le_refl _) _).alloc (by simp) _, (HashAt.new w G).alloc _, H1⟩
  have HS : Hid (∀ W, Below w.heap.size w W → RdSp W q L) := fun W hb => hs.on ok hb
  have HN : Hid (∀ W, Below w.heap.size w W → RdHs W qn Ns) := fun W hb => hsn.on (fun i hi => (okn.get i hi).1) hb
  have OK := Lib.hid ok
  have OKN := Lib.hid okn

  have hlG := hc_len G
  have z32 := zero32_len
  have thA := S0.out.hA.there zero32_len
  clear H1 hs ok hsn okn
  by_cases heq : L.length = Ns.length
  · have HE := Lib.hid (show walkR G L Ns = wkO L Ns L.length 0 G by unfold walkR; rw [if_pos heq])
    have HQ := Lib.hid heq
    obtain ⟨n, hn⟩ : ∃ n, L.length = n := ⟨_, rfl⟩
    have HLn := Lib.hid hn
    have HNn := Lib.hid (show Ns.length = n by rw [← heq, hn])
    rw [show Ns.length = n by rw [← heq, hn]] at hnn
    rw [hn] at hl HE
    have hL2 : (Value.slice q L.length c) = .slice q n c := by rw [hn]
    have hN2 : (Value.slice qn Ns.length cn) = .slice qn n cn := by rw [← heq, hn]
    rw [hL2, hN2]
    clear hL2 hN2 hn heq thA
    go_enter Tryd.func34, Tryd.ntmps34
    go_wp2_with fail
    generalize (w.alloc (.cells (hc G).toArray 23)).alloc (.cells (hc zero32).toArray 23) = w1 at *
    go_loopw [8] (fun iv wr => ∃ (i : Nat) (R : List Int), iv = .int .i64 (i : Int) ∧ i ≤ n ∧ R.length = 32 ∧ Hid (wkO L Ns (n - i) i R = wkO L Ns n 0 G) ∧ Hid (WkS w wr R)) (fun iv _ => n - (intOf iv).toNat)
    case atStart => exact ⟨0, G, rfl, by omega, hG, rfl, S0⟩
    case round =>
      clear S0
      obtain ⟨i, R, rfl, hi, lR, hO, hS⟩ := hrel
      have hlR := hc_len R
      by_cases hlt : i < n
      · have hiL : i < L.length := by rw [HLn.out]; exact hlt
        have hiN : i < Ns.length := by rw [HNn.out]; exact hlt
        have HO := Lib.hid (show wkO L Ns (n - i) i R = if stE R (L.getD i sp0) = 0 then wkO L Ns (n - (i + 1)) (i + 1) (stH R (L.getD i sp0) (Ns.getD i [])) else (zero32, stE R (L.getD i sp0)) by rw [show n - i = (n - (i + 1)) + 1 by omega, wkO])
        have oks := OK.out.get hiL
        obtain ⟨lN, bN0⟩ := OKN.out.get i hiN
        have bN := Lib.hid bN0
        obtain ⟨b, off, rfl, hx⟩ := (HS.out _ hS.out.below).resolve_left (fun e => by rw [e] at hiL; simp at hiL)
        obtain ⟨qi, ki, r97, rh⟩ := hx i hiL
        obtain ⟨bn, offn, rfl, hxn⟩ := (HN.out _ hS.out.below).resolve_left (fun e => by rw [e] at hiN; simp at hiN)
        have rn := hxn i hiN
        obtain ⟨s, hsx⟩ : ∃ s, L.getD i sp0 = s := ⟨_, rfl⟩
        obtain ⟨N, hNx⟩ : ∃ N, Ns.getD i [] = N := ⟨_, rfl⟩
        rw [hsx] at r97 rh oks HO
        rw [hNx] at rn lN bN HO
        have OKS := Lib.hid oks
        have lk := oks.key
        have lo := oks.old
        have lm := oks.mask
        have hlk := hc_len s.key
        have hlo := hc_len s.old
        have hlN := hc_len N
        have hlp := pfRow_len oks.mask (.slice qi s.sides.length ki)
        have hns := oks.n32
        have RN : Hid (∀ W, Below wr.heap.size wr W → rowOf W bn (offn + i * 32) 32 = hc N) := fun W hb => by rw [rowOf_on (by rw [rn, hc_len, lN]; omega) hb]; exact rn
        have RH : Hid (∀ W, Below wr.heap.size wr W → RdHs W qi s.sides) := fun W hb => rh.on (fun j hj => (oks.hs.get j hj).1) hb
        have R9 : Hid (∀ W, Below wr.heap.size wr W → rowOf W b (off + i * 97) 97 = spRow s (.slice qi s.sides.length ki)) := fun W hb => by rw [rowOf_on (by rw [r97, spRow_len oks]; omega) hb]; exact r97
        have T := hS
        clear hx hxn rn rh oks bN0 hsx hNx hS r97
        go_wp2_with fail
        obtain ⟨w4, hw4⟩ : ∃ w4 : World, w4 = wr := ⟨_, rfl⟩
        rw [← hw4] at T RN RH R9 ⊢
        clear hw4
        refine wp_region_held_drew (S := fun W => Below w4.drew.heap.size w4.drew W) (by kernel_rfl) (Below.refl _ _) (fun h0 => ?_)
        replace T := Lib.hid (T.out.on ((Below.refl _ _).drew))
        replace RN : Hid (∀ W, Below w4.drew.heap.size w4.drew W → rowOf W bn (offn + i * 32) 32 = hc N) := fun W hb => RN.out W (((Below.refl _ _).drew).trans hb)
        replace RH : Hid (∀ W, Below w4.drew.heap.size w4.drew W → RdHs W qi s.sides) := fun W hb => RH.out W (((Below.refl _ _).drew).trans hb)
        replace R9 : Hid (∀ W, Below w4.drew.heap.size w4.drew W → rowOf W b (off + i * 97) 97 = spRow s (.slice qi s.sides.length ki)) := fun W hb => R9.out W (((Below.refl _ _).drew).trans hb)
        generalize w4.drew = w4 at *
        refine wpAnyH_take (i := 0) (v := ?_) (by rw [List.getElem?_toArray]; rfl) (by kernel_rfl) (by kernel_rfl) (by kernel_rfl) (by exact fun _ _ _ h => h) (Or.inl ⟨by rfl, ?_⟩) h0 ?_
        rotate_left
        · intro W hW
          have cc := (T.out.on hW).hR.row lR
          go_simp
          all_goals with_reducible rfl
        try simp only [Act.put, List.setIfInBounds_toArray, List.set_cons_zero, List.set_cons_succ]
        refine wpAnyH_take (i := 1) (v := ?_) (by rw [List.getElem?_toArray]; rfl) (by kernel_rfl) (by kernel_rfl) (by kernel_rfl) (by exact fun _ _ _ h => h) (Or.inl ⟨by rfl, ?_⟩) h0 ?_
        rotate_left
        · intro W hW
          go_simp
          all_goals with_reducible rfl
        try simp only [Act.put, List.setIfInBounds_toArray, List.set_cons_zero, List.set_cons_succ]
        refine wpAnyH_take (i := 2) (v := ?_) (by rw [List.getElem?_toArray]; rfl) (by kernel_rfl) (by kernel_rfl) (by kernel_rfl) (by exact fun _ _ _ h => h) (Or.inl ⟨by rfl, ?_⟩) h0 ?_
        rotate_left
        · intro W hW
          go_simp
          all_goals with_reducible rfl
        try simp only [Act.put, List.setIfInBounds_toArray, List.set_cons_zero, List.set_cons_succ]
        refine wpAnyH_take (i := 3) (v := ?_) (by rw [List.getElem?_toArray]; rfl) (by kernel_rfl) (by kernel_rfl) (by kernel_rfl) (by exact fun _ _ _ h => h) (Or.inl ⟨by rfl, ?_⟩) h0 ?_
        rotate_left
        · intro W hW
          go_simp
          all_goals with_reducible rfl
        try simp only [Act.put, List.setIfInBounds_toArray, List.set_cons_zero, List.set_cons_succ]
        refine wpAnyH_take (i := 4) (v := ?_) (by rw [List.getElem?_toArray]; rfl) (by kernel_rfl) (by kernel_rfl) (by kernel_rfl) (by exact fun _ _ _ h => h) (Or.inl ⟨by rfl, ?_⟩) h0 ?_
        rotate_left
        · intro W hW
          go_simp
          all_goals with_reducible rfl
        try simp only [Act.put, List.setIfInBounds_toArray, List.set_cons_zero, List.set_cons_succ]
        refine wpAnyH_take (i := 5) (v := ?_) (by rw [List.getElem?_toArray]; rfl) (by kernel_rfl) (by kernel_rfl) (by kernel_rfl) (by exact fun _ _ _ h => h) (Or.inl ⟨by rfl, ?_⟩) h0 ?_
        rotate_left
        · intro W hW
          have h9 := R9.out W hW
          have cc := sp_key OKS.out h9
          go_simp
          all_goals with_reducible rfl
        try simp only [Act.put, List.setIfInBounds_toArray, List.set_cons_zero, List.set_cons_succ]
        refine wpAnyH_take (i := 6) (v := ?_) (by rw [List.getElem?_toArray]; rfl) (by kernel_rfl) (by kernel_rfl) (by kernel_rfl) (by exact fun _ _ _ h => h) (Or.inl ⟨by rfl, ?_⟩) h0 ?_
        rotate_left
        · intro W hW
          go_simp
          all_goals with_reducible rfl
        try simp only [Act.put, List.setIfInBounds_toArray, List.set_cons_zero, List.set_cons_succ]
        refine wpAnyH_take (i := 7) (v := ?_) (by rw [List.getElem?_toArray]; rfl) (by kernel_rfl) (by kernel_rfl) (by kernel_rfl) (by exact fun _ _ _ h => h) (Or.inl ⟨by rfl, ?_⟩) h0 ?_
        rotate_left
        · intro W hW
          go_simp
          all_goals with_reducible rfl
        try simp only [Act.put, List.setIfInBounds_toArray, List.set_cons_zero, List.set_cons_succ]
        refine wpAnyH_take (i := 8) (v := ?_) (by rw [List.getElem?_toArray]; rfl) (by kernel_rfl) (by kernel_rfl) (by kernel_rfl) (by exact fun _ _ _ h => h) (Or.inl ⟨by rfl, ?_⟩) h0 ?_
        rotate_left
        · intro W hW
          go_simp
          all_goals with_reducible rfl
        try simp only [Act.put, List.setIfInBounds_toArray, List.set_cons_zero, List.set_cons_succ]
        refine wpAnyH_take (i := 9) (v := ?_) (by rw [List.getElem?_toArray]; rfl) (by kernel_rfl) (by kernel_rfl) (by kernel_rfl) (by exact fun _ _ _ h => h) (Or.inl ⟨by rfl, ?_⟩) h0 ?_
        rotate_left
        · intro W hW
          go_simp
          all_goals with_reducible rfl
        try simp only [Act.put, List.setIfInBounds_toArray, List.set_cons_zero, List.set_cons_succ]
        refine wpAnyH_take (i := 10) (v := ?_) (by rw [List.getElem?_toArray]; rfl) (by kernel_rfl) (by kernel_rfl) (by kernel_rfl) (by exact fun _ _ _ h => h) (Or.inl ⟨by rfl, ?_⟩) h0 ?_
        rotate_left
        · intro W hW
          have h9 := R9.out W hW
          have cc := sp_old OKS.out h9
          go_simp
          all_goals with_reducible rfl
        try simp only [Act.put, List.setIfInBounds_toArray, List.set_cons_zero, List.set_cons_succ]
        refine wpAnyH_take (i := 11) (v := ?_) (by rw [List.getElem?_toArray]; rfl) (by kernel_rfl) (by kernel_rfl) (by kernel_rfl) (by exact fun _ _ _ h => h) (Or.inl ⟨by rfl, ?_⟩) h0 ?_
        rotate_left
        · intro W hW
          go_simp
          all_goals with_reducible rfl
        try simp only [Act.put, List.setIfInBounds_toArray, List.set_cons_zero, List.set_cons_succ]
        refine wpAnyH_take (i := 12) (v := ?_) (by rw [List.getElem?_toArray]; rfl) (by kernel_rfl) (by kernel_rfl) (by kernel_rfl) (by exact fun _ _ _ h => h) (Or.inl ⟨by rfl, ?_⟩) h0 ?_
        rotate_left
        · intro W hW
          go_simp
          all_goals with_reducible rfl
        try simp only [Act.put, List.setIfInBounds_toArray, List.set_cons_zero, List.set_cons_succ]
        refine wpAnyH_take (i := 13) (v := ?_) (by rw [List.getElem?_toArray]; rfl) (by kernel_rfl) (by kernel_rfl) (by kernel_rfl) (by exact fun _ _ _ h => h) (Or.inl ⟨by rfl, ?_⟩) h0 ?_
        rotate_left
        · intro W hW
          go_simp
          all_goals with_reducible rfl
        try simp only [Act.put, List.setIfInBounds_toArray, List.set_cons_zero, List.set_cons_succ]
        refine wpAnyH_take (i := 14) (v := ?_) (by rw [List.getElem?_toArray]; rfl) (by kernel_rfl) (by kernel_rfl) (by kernel_rfl) (by exact fun _ _ _ h => h) (Or.inl ⟨by rfl, ?_⟩) h0 ?_
        rotate_left
        · intro W hW
          have cc := RN.out W hW
          go_simp
          all_goals with_reducible rfl
        try simp only [Act.put, List.setIfInBounds_toArray, List.set_cons_zero, List.set_cons_succ]
        refine wpAnyH_take (i := 15) (v := ?_) (by rw [List.getElem?_toArray]; rfl) (by kernel_rfl) (by kernel_rfl) (by kernel_rfl) (by exact fun _ _ _ h => h) (Or.inl ⟨by rfl, ?_⟩) h0 ?_
        rotate_left
        · intro W hW
          go_simp
          all_goals with_reducible rfl
        try simp only [Act.put, List.setIfInBounds_toArray, List.set_cons_zero, List.set_cons_succ]
        refine wpAnyH_take (i := 16) (v := ?_) (by rw [List.getElem?_toArray]; rfl) (by kernel_rfl) (by kernel_rfl) (by kernel_rfl) (by exact fun _ _ _ h => h) (Or.inl ⟨by rfl, ?_⟩) h0 ?_
        rotate_left
        · intro W hW
          go_simp
          all_goals with_reducible rfl
        try simp only [Act.put, List.setIfInBounds_toArray, List.set_cons_zero, List.set_cons_succ]
        refine wpAnyH_take (i := 17) (v := ?_) (by rw [List.getElem?_toArray]; rfl) (by kernel_rfl) (by kernel_rfl) (by kernel_rfl) (by exact fun _ _ _ h => h) (Or.inl ⟨by rfl, ?_⟩) h0 ?_
        rotate_left
        · intro W hW
          go_simp
          all_goals with_reducible rfl
        try simp only [Act.put, List.setIfInBounds_toArray, List.set_cons_zero, List.set_cons_succ]
        refine wpAnyH_take (i := 18) (v := ?_) (by rw [List.getElem?_toArray]; rfl) (by kernel_rfl) (by kernel_rfl) (by kernel_rfl) (by exact fun _ _ _ h => h) (Or.inl ⟨by rfl, ?_⟩) h0 ?_
        rotate_left
        · intro W hW
          go_simp
          all_goals with_reducible rfl
        try simp only [Act.put, List.setIfInBounds_toArray, List.set_cons_zero, List.set_cons_succ]
        refine wpAnyH_take (i := 19) (v := ?_) (by rw [List.getElem?_toArray]; rfl) (by kernel_rfl) (by kernel_rfl) (by kernel_rfl) (by exact fun _ _ _ h => h) (Or.inl ⟨by rfl, ?_⟩) h0 ?_
        rotate_left
        · intro W hW
          have h9 := R9.out W hW
          have cc := sp_pf OKS.out h9
          go_simp
          all_goals with_reducible rfl
        try simp only [Act.put, List.setIfInBounds_toArray, List.set_cons_zero, List.set_cons_succ]
        refine wpAnyH_ready (rs := [20, 24]) (by kernel_rfl) (by simp) ?_
        refine AllReadyH.cons (by rw [List.getElem?_toArray]; rfl) (fun K hK => ?_) (AllReadyH.cons (by rw [List.getElem?_toArray]; rfl) (fun K hK => ?_) AllReadyH.nil)
        · rw [if_pos (by rfl)]
          go_wp2_with fail
          refine (rUpdate_any (k := ki) lR lk lo lN lm OKS.out.bk OKS.out.bo bN.out OKS.out.bm (RH.out _ h0) OKS.out.hs (by omega)).mono ?_
          rintro e w6 ⟨rfl, hb6⟩
          have HI := Lib.hid (show stE R s = updE R s.key s.old s.mask s.sides from rfl)
          have HJ := Lib.hid (show stH R s N = updH R s.key s.old N s.mask s.sides from rfl)
          have lX := updH_len R s.key s.old N s.mask s.sides
          obtain ⟨X, hX⟩ : ∃ X, updH R s.key s.old N s.mask s.sides = X := ⟨_, rfl⟩
          obtain ⟨eX, hE⟩ : ∃ eX, updE R s.key s.old s.mask s.sides = eX := ⟨_, rfl⟩
          rw [hX] at lX HJ ⊢
          rw [hE] at HI ⊢
          clear hX hE
          have hlX := hc_len X
          have T6 := Lib.hid (T.out.on hb6)
          go_wp2_with fail
          refine hK.out _ _ (h0.trans hb6) (fun h6 => ?_)
          clear hK K
          try simp only [Act.put, List.setIfInBounds_toArray, List.set_cons_zero, List.set_cons_succ]
          refine wpAnyH_take (i := 21) (v := ?_) (by rw [List.getElem?_toArray]; rfl) (by kernel_rfl) (by kernel_rfl) (by kernel_rfl) (by exact fun _ _ _ h => h) (Or.inl ⟨by rfl, ?_⟩) h6 ?_
          rotate_left
          · intro W hW
            go_simp
            all_goals with_reducible rfl
          try simp only [Act.put, List.setIfInBounds_toArray, List.set_cons_zero, List.set_cons_succ]
          refine wpAnyH_take (i := 22) (v := ?_) (by rw [List.getElem?_toArray]; rfl) (by kernel_rfl) (by kernel_rfl) (by kernel_rfl) (by exact fun _ _ _ h => h) (Or.inl ⟨by rfl, ?_⟩) h6 ?_
          rotate_left
          · intro W hW
            go_simp
            all_goals with_reducible rfl
          try simp only [Act.put, List.setIfInBounds_toArray, List.set_cons_zero, List.set_cons_succ]
          refine wpAnyH_take (i := 23) (v := ?_) (by rw [List.getElem?_toArray]; rfl) (by kernel_rfl) (by kernel_rfl) (by kernel_rfl) (by exact fun _ _ _ h => h) (Or.inl ⟨by rfl, ?_⟩) h6 ?_
          rotate_left
          · intro W hW
            go_simp
            all_goals with_reducible rfl
          try simp only [Act.put, List.setIfInBounds_toArray, List.set_cons_zero, List.set_cons_succ]
          refine wpAnyH_ready (rs := [24]) (by kernel_rfl) (by simp) ?_
          refine AllReadyH.cons (by rw [List.getElem?_toArray]; rfl) (fun K hK => ?_) AllReadyH.nil
          rw [if_pos (by rfl)]
          have HX := Lib.hid (HashAt.new w6 zero32)
          have T1 := Lib.hid (T6.out.on ((Below.refl _ _).alloc (Nat.le_refl _) (.cells (hc zero32).toArray 23)))
          have hbx := T6.out.hA.lt
          have hbw := h6.size
          have B7 := h6.alloc h6.size (.cells (hc zero32).toArray 23)
          go_wp2_with fail
          refine hK.out _ _ (B7) (fun h7 => ?_)
          clear hK K
          try simp only [Act.put, List.setIfInBounds_toArray, List.set_cons_zero, List.set_cons_succ]
          obtain ⟨bx, hbq⟩ : ∃ bx, bx = w6.heap.size := ⟨_, rfl⟩
          rw [← hbq] at HX hbx hbw ⊢
          generalize w6.alloc (.cells (hc zero32).toArray 23) = w7 at *
          clear hbq
          refine wpAnyH_ready (rs := [25]) (by kernel_rfl) (by simp) ?_
          refine AllReadyH.cons (by rw [List.getElem?_toArray]; rfl) (fun K hK => ?_) AllReadyH.nil
          rw [if_pos (by rfl)]
          have thX := HX.out.there zero32_len
          have HX2 := Lib.hid (HX.out.put zero32_len lX)
          have T2 := Lib.hid (T1.out.others hbx 0 (hc X))
          have B8 : Below w4.heap.size w4 (w7.setCells bx 0 (hc X)) := below_setCells' _ hbw _ _ B7
          go_wp2_with fail
          refine hK.out _ _ (B8) (fun h8 => ?_)
          clear hK K
          try simp only [Act.put, List.setIfInBounds_toArray, List.set_cons_zero, List.set_cons_succ]
          refine wpAnyH_take (i := 26) (v := ?_) (by rw [List.getElem?_toArray]; rfl) (by kernel_rfl) (by kernel_rfl) (by kernel_rfl) (by exact fun _ _ _ h => h) (Or.inl ⟨by rfl, ?_⟩) h8 ?_
          rotate_left
          · intro W hW
            go_simp
            all_goals with_reducible rfl
          try simp only [Act.put, List.setIfInBounds_toArray, List.set_cons_zero, List.set_cons_succ]
          refine wpAnyH_done (by kernel_rfl) ?_ _
          clear thX B8 B7 T1 HX
          clear h8
          generalize w7.setCells bx 0 (hc X) = w8 at *
          by_cases he : eX = 0
          · have de : (eX != 0) = false := by rw [he]; rfl
            have rX := HX2.out.row lX
            have thR := T2.out.hR.there lR
            have T3 := Lib.hid (T2.out.put lR lX)
            have HO2 := Lib.hid (show wkO L Ns (n - (i + 1)) (i + 1) X = wkO L Ns n 0 G by rw [← hO.out, HO.out, HI.out, if_pos he, HJ.out])
            clear he T2 HX2
            go_wp2_with fail
            go_roundw
            case rel => exact ⟨i + 1, X, by go_num, by omega, lX, HO2, T3⟩
            case measure => simp [intOf]; omega
          · have de : (eX != 0) = true := by simpa using he
            have thA := T2.out.hA.there zero32_len
            have hput := (T2.out.hA.put zero32_len zero32_len).row zero32_len
            have BE := Lib.hid (below_setCells' (B := w.heap.size) (w.heap.size + 1) (by omega) (hc zero32) 0 T2.out.below)
            have HO2 := Lib.hid (show walkR G L Ns = (zero32, eX) by rw [HE.out, ← hO.out, HO.out, HI.out, if_neg he])
            clear he T2 HX2
            repeat (first | go_values | go_skip | go_guarded | go_step | go_upon | go_back)
            refine bodyPost_ret (v := .tuple #[.agg (hc zero32).toArray, .int .i64 eX]) (by simp [results, Tryd.results34, go_sem, hput, z32]) rfl ⟨by rw [HO2.out], BE.out⟩
        · rw [if_pos (by rfl)]
          have HX0 := Lib.hid (HashAt.new w4 zero32)
          have T5 := Lib.hid (T.out.on ((Below.refl _ _).alloc (Nat.le_refl _) (.cells (hc zero32).toArray 23)))
          have hbx := T.out.hA.lt
          have B5 := h0.alloc h0.size (.cells (hc zero32).toArray 23)
          go_wp2_with fail
          refine hK.out _ _ (B5) (fun h5 => ?_)
          clear hK K
          try simp only [Act.put, List.setIfInBounds_toArray, List.set_cons_zero, List.set_cons_succ]
          refine wpAnyH_ready (rs := [20]) (by kernel_rfl) (by simp) ?_
          refine AllReadyH.cons (by rw [List.getElem?_toArray]; rfl) (fun K hK => ?_) AllReadyH.nil
          rw [if_pos (by rfl)]
          go_wp2_with fail
          refine (rUpdate_any (k := ki) lR lk lo lN lm OKS.out.bk OKS.out.bo bN.out OKS.out.bm (RH.out _ B5) OKS.out.hs (by omega)).mono ?_
          rintro e w6 ⟨rfl, hb6⟩
          have HI := Lib.hid (show stE R s = updE R s.key s.old s.mask s.sides from rfl)
          have HJ := Lib.hid (show stH R s N = updH R s.key s.old N s.mask s.sides from rfl)
          have lX := updH_len R s.key s.old N s.mask s.sides
          obtain ⟨X, hX⟩ : ∃ X, updH R s.key s.old N s.mask s.sides = X := ⟨_, rfl⟩
          obtain ⟨eX, hE⟩ : ∃ eX, updE R s.key s.old s.mask s.sides = eX := ⟨_, rfl⟩
          rw [hX] at lX HJ ⊢
          rw [hE] at HI ⊢
          clear hX hE
          have hlX := hc_len X
          have T1 := Lib.hid (T5.out.on hb6)
          have HX := Lib.hid (HX0.out.on hb6)
          have B7 := B5.trans (hb6.mono B5.size)
          have hbw : w4.heap.size ≤ w4.heap.size := Nat.le_refl _
          go_wp2_with fail
          refine hK.out _ _ (B7) (fun h7 => ?_)
          clear hK K
          try simp only [Act.put, List.setIfInBounds_toArray, List.set_cons_zero, List.set_cons_succ]
          obtain ⟨w7, hw7⟩ : ∃ w7 : World, w7 = w6 := ⟨_, rfl⟩
          rw [← hw7] at HX T1 B7 h7 ⊢
          clear hw7
          refine wpAnyH_take (i := 21) (v := ?_) (by rw [List.getElem?_toArray]; rfl) (by kernel_rfl) (by kernel_rfl) (by kernel_rfl) (by exact fun _ _ _ h => h) (Or.inl ⟨by rfl, ?_⟩) h7 ?_
          rotate_left
          · intro W hW
            go_simp
            all_goals with_reducible rfl
          try simp only [Act.put, List.setIfInBounds_toArray, List.set_cons_zero, List.set_cons_succ]
          refine wpAnyH_take (i := 22) (v := ?_) (by rw [List.getElem?_toArray]; rfl) (by kernel_rfl) (by kernel_rfl) (by kernel_rfl) (by exact fun _ _ _ h => h) (Or.inl ⟨by rfl, ?_⟩) h7 ?_
          rotate_left
          · intro W hW
            go_simp
            all_goals with_reducible rfl
          try simp only [Act.put, List.setIfInBounds_toArray, List.set_cons_zero, List.set_cons_succ]
          refine wpAnyH_take (i := 23) (v := ?_) (by rw [List.getElem?_toArray]; rfl) (by kernel_rfl) (by kernel_rfl) (by kernel_rfl) (by exact fun _ _ _ h => h) (Or.inl ⟨by rfl, ?_⟩) h7 ?_
          rotate_left
          · intro W hW
            go_simp
            all_goals with_reducible rfl
          try simp only [Act.put, List.setIfInBounds_toArray, List.set_cons_zero, List.set_cons_succ]
          refine wpAnyH_ready (rs := [25]) (by kernel_rfl) (by simp) ?_
          refine AllReadyH.cons (by rw [List.getElem?_toArray]; rfl) (fun K hK => ?_) AllReadyH.nil
          rw [if_pos (by rfl)]
          have thX := HX.out.there zero32_len
          have HX2 := Lib.hid (HX.out.put zero32_len lX)
          have T2 := Lib.hid (T1.out.others hbx 0 (hc X))
          have B8 : Below w4.heap.size w4 (w7.setCells w4.heap.size 0 (hc X)) := below_setCells' _ hbw _ _ B7
          go_wp2_with fail
          refine hK.out _ _ (B8) (fun h8 => ?_)
          clear hK K
          try simp only [Act.put, List.setIfInBounds_toArray, List.set_cons_zero, List.set_cons_succ]
          refine wpAnyH_take (i := 26) (v := ?_) (by rw [List.getElem?_toArray]; rfl) (by kernel_rfl) (by kernel_rfl) (by kernel_rfl) (by exact fun _ _ _ h => h) (Or.inl ⟨by rfl, ?_⟩) h8 ?_
          rotate_left
          · intro W hW
            go_simp
            all_goals with_reducible rfl
          try simp only [Act.put, List.setIfInBounds_toArray, List.set_cons_zero, List.set_cons_succ]
          refine wpAnyH_done (by kernel_rfl) ?_ _
          clear thX B8 B7 T1 HX
          clear h8
          generalize w7.setCells w4.heap.size 0 (hc X) = w8 at *
          by_cases he : eX = 0
          · have de : (eX != 0) = false := by rw [he]; rfl
            have rX := HX2.out.row lX
            have thR := T2.out.hR.there lR
            have T3 := Lib.hid (T2.out.put lR lX)
            have HO2 := Lib.hid (show wkO L Ns (n - (i + 1)) (i + 1) X = wkO L Ns n 0 G by rw [← hO.out, HO.out, HI.out, if_pos he, HJ.out])
            clear he T2 HX2
            go_wp2_with fail
            go_roundw
            case rel => exact ⟨i + 1, X, by go_num, by omega, lX, HO2, T3⟩
            case measure => simp [intOf]; omega
          · have de : (eX != 0) = true := by simpa using he
            have thA := T2.out.hA.there zero32_len
            have hput := (T2.out.hA.put zero32_len zero32_len).row zero32_len
            have BE := Lib.hid (below_setCells' (B := w.heap.size) (w.heap.size + 1) (by omega) (hc zero32) 0 T2.out.below)
            have HO2 := Lib.hid (show walkR G L Ns = (zero32, eX) by rw [HE.out, ← hO.out, HO.out, HI.out, if_neg he])
            clear he T2 HX2
            repeat (first | go_values | go_skip | go_guarded | go_step | go_upon | go_back)
            refine bodyPost_ret (v := .tuple #[.agg (hc zero32).toArray, .int .i64 eX]) (by simp [results, Tryd.results34, go_sem, hput, z32]) rfl ⟨by rw [HO2.out], BE.out⟩
      · obtain rfl : i = n := by omega
        have HO2 := Lib.hid (show walkR G L Ns = (R, 0) by rw [HE.out, ← hO.out, Nat.sub_self]; rfl)
        have rR := hS.out.hR.row lR
        have thA := hS.out.hA.there zero32_len
        have hput := (hS.out.hA.put zero32_len lR).row lR
        have BE := Lib.hid (below_setCells' (B := w.heap.size) (w.heap.size + 1) (by omega) (hc R) 0 hS.out.below)
        clear hS hO
        repeat (first | go_values | go_skip | go_guarded | go_step | go_upon | go_back)
        refine bodyPost_ret (v := .tuple #[.agg (hc R).toArray, .int .i64 0]) (by simp [results, Tryd.results34, go_sem, hput, lR]) rfl ⟨by rw [HO2.out], BE.out⟩
  · have HE := Lib.hid (show walkR G L Ns = (zero32, 1) by unfold walkR; rw [if_neg heq])
    have dl : ((L.length : Int) != (Ns.length : Int)) = true := by simp; omega
    have hput := (S0.out.hA.put zero32_len zero32_len).row zero32_len
    have BE := Lib.hid (below_setCells' (B := w.heap.size) (w.heap.size + 1) (by omega) (hc zero32) 0 S0.out.below)
    clear heq S0
    go_enter Tryd.func34, Tryd.ntmps34
    repeat (first | go_values | go_skip | go_guarded | go_step | go_upon | go_back)
    refine bodyPost_ret (v := .tuple #[.agg (hc zero32).toArray, .int .i64 1]) (by simp [results, Tryd.results34, go_sem, hput, z32]) rfl ⟨by rw [HE.out], BE.out⟩
end Go.Proofs.YtjgfjmkfcippcaaDoor
namespace Go.Proofs.YtjgfjmkfcippcaaDoor
set_option maxRecDepth 100000
open Go.RowKit

set_option maxHeartbeats 16000000 in
theorem Same6_any {w : World} {q q' : Option Addr} {c c' : Nat} {L : List Sp} (hs : RdSp w q L) (hs' : RdSp w q' L) (ok : SpOk L) (hn : L.length ≤ 140737488355328) :
    Calls Tryd.prog 35 #[.slice q L.length c, .slice q' L.length c'] w fun e w' => e = .returned (.bool true) ∧ Below w.heap.size w w' := by
  have HA := Lib.hid hs
  have HB := Lib.hid hs'
  have OK := Lib.hid ok
  have S0 : Hid (Below w.heap.size w w) := Below.refl _ _
  clear hs hs' ok
  go_enter Tryd.func35, Tryd.ntmps35
  go_wp2_with fail
  go_loopw [5] (fun iv wr => ∃ i : Nat, iv = .int .i64 (i : Int) ∧ i ≤ L.length ∧ Hid (Below w.heap.size w wr)) (fun iv _ => L.length - (intOf iv).toNat)
  case atStart => exact ⟨0, rfl, by omega, S0⟩
  case round =>
    clear S0
    obtain ⟨i, rfl, hi, hS⟩ := hrel
    by_cases hlt : i < L.length
    · have hne : L ≠ [] := fun e => by rw [e] at hlt; simp at hlt
      obtain ⟨b, off, rfl, hx⟩ := HA.out.resolve_left hne
      obtain ⟨b', off', rfl, hx'⟩ := HB.out.resolve_left hne
      obtain ⟨qi, ki, r97, rh⟩ := hx i hlt
      obtain ⟨qj, kj, s97, sh⟩ := hx' i hlt
      have oks := OK.out.get hlt
      obtain ⟨s, hsx⟩ : ∃ s, L.getD i sp0 = s := ⟨_, rfl⟩
      rw [hsx] at r97 rh s97 sh oks
      have RK : Hid (∀ W, Below w.heap.size w W → rowOf W b (off + i * 97) 32 = hc s.key ∧ rowOf W b (off + i * 97 + 32) 32 = hc s.old ∧ rowOf W b (off + i * 97 + 64) 33 = pfRow s.mask (.slice qi s.sides.length ki) ∧ RdHs W qi s.sides) := fun W hb => by
        have h97 : rowOf W b (off + i * 97) 97 = spRow s (.slice qi s.sides.length ki) := by rw [rowOf_on (by rw [r97, spRow_len oks]; omega) hb]; exact r97
        exact ⟨sp_key oks h97, sp_old oks h97, sp_pf oks h97, rh.on (fun j hj => (oks.hs.get j hj).1) hb⟩
      have RJ : Hid (∀ W, Below w.heap.size w W → rowOf W b' (off' + i * 97) 32 = hc s.key ∧ rowOf W b' (off' + i * 97 + 32) 32 = hc s.old ∧ rowOf W b' (off' + i * 97 + 64) 33 = pfRow s.mask (.slice qj s.sides.length kj) ∧ RdHs W qj s.sides) := fun W hb => by
        have h97 : rowOf W b' (off' + i * 97) 97 = spRow s (.slice qj s.sides.length kj) := by rw [rowOf_on (by rw [s97, spRow_len oks]; omega) hb]; exact s97
        exact ⟨sp_key oks h97, sp_old oks h97, sp_pf oks h97, sh.on (fun j hj => (oks.hs.get j hj).1) hb⟩
      have OKS := Lib.hid oks
      have lk := oks.key
      have lo := oks.old
      have lm := oks.mask
      have hlk := hc_len s.key
      have hlo := hc_len s.old
      have hlp := pfRow_len oks.mask (.slice qi s.sides.length ki)
      have hlj := pfRow_len oks.mask (.slice qj s.sides.length kj)
      have dk : (s.key == s.key) = true := beq_self_eq_true _
      have dO : (s.old == s.old) = true := beq_self_eq_true _
      clear hx hx' hne r97 rh s97 sh oks hsx
      go_wp2_with fail
      refine wp_region_held_drew (S := fun W => Below w.heap.size w W) (by kernel_rfl) (hS.out.drew) (fun h0 => ?_)
      refine wpAnyH_take (i := 0) (v := ?_) (by rw [List.getElem?_toArray]; rfl) (by kernel_rfl) (by kernel_rfl) (by kernel_rfl) (by exact fun _ _ _ h => h) (Or.inl ⟨by rfl, ?_⟩) h0 ?_
      rotate_left
      · intro W hW
        go_simp
        all_goals with_reducible rfl
      try simp only [Act.put, List.setIfInBounds_toArray, List.set_cons_zero, List.set_cons_succ]
      refine wpAnyH_take (i := 1) (v := ?_) (by rw [List.getElem?_toArray]; rfl) (by kernel_rfl) (by kernel_rfl) (by kernel_rfl) (by exact fun _ _ _ h => h) (Or.inl ⟨by rfl, ?_⟩) h0 ?_
      rotate_left
      · intro W hW
        go_simp
        all_goals with_reducible rfl
      try simp only [Act.put, List.setIfInBounds_toArray, List.set_cons_zero, List.set_cons_succ]
      refine wpAnyH_take (i := 2) (v := ?_) (by rw [List.getElem?_toArray]; rfl) (by kernel_rfl) (by kernel_rfl) (by kernel_rfl) (by exact fun _ _ _ h => h) (Or.inl ⟨by rfl, ?_⟩) h0 ?_
      rotate_left
      · intro W hW
        go_simp
        all_goals with_reducible rfl
      try simp only [Act.put, List.setIfInBounds_toArray, List.set_cons_zero, List.set_cons_succ]
      refine wpAnyH_take (i := 3) (v := ?_) (by rw [List.getElem?_toArray]; rfl) (by kernel_rfl) (by kernel_rfl) (by kernel_rfl) (by exact fun _ _ _ h => h) (Or.inl ⟨by rfl, ?_⟩) h0 ?_
      rotate_left
      · intro W hW
        go_simp
        all_goals with_reducible rfl
      try simp only [Act.put, List.setIfInBounds_toArray, List.set_cons_zero, List.set_cons_succ]
      refine wpAnyH_take (i := 4) (v := ?_) (by rw [List.getElem?_toArray]; rfl) (by kernel_rfl) (by kernel_rfl) (by kernel_rfl) (by exact fun _ _ _ h => h) (Or.inl ⟨by rfl, ?_⟩) h0 ?_
      rotate_left
      · intro W hW
        have cc := (RK.out W hW).1
        go_simp
        all_goals with_reducible rfl
      try simp only [Act.put, List.setIfInBounds_toArray, List.set_cons_zero, List.set_cons_succ]
      refine wpAnyH_take (i := 5) (v := ?_) (by rw [List.getElem?_toArray]; rfl) (by kernel_rfl) (by kernel_rfl) (by kernel_rfl) (by exact fun _ _ _ h => h) (Or.inl ⟨by rfl, ?_⟩) h0 ?_
      rotate_left
      · intro W hW
        go_simp
        all_goals with_reducible rfl
      try simp only [Act.put, List.setIfInBounds_toArray, List.set_cons_zero, List.set_cons_succ]
      refine wpAnyH_take (i := 6) (v := ?_) (by rw [List.getElem?_toArray]; rfl) (by kernel_rfl) (by kernel_rfl) (by kernel_rfl) (by exact fun _ _ _ h => h) (Or.inl ⟨by rfl, ?_⟩) h0 ?_
      rotate_left
      · intro W hW
        go_simp
        all_goals with_reducible rfl
      try simp only [Act.put, List.setIfInBounds_toArray, List.set_cons_zero, List.set_cons_succ]
      refine wpAnyH_take (i := 7) (v := ?_) (by rw [List.getElem?_toArray]; rfl) (by kernel_rfl) (by kernel_rfl) (by kernel_rfl) (by exact fun _ _ _ h => h) (Or.inl ⟨by rfl, ?_⟩) h0 ?_
      rotate_left
      · intro W hW
        go_simp
        all_goals with_reducible rfl
      try simp only [Act.put, List.setIfInBounds_toArray, List.set_cons_zero, List.set_cons_succ]
      refine wpAnyH_take (i := 8) (v := ?_) (by rw [List.getElem?_toArray]; rfl) (by kernel_rfl) (by kernel_rfl) (by kernel_rfl) (by exact fun _ _ _ h => h) (Or.inl ⟨by rfl, ?_⟩) h0 ?_
      rotate_left
      · intro W hW
        go_simp
        all_goals with_reducible rfl
      try simp only [Act.put, List.setIfInBounds_toArray, List.set_cons_zero, List.set_cons_succ]
      refine wpAnyH_take (i := 9) (v := ?_) (by rw [List.getElem?_toArray]; rfl) (by kernel_rfl) (by kernel_rfl) (by kernel_rfl) (by exact fun _ _ _ h => h) (Or.inl ⟨by rfl, ?_⟩) h0 ?_
      rotate_left
      · intro W hW
        have cc := (RJ.out W hW).1
        go_simp
        all_goals with_reducible rfl
      try simp only [Act.put, List.setIfInBounds_toArray, List.set_cons_zero, List.set_cons_succ]
      refine wpAnyH_take (i := 10) (v := ?_) (by rw [List.getElem?_toArray]; rfl) (by kernel_rfl) (by kernel_rfl) (by kernel_rfl) (by exact fun _ _ _ h => h) (Or.inl ⟨by rfl, ?_⟩) h0 ?_
      rotate_left
      · intro W hW
        go_simp
        all_goals with_reducible rfl
      try simp only [Act.put, List.setIfInBounds_toArray, List.set_cons_zero, List.set_cons_succ]
      refine wpAnyH_take (i := 11) (v := ?_) (by rw [List.getElem?_toArray]; rfl) (by kernel_rfl) (by kernel_rfl) (by kernel_rfl) (by exact fun _ _ _ h => h) (Or.inl ⟨by rfl, ?_⟩) h0 ?_
      rotate_left
      · intro W hW
        go_simp
        all_goals with_reducible rfl
      try simp only [Act.put, List.setIfInBounds_toArray, List.set_cons_zero, List.set_cons_succ]
      refine wpAnyH_take (i := 12) (v := ?_) (by rw [List.getElem?_toArray]; rfl) (by kernel_rfl) (by kernel_rfl) (by kernel_rfl) (by exact fun _ _ _ h => h) (Or.inl ⟨by rfl, ?_⟩) h0 ?_
      rotate_left
      · intro W hW
        go_simp
        all_goals with_reducible rfl
      try simp only [Act.put, List.setIfInBounds_toArray, List.set_cons_zero, List.set_cons_succ]
      refine wpAnyH_take (i := 13) (v := ?_) (by rw [List.getElem?_toArray]; rfl) (by kernel_rfl) (by kernel_rfl) (by kernel_rfl) (by exact fun _ _ _ h => h) (Or.inl ⟨by rfl, ?_⟩) h0 ?_
      rotate_left
      · intro W hW
        go_simp
        all_goals with_reducible rfl
      try simp only [Act.put, List.setIfInBounds_toArray, List.set_cons_zero, List.set_cons_succ]
      refine wpAnyH_take (i := 14) (v := ?_) (by rw [List.getElem?_toArray]; rfl) (by kernel_rfl) (by kernel_rfl) (by kernel_rfl) (by exact fun _ _ _ h => h) (Or.inl ⟨by rfl, ?_⟩) h0 ?_
      rotate_left
      · intro W hW
        go_simp
        all_goals with_reducible rfl
      try simp only [Act.put, List.setIfInBounds_toArray, List.set_cons_zero, List.set_cons_succ]
      refine wpAnyH_take (i := 15) (v := ?_) (by rw [List.getElem?_toArray]; rfl) (by kernel_rfl) (by kernel_rfl) (by kernel_rfl) (by exact fun _ _ _ h => h) (Or.inl ⟨by rfl, ?_⟩) h0 ?_
      rotate_left
      · intro W hW
        go_simp
        all_goals with_reducible rfl
      try simp only [Act.put, List.setIfInBounds_toArray, List.set_cons_zero, List.set_cons_succ]
      refine wpAnyH_take (i := 16) (v := ?_) (by rw [List.getElem?_toArray]; rfl) (by kernel_rfl) (by kernel_rfl) (by kernel_rfl) (by exact fun _ _ _ h => h) (Or.inl ⟨by rfl, ?_⟩) h0 ?_
      rotate_left
      · intro W hW
        have cc := (RK.out W hW).2.1
        go_simp
        all_goals with_reducible rfl
      try simp only [Act.put, List.setIfInBounds_toArray, List.set_cons_zero, List.set_cons_succ]
      refine wpAnyH_take (i := 17) (v := ?_) (by rw [List.getElem?_toArray]; rfl) (by kernel_rfl) (by kernel_rfl) (by kernel_rfl) (by exact fun _ _ _ h => h) (Or.inl ⟨by rfl, ?_⟩) h0 ?_
      rotate_left
      · intro W hW
        go_simp
        all_goals with_reducible rfl
      try simp only [Act.put, List.setIfInBounds_toArray, List.set_cons_zero, List.set_cons_succ]
      refine wpAnyH_take (i := 18) (v := ?_) (by rw [List.getElem?_toArray]; rfl) (by kernel_rfl) (by kernel_rfl) (by kernel_rfl) (by exact fun _ _ _ h => h) (Or.inl ⟨by rfl, ?_⟩) h0 ?_
      rotate_left
      · intro W hW
        go_simp
        all_goals with_reducible rfl
      try simp only [Act.put, List.setIfInBounds_toArray, List.set_cons_zero, List.set_cons_succ]
      refine wpAnyH_take (i := 19) (v := ?_) (by rw [List.getElem?_toArray]; rfl) (by kernel_rfl) (by kernel_rfl) (by kernel_rfl) (by exact fun _ _ _ h => h) (Or.inl ⟨by rfl, ?_⟩) h0 ?_
      rotate_left
      · intro W hW
        go_simp
        all_goals with_reducible rfl
      try simp only [Act.put, List.setIfInBounds_toArray, List.set_cons_zero, List.set_cons_succ]
      refine wpAnyH_take (i := 20) (v := ?_) (by rw [List.getElem?_toArray]; rfl) (by kernel_rfl) (by kernel_rfl) (by kernel_rfl) (by exact fun _ _ _ h => h) (Or.inl ⟨by rfl, ?_⟩) h0 ?_
      rotate_left
      · intro W hW
        go_simp
        all_goals with_reducible rfl
      try simp only [Act.put, List.setIfInBounds_toArray, List.set_cons_zero, List.set_cons_succ]
      refine wpAnyH_take (i := 21) (v := ?_) (by rw [List.getElem?_toArray]; rfl) (by kernel_rfl) (by kernel_rfl) (by kernel_rfl) (by exact fun _ _ _ h => h) (Or.inl ⟨by rfl, ?_⟩) h0 ?_
      rotate_left
      · intro W hW
        have cc := (RJ.out W hW).2.1
        go_simp
        all_goals with_reducible rfl
      try simp only [Act.put, List.setIfInBounds_toArray, List.set_cons_zero, List.set_cons_succ]
      refine wpAnyH_take (i := 22) (v := ?_) (by rw [List.getElem?_toArray]; rfl) (by kernel_rfl) (by kernel_rfl) (by kernel_rfl) (by exact fun _ _ _ h => h) (Or.inl ⟨by rfl, ?_⟩) h0 ?_
      rotate_left
      · intro W hW
        go_simp
        all_goals with_reducible rfl
      try simp only [Act.put, List.setIfInBounds_toArray, List.set_cons_zero, List.set_cons_succ]
      refine wpAnyH_take (i := 23) (v := ?_) (by rw [List.getElem?_toArray]; rfl) (by kernel_rfl) (by kernel_rfl) (by kernel_rfl) (by exact fun _ _ _ h => h) (Or.inl ⟨by rfl, ?_⟩) h0 ?_
      rotate_left
      · intro W hW
        go_simp
        all_goals with_reducible rfl
      try simp only [Act.put, List.setIfInBounds_toArray, List.set_cons_zero, List.set_cons_succ]
      refine wpAnyH_take (i := 24) (v := ?_) (by rw [List.getElem?_toArray]; rfl) (by kernel_rfl) (by kernel_rfl) (by kernel_rfl) (by exact fun _ _ _ h => h) (Or.inl ⟨by rfl, ?_⟩) h0 ?_
      rotate_left
      · intro W hW
        go_simp
        all_goals with_reducible rfl
      try simp only [Act.put, List.setIfInBounds_toArray, List.set_cons_zero, List.set_cons_succ]
      refine wpAnyH_take (i := 25) (v := ?_) (by rw [List.getElem?_toArray]; rfl) (by kernel_rfl) (by kernel_rfl) (by kernel_rfl) (by exact fun _ _ _ h => h) (Or.inl ⟨by rfl, ?_⟩) h0 ?_
      rotate_left
      · intro W hW
        go_simp
        all_goals with_reducible rfl
      try simp only [Act.put, List.setIfInBounds_toArray, List.set_cons_zero, List.set_cons_succ]
      refine wpAnyH_take (i := 26) (v := ?_) (by rw [List.getElem?_toArray]; rfl) (by kernel_rfl) (by kernel_rfl) (by kernel_rfl) (by exact fun _ _ _ h => h) (Or.inl ⟨by rfl, ?_⟩) h0 ?_
      rotate_left
      · intro W hW
        go_simp
        all_goals with_reducible rfl
      try simp only [Act.put, List.setIfInBounds_toArray, List.set_cons_zero, List.set_cons_succ]
      refine wpAnyH_take (i := 27) (v := ?_) (by rw [List.getElem?_toArray]; rfl) (by kernel_rfl) (by kernel_rfl) (by kernel_rfl) (by exact fun _ _ _ h => h) (Or.inl ⟨by rfl, ?_⟩) h0 ?_
      rotate_left
      · intro W hW
        go_simp
        all_goals with_reducible rfl
      try simp only [Act.put, List.setIfInBounds_toArray, List.set_cons_zero, List.set_cons_succ]
      refine wpAnyH_take (i := 28) (v := ?_) (by rw [List.getElem?_toArray]; rfl) (by kernel_rfl) (by kernel_rfl) (by kernel_rfl) (by exact fun _ _ _ h => h) (Or.inl ⟨by rfl, ?_⟩) h0 ?_
      rotate_left
      · intro W hW
        go_simp
        all_goals with_reducible rfl
      try simp only [Act.put, List.setIfInBounds_toArray, List.set_cons_zero, List.set_cons_succ]
      refine wpAnyH_take (i := 29) (v := ?_) (by rw [List.getElem?_toArray]; rfl) (by kernel_rfl) (by kernel_rfl) (by kernel_rfl) (by exact fun _ _ _ h => h) (Or.inl ⟨by rfl, ?_⟩) h0 ?_
      rotate_left
      · intro W hW
        have cc := (RK.out W hW).2.2.1
        go_simp
        all_goals with_reducible rfl
      try simp only [Act.put, List.setIfInBounds_toArray, List.set_cons_zero, List.set_cons_succ]
      refine wpAnyH_take (i := 30) (v := ?_) (by rw [List.getElem?_toArray]; rfl) (by kernel_rfl) (by kernel_rfl) (by kernel_rfl) (by exact fun _ _ _ h => h) (Or.inl ⟨by rfl, ?_⟩) h0 ?_
      rotate_left
      · intro W hW
        go_simp
        all_goals with_reducible rfl
      try simp only [Act.put, List.setIfInBounds_toArray, List.set_cons_zero, List.set_cons_succ]
      refine wpAnyH_take (i := 31) (v := ?_) (by rw [List.getElem?_toArray]; rfl) (by kernel_rfl) (by kernel_rfl) (by kernel_rfl) (by exact fun _ _ _ h => h) (Or.inl ⟨by rfl, ?_⟩) h0 ?_
      rotate_left
      · intro W hW
        go_simp
        all_goals with_reducible rfl
      try simp only [Act.put, List.setIfInBounds_toArray, List.set_cons_zero, List.set_cons_succ]
      refine wpAnyH_take (i := 32) (v := ?_) (by rw [List.getElem?_toArray]; rfl) (by kernel_rfl) (by kernel_rfl) (by kernel_rfl) (by exact fun _ _ _ h => h) (Or.inl ⟨by rfl, ?_⟩) h0 ?_
      rotate_left
      · intro W hW
        go_simp
        all_goals with_reducible rfl
      try simp only [Act.put, List.setIfInBounds_toArray, List.set_cons_zero, List.set_cons_succ]
      refine wpAnyH_take (i := 33) (v := ?_) (by rw [List.getElem?_toArray]; rfl) (by kernel_rfl) (by kernel_rfl) (by kernel_rfl) (by exact fun _ _ _ h => h) (Or.inl ⟨by rfl, ?_⟩) h0 ?_
      rotate_left
      · intro W hW
        go_simp
        all_goals with_reducible rfl
      try simp only [Act.put, List.setIfInBounds_toArray, List.set_cons_zero, List.set_cons_succ]
      refine wpAnyH_take (i := 34) (v := ?_) (by rw [List.getElem?_toArray]; rfl) (by kernel_rfl) (by kernel_rfl) (by kernel_rfl) (by exact fun _ _ _ h => h) (Or.inl ⟨by rfl, ?_⟩) h0 ?_
      rotate_left
      · intro W hW
        have cc := (RJ.out W hW).2.2.1
        go_simp
        all_goals with_reducible rfl
      try simp only [Act.put, List.setIfInBounds_toArray, List.set_cons_zero, List.set_cons_succ]
      refine wpAnyH_ready (rs := [35]) (by kernel_rfl) (by simp) ?_
      refine AllReadyH.cons (by rw [List.getElem?_toArray]; rfl) (fun K hK => ?_) AllReadyH.nil
      rw [if_pos (by rfl)]
      go_wp2_with fail
      refine (Same5_any (k := ki) (k' := kj) lm (RK.out _ h0).2.2.2 (RJ.out _ h0).2.2.2 OKS.out.hs (by have := OKS.out.n32; omega)).mono ?_
      rintro e w2 ⟨rfl, hb2⟩
      go_wp2_with fail
      refine hK.out _ _ (h0.trans (hb2.mono h0.size)) (fun h2 => ?_)
      clear hK K
      try simp only [Act.put, List.setIfInBounds_toArray, List.set_cons_zero, List.set_cons_succ]
      refine wpAnyH_take (i := 36) (v := ?_) (by rw [List.getElem?_toArray]; rfl) (by kernel_rfl) (by kernel_rfl) (by kernel_rfl) (by exact fun _ _ _ h => h) (Or.inl ⟨by rfl, ?_⟩) h2 ?_
      rotate_left
      · intro W hW
        go_simp
        all_goals with_reducible rfl
      try simp only [Act.put, List.setIfInBounds_toArray, List.set_cons_zero, List.set_cons_succ]
      refine wpAnyH_take (i := 37) (v := ?_) (by rw [List.getElem?_toArray]; rfl) (by kernel_rfl) (by kernel_rfl) (by kernel_rfl) (by exact fun _ _ _ h => h) (Or.inl ⟨by rfl, ?_⟩) h2 ?_
      rotate_left
      · intro W hW
        go_simp
        all_goals with_reducible rfl
      try simp only [Act.put, List.setIfInBounds_toArray, List.set_cons_zero, List.set_cons_succ]
      refine wpAnyH_done (by kernel_rfl) ?_ _
      have S2 := Lib.hid h2
      clear h2 h0 hS
      go_wp2_with fail
      go_roundw
      case rel => exact ⟨i + 1, by go_num, by omega, S2⟩
      case measure => simp [intOf]; omega
    · obtain rfl : i = L.length := by omega
      have BE := hS
      clear hS
      go_wp2_with fail
      go_ret
      exact ⟨rfl, BE.out⟩
end Go.Proofs.YtjgfjmkfcippcaaDoor
