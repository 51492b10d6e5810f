/-
  The walk of basculelaw06.ProofWalks.; Steps and hashes, as a law's arguments.
-/
import Derived.Test.YtjgfjmkfcippcaaDoorMb13
import Derived.Test.YtjgfjmkfcippcaaDoorMb14
import Derived.Test.YtjgfjmkfcippcaaDoorMb15
namespace Go.Proofs.YtjgfjmkfcippcaaDoor
set_option maxRecDepth 100000
open Go.RowKit

set_option maxHeartbeats 32000000 in
theorem Walks_walk {w : World} {G : List Int} {q qn : Option Addr} {c cn : Nat} {L : List Sp} {Ns : List (List Int)} (hT : Tbl w) (hG : G.length = 32) (hs : RdSp w q L) (ok : SpOk L) (hn : L.length * 120 ≤ 140737488355328) (hsn : RdHs w qn Ns) (okn : HsOk Ns) (hnn : Ns.length * 32 ≤ 140737488355328) :
    Calls Tryd.prog 6 #[.agg (hc G).toArray, .slice q L.length c, .slice qn Ns.length cn] w fun e w' => e = .returned (.bool true) ∧ Below w.heap.size w w' := by
  have G1 := Lib.hid (HashAt.new w G)
  have B1 := Lib.hid ((Below.refl w.heap.size w).alloc (Nat.le_refl _) (.cells (hc G).toArray 23))
  have HS : Hid (∀ W, Below w.heap.size w W → RdSp W q L) := fun W hb => hs.on ok hb
  have HN : Hid (∀ W, Below w.heap.size w W → RdHs W qn Ns) := fun W hb => hsn.on (fun i hi => (okn.get i hi).1) hb
  have OK := Lib.hid ok
  have OKN := Lib.hid okn
  have HT := Lib.hid hT
  have NN := Lib.hid hn
  have NQ := Lib.hid hnn
  have hlG := hc_len G
  have z32 := zero32_len
  have hn2 : L.length ≤ 140737488355328 := by omega
  obtain ⟨i0, hi, hz0, hz1, hz2⟩ := info_parts Tryd.infoHs
  replace hi := Lib.hid hi
  replace hz0 := Lib.hid hz0
  replace hz1 := Lib.hid hz1
  replace hz2 := Lib.hid hz2
  clear hs ok hsn okn hT hn hnn
  by_cases hl : L.length ≤ 12
  · go_enter Tryd.func6, Tryd.ntmps6
    go_wp2_with fail
    generalize w.alloc (.cells (hc G).toArray 23) = w1 at *
    refine (Own6_any (c := c) (HS.out _ B1.out) OK.out NN.out).mono ?_
    rintro e w2 ⟨q1, c1, Q, rfl, hO⟩
    have b2 := hO.below
    have RQ := Lib.hid (hO.rd OK.out).2
    have G2 := Lib.hid (G1.out.on b2)
    have B2 := Lib.hid (B1.out.trans (b2.mono B1.out.size))
    clear hO b2 G1 B1
    go_wp2_with fail
    refine wp_region_held_drew (S := fun W => Below w2.drew.heap.size w2.drew W) (by kernel_rfl) (Below.refl _ _) (fun h0 => ?_)
    replace RQ := Lib.hid (RQ.out.on OK.out ((Below.refl _ _).drew))
    replace G2 := Lib.hid (G2.out.on ((Below.refl _ _).drew))
    replace B2 := Lib.hid B2.out.drew
    generalize w2.drew = w2 at *
    refine wpAnyH_take (i := 0) (v := ?_) (by rw [List.getElem?_toArray]; rfl) (by kernel_rfl) (by kernel_rfl) (by kernel_rfl) (by exact fun _ _ _ h => h) (Or.inl ⟨by rfl, ?_⟩) h0 ?_
    rotate_left
    · intro W hW
      have cc := (G2.out.on hW).row hG
      go_simp
      all_goals with_reducible rfl
    try simp only [Act.put, List.setIfInBounds_toArray, List.set_cons_zero, List.set_cons_succ]
    refine wpAnyH_take (i := 1) (v := ?_) (by rw [List.getElem?_toArray]; rfl) (by kernel_rfl) (by kernel_rfl) (by kernel_rfl) (by exact fun _ _ _ h => h) (Or.inl ⟨by rfl, ?_⟩) h0 ?_
    rotate_left
    · intro W hW
      go_simp
      all_goals with_reducible rfl
    try simp only [Act.put, List.setIfInBounds_toArray, List.set_cons_zero, List.set_cons_succ]
    refine wpAnyH_take (i := 3) (v := ?_) (by rw [List.getElem?_toArray]; rfl) (by kernel_rfl) (by kernel_rfl) (by kernel_rfl) (by exact fun _ _ _ h => h) (Or.inl ⟨by rfl, ?_⟩) h0 ?_
    rotate_left
    · intro W hW
      go_simp
      all_goals with_reducible rfl
    try simp only [Act.put, List.setIfInBounds_toArray, List.set_cons_zero, List.set_cons_succ]
    refine wpAnyH_ready (rs := [2, 9]) (by kernel_rfl) (by simp) ?_
    refine AllReadyH.cons (by rw [List.getElem?_toArray]; rfl) (fun K hK => ?_) (AllReadyH.cons (by rw [List.getElem?_toArray]; rfl) (fun K hK => ?_) AllReadyH.nil)
    · rw [if_pos (by rfl)]
      have b1 : Below w2.heap.size w2 (w2.alloc (.cells #[] 23)) := (Below.refl _ _).alloc (Nat.le_refl _) _
      have OE1 := Lib.hid (own_empty w2 23 32)
      have bb1 := h0.alloc h0.size (.cells #[] 23)
      have sz1 : w2.heap.size ≤ w2.heap.size := h0.size
      go_wp2_with fail
      refine hK.out _ _ (bb1) (fun h1x => ?_)
      clear hK K
      try simp only [Act.put, List.setIfInBounds_toArray, List.set_cons_zero, List.set_cons_succ]
      generalize hW : w2.alloc (.cells #[] 23) = w1x at *
      clear hW
      refine wpAnyH_ready (rs := [4, 9]) (by kernel_rfl) (by simp) ?_
      refine AllReadyH.cons (by rw [List.getElem?_toArray]; rfl) (fun K hK => ?_) (AllReadyH.cons (by rw [List.getElem?_toArray]; rfl) (fun K hK => ?_) AllReadyH.nil)
      · rw [if_pos (by rfl)]
        refine wp_append_row _ _ rfl Tryd.underlying28 hi.out hz0.out hz1.out hz2.out zero_cells (show w1x.ownsRow 0 _ 32 (.slice (some ⟨w2.heap.size, 0, none⟩) 0 0) 0 [] from OE1.out) ((HN.out _ (B2.out.trans (h1x.mono B2.out.size))).src (P := Tryd.prog) OKN.out Tryd.underlying28) ?b1 ?b2 ?_
        case b1 => have := NQ.out; unfold maxLen; omega
        case b2 => have := NQ.out; omega
        intro q2 k2 w2x own2 grow' fr'
        have grow : w1x.grownBy w2x (Value.slice (some ⟨w2.heap.size, 0, none⟩) 0 0).ownBlock := grow'
        have fr : (Value.slice q2 (0 + Ns.length) k2).ownBlock = (Value.slice (some ⟨w2.heap.size, 0, none⟩) 0 0).ownBlock ∨ (Value.slice q2 (0 + Ns.length) k2).ownBlock = some w1x.heap.size := fr'
        have bb2 : Below w2.heap.size w2 w2x := h1x.grown grow h1x.size (fun g hg => by simp [Value.ownBlock] at hg; omega)
        have hsW : w2.heap.size ≤ w1x.heap.size := h1x.size
        have HN2 : Hid (HsS w2 w2x (.slice q2 Ns.length k2) Ns) := by
          refine ⟨?_, OKN.out, fun g hg => ?_, bb2⟩
          · have := own2; simp only [Nat.zero_add, List.nil_append] at this; exact this
          · rcases fr with e | e
            · simp only [Nat.zero_add] at e
              rw [e] at hg; simp [Value.ownBlock] at hg; omega
            · simp only [Nat.zero_add] at e
              rw [e] at hg; simp at hg; omega
        simp only [Nat.zero_add]
        clear own2 grow fr grow' fr'
        refine hK.out _ _ (bb2) (fun h2x => ?_)
        clear hK K
        try simp only [Act.put, List.setIfInBounds_toArray, List.set_cons_zero, List.set_cons_succ]
        refine wpAnyH_ready (rs := [5, 9]) (by kernel_rfl) (by simp) ?_
        refine AllReadyH.cons (by rw [List.getElem?_toArray]; rfl) (fun K hK => ?_) (AllReadyH.cons (by rw [List.getElem?_toArray]; rfl) (fun K hK => ?_) AllReadyH.nil)
        · rw [if_pos (by rfl)]
          go_wp2_with fail
          refine (pWalk_any (c := c1) (cn := k2) (HT.out.on (B2.out.trans (h2x.mono B2.out.size)) HT.out.pos) hG (RQ.out.on OK.out h2x) OK.out hl HN2.out.rd.2.1 OKN.out (by have := NQ.out; omega)).mono ?_
          rintro e w3x ⟨rfl, b3⟩
          have lX := walkR_len L Ns hG
          obtain ⟨X, hX⟩ : ∃ X, (walkR G L Ns).1 = X := ⟨_, rfl⟩
          obtain ⟨eX, hE⟩ : ∃ eX, (walkR G L Ns).2 = eX := ⟨_, rfl⟩
          have HX := Lib.hid hX
          have HE := Lib.hid hE
          rw [hX] at lX
          rw [hX, hE]
          clear hX hE
          have hlX := hc_len X
          go_wp2_with fail
          refine hK.out _ _ (h2x.trans (b3.mono h2x.size)) (fun h3x => ?_)
          clear hK K
          try simp only [Act.put, List.setIfInBounds_toArray, List.set_cons_zero, List.set_cons_succ]
          refine wpAnyH_take (i := 6) (v := ?_) (by rw [List.getElem?_toArray]; rfl) (by kernel_rfl) (by kernel_rfl) (by kernel_rfl) (by exact fun _ _ _ h => h) (Or.inl ⟨by rfl, ?_⟩) h3x ?_
          rotate_left
          · intro W hW
            go_simp
            all_goals with_reducible rfl
          try simp only [Act.put, List.setIfInBounds_toArray, List.set_cons_zero, List.set_cons_succ]
          refine wpAnyH_take (i := 7) (v := ?_) (by rw [List.getElem?_toArray]; rfl) (by kernel_rfl) (by kernel_rfl) (by kernel_rfl) (by exact fun _ _ _ h => h) (Or.inl ⟨by rfl, ?_⟩) h3x ?_
          rotate_left
          · intro W hW
            go_simp
            all_goals with_reducible rfl
          try simp only [Act.put, List.setIfInBounds_toArray, List.set_cons_zero, List.set_cons_succ]
          refine wpAnyH_take (i := 8) (v := ?_) (by rw [List.getElem?_toArray]; rfl) (by kernel_rfl) (by kernel_rfl) (by kernel_rfl) (by exact fun _ _ _ h => h) (Or.inl ⟨by rfl, ?_⟩) h3x ?_
          rotate_left
          · intro W hW
            go_simp
            all_goals with_reducible rfl
          try simp only [Act.put, List.setIfInBounds_toArray, List.set_cons_zero, List.set_cons_succ]
          refine wpAnyH_ready (rs := [9]) (by kernel_rfl) (by simp) ?_
          refine AllReadyH.cons (by rw [List.getElem?_toArray]; rfl) (fun K hK => ?_) AllReadyH.nil
          rw [if_pos (by rfl)]
          have b4 : Below w3x.heap.size w3x (w3x.alloc (.cells (hc zero32).toArray 23)) := (Below.refl _ _).alloc (Nat.le_refl _) _
          have HA4 := Lib.hid (HashAt.new w3x zero32)
          have bb4 := h3x.alloc h3x.size (.cells (hc zero32).toArray 23)
          have sz4 : w2.heap.size ≤ w3x.heap.size := h3x.size
          go_wp2_with fail
          refine hK.out _ _ (bb4) (fun h4x => ?_)
          clear hK K
          try simp only [Act.put, List.setIfInBounds_toArray, List.set_cons_zero, List.set_cons_succ]
          generalize hW : w3x.alloc (.cells (hc zero32).toArray 23) = w4x at *
          clear hW
          refine wpAnyH_ready (rs := [10]) (by kernel_rfl) (by simp) ?_
          refine AllReadyH.cons (by rw [List.getElem?_toArray]; rfl) (fun K hK => ?_) AllReadyH.nil
          rw [if_pos (by rfl)]
          have th := HA4.out.there zero32_len
          have HY5 := Lib.hid (HA4.out.put zero32_len lX)
          have bb5 := below_setCells' (B := w2.heap.size) (w3x.heap.size) (by have := h4x.size; omega) (hc X) 0 h4x
          go_wp2_with fail
          refine hK.out _ _ (bb5) (fun h5x => ?_)
          clear hK K
          try simp only [Act.put, List.setIfInBounds_toArray, List.set_cons_zero, List.set_cons_succ]
          clear th
          generalize w4x.setCells (w3x.heap.size) 0 (hc X) = w5x at *
          refine wpAnyH_take (i := 11) (v := ?_) (by rw [List.getElem?_toArray]; rfl) (by kernel_rfl) (by kernel_rfl) (by kernel_rfl) (by exact fun _ _ _ h => h) (Or.inl ⟨by rfl, ?_⟩) h5x ?_
          rotate_left
          · intro W hW
            go_simp
            all_goals with_reducible rfl
          try simp only [Act.put, List.setIfInBounds_toArray, List.set_cons_zero, List.set_cons_succ]
          refine wpAnyH_done (by kernel_rfl) ?_ _
          have BW := Lib.hid (B2.out.trans (h5x.mono B2.out.size))
          have G9 := Lib.hid (G2.out.on h5x)
          have rg := G9.out.row hG
          have R9 := Lib.hid (RQ.out.on OK.out h5x)
          have A9 := HY5
          clear h5x
          generalize w3x.heap.size = bA at *
          go_wp2_with fail
          refine (rWalk_any (c := c) (cn := cn) hG (HS.out _ BW.out) OK.out hl (HN.out _ BW.out) OKN.out (by have := NQ.out; omega)).mono ?_
          rintro e wa ⟨rfl, ba⟩
          rw [HX.out, HE.out]
          have Aa := A9.out.on ba
          have Ha := HashAt.new wa zero32
          have tha := Ha.there zero32_len
          have bc : Below wa.heap.size wa ((wa.alloc (.cells (hc zero32).toArray 23)).setCells wa.heap.size 0 (hc X)) := below_setCells' _ (Nat.le_refl _) _ _ ((Below.refl _ _).alloc (Nat.le_refl _) _)
          have ra := (Aa.on bc).row lX
          have rb := (Ha.put zero32_len lX).row lX
          have Bc := Lib.hid ((BW.out.trans (ba.mono BW.out.size)).trans (bc.mono (Nat.le_trans BW.out.size ba.size)))
          have Rc := Lib.hid ((R9.out.on OK.out ba).on OK.out bc)
          have dX : (X == X) = true := beq_self_eq_true _
          have dE : (eX == eX) = true := beq_self_eq_true _
          clear ba bc Ha Aa rg A9 R9 G9 BW
          go_wp2_with fail
          clear tha ra rb
          generalize (wa.alloc (.cells (hc zero32).toArray 23)).setCells wa.heap.size 0 (hc X) = wc at *
          refine (num6_any eX _).mono ?_
          rintro e wx ⟨rfl, hwx⟩
          obtain rfl := hwx.symm
          clear hwx
          go_wp2_with fail
          refine (Same6_any (c := c1) (c' := c) Rc.out (HS.out _ Bc.out) OK.out hn2).mono ?_
          rintro e wd ⟨rfl, bd⟩
          have Bd := Lib.hid (Bc.out.trans (bd.mono Bc.out.size))
          clear bd Rc Bc
          go_wp2_with fail
          refine (knows6_any (HT.out.on Bd.out HT.out.pos)).mono ?_
          rintro e we ⟨rfl, be⟩
          have BE := Lib.hid (Bd.out.trans (be.mono Bd.out.size))
          clear be Bd
          go_wp2_with fail
          go_ret
          exact ⟨rfl, BE.out⟩
        · rw [if_pos (by rfl)]
          have b6 : Below w2x.heap.size w2x (w2x.alloc (.cells (hc zero32).toArray 23)) := (Below.refl _ _).alloc (Nat.le_refl _) _
          have HN6 := Lib.hid (HN2.out.on b6)
          have HA6 := Lib.hid (HashAt.new w2x zero32)
          have bb6 := h2x.alloc h2x.size (.cells (hc zero32).toArray 23)
          have sz6 : w2.heap.size ≤ w2x.heap.size := h2x.size
          go_wp2_with fail
          refine hK.out _ _ (bb6) (fun h6x => ?_)
          clear hK K
          try simp only [Act.put, List.setIfInBounds_toArray, List.set_cons_zero, List.set_cons_succ]
          generalize hW : w2x.alloc (.cells (hc zero32).toArray 23) = w6x at *
          clear hW
          refine wpAnyH_ready (rs := [5]) (by kernel_rfl) (by simp) ?_
          refine AllReadyH.cons (by rw [List.getElem?_toArray]; rfl) (fun K hK => ?_) AllReadyH.nil
          rw [if_pos (by rfl)]
          go_wp2_with fail
          refine (pWalk_any (c := c1) (cn := k2) (HT.out.on (B2.out.trans (h6x.mono B2.out.size)) HT.out.pos) hG (RQ.out.on OK.out h6x) OK.out hl HN6.out.rd.2.1 OKN.out (by have := NQ.out; omega)).mono ?_
          rintro e w7x ⟨rfl, b7⟩
          have lX := walkR_len L Ns hG
          obtain ⟨X, hX⟩ : ∃ X, (walkR G L Ns).1 = X := ⟨_, rfl⟩
          obtain ⟨eX, hE⟩ : ∃ eX, (walkR G L Ns).2 = eX := ⟨_, rfl⟩
          have HX := Lib.hid hX
          have HE := Lib.hid hE
          rw [hX] at lX
          rw [hX, hE]
          clear hX hE
          have hlX := hc_len X
          have HA7 := Lib.hid (HA6.out.on b7)
          go_wp2_with fail
          refine hK.out _ _ (h6x.trans (b7.mono h6x.size)) (fun h7x => ?_)
          clear hK K
          try simp only [Act.put, List.setIfInBounds_toArray, List.set_cons_zero, List.set_cons_succ]
          refine wpAnyH_take (i := 6) (v := ?_) (by rw [List.getElem?_toArray]; rfl) (by kernel_rfl) (by kernel_rfl) (by kernel_rfl) (by exact fun _ _ _ h => h) (Or.inl ⟨by rfl, ?_⟩) h7x ?_
          rotate_left
          · intro W hW
            go_simp
            all_goals with_reducible rfl
          try simp only [Act.put, List.setIfInBounds_toArray, List.set_cons_zero, List.set_cons_succ]
          refine wpAnyH_take (i := 7) (v := ?_) (by rw [List.getElem?_toArray]; rfl) (by kernel_rfl) (by kernel_rfl) (by kernel_rfl) (by exact fun _ _ _ h => h) (Or.inl ⟨by rfl, ?_⟩) h7x ?_
          rotate_left
          · intro W hW
            go_simp
            all_goals with_reducible rfl
          try simp only [Act.put, List.setIfInBounds_toArray, List.set_cons_zero, List.set_cons_succ]
          refine wpAnyH_take (i := 8) (v := ?_) (by rw [List.getElem?_toArray]; rfl) (by kernel_rfl) (by kernel_rfl) (by kernel_rfl) (by exact fun _ _ _ h => h) (Or.inl ⟨by rfl, ?_⟩) h7x ?_
          rotate_left
          · intro W hW
            go_simp
            all_goals with_reducible rfl
          try simp only [Act.put, List.setIfInBounds_toArray, List.set_cons_zero, List.set_cons_succ]
          refine wpAnyH_ready (rs := [10]) (by kernel_rfl) (by simp) ?_
          refine AllReadyH.cons (by rw [List.getElem?_toArray]; rfl) (fun K hK => ?_) AllReadyH.nil
          rw [if_pos (by rfl)]
          have th := HA7.out.there zero32_len
          have HY8 := Lib.hid (HA7.out.put zero32_len lX)
          have bb8 := below_setCells' (B := w2.heap.size) (w2x.heap.size) (by have := h7x.size; omega) (hc X) 0 h7x
          go_wp2_with fail
          refine hK.out _ _ (bb8) (fun h8x => ?_)
          clear hK K
          try simp only [Act.put, List.setIfInBounds_toArray, List.set_cons_zero, List.set_cons_succ]
          clear th
          generalize w7x.setCells (w2x.heap.size) 0 (hc X) = w8x at *
          refine wpAnyH_take (i := 11) (v := ?_) (by rw [List.getElem?_toArray]; rfl) (by kernel_rfl) (by kernel_rfl) (by kernel_rfl) (by exact fun _ _ _ h => h) (Or.inl ⟨by rfl, ?_⟩) h8x ?_
          rotate_left
          · intro W hW
            go_simp
            all_goals with_reducible rfl
          try simp only [Act.put, List.setIfInBounds_toArray, List.set_cons_zero, List.set_cons_succ]
          refine wpAnyH_done (by kernel_rfl) ?_ _
          have BW := Lib.hid (B2.out.trans (h8x.mono B2.out.size))
          have G9 := Lib.hid (G2.out.on h8x)
          have rg := G9.out.row hG
          have R9 := Lib.hid (RQ.out.on OK.out h8x)
          have A9 := HY8
          clear h8x
          generalize w2x.heap.size = bA at *
          go_wp2_with fail
          refine (rWalk_any (c := c) (cn := cn) hG (HS.out _ BW.out) OK.out hl (HN.out _ BW.out) OKN.out (by have := NQ.out; omega)).mono ?_
          rintro e wa ⟨rfl, ba⟩
          rw [HX.out, HE.out]
          have Aa := A9.out.on ba
          have Ha := HashAt.new wa zero32
          have tha := Ha.there zero32_len
          have bc : Below wa.heap.size wa ((wa.alloc (.cells (hc zero32).toArray 23)).setCells wa.heap.size 0 (hc X)) := below_setCells' _ (Nat.le_refl _) _ _ ((Below.refl _ _).alloc (Nat.le_refl _) _)
          have ra := (Aa.on bc).row lX
          have rb := (Ha.put zero32_len lX).row lX
          have Bc := Lib.hid ((BW.out.trans (ba.mono BW.out.size)).trans (bc.mono (Nat.le_trans BW.out.size ba.size)))
          have Rc := Lib.hid ((R9.out.on OK.out ba).on OK.out bc)
          have dX : (X == X) = true := beq_self_eq_true _
          have dE : (eX == eX) = true := beq_self_eq_true _
          clear ba bc Ha Aa rg A9 R9 G9 BW
          go_wp2_with fail
          clear tha ra rb
          generalize (wa.alloc (.cells (hc zero32).toArray 23)).setCells wa.heap.size 0 (hc X) = wc at *
          refine (num6_any eX _).mono ?_
          rintro e wx ⟨rfl, hwx⟩
          obtain rfl := hwx.symm
          clear hwx
          go_wp2_with fail
          refine (Same6_any (c := c1) (c' := c) Rc.out (HS.out _ Bc.out) OK.out hn2).mono ?_
          rintro e wd ⟨rfl, bd⟩
          have Bd := Lib.hid (Bc.out.trans (bd.mono Bc.out.size))
          clear bd Rc Bc
          go_wp2_with fail
          refine (knows6_any (HT.out.on Bd.out HT.out.pos)).mono ?_
          rintro e we ⟨rfl, be⟩
          have BE := Lib.hid (Bd.out.trans (be.mono Bd.out.size))
          clear be Bd
          go_wp2_with fail
          go_ret
          exact ⟨rfl, BE.out⟩
      · rw [if_pos (by rfl)]
        have ne9 : w2.heap.size < w1x.heap.size := own_lt OE1.out rfl
        have b9 : Below w1x.heap.size w1x (w1x.alloc (.cells (hc zero32).toArray 23)) := (Below.refl _ _).alloc (Nat.le_refl _) _
        have OE9 := Lib.hid (own_on OE1.out b9)
        have HA9 := Lib.hid (HashAt.new w1x zero32)
        have bb9 := h1x.alloc h1x.size (.cells (hc zero32).toArray 23)
        have sz9 : w2.heap.size ≤ w1x.heap.size := h1x.size
        go_wp2_with fail
        refine hK.out _ _ (bb9) (fun h9x => ?_)
        clear hK K
        try simp only [Act.put, List.setIfInBounds_toArray, List.set_cons_zero, List.set_cons_succ]
        generalize hW : w1x.alloc (.cells (hc zero32).toArray 23) = w9x at *
        clear hW
        refine wpAnyH_ready (rs := [4]) (by kernel_rfl) (by simp) ?_
        refine AllReadyH.cons (by rw [List.getElem?_toArray]; rfl) (fun K hK => ?_) AllReadyH.nil
        rw [if_pos (by rfl)]
        refine wp_append_row _ _ rfl Tryd.underlying28 hi.out hz0.out hz1.out hz2.out zero_cells (show w9x.ownsRow 0 _ 32 (.slice (some ⟨w2.heap.size, 0, none⟩) 0 0) 0 [] from OE9.out) ((HN.out _ (B2.out.trans (h9x.mono B2.out.size))).src (P := Tryd.prog) OKN.out Tryd.underlying28) ?b1 ?b2 ?_
        case b1 => have := NQ.out; unfold maxLen; omega
        case b2 => have := NQ.out; omega
        intro q10 k10 w10x own10 grow' fr'
        have grow : w9x.grownBy w10x (Value.slice (some ⟨w2.heap.size, 0, none⟩) 0 0).ownBlock := grow'
        have fr : (Value.slice q10 (0 + Ns.length) k10).ownBlock = (Value.slice (some ⟨w2.heap.size, 0, none⟩) 0 0).ownBlock ∨ (Value.slice q10 (0 + Ns.length) k10).ownBlock = some w9x.heap.size := fr'
        have bb10 : Below w2.heap.size w2 w10x := h9x.grown grow h9x.size (fun g hg => by simp [Value.ownBlock] at hg; omega)
        have hsW : w2.heap.size ≤ w9x.heap.size := h9x.size
        have HN10 : Hid (HsS w2 w10x (.slice q10 Ns.length k10) Ns) := by
          refine ⟨?_, OKN.out, fun g hg => ?_, bb10⟩
          · have := own10; simp only [Nat.zero_add, List.nil_append] at this; exact this
          · rcases fr with e | e
            · simp only [Nat.zero_add] at e
              rw [e] at hg; simp [Value.ownBlock] at hg; omega
            · simp only [Nat.zero_add] at e
              rw [e] at hg; simp at hg; omega
        have HA10 := Lib.hid (HA9.out.chg (Chg.grown grow (S := [w2.heap.size]) (fun k hk => by simp [Value.ownBlock] at hk; simp [hk])) (by simp; omega))
        simp only [Nat.zero_add]
        clear own10 grow fr grow' fr'
        refine hK.out _ _ (bb10) (fun h10x => ?_)
        clear hK K
        try simp only [Act.put, List.setIfInBounds_toArray, List.set_cons_zero, List.set_cons_succ]
        refine wpAnyH_ready (rs := [5]) (by kernel_rfl) (by simp) ?_
        refine AllReadyH.cons (by rw [List.getElem?_toArray]; rfl) (fun K hK => ?_) AllReadyH.nil
        rw [if_pos (by rfl)]
        go_wp2_with fail
        refine (pWalk_any (c := c1) (cn := k10) (HT.out.on (B2.out.trans (h10x.mono B2.out.size)) HT.out.pos) hG (RQ.out.on OK.out h10x) OK.out hl HN10.out.rd.2.1 OKN.out (by have := NQ.out; omega)).mono ?_
        rintro e w11x ⟨rfl, b11⟩
        have lX := walkR_len L Ns hG
        obtain ⟨X, hX⟩ : ∃ X, (walkR G L Ns).1 = X := ⟨_, rfl⟩
        obtain ⟨eX, hE⟩ : ∃ eX, (walkR G L Ns).2 = eX := ⟨_, rfl⟩
        have HX := Lib.hid hX
        have HE := Lib.hid hE
        rw [hX] at lX
        rw [hX, hE]
        clear hX hE
        have hlX := hc_len X
        have HA11 := Lib.hid (HA10.out.on b11)
        go_wp2_with fail
        refine hK.out _ _ (h10x.trans (b11.mono h10x.size)) (fun h11x => ?_)
        clear hK K
        try simp only [Act.put, List.setIfInBounds_toArray, List.set_cons_zero, List.set_cons_succ]
        refine wpAnyH_take (i := 6) (v := ?_) (by rw [List.getElem?_toArray]; rfl) (by kernel_rfl) (by kernel_rfl) (by kernel_rfl) (by exact fun _ _ _ h => h) (Or.inl ⟨by rfl, ?_⟩) h11x ?_
        rotate_left
        · intro W hW
          go_simp
          all_goals with_reducible rfl
        try simp only [Act.put, List.setIfInBounds_toArray, List.set_cons_zero, List.set_cons_succ]
        refine wpAnyH_take (i := 7) (v := ?_) (by rw [List.getElem?_toArray]; rfl) (by kernel_rfl) (by kernel_rfl) (by kernel_rfl) (by exact fun _ _ _ h => h) (Or.inl ⟨by rfl, ?_⟩) h11x ?_
        rotate_left
        · intro W hW
          go_simp
          all_goals with_reducible rfl
        try simp only [Act.put, List.setIfInBounds_toArray, List.set_cons_zero, List.set_cons_succ]
        refine wpAnyH_take (i := 8) (v := ?_) (by rw [List.getElem?_toArray]; rfl) (by kernel_rfl) (by kernel_rfl) (by kernel_rfl) (by exact fun _ _ _ h => h) (Or.inl ⟨by rfl, ?_⟩) h11x ?_
        rotate_left
        · intro W hW
          go_simp
          all_goals with_reducible rfl
        try simp only [Act.put, List.setIfInBounds_toArray, List.set_cons_zero, List.set_cons_succ]
        refine wpAnyH_ready (rs := [10]) (by kernel_rfl) (by simp) ?_
        refine AllReadyH.cons (by rw [List.getElem?_toArray]; rfl) (fun K hK => ?_) AllReadyH.nil
        rw [if_pos (by rfl)]
        have th := HA11.out.there zero32_len
        have HY12 := Lib.hid (HA11.out.put zero32_len lX)
        have bb12 := below_setCells' (B := w2.heap.size) (w1x.heap.size) (by have := h11x.size; omega) (hc X) 0 h11x
        go_wp2_with fail
        refine hK.out _ _ (bb12) (fun h12x => ?_)
        clear hK K
        try simp only [Act.put, List.setIfInBounds_toArray, List.set_cons_zero, List.set_cons_succ]
        clear th
        generalize w11x.setCells (w1x.heap.size) 0 (hc X) = w12x at *
        refine wpAnyH_take (i := 11) (v := ?_) (by rw [List.getElem?_toArray]; rfl) (by kernel_rfl) (by kernel_rfl) (by kernel_rfl) (by exact fun _ _ _ h => h) (Or.inl ⟨by rfl, ?_⟩) h12x ?_
        rotate_left
        · intro W hW
          go_simp
          all_goals with_reducible rfl
        try simp only [Act.put, List.setIfInBounds_toArray, List.set_cons_zero, List.set_cons_succ]
        refine wpAnyH_done (by kernel_rfl) ?_ _
        have BW := Lib.hid (B2.out.trans (h12x.mono B2.out.size))
        have G9 := Lib.hid (G2.out.on h12x)
        have rg := G9.out.row hG
        have R9 := Lib.hid (RQ.out.on OK.out h12x)
        have A9 := HY12
        clear h12x
        generalize w1x.heap.size = bA at *
        go_wp2_with fail
        refine (rWalk_any (c := c) (cn := cn) hG (HS.out _ BW.out) OK.out hl (HN.out _ BW.out) OKN.out (by have := NQ.out; omega)).mono ?_
        rintro e wa ⟨rfl, ba⟩
        rw [HX.out, HE.out]
        have Aa := A9.out.on ba
        have Ha := HashAt.new wa zero32
        have tha := Ha.there zero32_len
        have bc : Below wa.heap.size wa ((wa.alloc (.cells (hc zero32).toArray 23)).setCells wa.heap.size 0 (hc X)) := below_setCells' _ (Nat.le_refl _) _ _ ((Below.refl _ _).alloc (Nat.le_refl _) _)
        have ra := (Aa.on bc).row lX
        have rb := (Ha.put zero32_len lX).row lX
        have Bc := Lib.hid ((BW.out.trans (ba.mono BW.out.size)).trans (bc.mono (Nat.le_trans BW.out.size ba.size)))
        have Rc := Lib.hid ((R9.out.on OK.out ba).on OK.out bc)
        have dX : (X == X) = true := beq_self_eq_true _
        have dE : (eX == eX) = true := beq_self_eq_true _
        clear ba bc Ha Aa rg A9 R9 G9 BW
        go_wp2_with fail
        clear tha ra rb
        generalize (wa.alloc (.cells (hc zero32).toArray 23)).setCells wa.heap.size 0 (hc X) = wc at *
        refine (num6_any eX _).mono ?_
        rintro e wx ⟨rfl, hwx⟩
        obtain rfl := hwx.symm
        clear hwx
        go_wp2_with fail
        refine (Same6_any (c := c1) (c' := c) Rc.out (HS.out _ Bc.out) OK.out hn2).mono ?_
        rintro e wd ⟨rfl, bd⟩
        have Bd := Lib.hid (Bc.out.trans (bd.mono Bc.out.size))
        clear bd Rc Bc
        go_wp2_with fail
        refine (knows6_any (HT.out.on Bd.out HT.out.pos)).mono ?_
        rintro e we ⟨rfl, be⟩
        have BE := Lib.hid (Bd.out.trans (be.mono Bd.out.size))
        clear be Bd
        go_wp2_with fail
        go_ret
        exact ⟨rfl, BE.out⟩
    · rw [if_pos (by rfl)]
      have b13 : Below w2.heap.size w2 (w2.alloc (.cells (hc zero32).toArray 23)) := (Below.refl _ _).alloc (Nat.le_refl _) _
      have HA13 := Lib.hid (HashAt.new w2 zero32)
      have bb13 := h0.alloc h0.size (.cells (hc zero32).toArray 23)
      have sz13 : w2.heap.size ≤ w2.heap.size := h0.size
      go_wp2_with fail
      refine hK.out _ _ (bb13) (fun h13x => ?_)
      clear hK K
      try simp only [Act.put, List.setIfInBounds_toArray, List.set_cons_zero, List.set_cons_succ]
      generalize hW : w2.alloc (.cells (hc zero32).toArray 23) = w13x at *
      clear hW
      refine wpAnyH_ready (rs := [2]) (by kernel_rfl) (by simp) ?_
      refine AllReadyH.cons (by rw [List.getElem?_toArray]; rfl) (fun K hK => ?_) AllReadyH.nil
      rw [if_pos (by rfl)]
      have ne14 : (w2.heap.size) < w13x.heap.size := HA13.out.lt
      have b14 : Below w13x.heap.size w13x (w13x.alloc (.cells #[] 23)) := (Below.refl _ _).alloc (Nat.le_refl _) _
      have HA14 := Lib.hid (HA13.out.on b14)
      have OE14 := Lib.hid (own_empty w13x 23 32)
      have bb14 := h13x.alloc h13x.size (.cells #[] 23)
      have sz14 : w2.heap.size ≤ w13x.heap.size := h13x.size
      go_wp2_with fail
      refine hK.out _ _ (bb14) (fun h14x => ?_)
      clear hK K
      try simp only [Act.put, List.setIfInBounds_toArray, List.set_cons_zero, List.set_cons_succ]
      generalize hW : w13x.alloc (.cells #[] 23) = w14x at *
      clear hW
      refine wpAnyH_ready (rs := [4]) (by kernel_rfl) (by simp) ?_
      refine AllReadyH.cons (by rw [List.getElem?_toArray]; rfl) (fun K hK => ?_) AllReadyH.nil
      rw [if_pos (by rfl)]
      refine wp_append_row _ _ rfl Tryd.underlying28 hi.out hz0.out hz1.out hz2.out zero_cells (show w14x.ownsRow 0 _ 32 (.slice (some ⟨w13x.heap.size, 0, none⟩) 0 0) 0 [] from OE14.out) ((HN.out _ (B2.out.trans (h14x.mono B2.out.size))).src (P := Tryd.prog) OKN.out Tryd.underlying28) ?b1 ?b2 ?_
      case b1 => have := NQ.out; unfold maxLen; omega
      case b2 => have := NQ.out; omega
      intro q15 k15 w15x own15 grow' fr'
      have grow : w14x.grownBy w15x (Value.slice (some ⟨w13x.heap.size, 0, none⟩) 0 0).ownBlock := grow'
      have fr : (Value.slice q15 (0 + Ns.length) k15).ownBlock = (Value.slice (some ⟨w13x.heap.size, 0, none⟩) 0 0).ownBlock ∨ (Value.slice q15 (0 + Ns.length) k15).ownBlock = some w14x.heap.size := fr'
      have bb15 : Below w2.heap.size w2 w15x := h14x.grown grow h14x.size (fun g hg => by simp [Value.ownBlock] at hg; omega)
      have hsW : w2.heap.size ≤ w14x.heap.size := h14x.size
      have HN15 : Hid (HsS w2 w15x (.slice q15 Ns.length k15) Ns) := by
        refine ⟨?_, OKN.out, fun g hg => ?_, bb15⟩
        · have := own15; simp only [Nat.zero_add, List.nil_append] at this; exact this
        · rcases fr with e | e
          · simp only [Nat.zero_add] at e
            rw [e] at hg; simp [Value.ownBlock] at hg; omega
          · simp only [Nat.zero_add] at e
            rw [e] at hg; simp at hg; omega
      have HA15 := Lib.hid (HA14.out.chg (Chg.grown grow (S := [w13x.heap.size]) (fun k hk => by simp [Value.ownBlock] at hk; simp [hk])) (by simp; omega))
      simp only [Nat.zero_add]
      clear own15 grow fr grow' fr'
      refine hK.out _ _ (bb15) (fun h15x => ?_)
      clear hK K
      try simp only [Act.put, List.setIfInBounds_toArray, List.set_cons_zero, List.set_cons_succ]
      refine wpAnyH_ready (rs := [5]) (by kernel_rfl) (by simp) ?_
      refine AllReadyH.cons (by rw [List.getElem?_toArray]; rfl) (fun K hK => ?_) AllReadyH.nil
      rw [if_pos (by rfl)]
      go_wp2_with fail
      refine (pWalk_any (c := c1) (cn := k15) (HT.out.on (B2.out.trans (h15x.mono B2.out.size)) HT.out.pos) hG (RQ.out.on OK.out h15x) OK.out hl HN15.out.rd.2.1 OKN.out (by have := NQ.out; omega)).mono ?_
      rintro e w16x ⟨rfl, b16⟩
      have lX := walkR_len L Ns hG
      obtain ⟨X, hX⟩ : ∃ X, (walkR G L Ns).1 = X := ⟨_, rfl⟩
      obtain ⟨eX, hE⟩ : ∃ eX, (walkR G L Ns).2 = eX := ⟨_, rfl⟩
      have HX := Lib.hid hX
      have HE := Lib.hid hE
      rw [hX] at lX
      rw [hX, hE]
      clear hX hE
      have hlX := hc_len X
      have HA16 := Lib.hid (HA15.out.on b16)
      go_wp2_with fail
      refine hK.out _ _ (h15x.trans (b16.mono h15x.size)) (fun h16x => ?_)
      clear hK K
      try simp only [Act.put, List.setIfInBounds_toArray, List.set_cons_zero, List.set_cons_succ]
      refine wpAnyH_take (i := 6) (v := ?_) (by rw [List.getElem?_toArray]; rfl) (by kernel_rfl) (by kernel_rfl) (by kernel_rfl) (by exact fun _ _ _ h => h) (Or.inl ⟨by rfl, ?_⟩) h16x ?_
      rotate_left
      · intro W hW
        go_simp
        all_goals with_reducible rfl
      try simp only [Act.put, List.setIfInBounds_toArray, List.set_cons_zero, List.set_cons_succ]
      refine wpAnyH_take (i := 7) (v := ?_) (by rw [List.getElem?_toArray]; rfl) (by kernel_rfl) (by kernel_rfl) (by kernel_rfl) (by exact fun _ _ _ h => h) (Or.inl ⟨by rfl, ?_⟩) h16x ?_
      rotate_left
      · intro W hW
        go_simp
        all_goals with_reducible rfl
      try simp only [Act.put, List.setIfInBounds_toArray, List.set_cons_zero, List.set_cons_succ]
      refine wpAnyH_take (i := 8) (v := ?_) (by rw [List.getElem?_toArray]; rfl) (by kernel_rfl) (by kernel_rfl) (by kernel_rfl) (by exact fun _ _ _ h => h) (Or.inl ⟨by rfl, ?_⟩) h16x ?_
      rotate_left
      · intro W hW
        go_simp
        all_goals with_reducible rfl
      try simp only [Act.put, List.setIfInBounds_toArray, List.set_cons_zero, List.set_cons_succ]
      refine wpAnyH_ready (rs := [10]) (by kernel_rfl) (by simp) ?_
      refine AllReadyH.cons (by rw [List.getElem?_toArray]; rfl) (fun K hK => ?_) AllReadyH.nil
      rw [if_pos (by rfl)]
      have th := HA16.out.there zero32_len
      have HY17 := Lib.hid (HA16.out.put zero32_len lX)
      have bb17 := below_setCells' (B := w2.heap.size) (w2.heap.size) (by have := h16x.size; omega) (hc X) 0 h16x
      go_wp2_with fail
      refine hK.out _ _ (bb17) (fun h17x => ?_)
      clear hK K
      try simp only [Act.put, List.setIfInBounds_toArray, List.set_cons_zero, List.set_cons_succ]
      clear th
      generalize w16x.setCells (w2.heap.size) 0 (hc X) = w17x at *
      refine wpAnyH_take (i := 11) (v := ?_) (by rw [List.getElem?_toArray]; rfl) (by kernel_rfl) (by kernel_rfl) (by kernel_rfl) (by exact fun _ _ _ h => h) (Or.inl ⟨by rfl, ?_⟩) h17x ?_
      rotate_left
      · intro W hW
        go_simp
        all_goals with_reducible rfl
      try simp only [Act.put, List.setIfInBounds_toArray, List.set_cons_zero, List.set_cons_succ]
      refine wpAnyH_done (by kernel_rfl) ?_ _
      have BW := Lib.hid (B2.out.trans (h17x.mono B2.out.size))
      have G9 := Lib.hid (G2.out.on h17x)
      have rg := G9.out.row hG
      have R9 := Lib.hid (RQ.out.on OK.out h17x)
      have A9 := HY17
      clear h17x
      generalize w2.heap.size = bA at *
      go_wp2_with fail
      refine (rWalk_any (c := c) (cn := cn) hG (HS.out _ BW.out) OK.out hl (HN.out _ BW.out) OKN.out (by have := NQ.out; omega)).mono ?_
      rintro e wa ⟨rfl, ba⟩
      rw [HX.out, HE.out]
      have Aa := A9.out.on ba
      have Ha := HashAt.new wa zero32
      have tha := Ha.there zero32_len
      have bc : Below wa.heap.size wa ((wa.alloc (.cells (hc zero32).toArray 23)).setCells wa.heap.size 0 (hc X)) := below_setCells' _ (Nat.le_refl _) _ _ ((Below.refl _ _).alloc (Nat.le_refl _) _)
      have ra := (Aa.on bc).row lX
      have rb := (Ha.put zero32_len lX).row lX
      have Bc := Lib.hid ((BW.out.trans (ba.mono BW.out.size)).trans (bc.mono (Nat.le_trans BW.out.size ba.size)))
      have Rc := Lib.hid ((R9.out.on OK.out ba).on OK.out bc)
      have dX : (X == X) = true := beq_self_eq_true _
      have dE : (eX == eX) = true := beq_self_eq_true _
      clear ba bc Ha Aa rg A9 R9 G9 BW
      go_wp2_with fail
      clear tha ra rb
      generalize (wa.alloc (.cells (hc zero32).toArray 23)).setCells wa.heap.size 0 (hc X) = wc at *
      refine (num6_any eX _).mono ?_
      rintro e wx ⟨rfl, hwx⟩
      obtain rfl := hwx.symm
      clear hwx
      go_wp2_with fail
      refine (Same6_any (c := c1) (c' := c) Rc.out (HS.out _ Bc.out) OK.out hn2).mono ?_
      rintro e wd ⟨rfl, bd⟩
      have Bd := Lib.hid (Bc.out.trans (bd.mono Bc.out.size))
      clear bd Rc Bc
      go_wp2_with fail
      refine (knows6_any (HT.out.on Bd.out HT.out.pos)).mono ?_
      rintro e we ⟨rfl, be⟩
      have BE := Lib.hid (Bd.out.trans (be.mono Bd.out.size))
      clear be Bd
      go_wp2_with fail
      go_ret
      exact ⟨rfl, BE.out⟩
  · go_enter Tryd.func6, Tryd.ntmps6
    go_wp2_with fail
    refine (knows6_any (HT.out.on B1.out HT.out.pos)).mono ?_
    rintro e we ⟨rfl, be⟩
    have BE := Lib.hid (B1.out.trans (be.mono B1.out.size))
    clear be B1
    go_wp2_with fail
    go_ret
    exact ⟨rfl, BE.out⟩
end Go.Proofs.YtjgfjmkfcippcaaDoor
namespace Go.Proofs.YtjgfjmkfcippcaaDoor
set_option maxRecDepth 100000
open Go.ChangeShapes Go.WideShapes Go.ChangeAt Go.RowKit Go.Deep

theorem rowOf_vals {w : World} {b o n : Nat} {cs : List Value} (hn : cs.length = n) (h0 : 0 < n) (h : ∀ j v, cs[j]? = some v → w.cell? ⟨b, o + j, none⟩ = some v) : rowOf w b o n = cs := by
  subst hn
  have hf := h 0 cs[0] (by simp [h0])
  unfold World.cell? at hf
  split at hf
  · rename_i C t fr hb
    rw [rowOf_block hb]
    apply List.ext_getElem?
    intro j
    by_cases hj : j < cs.length
    · have := h j cs[j] (by simp [hj])
      rw [Joins.cell_of_block hb] at this
      have hlt := (Array.getElem?_eq_some_iff.1 this).1
      rw [Array.getElem?_toList, Array.getElem?_extract, if_pos (by omega), this, List.getElem?_eq_getElem hj]
    · rw [List.getElem?_eq_none (by rw [Array.length_toList, Array.size_extract]; omega), List.getElem?_eq_none (by omega)]
  · simp at hf

section
variable {H : Type} {enc : TypeId × Value → H} {w : World} {base : Nat} {held : Bool}
theorem trod_hs32 {fuel : Nat} {cs : List Value} {y : DataW H × List MemPlace} (h : DataW.trod enc Tryd.prog w base (fun _ => true) held fuel 28 cs = some y) (hs : ∀ n ∈ y.1.weights Tryd.prog 28, n ≤ reachBytes) :
    ∃ q k Ss, cs = [.slice q Ss.length k] ∧ RdHs w q Ss ∧ HsOk Ss ∧ Ss.length * 32 ≤ 140737488355328 := by
  have hr := reach47
  obtain ⟨q, k, Ss, e2, r2, ok, z2⟩ := trod_hs h
  refine ⟨q, k, Ss, e2, r2, ok, ?_⟩
  rcases z2 with z | ⟨el, sp, z1, z2⟩
  · omega
  · rw [z1] at hs
    have := (weights_slice Tryd.underlying28 hs).1
    rw [show Tryd.prog.bytesOf 23 = 32 by kernel_rfl, z2] at this
    omega
theorem open_hs {r : Reach} {b0 : Nat} {v : Value} {d : DataW H} {p : List MemPlace} (hv : Value.okWide Tryd.prog w r b0 28 v) (h : DataW.Trod enc Tryd.prog w base (fun _ => true) held 28 v d p)
    (hs : ∀ n ∈ d.weights Tryd.prog 28, n ≤ reachBytes) : ∃ q k Ss, v = .slice q Ss.length k ∧ RdHs w q Ss ∧ HsOk Ss ∧ Ss.length * 32 ≤ 140737488355328 := by
  obtain ⟨a0, len0, cap0, rfl⟩ := okWide_slice Tryd.underlying28 hv
  obtain ⟨fuel, hf⟩ := h
  obtain ⟨q, k, Ss, e, r2, ok, z⟩ := trod_hs32 hf hs
  refine ⟨q, k, Ss, ?_, r2, ok, z⟩
  simpa [Value.cells] using e
theorem trod_pf5 {fuel : Nat} {cs : List Value} {y : DataW H × List MemPlace} (h : DataW.trod enc Tryd.prog w base (fun _ => true) held fuel 43 cs = some y)
    (hs : ∀ n ∈ y.1.weights Tryd.prog 43, n ≤ reachBytes) : ∃ M q k Ss, cs = pfRow M (.slice q Ss.length k) ∧ M.length = 32 ∧ Bytes M ∧ RdHs w q Ss ∧ HsOk Ss ∧ Ss.length * 32 ≤ 140737488355328 := by
  obtain ⟨hl, m, ys, hx, hfld⟩ := trod_struct Tryd.underlying43 (n := 33) (by kernel_rfl) h
  rw [hx] at hs
  obtain ⟨y0, g0, t0⟩ := hfld 0 _ rfl
  dsimp only at t0
  rw [show Tryd.prog.cellsOf 23 = 32 by kernel_rfl] at t0
  obtain ⟨M, hM, e0, bM⟩ := trod_hashB Tryd.underlying23 Tryd.underlying5 (by kernel_rfl) (by kernel_rfl) t0
  obtain ⟨y2, g2, t2⟩ := hfld 1 _ rfl
  dsimp only at t2
  rw [show Tryd.prog.cellsOf 28 = 1 by kernel_rfl] at t2
  have m2 := weights_struct Tryd.underlying43 hs (j := 1) rfl (show (ys.map (·.1))[1]? = some y2.1 by rw [List.getElem?_map, g2]; rfl)
  dsimp only at m2
  obtain ⟨q, k, Ss, e2, r2, ok, s2⟩ := trod_hs32 t2 m2
  refine ⟨M, q, k, Ss, ?_, hM, bM, r2, ok, s2⟩
  simp only [pfRow]
  rw [← e2, ← e0]
  simp only [List.drop_zero]
  have h1 : (cs.drop 32).take 1 = cs.drop 32 := List.take_of_length_le (by simp; omega)
  rw [h1, List.take_append_drop]
theorem trod_sp {fuel : Nat} {cs : List Value} {y : DataW H × List MemPlace} (h : DataW.trod enc Tryd.prog w base (fun _ => true) held fuel 99 cs = some y)
    (hs : ∀ n ∈ y.1.weights Tryd.prog 99, n ≤ reachBytes) : ∃ (s : Sp) (q : Option Addr) (k : Nat), cs = spRow s (.slice q s.sides.length k) ∧ s.ok ∧ RdHs w q s.sides := by
  obtain ⟨hl, m, ys, hx, hfld⟩ := trod_struct Tryd.underlying99 (n := 97) (by kernel_rfl) h
  rw [hx] at hs
  obtain ⟨y0, g0, t0⟩ := hfld 0 _ rfl
  dsimp only at t0
  rw [show Tryd.prog.cellsOf 23 = 32 by kernel_rfl] at t0
  obtain ⟨K, hK, e0, bK⟩ := trod_hashB Tryd.underlying23 Tryd.underlying5 (by kernel_rfl) (by kernel_rfl) t0
  obtain ⟨y1, g1, t1⟩ := hfld 1 _ rfl
  dsimp only at t1
  rw [show Tryd.prog.cellsOf 23 = 32 by kernel_rfl] at t1
  obtain ⟨O, hO, e1, bO⟩ := trod_hashB Tryd.underlying23 Tryd.underlying5 (by kernel_rfl) (by kernel_rfl) t1
  obtain ⟨y2, g2, t2⟩ := hfld 2 _ rfl
  dsimp only at t2
  rw [show Tryd.prog.cellsOf 43 = 33 by kernel_rfl] at t2
  have m2 := weights_struct Tryd.underlying99 hs (j := 2) rfl (show (ys.map (·.1))[2]? = some y2.1 by rw [List.getElem?_map, g2]; rfl)
  dsimp only at m2
  obtain ⟨M, q, k, Ss, e2, hM, bM, r2, ok, s2⟩ := trod_pf5 t2 m2
  refine ⟨⟨K, O, M, Ss⟩, q, k, ?_, ⟨hK, hO, hM, bK, bO, bM, ok, s2⟩, r2⟩
  simp only [spRow]
  rw [← e2, ← e1, ← e0]
  simp only [List.drop_zero]
  have h1 : (cs.drop 64).take 33 = cs.drop 64 := List.take_of_length_le (by simp; omega)
  have h2 : cs.drop 64 = (cs.drop 32).drop 32 := by rw [List.drop_drop]
  rw [h1, h2, List.take_append_drop, List.take_append_drop]
theorem open_sp {r : Reach} {b0 : Nat} {v : Value} {d : DataW H} {p : List MemPlace} (hv : Value.okWide Tryd.prog w r b0 57 v) (h : DataW.Trod enc Tryd.prog w base (fun _ => true) held 57 v d p)
    (hs : ∀ n ∈ d.weights Tryd.prog 57, n ≤ reachBytes) : ∃ q c L, v = .slice q L.length c ∧ RdSp w q L ∧ SpOk L ∧ L.length * 120 ≤ 140737488355328 := by
  have hr := reach47
  obtain ⟨a0, len0, cap0, rfl⟩ := okWide_slice Tryd.underlying57 hv
  obtain ⟨fuel, hf⟩ := h
  rcases Deep.open_slice Tryd.underlying57 hf with ⟨h0, _⟩ | ⟨a, len, cap, m, n, D, Pl, hcs, hb, hl, hm, hmm, hy, hx⟩
  · simp [Value.cells] at h0
    obtain ⟨rfl, rfl, rfl⟩ := h0
    exact ⟨none, 0, [], rfl, .inl rfl, fun s h => by simp at h, by simp⟩
  · simp [Value.cells] at hcs
    obtain ⟨e1, e2, e3⟩ := hcs
    subst e1 e2 e3
    simp only [if_true] at hmm
    subst hmm
    simp only [Prod.mk.injEq] at hy
    rw [hy.1] at hs
    obtain ⟨w1, w2⟩ := weights_slice Tryd.underlying57 hs
    rw [show Tryd.prog.bytesOf 99 = 120 by kernel_rfl] at w1
    have key : ∀ i, ∃ x : Sp × Option Addr × Nat, i < len0 → x.1.ok ∧ RdHs w x.2.1 x.1.sides ∧ ∀ j u, (spRow x.1 (.slice x.2.1 x.1.sides.length x.2.2))[j]? = some u → w.cell? (a.add (i * 97 + j)) = some u := by
      intro i
      by_cases hi : i < len0
      · obtain ⟨cs', hc1, ht⟩ := hx i (by omega)
        rw [show Tryd.prog.cellsOf 99 = 97 by kernel_rfl] at hc1
        obtain ⟨s, q, k, rfl, ok, hq⟩ := trod_sp ht (w2 (D i) (List.mem_map.2 ⟨i, by simpa using hi, rfl⟩))
        refine ⟨(s, q, k), fun _ => ⟨ok, hq, fun j u hu => ?_⟩⟩
        have hj : j < 97 := by
          have := (List.getElem?_eq_some_iff.1 hu).1
          rw [spRow_len ok] at this
          exact this
        have := (World.cells?_some hc1).2.2 j hj
        rw [Addr.add_add] at this
        rw [this]
        exact hu
      · exact ⟨(sp0, none, 0), fun h => absurd h hi⟩
    obtain ⟨f, hf⟩ := Classical.axiomOfChoice key
    have hlen : ((List.range len0).map fun i => (f i).1).length = len0 := by simp
    have hg : ∀ i, i < len0 → ((List.range len0).map fun i => (f i).1).getD i sp0 = (f i).1 := fun i hi => by simp [List.getD, hi]
    have hle : len0 * 120 ≤ 140737488355328 := by
      simp only [List.length_map, List.length_range] at w1
      omega
    refine ⟨some a, _, (List.range len0).map fun i => (f i).1, by rw [hlen], ?_, ?_, by rw [hlen]; exact hle⟩
    · by_cases h0 : len0 = 0
      · exact .inl (by simp [h0])
      · obtain ⟨b, o, sp⟩ := a
        have hsp : sp = none := by
          obtain ⟨ok, _, h3⟩ := hf 0 (by omega)
          have hl := spRow_len ok (.slice (f 0).2.1 (f 0).1.sides.length (f 0).2.2)
          have := h3 0 _ (List.getElem?_eq_getElem (by omega))
          simpa [Addr.add] using World.cell?_spot this
        subst hsp
        refine .inr ⟨b, o, rfl, fun i hi => ?_⟩
        rw [hlen] at hi
        obtain ⟨ok, h2, h3⟩ := hf i hi
        rw [hg i hi]
        refine ⟨(f i).2.1, (f i).2.2, rowOf_vals (spRow_len ok _) (by decide) (fun j u hu => ?_), h2⟩
        have := h3 j u hu
        rw [addr_add] at this
        rw [← this]
        congr 2
        omega
    · intro s hS
      obtain ⟨i, hi, rfl⟩ := List.mem_map.1 hS
      exact (hf i (List.mem_range.1 hi)).1
end
end Go.Proofs.YtjgfjmkfcippcaaDoor
