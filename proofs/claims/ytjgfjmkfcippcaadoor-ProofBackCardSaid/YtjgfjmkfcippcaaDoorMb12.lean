/-
  The walk of basculelaw06.ProofRoots.; The frame of every law's proof: a call that answers true, and of what there was turns nothing, is what the row asks.; A slice of bytes, as a law's argument.
-/
import Derived.Test.YtjgfjmkfcippcaaDoorRows
import Derived.WalkKit
import Derived.ProofKit
import Derived.OpenShut
import Derived.Lib.SmallJoins
import Derived.Deep.Slices
import Derived.Deep.Grids
import Derived.Test.YtjgfjmkfcippcaaDoorMb1
import Derived.Test.YtjgfjmkfcippcaaDoorMb11
namespace Go.Proofs.YtjgfjmkfcippcaaDoor
set_option maxRecDepth 100000
open Go.RowKit

/-- Boxed: four hashes and a proof. -/
structure UbB (w wr : World) (G K V N M : List Int) (v : Value) : Prop where
  below : Below w.heap.size w wr
  hG : HashAt wr w.heap.size G
  hK : HashAt wr (w.heap.size + 1) K
  hV : HashAt wr (w.heap.size + 2) V
  hN : HashAt wr (w.heap.size + 3) N
  pf : PfB 43 wr (w.heap.size + 4) M v
theorem UbB.on {w W W' : World} {G K V N M : List Int} {v : Value} (h : UbB w W G K V N M v) (hb : Below W.heap.size W W') : UbB w W' G K V N M v := ⟨h.below.trans (hb.mono h.below.size), h.hG.on hb, h.hK.on hb, h.hV.on hb, h.hN.on hb, h.pf.on hb⟩
theorem UbB.start (w : World) (G K V N M : List Int) (v : Value) : UbB w (((((w.alloc (.cells (hc G).toArray 23)).alloc (.cells (hc K).toArray 23)).alloc (.cells (hc V).toArray 23)).alloc (.cells (hc N).toArray 23)).alloc (.cells (pfRow M v).toArray 43)) G K V N M v := by
  have h1 := HashAt.new (w.alloc (.cells (hc G).toArray 23)) K
  have h2 := HashAt.new ((w.alloc (.cells (hc G).toArray 23)).alloc (.cells (hc K).toArray 23)) V
  have h3 := HashAt.new (((w.alloc (.cells (hc G).toArray 23)).alloc (.cells (hc K).toArray 23)).alloc (.cells (hc V).toArray 23)) N
  have h4 := PfB.new (t := 43) ((((w.alloc (.cells (hc G).toArray 23)).alloc (.cells (hc K).toArray 23)).alloc (.cells (hc V).toArray 23)).alloc (.cells (hc N).toArray 23)) M v
  simp only [World.size_alloc] at h1 h2 h3 h4
  exact ⟨(((((Below.refl w.heap.size w).alloc (Nat.le_refl _) _).alloc (by simp) _).alloc (by simp; omega) _).alloc (by simp; omega) _).alloc (by simp; omega) _, ((((HashAt.new w G).alloc _).alloc _).alloc _).alloc _, ((h1.alloc _).alloc _).alloc _, (h2.alloc _).alloc _, h3.alloc _, h4⟩

set_option maxHeartbeats 16000000 in
theorem Roots_walk {w : World} {G K V N M : List Int} {q : Option Addr} {k : Nat} {Ss : List (List Int)} (hT : Tbl w) (hG : G.length = 32) (hK : K.length = 32) (hV : V.length = 32) (hN : N.length = 32) (hM : M.length = 32) (bK : Bytes K) (bV : Bytes V) (bN : Bytes N) (bM : Bytes M) (hs : RdHs w q Ss) (ok : HsOk Ss) (hn32 : Ss.length * 32 ≤ 140737488355328) :
    Calls Tryd.prog 5 #[.agg (hc G).toArray, .agg (hc K).toArray, .agg (hc V).toArray, .agg (hc N).toArray, .agg (pfRow M (.slice q Ss.length k)).toArray] w fun e w' => e = .returned (.bool true) ∧ Below w.heap.size w w' := by
  have S := Lib.hid (UbB.start w G K V N M (.slice q Ss.length k))
  have HS : Hid (∀ W, Below w.heap.size w W → RdHs W q Ss) := fun W hb => hs.on (fun i hi => (ok.get i hi).1) hb
  have HL : Hid (∀ i, i < Ss.length → (Ss.getD i []).length = 32) := fun i hi => (ok.get i hi).1
  have OK := Lib.hid ok
  have BK := Lib.hid bK
  have BV := Lib.hid bV
  have BN := Lib.hid bN
  have BM := Lib.hid bM
  have HT := Lib.hid hT
  have NN := Lib.hid (show Ss.length ≤ 140737488355328 by omega)
  have N32 := Lib.hid hn32
  have hlG := hc_len G
  have hlK := hc_len K
  have hlV := hc_len V
  have hlN := hc_len N
  have hlM := hc_len M
  have hlp := pfRow_len hM (.slice q Ss.length k)
  have z32 := zero32_len
  have rP := S.out.pf.whole hM
  clear bK bV bN bM hs ok hn32 hT
  go_enter Tryd.func5, Tryd.ntmps5
  go_wp2_with fail
  clear rP
  generalize ((((w.alloc (.cells (hc G).toArray 23)).alloc (.cells (hc K).toArray 23)).alloc (.cells (hc V).toArray 23)).alloc (.cells (hc N).toArray 23)).alloc (.cells (pfRow M (.slice q Ss.length k)).toArray 43) = w1 at *
  refine (Proof_any (k := k) hM (HS.out _ S.out.below) OK.out N32.out).mono ?_
  rintro e w2 ⟨q1, k1, rfl, hS1⟩
  have hb2 := hS1.below
  have rd1 := hS1.rd.2.1
  have hlq := pfRow_len hM (.slice q1 Ss.length k1)
  have A := PfB.new (t := 30) w2 zero32 (.slice none 0 0)
  have th := A.there zero32_len
  have B' : Below w2.heap.size w2 ((w2.alloc (.cells (pfRow zero32 (.slice none 0 0)).toArray 30)).setCells w2.heap.size 0 (pfRow M (.slice q1 Ss.length k1))) := below_setCells' _ (Nat.le_refl _) _ _ ((Below.refl _ _).alloc (Nat.le_refl _) _)
  have P11 := Lib.hid (A.put zero32_len hM (.slice q1 Ss.length k1))
  have Q := Lib.hid (rd1.on HL.out B')
  replace S := Lib.hid ((S.out.on hb2).on B')
  have rK := S.out.hK.row hK
  have rV := S.out.hV.row hV
  have rA := P11.out.whole hM
  clear hb2 rd1 A B' hS1
  go_wp2_with fail
  clear th
  clear rK rV rA
  obtain ⟨b11, hq⟩ : ∃ q, q = w2.heap.size := ⟨_, rfl⟩
  rw [← hq] at S P11 Q ⊢
  generalize (w2.alloc (.cells (pfRow zero32 (.slice none 0 0)).toArray 30)).setCells b11 0 (pfRow M (.slice q1 Ss.length k1)) = w3 at *
  clear hq
  refine (pRoot_any (k := k1) (HT.out.on S.out.below HT.out.pos) hK hV hM BK.out BV.out BM.out Q.out OK.out NN.out).mono ?_
  rintro e w4 ⟨rfl, hb⟩
  have lX := rootH_len K V M Ss
  obtain ⟨X, hX⟩ : ∃ X, rootH K V M Ss = X := ⟨_, rfl⟩
  obtain ⟨eX, hE⟩ : ∃ eX, rootE M Ss = eX := ⟨_, rfl⟩
  have HX := Lib.hid hX
  have HEX := Lib.hid hE
  rw [hX] at lX
  rw [hX, hE]
  clear hX hE
  have hlX := hc_len X
  replace S := Lib.hid (S.out.on hb)
  replace P11 := Lib.hid (P11.out.on hb)
  replace Q := Lib.hid (Q.out.on HL.out hb)
  have A := HashAt.new w4 zero32
  have th := A.there zero32_len
  have B' : Below w4.heap.size w4 ((w4.alloc (.cells (hc zero32).toArray 23)).setCells w4.heap.size 0 (hc X)) := below_setCells' _ (Nat.le_refl _) _ _ ((Below.refl _ _).alloc (Nat.le_refl _) _)
  have H12 := Lib.hid (A.put zero32_len lX)
  replace S := Lib.hid (S.out.on B')
  replace P11 := Lib.hid (P11.out.on B')
  replace Q := Lib.hid (Q.out.on HL.out B')
  have rK := S.out.hK.row hK
  have rV := S.out.hV.row hV
  have rP := S.out.pf.whole hM
  clear hb A B'
  go_wp2_with fail
  clear th
  clear rK rV rP
  obtain ⟨b12, hq⟩ : ∃ q, q = w4.heap.size := ⟨_, rfl⟩
  rw [← hq] at S P11 Q H12 ⊢
  generalize (w4.alloc (.cells (hc zero32).toArray 23)).setCells b12 0 (hc X) = w5 at *
  clear hq
  refine (rRoot_any (k := k) hK hV hM BK.out BV.out BM.out (HS.out _ S.out.below) OK.out NN.out).mono ?_
  rintro e w6 ⟨rfl, hb⟩
  rw [HX.out, HEX.out]
  replace S := Lib.hid (S.out.on hb)
  replace P11 := Lib.hid (P11.out.on hb)
  replace Q := Lib.hid (Q.out.on HL.out hb)
  replace H12 := Lib.hid (H12.out.on hb)
  have A := HashAt.new w6 zero32
  have th := A.there zero32_len
  have B' : Below w6.heap.size w6 ((w6.alloc (.cells (hc zero32).toArray 23)).setCells w6.heap.size 0 (hc X)) := below_setCells' _ (Nat.le_refl _) _ _ ((Below.refl _ _).alloc (Nat.le_refl _) _)
  have H14 := Lib.hid (A.put zero32_len lX)
  replace S := Lib.hid (S.out.on B')
  replace P11 := Lib.hid (P11.out.on B')
  replace Q := Lib.hid (Q.out.on HL.out B')
  replace H12 := Lib.hid (H12.out.on B')
  have rG := S.out.hG.row hG
  have rK := S.out.hK.row hK
  have rV := S.out.hV.row hV
  have rN := S.out.hN.row hN
  have rA := P11.out.whole hM
  clear hb A B'
  go_wp2_with fail
  clear th
  clear rG rK rV rN rA
  obtain ⟨b14, hq⟩ : ∃ q, q = w6.heap.size := ⟨_, rfl⟩
  rw [← hq] at S P11 Q H12 H14 ⊢
  generalize (w6.alloc (.cells (hc zero32).toArray 23)).setCells b14 0 (hc X) = w7 at *
  clear hq
  refine (pUpdate_any (k := k1) (HT.out.on S.out.below HT.out.pos) hG hK hV hN hM BK.out BV.out BN.out BM.out Q.out OK.out NN.out).mono ?_
  rintro e w8 ⟨rfl, hb⟩
  have lY := updH_len G K V N M Ss
  obtain ⟨Y, hY⟩ : ∃ Y, updH G K V N M Ss = Y := ⟨_, rfl⟩
  obtain ⟨eY, hE⟩ : ∃ eY, updE G K V M Ss = eY := ⟨_, rfl⟩
  have HY := Lib.hid hY
  have HEY := Lib.hid hE
  rw [hY] at lY
  rw [hY, hE]
  clear hY hE
  have hlY := hc_len Y
  replace S := Lib.hid (S.out.on hb)
  replace P11 := Lib.hid (P11.out.on hb)
  replace Q := Lib.hid (Q.out.on HL.out hb)
  replace H12 := Lib.hid (H12.out.on hb)
  replace H14 := Lib.hid (H14.out.on hb)
  have A := HashAt.new w8 zero32
  have th := A.there zero32_len
  have B' : Below w8.heap.size w8 ((w8.alloc (.cells (hc zero32).toArray 23)).setCells w8.heap.size 0 (hc Y)) := below_setCells' _ (Nat.le_refl _) _ _ ((Below.refl _ _).alloc (Nat.le_refl _) _)
  have H16 := Lib.hid (A.put zero32_len lY)
  replace S := Lib.hid (S.out.on B')
  replace P11 := Lib.hid (P11.out.on B')
  replace Q := Lib.hid (Q.out.on HL.out B')
  replace H12 := Lib.hid (H12.out.on B')
  replace H14 := Lib.hid (H14.out.on B')
  have rG := S.out.hG.row hG
  have rK := S.out.hK.row hK
  have rV := S.out.hV.row hV
  have rN := S.out.hN.row hN
  have rP := S.out.pf.whole hM
  clear hb A B'
  go_wp2_with fail
  clear th
  clear rG rK rV rN rP
  obtain ⟨b16, hq⟩ : ∃ q, q = w8.heap.size := ⟨_, rfl⟩
  rw [← hq] at S P11 Q H12 H14 H16 ⊢
  generalize (w8.alloc (.cells (hc zero32).toArray 23)).setCells b16 0 (hc Y) = w9 at *
  clear hq
  refine (rUpdate_any (k := k) hG hK hV hN hM BK.out BV.out BN.out BM.out (HS.out _ S.out.below) OK.out NN.out).mono ?_
  rintro e w10 ⟨rfl, hb⟩
  rw [HY.out, HEY.out]
  replace S := Lib.hid (S.out.on hb)
  replace P11 := Lib.hid (P11.out.on hb)
  replace Q := Lib.hid (Q.out.on HL.out hb)
  replace H12 := Lib.hid (H12.out.on hb)
  replace H14 := Lib.hid (H14.out.on hb)
  replace H16 := Lib.hid (H16.out.on hb)
  have A := HashAt.new w10 zero32
  have th := A.there zero32_len
  have B' : Below w10.heap.size w10 ((w10.alloc (.cells (hc zero32).toArray 23)).setCells w10.heap.size 0 (hc Y)) := below_setCells' _ (Nat.le_refl _) _ _ ((Below.refl _ _).alloc (Nat.le_refl _) _)
  have H18 := Lib.hid (A.put zero32_len lY)
  replace S := Lib.hid (S.out.on B')
  replace P11 := Lib.hid (P11.out.on B')
  replace Q := Lib.hid (Q.out.on HL.out B')
  replace H12 := Lib.hid (H12.out.on B')
  replace H14 := Lib.hid (H14.out.on B')
  replace H16 := Lib.hid (H16.out.on B')
  have rX := H14.out.row lX
  have rK := S.out.hK.row hK
  have rV := S.out.hV.row hV
  have rN := S.out.hN.row hN
  have rA := P11.out.whole hM
  clear hb A B'
  go_wp2_with fail
  clear th
  clear rX rK rV rN rA
  obtain ⟨b18, hq⟩ : ∃ q, q = w10.heap.size := ⟨_, rfl⟩
  rw [← hq] at S P11 Q H12 H14 H16 H18 ⊢
  generalize (w10.alloc (.cells (hc zero32).toArray 23)).setCells b18 0 (hc Y) = w11 at *
  clear hq
  refine (pUpdate_any (k := k1) (HT.out.on S.out.below HT.out.pos) lX hK hV hN hM BK.out BV.out BN.out BM.out Q.out OK.out NN.out).mono ?_
  rintro e w12 ⟨rfl, hb⟩
  have lZ := updH_len X K V N M Ss
  obtain ⟨Z, hZ⟩ : ∃ Z, updH X K V N M Ss = Z := ⟨_, rfl⟩
  obtain ⟨eZ, hE⟩ : ∃ eZ, updE X K V M Ss = eZ := ⟨_, rfl⟩
  have HZ := Lib.hid hZ
  have HEZ := Lib.hid hE
  rw [hZ] at lZ
  rw [hZ, hE]
  clear hZ hE
  have hlZ := hc_len Z
  replace S := Lib.hid (S.out.on hb)
  replace P11 := Lib.hid (P11.out.on hb)
  replace Q := Lib.hid (Q.out.on HL.out hb)
  replace H12 := Lib.hid (H12.out.on hb)
  replace H14 := Lib.hid (H14.out.on hb)
  replace H16 := Lib.hid (H16.out.on hb)
  replace H18 := Lib.hid (H18.out.on hb)
  have A := HashAt.new w12 zero32
  have th := A.there zero32_len
  have B' : Below w12.heap.size w12 ((w12.alloc (.cells (hc zero32).toArray 23)).setCells w12.heap.size 0 (hc Z)) := below_setCells' _ (Nat.le_refl _) _ _ ((Below.refl _ _).alloc (Nat.le_refl _) _)
  have H20 := Lib.hid (A.put zero32_len lZ)
  replace S := Lib.hid (S.out.on B')
  replace P11 := Lib.hid (P11.out.on B')
  replace Q := Lib.hid (Q.out.on HL.out B')
  replace H12 := Lib.hid (H12.out.on B')
  replace H14 := Lib.hid (H14.out.on B')
  replace H16 := Lib.hid (H16.out.on B')
  replace H18 := Lib.hid (H18.out.on B')
  have rX := H14.out.row lX
  have rK := S.out.hK.row hK
  have rV := S.out.hV.row hV
  have rN := S.out.hN.row hN
  have rP := S.out.pf.whole hM
  clear hb A B'
  go_wp2_with fail
  clear th
  clear rX rK rV rN rP
  obtain ⟨b20, hq⟩ : ∃ q, q = w12.heap.size := ⟨_, rfl⟩
  rw [← hq] at S P11 Q H12 H14 H16 H18 H20 ⊢
  generalize (w12.alloc (.cells (hc zero32).toArray 23)).setCells b20 0 (hc Z) = w13 at *
  clear hq
  refine (rUpdate_any (k := k) lX hK hV hN hM BK.out BV.out BN.out BM.out (HS.out _ S.out.below) OK.out NN.out).mono ?_
  rintro e w14 ⟨rfl, hb⟩
  rw [HZ.out, HEZ.out]
  replace S := Lib.hid (S.out.on hb)
  replace P11 := Lib.hid (P11.out.on hb)
  replace Q := Lib.hid (Q.out.on HL.out hb)
  replace H12 := Lib.hid (H12.out.on hb)
  replace H14 := Lib.hid (H14.out.on hb)
  replace H16 := Lib.hid (H16.out.on hb)
  replace H18 := Lib.hid (H18.out.on hb)
  replace H20 := Lib.hid (H20.out.on hb)
  have A := HashAt.new w14 zero32
  have th := A.there zero32_len
  have B' : Below w14.heap.size w14 ((w14.alloc (.cells (hc zero32).toArray 23)).setCells w14.heap.size 0 (hc Z)) := below_setCells' _ (Nat.le_refl _) _ _ ((Below.refl _ _).alloc (Nat.le_refl _) _)
  have H22 := Lib.hid (A.put zero32_len lZ)
  replace S := Lib.hid (S.out.on B')
  replace P11 := Lib.hid (P11.out.on B')
  replace Q := Lib.hid (Q.out.on HL.out B')
  replace H12 := Lib.hid (H12.out.on B')
  replace H14 := Lib.hid (H14.out.on B')
  replace H16 := Lib.hid (H16.out.on B')
  replace H18 := Lib.hid (H18.out.on B')
  replace H20 := Lib.hid (H20.out.on B')
  clear hb A B'
  go_wp2_with fail
  clear th
  obtain ⟨b22, hq⟩ : ∃ q, q = w14.heap.size := ⟨_, rfl⟩
  rw [← hq] at S P11 Q H12 H14 H16 H18 H20 H22 ⊢
  generalize (w14.alloc (.cells (hc zero32).toArray 23)).setCells b22 0 (hc Z) = w15 at *
  clear hq
  have hKK := hK
  have eqX : (X == X) = true := beq_self_eq_true _
  have eqY : (Y == Y) = true := beq_self_eq_true _
  have eqZ : (Z == Z) = true := beq_self_eq_true _
  have eeX : (eX == eX) = true := beq_self_eq_true _
  have eeY : (eY == eY) = true := beq_self_eq_true _
  have eeZ : (eZ == eZ) = true := beq_self_eq_true _
  obtain ⟨bo, hbo⟩ : ∃ bo, okS M Ss = bo := ⟨_, rfl⟩
  have HBO := Lib.hid hbo
  obtain ⟨bc, hbc⟩ : ∃ bc, ckS G K V M Ss = bc := ⟨_, rfl⟩
  have HBC := Lib.hid hbc
  have eo : (bo == bo) = true := beq_self_eq_true _
  have ec : (bc == bc) = true := beq_self_eq_true _
  clear hbo hbc
  refine wp_region_held_drew (S := fun W => UbB w W G K V N M (.slice q Ss.length k) ∧ PfB 30 W b11 M (.slice q1 Ss.length k1) ∧ RdHs W q1 Ss ∧ HashAt W b12 X ∧ HashAt W b14 X ∧ HashAt W b16 Y ∧ HashAt W b18 Y ∧ HashAt W b20 Z ∧ HashAt W b22 Z) (by kernel_rfl) (⟨S.out.on ((Below.refl _ _).drew), P11.out.on ((Below.refl _ _).drew), Q.out.on HL.out ((Below.refl _ _).drew), H12.out.on ((Below.refl _ _).drew), H14.out.on ((Below.refl _ _).drew), H16.out.on ((Below.refl _ _).drew), H18.out.on ((Below.refl _ _).drew), H20.out.on ((Below.refl _ _).drew), H22.out.on ((Below.refl _ _).drew)⟩) (fun h0 => ?_)
  refine wpAnyH_take (i := 0) (v := ?_) (by rw [List.getElem?_toArray]; rfl) (by kernel_rfl) (by kernel_rfl) (by kernel_rfl) (by exact fun _ _ _ h => h) (Or.inl ⟨by rfl, ?_⟩) h0 ?_
  rotate_left
  · intro W hW
    have ca := hW.2.1.whole hM
    go_simp
    all_goals with_reducible rfl
  try simp only [Act.put, List.setIfInBounds_toArray, List.set_cons_zero, List.set_cons_succ]
  refine wpAnyH_take (i := 2) (v := ?_) (by rw [List.getElem?_toArray]; rfl) (by kernel_rfl) (by kernel_rfl) (by kernel_rfl) (by exact fun _ _ _ h => h) (Or.inl ⟨by rfl, ?_⟩) h0 ?_
  rotate_left
  · intro W hW
    have cp := hW.1.pf.whole hM
    go_simp
    all_goals with_reducible rfl
  try simp only [Act.put, List.setIfInBounds_toArray, List.set_cons_zero, List.set_cons_succ]
  refine wpAnyH_ready (rs := [1]) (by kernel_rfl) (by simp) ?_
  refine AllReadyH.cons (by rw [List.getElem?_toArray]; rfl) (fun K hK => ?_) AllReadyH.nil
  rw [if_pos (by rfl)]
  go_wp2_with fail
  refine (Right_any (k := k1) hM BM.out h0.2.2.1 OK.out NN.out).mono ?_
  rintro e w1x ⟨rfl, hb1⟩
  rw [HBO.out]
  go_wp2_with fail
  refine hK.out _ _ (⟨h0.1.on hb1, h0.2.1.on hb1, h0.2.2.1.on HL.out hb1, h0.2.2.2.1.on hb1, h0.2.2.2.2.1.on hb1, h0.2.2.2.2.2.1.on hb1, h0.2.2.2.2.2.2.1.on hb1, h0.2.2.2.2.2.2.2.1.on hb1, h0.2.2.2.2.2.2.2.2.on hb1⟩) (fun hx1 => ?_)
  clear hK K
  try simp only [Act.put, List.setIfInBounds_toArray, List.set_cons_zero, List.set_cons_succ]
  refine wpAnyH_ready (rs := [3]) (by kernel_rfl) (by simp) ?_
  refine AllReadyH.cons (by rw [List.getElem?_toArray]; rfl) (fun K hK => ?_) AllReadyH.nil
  rw [if_pos (by rfl)]
  go_wp2_with fail
  refine (refRight_any (k := k) hM BM.out (HS.out _ hx1.1.below) OK.out NN.out).mono ?_
  rintro e w3x ⟨rfl, hb3⟩
  rw [HBO.out]
  go_wp2_with fail
  refine hK.out _ _ (⟨hx1.1.on hb3, hx1.2.1.on hb3, hx1.2.2.1.on HL.out hb3, hx1.2.2.2.1.on hb3, hx1.2.2.2.2.1.on hb3, hx1.2.2.2.2.2.1.on hb3, hx1.2.2.2.2.2.2.1.on hb3, hx1.2.2.2.2.2.2.2.1.on hb3, hx1.2.2.2.2.2.2.2.2.on hb3⟩) (fun hx3 => ?_)
  clear hK K
  try simp only [Act.put, List.setIfInBounds_toArray, List.set_cons_zero, List.set_cons_succ]
  refine wpAnyH_take (i := 4) (v := ?_) (by rw [List.getElem?_toArray]; rfl) (by kernel_rfl) (by kernel_rfl) (by kernel_rfl) (by exact fun _ _ _ h => h) (Or.inl ⟨by rfl, ?_⟩) hx3 ?_
  rotate_left
  · intro W hW
    go_simp
    all_goals with_reducible rfl
  try simp only [Act.put, List.setIfInBounds_toArray, List.set_cons_zero, List.set_cons_succ]
  refine wpAnyH_take (i := 5) (v := ?_) (by rw [List.getElem?_toArray]; rfl) (by kernel_rfl) (by kernel_rfl) (by kernel_rfl) (by exact fun _ _ _ h => h) (Or.inl ⟨by rfl, ?_⟩) hx3 ?_
  rotate_left
  · intro W hW
    go_simp
    all_goals with_reducible rfl
  try simp only [Act.put, List.setIfInBounds_toArray, List.set_cons_zero, List.set_cons_succ]
  refine wpAnyH_take (i := 6) (v := ?_) (by rw [List.getElem?_toArray]; rfl) (by kernel_rfl) (by kernel_rfl) (by kernel_rfl) (by exact fun _ _ _ h => h) (Or.inl ⟨by rfl, ?_⟩) hx3 ?_
  rotate_left
  · intro W hW
    have ch := hW.2.2.2.1.row lX
    go_simp
    all_goals with_reducible rfl
  try simp only [Act.put, List.setIfInBounds_toArray, List.set_cons_zero, List.set_cons_succ]
  refine wpAnyH_take (i := 7) (v := ?_) (by rw [List.getElem?_toArray]; rfl) (by kernel_rfl) (by kernel_rfl) (by kernel_rfl) (by exact fun _ _ _ h => h) (Or.inl ⟨by rfl, ?_⟩) hx3 ?_
  rotate_left
  · intro W hW
    have ch := hW.2.2.2.2.1.row lX
    go_simp
    all_goals with_reducible rfl
  try simp only [Act.put, List.setIfInBounds_toArray, List.set_cons_zero, List.set_cons_succ]
  refine wpAnyH_take (i := 8) (v := ?_) (by rw [List.getElem?_toArray]; rfl) (by kernel_rfl) (by kernel_rfl) (by kernel_rfl) (by exact fun _ _ _ h => h) (Or.inl ⟨by rfl, ?_⟩) hx3 ?_
  rotate_left
  · intro W hW
    go_simp
    all_goals with_reducible rfl
  try simp only [Act.put, List.setIfInBounds_toArray, List.set_cons_zero, List.set_cons_succ]
  refine wpAnyH_take (i := 9) (v := ?_) (by rw [List.getElem?_toArray]; rfl) (by kernel_rfl) (by kernel_rfl) (by kernel_rfl) (by exact fun _ _ _ h => h) (Or.inl ⟨by rfl, ?_⟩) hx3 ?_
  rotate_left
  · intro W hW
    go_simp
    all_goals with_reducible rfl
  try simp only [Act.put, List.setIfInBounds_toArray, List.set_cons_zero, List.set_cons_succ]
  refine wpAnyH_take (i := 10) (v := ?_) (by rw [List.getElem?_toArray]; rfl) (by kernel_rfl) (by kernel_rfl) (by kernel_rfl) (by exact fun _ _ _ h => h) (Or.inl ⟨by rfl, ?_⟩) hx3 ?_
  rotate_left
  · intro W hW
    go_simp
    all_goals with_reducible rfl
  try simp only [Act.put, List.setIfInBounds_toArray, List.set_cons_zero, List.set_cons_succ]
  refine wpAnyH_take (i := 11) (v := ?_) (by rw [List.getElem?_toArray]; rfl) (by kernel_rfl) (by kernel_rfl) (by kernel_rfl) (by exact fun _ _ _ h => h) (Or.inl ⟨by rfl, ?_⟩) hx3 ?_
  rotate_left
  · intro W hW
    go_simp
    all_goals with_reducible rfl
  try simp only [Act.put, List.setIfInBounds_toArray, List.set_cons_zero, List.set_cons_succ]
  refine wpAnyH_take (i := 13) (v := ?_) (by rw [List.getElem?_toArray]; rfl) (by kernel_rfl) (by kernel_rfl) (by kernel_rfl) (by exact fun _ _ _ h => h) (Or.inl ⟨by rfl, ?_⟩) hx3 ?_
  rotate_left
  · intro W hW
    go_simp
    all_goals with_reducible rfl
  try simp only [Act.put, List.setIfInBounds_toArray, List.set_cons_zero, List.set_cons_succ]
  refine wpAnyH_ready (rs := [12]) (by kernel_rfl) (by simp) ?_
  refine AllReadyH.cons (by rw [List.getElem?_toArray]; rfl) (fun K hK => ?_) AllReadyH.nil
  rw [if_pos (by rfl)]
  go_wp2_with fail
  refine (num6_any eX _).mono ?_
  rintro e wx ⟨rfl, hwx⟩
  obtain rfl := hwx.symm
  clear hwx
  go_wp2_with fail
  refine hK.out _ _ (hx3) (fun hx12 => ?_)
  clear hK K
  try simp only [Act.put, List.setIfInBounds_toArray, List.set_cons_zero, List.set_cons_succ]
  refine wpAnyH_take (i := 14) (v := ?_) (by rw [List.getElem?_toArray]; rfl) (by kernel_rfl) (by kernel_rfl) (by kernel_rfl) (by exact fun _ _ _ h => h) (Or.inl ⟨by rfl, ?_⟩) hx12 ?_
  rotate_left
  · intro W hW
    go_simp
    all_goals with_reducible rfl
  try simp only [Act.put, List.setIfInBounds_toArray, List.set_cons_zero, List.set_cons_succ]
  refine wpAnyH_take (i := 15) (v := ?_) (by rw [List.getElem?_toArray]; rfl) (by kernel_rfl) (by kernel_rfl) (by kernel_rfl) (by exact fun _ _ _ h => h) (Or.inl ⟨by rfl, ?_⟩) hx12 ?_
  rotate_left
  · intro W hW
    go_simp
    all_goals with_reducible rfl
  try simp only [Act.put, List.setIfInBounds_toArray, List.set_cons_zero, List.set_cons_succ]
  refine wpAnyH_take (i := 16) (v := ?_) (by rw [List.getElem?_toArray]; rfl) (by kernel_rfl) (by kernel_rfl) (by kernel_rfl) (by exact fun _ _ _ h => h) (Or.inl ⟨by rfl, ?_⟩) hx12 ?_
  rotate_left
  · intro W hW
    go_simp
    all_goals with_reducible rfl
  try simp only [Act.put, List.setIfInBounds_toArray, List.set_cons_zero, List.set_cons_succ]
  refine wpAnyH_take (i := 17) (v := ?_) (by rw [List.getElem?_toArray]; rfl) (by kernel_rfl) (by kernel_rfl) (by kernel_rfl) (by exact fun _ _ _ h => h) (Or.inl ⟨by rfl, ?_⟩) hx12 ?_
  rotate_left
  · intro W hW
    have ch := hW.1.hG.row hG
    go_simp
    all_goals with_reducible rfl
  try simp only [Act.put, List.setIfInBounds_toArray, List.set_cons_zero, List.set_cons_succ]
  refine wpAnyH_take (i := 18) (v := ?_) (by rw [List.getElem?_toArray]; rfl) (by kernel_rfl) (by kernel_rfl) (by kernel_rfl) (by exact fun _ _ _ h => h) (Or.inl ⟨by rfl, ?_⟩) hx12 ?_
  rotate_left
  · intro W hW
    have ch := hW.1.hK.row hK
    go_simp
    all_goals with_reducible rfl
  try simp only [Act.put, List.setIfInBounds_toArray, List.set_cons_zero, List.set_cons_succ]
  refine wpAnyH_take (i := 19) (v := ?_) (by rw [List.getElem?_toArray]; rfl) (by kernel_rfl) (by kernel_rfl) (by kernel_rfl) (by exact fun _ _ _ h => h) (Or.inl ⟨by rfl, ?_⟩) hx12 ?_
  rotate_left
  · intro W hW
    have ch := hW.1.hV.row hV
    go_simp
    all_goals with_reducible rfl
  try simp only [Act.put, List.setIfInBounds_toArray, List.set_cons_zero, List.set_cons_succ]
  refine wpAnyH_take (i := 20) (v := ?_) (by rw [List.getElem?_toArray]; rfl) (by kernel_rfl) (by kernel_rfl) (by kernel_rfl) (by exact fun _ _ _ h => h) (Or.inl ⟨by rfl, ?_⟩) hx12 ?_
  rotate_left
  · intro W hW
    have ca := hW.2.1.whole hM
    go_simp
    all_goals with_reducible rfl
  try simp only [Act.put, List.setIfInBounds_toArray, List.set_cons_zero, List.set_cons_succ]
  refine wpAnyH_take (i := 22) (v := ?_) (by rw [List.getElem?_toArray]; rfl) (by kernel_rfl) (by kernel_rfl) (by kernel_rfl) (by exact fun _ _ _ h => h) (Or.inl ⟨by rfl, ?_⟩) hx12 ?_
  rotate_left
  · intro W hW
    have ch := hW.1.hG.row hG
    go_simp
    all_goals with_reducible rfl
  try simp only [Act.put, List.setIfInBounds_toArray, List.set_cons_zero, List.set_cons_succ]
  refine wpAnyH_take (i := 23) (v := ?_) (by rw [List.getElem?_toArray]; rfl) (by kernel_rfl) (by kernel_rfl) (by kernel_rfl) (by exact fun _ _ _ h => h) (Or.inl ⟨by rfl, ?_⟩) hx12 ?_
  rotate_left
  · intro W hW
    have ch := hW.1.hK.row hK
    go_simp
    all_goals with_reducible rfl
  try simp only [Act.put, List.setIfInBounds_toArray, List.set_cons_zero, List.set_cons_succ]
  refine wpAnyH_take (i := 24) (v := ?_) (by rw [List.getElem?_toArray]; rfl) (by kernel_rfl) (by kernel_rfl) (by kernel_rfl) (by exact fun _ _ _ h => h) (Or.inl ⟨by rfl, ?_⟩) hx12 ?_
  rotate_left
  · intro W hW
    have ch := hW.1.hV.row hV
    go_simp
    all_goals with_reducible rfl
  try simp only [Act.put, List.setIfInBounds_toArray, List.set_cons_zero, List.set_cons_succ]
  refine wpAnyH_take (i := 25) (v := ?_) (by rw [List.getElem?_toArray]; rfl) (by kernel_rfl) (by kernel_rfl) (by kernel_rfl) (by exact fun _ _ _ h => h) (Or.inl ⟨by rfl, ?_⟩) hx12 ?_
  rotate_left
  · intro W hW
    have cp := hW.1.pf.whole hM
    go_simp
    all_goals with_reducible rfl
  try simp only [Act.put, List.setIfInBounds_toArray, List.set_cons_zero, List.set_cons_succ]
  refine wpAnyH_ready (rs := [21]) (by kernel_rfl) (by simp) ?_
  refine AllReadyH.cons (by rw [List.getElem?_toArray]; rfl) (fun K hK => ?_) AllReadyH.nil
  rw [if_pos (by rfl)]
  go_wp2_with fail
  refine (pCheck_any (k := k1) (HT.out.on hx12.1.below HT.out.pos) hG hKK hV hM BK.out BV.out BM.out hx12.2.2.1 OK.out NN.out).mono ?_
  rintro e w21x ⟨rfl, hb21⟩
  rw [HBC.out]
  go_wp2_with fail
  refine hK.out _ _ (⟨hx12.1.on hb21, hx12.2.1.on hb21, hx12.2.2.1.on HL.out hb21, hx12.2.2.2.1.on hb21, hx12.2.2.2.2.1.on hb21, hx12.2.2.2.2.2.1.on hb21, hx12.2.2.2.2.2.2.1.on hb21, hx12.2.2.2.2.2.2.2.1.on hb21, hx12.2.2.2.2.2.2.2.2.on hb21⟩) (fun hx21 => ?_)
  clear hK K
  try simp only [Act.put, List.setIfInBounds_toArray, List.set_cons_zero, List.set_cons_succ]
  refine wpAnyH_ready (rs := [26]) (by kernel_rfl) (by simp) ?_
  refine AllReadyH.cons (by rw [List.getElem?_toArray]; rfl) (fun K hK => ?_) AllReadyH.nil
  rw [if_pos (by rfl)]
  go_wp2_with fail
  refine (rCheck_any (k := k) hG hKK hV hM BK.out BV.out BM.out (HS.out _ hx21.1.below) OK.out NN.out).mono ?_
  rintro e w26x ⟨rfl, hb26⟩
  rw [HBC.out]
  go_wp2_with fail
  refine hK.out _ _ (⟨hx21.1.on hb26, hx21.2.1.on hb26, hx21.2.2.1.on HL.out hb26, hx21.2.2.2.1.on hb26, hx21.2.2.2.2.1.on hb26, hx21.2.2.2.2.2.1.on hb26, hx21.2.2.2.2.2.2.1.on hb26, hx21.2.2.2.2.2.2.2.1.on hb26, hx21.2.2.2.2.2.2.2.2.on hb26⟩) (fun hx26 => ?_)
  clear hK K
  try simp only [Act.put, List.setIfInBounds_toArray, List.set_cons_zero, List.set_cons_succ]
  refine wpAnyH_take (i := 27) (v := ?_) (by rw [List.getElem?_toArray]; rfl) (by kernel_rfl) (by kernel_rfl) (by kernel_rfl) (by exact fun _ _ _ h => h) (Or.inl ⟨by rfl, ?_⟩) hx26 ?_
  rotate_left
  · intro W hW
    go_simp
    all_goals with_reducible rfl
  try simp only [Act.put, List.setIfInBounds_toArray, List.set_cons_zero, List.set_cons_succ]
  refine wpAnyH_take (i := 28) (v := ?_) (by rw [List.getElem?_toArray]; rfl) (by kernel_rfl) (by kernel_rfl) (by kernel_rfl) (by exact fun _ _ _ h => h) (Or.inl ⟨by rfl, ?_⟩) hx26 ?_
  rotate_left
  · intro W hW
    go_simp
    all_goals with_reducible rfl
  try simp only [Act.put, List.setIfInBounds_toArray, List.set_cons_zero, List.set_cons_succ]
  refine wpAnyH_take (i := 29) (v := ?_) (by rw [List.getElem?_toArray]; rfl) (by kernel_rfl) (by kernel_rfl) (by kernel_rfl) (by exact fun _ _ _ h => h) (Or.inl ⟨by rfl, ?_⟩) hx26 ?_
  rotate_left
  · intro W hW
    go_simp
    all_goals with_reducible rfl
  try simp only [Act.put, List.setIfInBounds_toArray, List.set_cons_zero, List.set_cons_succ]
  refine wpAnyH_take (i := 30) (v := ?_) (by rw [List.getElem?_toArray]; rfl) (by kernel_rfl) (by kernel_rfl) (by kernel_rfl) (by exact fun _ _ _ h => h) (Or.inl ⟨by rfl, ?_⟩) hx26 ?_
  rotate_left
  · intro W hW
    have ch := hW.2.2.2.2.2.1.row lY
    go_simp
    all_goals with_reducible rfl
  try simp only [Act.put, List.setIfInBounds_toArray, List.set_cons_zero, List.set_cons_succ]
  refine wpAnyH_take (i := 31) (v := ?_) (by rw [List.getElem?_toArray]; rfl) (by kernel_rfl) (by kernel_rfl) (by kernel_rfl) (by exact fun _ _ _ h => h) (Or.inl ⟨by rfl, ?_⟩) hx26 ?_
  rotate_left
  · intro W hW
    have ch := hW.2.2.2.2.2.2.1.row lY
    go_simp
    all_goals with_reducible rfl
  try simp only [Act.put, List.setIfInBounds_toArray, List.set_cons_zero, List.set_cons_succ]
  refine wpAnyH_take (i := 32) (v := ?_) (by rw [List.getElem?_toArray]; rfl) (by kernel_rfl) (by kernel_rfl) (by kernel_rfl) (by exact fun _ _ _ h => h) (Or.inl ⟨by rfl, ?_⟩) hx26 ?_
  rotate_left
  · intro W hW
    go_simp
    all_goals with_reducible rfl
  try simp only [Act.put, List.setIfInBounds_toArray, List.set_cons_zero, List.set_cons_succ]
  refine wpAnyH_take (i := 33) (v := ?_) (by rw [List.getElem?_toArray]; rfl) (by kernel_rfl) (by kernel_rfl) (by kernel_rfl) (by exact fun _ _ _ h => h) (Or.inl ⟨by rfl, ?_⟩) hx26 ?_
  rotate_left
  · intro W hW
    go_simp
    all_goals with_reducible rfl
  try simp only [Act.put, List.setIfInBounds_toArray, List.set_cons_zero, List.set_cons_succ]
  refine wpAnyH_take (i := 34) (v := ?_) (by rw [List.getElem?_toArray]; rfl) (by kernel_rfl) (by kernel_rfl) (by kernel_rfl) (by exact fun _ _ _ h => h) (Or.inl ⟨by rfl, ?_⟩) hx26 ?_
  rotate_left
  · intro W hW
    go_simp
    all_goals with_reducible rfl
  try simp only [Act.put, List.setIfInBounds_toArray, List.set_cons_zero, List.set_cons_succ]
  refine wpAnyH_take (i := 35) (v := ?_) (by rw [List.getElem?_toArray]; rfl) (by kernel_rfl) (by kernel_rfl) (by kernel_rfl) (by exact fun _ _ _ h => h) (Or.inl ⟨by rfl, ?_⟩) hx26 ?_
  rotate_left
  · intro W hW
    go_simp
    all_goals with_reducible rfl
  try simp only [Act.put, List.setIfInBounds_toArray, List.set_cons_zero, List.set_cons_succ]
  refine wpAnyH_take (i := 37) (v := ?_) (by rw [List.getElem?_toArray]; rfl) (by kernel_rfl) (by kernel_rfl) (by kernel_rfl) (by exact fun _ _ _ h => h) (Or.inl ⟨by rfl, ?_⟩) hx26 ?_
  rotate_left
  · intro W hW
    go_simp
    all_goals with_reducible rfl
  try simp only [Act.put, List.setIfInBounds_toArray, List.set_cons_zero, List.set_cons_succ]
  refine wpAnyH_ready (rs := [36]) (by kernel_rfl) (by simp) ?_
  refine AllReadyH.cons (by rw [List.getElem?_toArray]; rfl) (fun K hK => ?_) AllReadyH.nil
  rw [if_pos (by rfl)]
  go_wp2_with fail
  refine (num6_any eY _).mono ?_
  rintro e wx ⟨rfl, hwx⟩
  obtain rfl := hwx.symm
  clear hwx
  go_wp2_with fail
  refine hK.out _ _ (hx26) (fun hx36 => ?_)
  clear hK K
  try simp only [Act.put, List.setIfInBounds_toArray, List.set_cons_zero, List.set_cons_succ]
  refine wpAnyH_take (i := 38) (v := ?_) (by rw [List.getElem?_toArray]; rfl) (by kernel_rfl) (by kernel_rfl) (by kernel_rfl) (by exact fun _ _ _ h => h) (Or.inl ⟨by rfl, ?_⟩) hx36 ?_
  rotate_left
  · intro W hW
    go_simp
    all_goals with_reducible rfl
  try simp only [Act.put, List.setIfInBounds_toArray, List.set_cons_zero, List.set_cons_succ]
  refine wpAnyH_take (i := 39) (v := ?_) (by rw [List.getElem?_toArray]; rfl) (by kernel_rfl) (by kernel_rfl) (by kernel_rfl) (by exact fun _ _ _ h => h) (Or.inl ⟨by rfl, ?_⟩) hx36 ?_
  rotate_left
  · intro W hW
    go_simp
    all_goals with_reducible rfl
  try simp only [Act.put, List.setIfInBounds_toArray, List.set_cons_zero, List.set_cons_succ]
  refine wpAnyH_take (i := 40) (v := ?_) (by rw [List.getElem?_toArray]; rfl) (by kernel_rfl) (by kernel_rfl) (by kernel_rfl) (by exact fun _ _ _ h => h) (Or.inl ⟨by rfl, ?_⟩) hx36 ?_
  rotate_left
  · intro W hW
    go_simp
    all_goals with_reducible rfl
  try simp only [Act.put, List.setIfInBounds_toArray, List.set_cons_zero, List.set_cons_succ]
  refine wpAnyH_take (i := 41) (v := ?_) (by rw [List.getElem?_toArray]; rfl) (by kernel_rfl) (by kernel_rfl) (by kernel_rfl) (by exact fun _ _ _ h => h) (Or.inl ⟨by rfl, ?_⟩) hx36 ?_
  rotate_left
  · intro W hW
    have ch := hW.2.2.2.2.2.2.2.1.row lZ
    go_simp
    all_goals with_reducible rfl
  try simp only [Act.put, List.setIfInBounds_toArray, List.set_cons_zero, List.set_cons_succ]
  refine wpAnyH_take (i := 42) (v := ?_) (by rw [List.getElem?_toArray]; rfl) (by kernel_rfl) (by kernel_rfl) (by kernel_rfl) (by exact fun _ _ _ h => h) (Or.inl ⟨by rfl, ?_⟩) hx36 ?_
  rotate_left
  · intro W hW
    have ch := hW.2.2.2.2.2.2.2.2.row lZ
    go_simp
    all_goals with_reducible rfl
  try simp only [Act.put, List.setIfInBounds_toArray, List.set_cons_zero, List.set_cons_succ]
  refine wpAnyH_take (i := 43) (v := ?_) (by rw [List.getElem?_toArray]; rfl) (by kernel_rfl) (by kernel_rfl) (by kernel_rfl) (by exact fun _ _ _ h => h) (Or.inl ⟨by rfl, ?_⟩) hx36 ?_
  rotate_left
  · intro W hW
    go_simp
    all_goals with_reducible rfl
  try simp only [Act.put, List.setIfInBounds_toArray, List.set_cons_zero, List.set_cons_succ]
  refine wpAnyH_take (i := 44) (v := ?_) (by rw [List.getElem?_toArray]; rfl) (by kernel_rfl) (by kernel_rfl) (by kernel_rfl) (by exact fun _ _ _ h => h) (Or.inl ⟨by rfl, ?_⟩) hx36 ?_
  rotate_left
  · intro W hW
    go_simp
    all_goals with_reducible rfl
  try simp only [Act.put, List.setIfInBounds_toArray, List.set_cons_zero, List.set_cons_succ]
  refine wpAnyH_take (i := 45) (v := ?_) (by rw [List.getElem?_toArray]; rfl) (by kernel_rfl) (by kernel_rfl) (by kernel_rfl) (by exact fun _ _ _ h => h) (Or.inl ⟨by rfl, ?_⟩) hx36 ?_
  rotate_left
  · intro W hW
    go_simp
    all_goals with_reducible rfl
  try simp only [Act.put, List.setIfInBounds_toArray, List.set_cons_zero, List.set_cons_succ]
  refine wpAnyH_take (i := 46) (v := ?_) (by rw [List.getElem?_toArray]; rfl) (by kernel_rfl) (by kernel_rfl) (by kernel_rfl) (by exact fun _ _ _ h => h) (Or.inl ⟨by rfl, ?_⟩) hx36 ?_
  rotate_left
  · intro W hW
    go_simp
    all_goals with_reducible rfl
  try simp only [Act.put, List.setIfInBounds_toArray, List.set_cons_zero, List.set_cons_succ]
  refine wpAnyH_take (i := 48) (v := ?_) (by rw [List.getElem?_toArray]; rfl) (by kernel_rfl) (by kernel_rfl) (by kernel_rfl) (by exact fun _ _ _ h => h) (Or.inl ⟨by rfl, ?_⟩) hx36 ?_
  rotate_left
  · intro W hW
    go_simp
    all_goals with_reducible rfl
  try simp only [Act.put, List.setIfInBounds_toArray, List.set_cons_zero, List.set_cons_succ]
  refine wpAnyH_ready (rs := [47]) (by kernel_rfl) (by simp) ?_
  refine AllReadyH.cons (by rw [List.getElem?_toArray]; rfl) (fun K hK => ?_) AllReadyH.nil
  rw [if_pos (by rfl)]
  go_wp2_with fail
  refine (num6_any eZ _).mono ?_
  rintro e wx ⟨rfl, hwx⟩
  obtain rfl := hwx.symm
  clear hwx
  go_wp2_with fail
  refine hK.out _ _ (hx36) (fun hx47 => ?_)
  clear hK K
  try simp only [Act.put, List.setIfInBounds_toArray, List.set_cons_zero, List.set_cons_succ]
  refine wpAnyH_take (i := 49) (v := ?_) (by rw [List.getElem?_toArray]; rfl) (by kernel_rfl) (by kernel_rfl) (by kernel_rfl) (by exact fun _ _ _ h => h) (Or.inl ⟨by rfl, ?_⟩) hx47 ?_
  rotate_left
  · intro W hW
    go_simp
    all_goals with_reducible rfl
  try simp only [Act.put, List.setIfInBounds_toArray, List.set_cons_zero, List.set_cons_succ]
  refine wpAnyH_take (i := 50) (v := ?_) (by rw [List.getElem?_toArray]; rfl) (by kernel_rfl) (by kernel_rfl) (by kernel_rfl) (by exact fun _ _ _ h => h) (Or.inl ⟨by rfl, ?_⟩) hx47 ?_
  rotate_left
  · intro W hW
    go_simp
    all_goals with_reducible rfl
  try simp only [Act.put, List.setIfInBounds_toArray, List.set_cons_zero, List.set_cons_succ]
  refine wpAnyH_take (i := 51) (v := ?_) (by rw [List.getElem?_toArray]; rfl) (by kernel_rfl) (by kernel_rfl) (by kernel_rfl) (by exact fun _ _ _ h => h) (Or.inl ⟨by rfl, ?_⟩) hx47 ?_
  rotate_left
  · intro W hW
    go_simp
    all_goals with_reducible rfl
  try simp only [Act.put, List.setIfInBounds_toArray, List.set_cons_zero, List.set_cons_succ]
  refine wpAnyH_take (i := 52) (v := ?_) (by rw [List.getElem?_toArray]; rfl) (by kernel_rfl) (by kernel_rfl) (by kernel_rfl) (by exact fun _ _ _ h => h) (Or.inl ⟨by rfl, ?_⟩) hx47 ?_
  rotate_left
  · intro W hW
    have ca := hW.2.1.whole hM
    go_simp
    all_goals with_reducible rfl
  try simp only [Act.put, List.setIfInBounds_toArray, List.set_cons_zero, List.set_cons_succ]
  refine wpAnyH_take (i := 53) (v := ?_) (by rw [List.getElem?_toArray]; rfl) (by kernel_rfl) (by kernel_rfl) (by kernel_rfl) (by exact fun _ _ _ h => h) (Or.inl ⟨by rfl, ?_⟩) hx47 ?_
  rotate_left
  · intro W hW
    have cp := hW.1.pf.whole hM
    go_simp
    all_goals with_reducible rfl
  try simp only [Act.put, List.setIfInBounds_toArray, List.set_cons_zero, List.set_cons_succ]
  refine wpAnyH_ready (rs := [54]) (by kernel_rfl) (by simp) ?_
  refine AllReadyH.cons (by rw [List.getElem?_toArray]; rfl) (fun K hK => ?_) AllReadyH.nil
  rw [if_pos (by rfl)]
  go_wp2_with fail
  refine (Same5_any (k := k1) (k' := k) hM hx47.2.2.1 (HS.out _ hx47.1.below) OK.out NN.out).mono ?_
  rintro e w54x ⟨rfl, hb54⟩
  go_wp2_with fail
  refine hK.out _ _ (⟨hx47.1.on hb54, hx47.2.1.on hb54, hx47.2.2.1.on HL.out hb54, hx47.2.2.2.1.on hb54, hx47.2.2.2.2.1.on hb54, hx47.2.2.2.2.2.1.on hb54, hx47.2.2.2.2.2.2.1.on hb54, hx47.2.2.2.2.2.2.2.1.on hb54, hx47.2.2.2.2.2.2.2.2.on hb54⟩) (fun hx54 => ?_)
  clear hK K
  try simp only [Act.put, List.setIfInBounds_toArray, List.set_cons_zero, List.set_cons_succ]
  refine wpAnyH_take (i := 55) (v := ?_) (by rw [List.getElem?_toArray]; rfl) (by kernel_rfl) (by kernel_rfl) (by kernel_rfl) (by exact fun _ _ _ h => h) (Or.inl ⟨by rfl, ?_⟩) hx54 ?_
  rotate_left
  · intro W hW
    go_simp
    all_goals with_reducible rfl
  try simp only [Act.put, List.setIfInBounds_toArray, List.set_cons_zero, List.set_cons_succ]
  refine wpAnyH_take (i := 56) (v := ?_) (by rw [List.getElem?_toArray]; rfl) (by kernel_rfl) (by kernel_rfl) (by kernel_rfl) (by exact fun _ _ _ h => h) (Or.inl ⟨by rfl, ?_⟩) hx54 ?_
  rotate_left
  · intro W hW
    go_simp
    all_goals with_reducible rfl
  try simp only [Act.put, List.setIfInBounds_toArray, List.set_cons_zero, List.set_cons_succ]
  refine wpAnyH_ready (rs := [57]) (by kernel_rfl) (by simp) ?_
  refine AllReadyH.cons (by rw [List.getElem?_toArray]; rfl) (fun K hK => ?_) AllReadyH.nil
  rw [if_pos (by rfl)]
  go_wp2_with fail
  refine (knows6_any (HT.out.on hx54.1.below HT.out.pos)).mono ?_
  rintro e w57x ⟨rfl, hb57⟩
  go_wp2_with fail
  refine hK.out _ _ (⟨hx54.1.on hb57, hx54.2.1.on hb57, hx54.2.2.1.on HL.out hb57, hx54.2.2.2.1.on hb57, hx54.2.2.2.2.1.on hb57, hx54.2.2.2.2.2.1.on hb57, hx54.2.2.2.2.2.2.1.on hb57, hx54.2.2.2.2.2.2.2.1.on hb57, hx54.2.2.2.2.2.2.2.2.on hb57⟩) (fun hx57 => ?_)
  clear hK K
  try simp only [Act.put, List.setIfInBounds_toArray, List.set_cons_zero, List.set_cons_succ]
  refine wpAnyH_take (i := 58) (v := ?_) (by rw [List.getElem?_toArray]; rfl) (by kernel_rfl) (by kernel_rfl) (by kernel_rfl) (by exact fun _ _ _ h => h) (Or.inl ⟨by rfl, ?_⟩) hx57 ?_
  rotate_left
  · intro W hW
    go_simp
    all_goals with_reducible rfl
  try simp only [Act.put, List.setIfInBounds_toArray, List.set_cons_zero, List.set_cons_succ]
  refine wpAnyH_take (i := 59) (v := ?_) (by rw [List.getElem?_toArray]; rfl) (by kernel_rfl) (by kernel_rfl) (by kernel_rfl) (by exact fun _ _ _ h => h) (Or.inl ⟨by rfl, ?_⟩) hx57 ?_
  rotate_left
  · intro W hW
    go_simp
    all_goals with_reducible rfl
  try simp only [Act.put, List.setIfInBounds_toArray, List.set_cons_zero, List.set_cons_succ]
  refine wpAnyH_done (by kernel_rfl) ?_ _
  have BE := Lib.hid hx57.1.below
  go_wp2_with fail
  go_ret
  exact ⟨rfl, BE.out⟩
end Go.Proofs.YtjgfjmkfcippcaaDoor
namespace Go.Proofs.YtjgfjmkfcippcaaDoor
open Go.ChangeShapes Go.WideShapes Go.ChangeAt Go.RowKit

theorem Tryd.ownNone : ownKnob Tryd.prog.godebug = none := by kernel_rfl
theorem Tryd.laidOutTrue : laidOutB Tryd.prog = true := by kernel_rfl

section
variable {H : Type} {enc : TypeId × Value → H} {P : Program}

theorem post_of_below {f : Func} {s : ChangeSpec} {apart fresh handsOn again : Bool} {W W' : World} {args : Array Value} {v : Value} {ds gs : List (DataW H)} {before pa pv : List MemPlace}
    (hW : DataW.Whole enc P f.params.toList s.vars apart W args.toList ds gs before)
    (hres : ∀ (b : Nat) (sp : Nat → Bool) (hd : Bool), DataW.TrodAll enc P W' b sp hd f.resultTypes.toList (v.resultList f.resultTypes.size) (s.fn H (ds ++ gs)).results [])
    (hargs : ∀ sp : Nat → Bool, (∀ p ∈ before, sp p.block = true) → DataW.TrodAll enc P W' 0 sp true f.params.toList args.toList (s.fn H (ds ++ gs)).args pa)
    (hvars : ∀ sp : Nat → Bool, (∀ p ∈ before, sp p.block = true) → DataW.TrodVars enc P W' sp s.vars (s.fn H (ds ++ gs)).vars pv)
    (hps : before = pa ++ pv) (hb : Below W.heap.size W W')
    (hok : ∀ (j : Nat) (t : TypeId) (r : Value), f.resultTypes[j]? = some t → (v.resultList f.resultTypes.size)[j]? = some r → Value.okWide P W' .any 0 t r) :
    s.post enc P f apart fresh handsOn again W args v W' := by
  have hlt : ∀ p ∈ before, p.block < W.heap.size := fun p hp => hW.lt p hp
  have hold : ∀ p ∈ before, (fun b => decide (b < W.heap.size)) p.block = true := fun p hp => by simpa using hlt p hp
  refine ⟨ds, gs, before, [], pa, pv, hW, hres _ _ _, hargs _ hold, hvars _ hold, World.keptBut_mono (fun p hp => ⟨hp, ?_⟩) (hb.frame (· ∈ before)), fun _ => ?_⟩
  · rw [hps, List.mem_append] at hp
    exact Or.inr hp
  · obtain ⟨_, _, _, _, _, hz, hn⟩ := hW
    refine ⟨hok, _, _, ([] ++ pa) ++ pv, ⟨[] ++ pa, pv, trodAll_append (hargs _ (fun _ _ => rfl)) (hres _ _ _), hvars _ (fun _ _ => rfl), rfl, ?_, ?_⟩, ?_⟩
    · intro b off hp
      have hin : MemPlace.cell b off ∈ before := by rw [hps]; simpa using hp
      rw [hb.frozen (hlt _ hin)]
      exact hz b off hin
    · intro ha
      have := hn ha
      rw [hps] at this
      simpa using this
    · intro p hp _
      rw [hps]
      simpa using hp

theorem trodAll_stays (hl : laidOutB P = true) {W W' : World} {sp' : Nat → Bool} : ∀ (ts : List TypeId) (_ : ts.all (fun t => P.readableRec t && decide (t < P.types.size)) = true) {vs : List Value} {ds : List (DataW H)} {ps : List MemPlace}
    (_ : DataW.TrodAll enc P W 0 (fun _ => true) true ts vs ds ps) (_ : ∀ p ∈ ps, W.sameAt W' p) (_ : ∀ p ∈ ps, sp' p.block = true), DataW.TrodAll enc P W' 0 sp' true ts vs ds ps
  | [], _, vs, ds, ps, h, _, _ => by
    obtain ⟨rfl, rfl, rfl⟩ := trodAll_nil h
    exact trodAll_mk0
  | t :: ts, hr, vs, ds, ps, h, hsame, hs => by
    obtain ⟨v, vs', d, ds', p, q, rfl, rfl, rfl, h1, h2⟩ := trodAll_cons h
    simp only [List.all_cons, Bool.and_eq_true, decide_eq_true_eq] at hr
    exact trodAll_cons_mk (WideElems.Trod_stays hl hr.1.1 hr.1.2 h1 (fun x hx => hsame x (by simp [hx])) (fun x hx => hs x (by simp [hx])))
      (trodAll_stays hl ts hr.2 h2 (fun x hx => hsame x (by simp [hx])) (fun x hx => hs x (by simp [hx])))

/-- A LAW's END: it answers true, and of what there was nothing has turned. -/
theorem law_post {f : Func} {s : ChangeSpec} {tb : TypeId} {W W' : World} {args : Array Value} {ds gs : List (DataW H)} {before : List MemPlace} (hl : laidOutB P = true)
    (hW : DataW.Whole enc P f.params.toList s.vars false W args.toList ds gs before) (hvars : s.vars = []) (hpar : f.params.toList.all (fun t => P.readableRec t && decide (t < P.types.size)) = true)
    (hrt : f.resultTypes = #[tb]) (htb : P.underlying tb = some .bool) (hres : (s.fn H ds).results = [.lit (.bool true)]) (hargs : (s.fn H ds).args = ds) (hvs : (s.fn H ds).vars = [])
    (hb : Below W.heap.size W W') : s.post enc P f false true false false W args (.bool true) W' := by
  have hW' := hW
  have hlt : ∀ p ∈ before, p.block < W.heap.size := fun p hp => hW.lt p hp
  obtain ⟨p, q, hA, hV, rfl, hfz, hnd⟩ := hW
  rw [hvars] at hV
  obtain ⟨rfl, rfl⟩ := trodVars_none hV
  refine post_of_below (pa := p) (pv := []) hW' ?_ ?_ ?_ rfl hb ?_
  · intro b sp hd
    rw [List.append_nil, hres, hrt]
    exact trodAll_mk1 (shut_bool htb true)
  · intro sp hsp
    rw [List.append_nil, hargs]
    exact trodAll_stays hl _ hpar hA (fun x hx => hb.same (hlt x (by simp [hx]))) (fun x hx => hsp x (by simp [hx]))
  · intro sp hsp
    rw [List.append_nil, hvs, hvars]
    rfl
  · exact ok_one hrt rfl (okWide_bool_mk htb true)
end
end Go.Proofs.YtjgfjmkfcippcaaDoor
namespace Go.Proofs.YtjgfjmkfcippcaaDoor
set_option maxRecDepth 100000
open Go.ChangeShapes Go.WideShapes Go.ChangeAt Go.RowKit Go.Deep

theorem u8_bounds {x : Int} (h : (Lit.int .u8 x).wf = true) : 0 ≤ x ∧ x < 256 := by
  have : 0 ≤ x ∧ x ≤ 255 := by simpa [Lit.wf, IntKind.min, IntKind.max, IntKind.signed, IntKind.bits] using h
  omega

section
variable {H : Type} {enc : TypeId × Value → H} {w : World} {base : Nat} {held : Bool}
theorem open_bytes {r : Reach} {b0 : Nat} {v : Value} {d : DataW H} {p : List MemPlace} (hv : Value.okWide Tryd.prog w r b0 64 v) (h : DataW.Trod enc Tryd.prog w base (fun _ => true) held 64 v d p) :
    ∃ xs : List Int, Rd w v xs ∧ Bytes xs ∧ xs.length ≤ maxLen := by
  obtain ⟨a0, len, cap, rfl⟩ := okWide_slice Tryd.underlying64 hv
  obtain ⟨fuel, hf⟩ := h
  rcases open_ints Tryd.underlying64 Tryd.underlying5 (by kernel_rfl) hf with ⟨h0, _⟩ | ⟨a, len', cap', zs, hcs, _, hl, hm, hz, _, hx, hwf⟩
  · simp [Value.cells] at h0
    obtain ⟨rfl, rfl, rfl⟩ := h0
    exact ⟨[], Rd.nil w, (by unfold Bytes; simp), Nat.zero_le _⟩
  · simp [Value.cells] at hcs
    obtain ⟨e1, e2, e3⟩ := hcs
    subst e1 e2 e3
    simp only [if_true] at hz
    refine ⟨zs.take len, ?_, fun x hx' => u8_bounds (hwf x (List.mem_of_mem_take hx')), by simp; omega⟩
    have hl2 : (zs.take len).length = len := by simp; omega
    by_cases h0 : len = 0
    · subst h0
      exact ⟨some a, _, by rw [hl2], .inl (by simp)⟩
    · obtain ⟨b, o, sp⟩ := a
      have hsp : sp = none := by
        have := hx 0 (by omega)
        simpa [Addr.add] using World.cell?_spot this
      subst hsp
      refine ⟨_, _, by rw [hl2], .inr ⟨b, o, rfl, fun i hi => ?_⟩⟩
      have h := hx i (by omega)
      rw [addr_add] at h
      rw [h]
      simp [List.getD, show i < len by omega]
end
end Go.Proofs.YtjgfjmkfcippcaaDoor
