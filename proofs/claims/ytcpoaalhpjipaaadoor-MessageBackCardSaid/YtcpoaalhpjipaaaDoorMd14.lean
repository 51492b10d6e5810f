/-
  What the document's GetMessage answers.; basculelaw09.knows answers true.
-/
import Derived.Laws.EntriesVeiled
import Derived.Test.YtcpoaalhpjipaaaDoorMd13
namespace Go.Proofs.YtcpoaalhpjipaaaDoor
set_option maxRecDepth 100000
open Go.RowKit

theorem DSt.off {w : World} {b p pos : Nat} {v : Value} {xs : List Int} {f : Bool} {m : Mg} {q : Option Addr} {n k : Nat} (h : DSt w p v xs pos f) (hK : MgAt w b 27 m q n k) : b ≠ p := fun e => by
  subst e
  unfold MgAt at hK
  cases f with
  | false =>
    have h1 := (h.ok rfl).blk
    rw [hK] at h1
    exact absurd (Obj.cells.inj (Option.some.inj h1)).2.1 (by decide)
  | true =>
    obtain ⟨_, _, _, _, h1⟩ := h.bad rfl
    rw [hK] at h1
    exact absurd (Obj.cells.inj (Option.some.inj h1)).2.1 (by decide)
set_option maxHeartbeats 8000000 in
theorem refmessage_any {w : World} {p : Nat} {v : Value} {xs : List Int} (hS : DSt w p v xs 0 false) (hx : Bytes xs) :
    Calls Tryd.prog 38 #[.pointer (some ⟨p, 0, none⟩)] w fun e w' => ∃ q k, e = .returned (.agg (mgRow (mM xs) q (mM xs).data.length k).toArray) ∧ DSt w' p v xs (mEnd xs) (g6 xs) ∧ Rd w' (.slice q (mM xs).data.length k) (mM xs).data ∧ (∀ g, (Value.slice q (mM xs).data.length k).ownBlock = some g → w.heap.size ≤ g) ∧ Chg w w' [p] := by
  have BX := Lib.hid hx
  have MM : Hid (mM xs = ⟨uV (g1 xs) xs 0, uV (g2 xs) xs 8, uV (g3 xs) xs 16, wV (g4 xs) xs 24, uV (g5 xs) xs 56, bD (g6 xs) xs 64⟩) := rfl
  have ME : Hid (mEnd xs = 72 + (mM xs).data.length) := rfl
  obtain ⟨f1, e1⟩ : ∃ f, g1 xs = f := ⟨_, rfl⟩
  obtain ⟨f2, e2⟩ : ∃ f, g2 xs = f := ⟨_, rfl⟩
  obtain ⟨f3, e3⟩ : ∃ f, g3 xs = f := ⟨_, rfl⟩
  obtain ⟨f4, e4⟩ : ∃ f, g4 xs = f := ⟨_, rfl⟩
  obtain ⟨f5, e5⟩ : ∃ f, g5 xs = f := ⟨_, rfl⟩
  obtain ⟨f6, e6⟩ : ∃ f, g6 xs = f := ⟨_, rfl⟩
  rw [e1, e2, e3, e4, e5, e6] at MM
  have d1 := Lib.hid (show fU false xs 0 8 = f1 from e1)
  have d2 := Lib.hid (show fU f1 xs 8 8 = f2 by rw [← e1]; exact e2)
  have d3 := Lib.hid (show fU f2 xs 16 8 = f3 by rw [← e2]; exact e3)
  have d4 := Lib.hid (show fU f3 xs 24 32 = f4 by rw [← e3]; exact e4)
  have d5 := Lib.hid (show fU f4 xs 56 8 = f5 by rw [← e4]; exact e5)
  have d6 := Lib.hid (show fB f5 xs 64 = f6 by rw [← e5]; exact e6)
  have E6 := Lib.hid e6
  obtain ⟨z1, h1⟩ : ∃ z, uV f1 xs 0 = z := ⟨_, rfl⟩
  obtain ⟨z2, h2⟩ : ∃ z, uV f2 xs 8 = z := ⟨_, rfl⟩
  obtain ⟨z3, h3⟩ : ∃ z, uV f3 xs 16 = z := ⟨_, rfl⟩
  obtain ⟨x4, h4⟩ : ∃ z, wV f4 xs 24 = z := ⟨_, rfl⟩
  obtain ⟨z5, h5⟩ : ∃ z, uV f5 xs 56 = z := ⟨_, rfl⟩
  obtain ⟨D6, h6⟩ : ∃ z, bD f6 xs 64 = z := ⟨_, rfl⟩
  rw [h1, h2, h3, h4, h5, h6] at MM
  have Z1 := Lib.hid h1
  have Z2 := Lib.hid h2
  have Z3 := Lib.hid h3
  have X4 := Lib.hid h4
  have Z5 := Lib.hid h5
  have H6 := Lib.hid h6
  have b0 : Below w.heap.size w (w.alloc (.cells (mgRow mg0 none 0 0).toArray 27)) := (Below.refl _ _).alloc (Nat.le_refl _) _
  have R0 := Lib.hid (MgAt.new w 27 mg0 none 0 0)
  have S0 := Lib.hid (hS.on b0)
  have hpw := hS.lt
  have C0 : Hid (Chg w (w.alloc (.cells (mgRow mg0 none 0 0).toArray 27)) [p]) := Chg.below b0 (Nat.le_refl _) [p]
  clear hS hx e1 e2 e3 e4 e5 e6 h1 h2 h3 h4 h5 h6 b0
  go_enter Tryd.func38, Tryd.ntmps38
  go_wp2_with fail
  generalize w.alloc (.cells (mgRow mg0 none 0 0).toArray 27) = w0 at *
  refine (rdUint_st S0.out BX.out).mono ?_
  rintro e w1 ⟨rfl, hs1, hc1⟩
  rw [d1.out] at hs1 ⊢
  rw [Z1.out]
  have b1 : Below w1.heap.size w1 (w1.alloc (.cells (mgRow mg0 none 0 0).toArray 27)) := (Below.refl _ _).alloc (Nat.le_refl _) _
  have hm1 := fun W => Tryd.run_mg1r W z1
  have hrl : Hid (w.heap.size < w1.heap.size) := Nat.lt_of_lt_of_le R0.out.lt hc1.size
  have KA := MgAt.new w1 27 mg0 none 0 0
  have R1 := R0.out.chg hc1 (by simp; omega)
  have th := KA.there
  have cs : Chg (w1.alloc (.cells (mgRow mg0 none 0 0).toArray 27)) ((w1.alloc (.cells (mgRow mg0 none 0 0).toArray 27)).setCells w1.heap.size 0 (mgRow ⟨z1, 0, 0, ⟨0, 0, 0, 0⟩, 0, []⟩ none 0 0)) [w1.heap.size] := chg_setCells _ _ _ (Chg.refl _ _)
  have K1 := Lib.hid (KA.put ⟨z1, 0, 0, ⟨0, 0, 0, 0⟩, 0, []⟩ none 0 0)
  have R2 := Lib.hid ((R1.on b1).chg cs (by have := hrl.out; simp; omega))
  have S1 := Lib.hid ((hs1.on b1).chg2 cs (by have := hs1.lt; simp; omega) (fun ho => KA.off ho (by decide)))
  have C1 : Hid (Chg w ((w1.alloc (.cells (mgRow mg0 none 0 0).toArray 27)).setCells w1.heap.size 0 (mgRow ⟨z1, 0, 0, ⟨0, 0, 0, 0⟩, 0, []⟩ none 0 0)) [p]) := ((C0.out.trans hc1 (fun x hx _ => hx)).trans (Chg.below b1 (Nat.le_refl _) [p]) (fun x hx _ => hx)).trans cs (fun x hx hl => by have := hrl.out; simp at hx; omega)
  have szz : ((w1.alloc (.cells (mgRow mg0 none 0 0).toArray 27)).setCells w1.heap.size 0 (mgRow ⟨z1, 0, 0, ⟨0, 0, 0, 0⟩, 0, []⟩ none 0 0)).heap.size = w1.heap.size + 1 := by rw [size_setCells]; simp
  clear hs1 hc1 b1 KA R1 cs R0 S0 C0
  go_wp2_with fail
  clear hm1 th szz
  obtain ⟨b, hbe⟩ : ∃ b, w1.heap.size = b := ⟨_, rfl⟩
  rw [hbe] at K1 R2 S1 C1 hrl ⊢
  generalize (w1.alloc (.cells (mgRow mg0 none 0 0).toArray 27)).setCells b 0 (mgRow ⟨z1, 0, 0, ⟨0, 0, 0, 0⟩, 0, []⟩ none 0 0) = w2 at *
  clear hbe
  have HBP := Lib.hid (S1.out.off K1.out)
  have HBR : Hid (w.heap.size ≠ p) := by show _ ≠ _; omega
  refine (rdUint_st S1.out BX.out).mono ?_
  rintro e v3 ⟨rfl, hs, hc⟩
  rw [d2.out] at hs ⊢
  rw [Z2.out]
  have T3 := Lib.hid hs
  have L3 := Lib.hid (K1.out.chg hc (by have := HBP.out; simpa using this))
  have Q3 := Lib.hid (R2.out.chg hc (by have := hrl.out; have := HBR.out; simp; omega))
  have D3 : Hid (Chg w v3 [p]) := C1.out.trans hc (fun x hx _ => hx)
  clear hs hc S1 K1 R2 C1
  obtain ⟨-, c1, -, -, -, -, -, -, -⟩ := L3.out.cells
  have y1 := L3.out.frees 1
  have cs : Chg v3 (v3.setCell ⟨b, 1, none⟩ (.int .u64 z2)) [b] := ((Chg.refl _ [b]).setCell (p := ⟨b, 1, none⟩) (.inl (by simp)) _)
  have K3 := Lib.hid (L3.out.st1 z2)
  have S3 := Lib.hid (T3.out.chg2 cs (by have := HBP.out; simpa using Ne.symm this) (fun ho => L3.out.off ho (by decide)))
  have R3 := Lib.hid (Q3.out.chg cs (by have := hrl.out; simp; omega))
  have C3 : Hid (Chg w (v3.setCell ⟨b, 1, none⟩ (.int .u64 z2)) [p]) := D3.out.trans cs (fun x hx hl => by have := hrl.out; simp at hx; omega)
  clear cs T3 L3 Q3 D3
  go_wp2_with fail
  clear c1 y1
  generalize (v3.setCell ⟨b, 1, none⟩ (.int .u64 z2)) = w3 at *
  refine (rdUint_st S3.out BX.out).mono ?_
  rintro e v4 ⟨rfl, hs, hc⟩
  rw [d3.out] at hs ⊢
  rw [Z3.out]
  have T4 := Lib.hid hs
  have L4 := Lib.hid (K3.out.chg hc (by have := HBP.out; simpa using this))
  have Q4 := Lib.hid (R3.out.chg hc (by have := hrl.out; have := HBR.out; simp; omega))
  have D4 : Hid (Chg w v4 [p]) := C3.out.trans hc (fun x hx _ => hx)
  clear hs hc S3 K3 R3 C3
  obtain ⟨-, -, c2, -, -, -, -, -, -⟩ := L4.out.cells
  have y2 := L4.out.frees 2
  have cs : Chg v4 (v4.setCell ⟨b, 2, none⟩ (.int .u64 z3)) [b] := ((Chg.refl _ [b]).setCell (p := ⟨b, 2, none⟩) (.inl (by simp)) _)
  have K4 := Lib.hid (L4.out.st2 z3)
  have S4 := Lib.hid (T4.out.chg2 cs (by have := HBP.out; simpa using Ne.symm this) (fun ho => L4.out.off ho (by decide)))
  have R4 := Lib.hid (Q4.out.chg cs (by have := hrl.out; simp; omega))
  have C4 : Hid (Chg w (v4.setCell ⟨b, 2, none⟩ (.int .u64 z3)) [p]) := D4.out.trans cs (fun x hx hl => by have := hrl.out; simp at hx; omega)
  clear cs T4 L4 Q4 D4
  go_wp2_with fail
  clear c2 y2
  generalize (v4.setCell ⟨b, 2, none⟩ (.int .u64 z3)) = w4 at *
  refine (rdWide_st S4.out BX.out).mono ?_
  rintro e v5 ⟨rfl, hs, hc⟩
  rw [d4.out] at hs ⊢
  rw [X4.out]
  unfold w4v
  have T5 := Lib.hid hs
  have L5 := Lib.hid (K4.out.chg hc (by have := HBP.out; simpa using this))
  have Q5 := Lib.hid (R4.out.chg hc (by have := hrl.out; have := HBR.out; simp; omega))
  have D5 : Hid (Chg w v5 [p]) := C4.out.trans hc (fun x hx _ => hx)
  clear hs hc S4 K4 R4 C4
  obtain ⟨-, -, -, c3, c4, c5, c6, -, -⟩ := L5.out.cells
  have y3 := L5.out.frees 3
  have y4 := L5.out.frees 4
  have y5 := L5.out.frees 5
  have y6 := L5.out.frees 6
  have cs : Chg v5 ((((v5.setCell ⟨b, 3, none⟩ (.int .u64 x4.a)).setCell ⟨b, 4, none⟩ (.int .u64 x4.b)).setCell ⟨b, 5, none⟩ (.int .u64 x4.c)).setCell ⟨b, 6, none⟩ (.int .u64 x4.d)) [b] := (((((Chg.refl _ [b]).setCell (p := ⟨b, 3, none⟩) (.inl (by simp)) _).setCell (p := ⟨b, 4, none⟩) (.inl (by simp)) _).setCell (p := ⟨b, 5, none⟩) (.inl (by simp)) _).setCell (p := ⟨b, 6, none⟩) (.inl (by simp)) _)
  have K5 := Lib.hid (L5.out.st3 x4)
  have S5 := Lib.hid (T5.out.chg2 cs (by have := HBP.out; simpa using Ne.symm this) (fun ho => L5.out.off ho (by decide)))
  have R5 := Lib.hid (Q5.out.chg cs (by have := hrl.out; simp; omega))
  have C5 : Hid (Chg w ((((v5.setCell ⟨b, 3, none⟩ (.int .u64 x4.a)).setCell ⟨b, 4, none⟩ (.int .u64 x4.b)).setCell ⟨b, 5, none⟩ (.int .u64 x4.c)).setCell ⟨b, 6, none⟩ (.int .u64 x4.d)) [p]) := D5.out.trans cs (fun x hx hl => by have := hrl.out; simp at hx; omega)
  clear cs T5 L5 Q5 D5
  go_wp2_with fail
  clear c3 c4 c5 c6 y3 y4 y5 y6
  generalize ((((v5.setCell ⟨b, 3, none⟩ (.int .u64 x4.a)).setCell ⟨b, 4, none⟩ (.int .u64 x4.b)).setCell ⟨b, 5, none⟩ (.int .u64 x4.c)).setCell ⟨b, 6, none⟩ (.int .u64 x4.d)) = w5 at *
  refine (rdUint_st S5.out BX.out).mono ?_
  rintro e v6 ⟨rfl, hs, hc⟩
  rw [d5.out] at hs ⊢
  rw [Z5.out]
  have T6 := Lib.hid hs
  have L6 := Lib.hid (K5.out.chg hc (by have := HBP.out; simpa using this))
  have Q6 := Lib.hid (R5.out.chg hc (by have := hrl.out; have := HBR.out; simp; omega))
  have D6 : Hid (Chg w v6 [p]) := C5.out.trans hc (fun x hx _ => hx)
  clear hs hc S5 K5 R5 C5
  obtain ⟨-, -, -, -, -, -, -, c7, -⟩ := L6.out.cells
  have y7 := L6.out.frees 7
  have cs : Chg v6 (v6.setCell ⟨b, 7, none⟩ (.int .u64 z5)) [b] := ((Chg.refl _ [b]).setCell (p := ⟨b, 7, none⟩) (.inl (by simp)) _)
  have K6 := Lib.hid (L6.out.st7 z5)
  have S6 := Lib.hid (T6.out.chg2 cs (by have := HBP.out; simpa using Ne.symm this) (fun ho => L6.out.off ho (by decide)))
  have R6 := Lib.hid (Q6.out.chg cs (by have := hrl.out; simp; omega))
  have C6 : Hid (Chg w (v6.setCell ⟨b, 7, none⟩ (.int .u64 z5)) [p]) := D6.out.trans cs (fun x hx hl => by have := hrl.out; simp at hx; omega)
  clear cs T6 L6 Q6 D6
  go_wp2_with fail
  clear c7 y7
  generalize (v6.setCell ⟨b, 7, none⟩ (.int .u64 z5)) = w6 at *
  refine (rdBlob_st S6.out BX.out).mono ?_
  rintro e v7 ⟨q7, k7, rfl, hr7, hf7, hs, hc⟩
  rw [d6.out] at hr7 hf7 hs ⊢
  rw [H6.out] at hr7 hf7 hs ⊢
  have hb6 := K6.out.lt
  have T7 := Lib.hid hs
  have L7 := Lib.hid (K6.out.chg hc (by have := HBP.out; simpa using this))
  have Q7 := Lib.hid (R6.out.chg hc (by have := hrl.out; have := HBR.out; simp; omega))
  have D7 : Hid (Chg w v7 [p]) := C6.out.trans hc (fun x hx _ => hx)
  have A7 : Hid (Rd (v7.setCell ⟨b, 8, none⟩ (.slice q7 D6.length k7)) (.slice q7 D6.length k7) D6) := hr7.setCell (a := ⟨b, 8, none⟩) (fun e => by have h9 : w6.heap.size ≤ b := hf7 _ e; omega) _
  have hw6 : Hid (w.heap.size < w6.heap.size) := by have := hrl.out; show _ < _; omega
  have F7 : Hid (∀ g, (Value.slice q7 D6.length k7).ownBlock = some g → w.heap.size < g) := fun g hg => Nat.lt_of_lt_of_le hw6.out (hf7 g hg)
  clear hs hc S6 K6 R6 C6 hr7 hf7 hb6 hw6
  obtain ⟨-, -, -, -, -, -, -, -, c8⟩ := L7.out.cells
  have y8 := L7.out.frees 8
  have cs : Chg v7 (v7.setCell ⟨b, 8, none⟩ (.slice q7 D6.length k7)) [b] := ((Chg.refl _ [b]).setCell (p := ⟨b, 8, none⟩) (.inl (by simp)) _)
  have K7 := Lib.hid (L7.out.st8 D6 q7 D6.length k7)
  have S7 := Lib.hid (T7.out.chg2 cs (by have := HBP.out; simpa using Ne.symm this) (fun ho => L7.out.off ho (by decide)))
  have R7 := Lib.hid (Q7.out.chg cs (by have := hrl.out; simp; omega))
  have C7 : Hid (Chg w (v7.setCell ⟨b, 8, none⟩ (.slice q7 D6.length k7)) [p]) := D7.out.trans cs (fun x hx hl => by have := hrl.out; simp at hx; omega)
  clear cs T7 L7 Q7 D7
  have hrow := K7.out.row
  have th := R7.out.there
  have MD : mM xs = ⟨z1, z2, z3, x4, z5, D6⟩ := MM.out
  have hput := (R7.out.put ⟨z1, z2, z3, x4, z5, D6⟩ q7 D6.length k7).row
  have cs : Chg (v7.setCell ⟨b, 8, none⟩ (.slice q7 D6.length k7)) ((v7.setCell ⟨b, 8, none⟩ (.slice q7 D6.length k7)).setCells w.heap.size 0 (mgRow ⟨z1, z2, z3, x4, z5, D6⟩ q7 D6.length k7)) [w.heap.size] := chg_setCells _ _ _ (Chg.refl _ _)
  have SF := Lib.hid (S7.out.chg2 cs (by have := HBR.out; simpa using Ne.symm this) (fun ho => R7.out.off ho (by decide)))
  have CF : Hid (Chg w ((v7.setCell ⟨b, 8, none⟩ (.slice q7 D6.length k7)).setCells w.heap.size 0 (mgRow ⟨z1, z2, z3, x4, z5, D6⟩ q7 D6.length k7)) [p]) := C7.out.trans cs (fun x hx hl => by simp at hx; omega)
  have AF : Hid (Rd ((v7.setCell ⟨b, 8, none⟩ (.slice q7 D6.length k7)).setCells w.heap.size 0 (mgRow ⟨z1, z2, z3, x4, z5, D6⟩ q7 D6.length k7)) (.slice q7 D6.length k7) D6) := A7.out.chg cs (fun _ g hg _ hm => by
    obtain rfl : g = w.heap.size := by simpa using hm
    have := F7.out _ hg
    omega)
  have HMD := Lib.hid MD
  clear cs S7 C7 A7 MD K7 MM
  go_wp2_with fail
  refine bodyPost_ret (v := .agg (mgRow ⟨z1, z2, z3, x4, z5, D6⟩ q7 D6.length k7).toArray) (by simp [results, Tryd.results38, go_sem, hput]) rfl ?_
  have MDD : (mM xs).data = D6 := by rw [HMD.out]
  rw [ME.out, MDD, E6.out]
  exact ⟨q7, k7, by rw [HMD.out], by have := SF.out; rw [show 64 + 8 = 72 from rfl] at this; exact this, AF.out, fun g hg => Nat.le_of_lt (F7.out g hg), CF.out⟩

set_option maxHeartbeats 4000000 in
theorem refGetMessage_any {w : World} {vb : Value} {xs : List Int} (hr : Rd w vb xs) (hx : Bytes xs) (hl : xs.length ≤ 140737488355328) :
    Calls Tryd.prog 13 #[vb] w (GmP xs w) := by
  have b1 : Below w.heap.size w (w.alloc (.cells (mgRow mg0 none 0 0).toArray 27)) := (Below.refl _ _).alloc (Nat.le_refl _) _
  have R0 := Lib.hid (MgAt.new w 27 mg0 none 0 0)
  have B0 := Lib.hid b1
  have BX := Lib.hid hx
  have KN := Lib.hid (rdNew_any (hr.on b1) hl)
  have MK := Lib.hid (mOk_eq xs)
  have RK : Hid (rOk xs = (!(g6 xs) && decide (mEnd xs = xs.length))) := rfl
  have e0 : decide ((mM xs).gas ≤ 65536 ∧ (mM xs).data.length ≤ 64) = okM (mM xs) := rfl
  have KRM := fun (W : World) (q : Option Addr) (k : Nat) => refRightMessage_any (w := W) (m := mM xs) (q := q) (n := (mM xs).data.length) (k := k) (mM_ok hx).gas (by have := mM_len xs; unfold maxLen; omega)
  rw [e0] at KRM
  have KRH := Lib.hid KRM
  have NO := Lib.hid (fun (h : mOk xs = false) (W : World) (hb : Below w.heap.size w W) => GmP.no h hb)
  have YES := Lib.hid (fun (h : mOk xs = true) (W : World) (q : Option Addr) (k : Nat) (hr : Rd W (.slice q (mM xs).data.length k) (mM xs).data) (hb : Below w.heap.size w W) => GmP.yes h hr hb)
  have KM := Lib.hid (fun (W : World) (p : Nat) (v : Value) (h : DSt W p v xs 0 false) => refmessage_any h hx)
  obtain ⟨QP, hQP⟩ : ∃ QP, GmP xs w = QP := ⟨_, rfl⟩
  rw [hQP] at NO YES ⊢
  obtain ⟨m, hm⟩ : ∃ m, mM xs = m := ⟨_, rfl⟩
  rw [hm] at KM MK KRH YES
  obtain ⟨ok, hok⟩ : ∃ ok, okM m = ok := ⟨_, rfl⟩
  rw [hok] at KRH MK
  obtain ⟨r, hrr⟩ : ∃ r, rOk xs = r := ⟨_, rfl⟩
  rw [hrr] at MK RK
  obtain ⟨mo, hmo⟩ : ∃ mo, mOk xs = mo := ⟨_, rfl⟩
  rw [hmo] at MK NO YES
  obtain ⟨qv, cv, rfl⟩ := hr.len
  clear hr hx b1 e0 KRM hQP hm hok hrr hmo
  go_enter Tryd.func13, Tryd.ntmps13
  go_wp2_with fail
  generalize (w.alloc (.cells (mgRow mg0 none 0 0).toArray 27)) = w0 at *
  refine KN.out.mono ?_
  rintro e w1 ⟨p, v1, rfl, hV, hp, hb1, -⟩
  have S1 := Lib.hid (DSt.mk0 hV)
  have R1 := Lib.hid (R0.out.on hb1)
  have B1 := Lib.hid (B0.out.trans (hb1.mono B0.out.size))
  have hwp : Hid (w.heap.size < p) := Nat.lt_of_lt_of_le R0.out.lt hp
  clear hV hb1 KN R0 B0 hp
  go_wp2_with fail
  refine (KM.out w1 p v1 S1.out).mono ?_
  rintro e w2 ⟨q, k, rfl, hS2, hR2, hF2, hC2⟩
  have b3 : Below w2.heap.size w2 (w2.alloc (.cells (mgRow mg0 none 0 0).toArray 27)) := (Below.refl _ _).alloc (Nat.le_refl _) _
  have KA := MgAt.new w2 27 mg0 none 0 0
  have th := KA.there
  have cs : Chg (w2.alloc (.cells (mgRow mg0 none 0 0).toArray 27)) ((w2.alloc (.cells (mgRow mg0 none 0 0).toArray 27)).setCells w2.heap.size 0 (mgRow m q m.data.length k)) [w2.heap.size] := chg_setCells _ _ _ (Chg.refl _ _)
  have K3 := Lib.hid (KA.put m q m.data.length k)
  have hw2 : Hid (w.heap.size < w2.heap.size) := Nat.lt_of_lt_of_le R1.out.lt hC2.size
  have R3 := Lib.hid (((R1.out.chg hC2 (by have := hwp.out; simp; omega)).on b3).chg cs (by have := hw2.out; simp; omega))
  have S3 := Lib.hid ((hS2.on b3).chg2 cs (by have := hS2.lt; simp; omega) (fun ho => KA.off ho (by decide)))
  have B2 := B1.out.trans (hC2.toBelow B1.out.size (fun g hg => by have := hwp.out; simp at hg; omega))
  have B3 : Hid (Below w.heap.size w ((w2.alloc (.cells (mgRow mg0 none 0 0).toArray 27)).setCells w2.heap.size 0 (mgRow m q m.data.length k))) := (B2.trans (b3.mono B2.size)).trans (cs.toBelow (by have := hw2.out; simp; omega) (fun g hg => by have := hw2.out; simp at hg; omega))
  have A3 : Hid (Rd ((w2.alloc (.cells (mgRow mg0 none 0 0).toArray 27)).setCells w2.heap.size 0 (mgRow m q m.data.length k)) (.slice q m.data.length k) m.data) := (hR2.on b3).chg cs (fun hne g hg hl hm => by
    obtain rfl : g = w2.heap.size := by simpa using hm
    have := hR2.lt hne hg
    omega)
  have F3 : Hid (∀ g, (Value.slice q m.data.length k).ownBlock = some g → w.heap.size < g) := fun g hg => Nat.lt_of_lt_of_le R1.out.lt (hF2 g hg)
  have szz : ((w2.alloc (.cells (mgRow mg0 none 0 0).toArray 27)).setCells w2.heap.size 0 (mgRow m q m.data.length k)).heap.size = w2.heap.size + 1 := by rw [size_setCells]; simp
  clear hS2 hR2 hF2 hC2 b3 KA cs B2 R1 S1 B1 KM
  go_wp2_with fail
  clear th szz
  obtain ⟨b, hbe⟩ : ∃ b, w2.heap.size = b := ⟨_, rfl⟩
  rw [hbe] at K3 R3 S3 B3 A3 hw2 ⊢
  generalize (w2.alloc (.cells (mgRow mg0 none 0 0).toArray 27)).setCells b 0 (mgRow m q m.data.length k) = w3 at *
  clear hbe
  refine (rdDone_st S3.out).mono ?_
  rintro e w4 ⟨z, mm, rfl, rfl, hz⟩
  have HZ : Hid ((z == 0) = r) := by
    show _ = _
    rw [RK.out]
    by_cases h : z = 0
    · obtain ⟨h1, h2⟩ := hz.1 h
      rw [h1, h]; simp [h2]
    · have h0 : (z == 0) = false := by simpa using h
      rw [h0]
      cases hg : g6 xs with
      | true => rfl
      | false =>
        have : ¬ mEnd xs = xs.length := fun e => h (hz.2 ⟨hg, e⟩)
        simp [this]
  have K4 := Lib.hid (show MgAt (w3.drewN mm) b 27 m q m.data.length k from K3.out)
  have R4 := Lib.hid (show MgAt (w3.drewN mm) w.heap.size 27 mg0 none 0 0 from R3.out)
  have A4 := Lib.hid (show Rd (w3.drewN mm) (.slice q m.data.length k) m.data from A3.out)
  have B4 := Lib.hid (below_drewN B3.out mm)
  clear hz K3 R3 A3 B3 S3 RK
  generalize w3.drewN mm = w1 at *
  have hrow := K4.out.row
  have h9 := mgRow_len m q m.data.length k
  have R1 := R4
  have B1 := B4
  have K1 := K4
  have D1 := A4
  clear R4 B4 K4 A4
  cases r with
  | false =>
    have hz1 : (z != 0) = true := by have := HZ.out; simpa using this
    have E := Lib.hid (NO.out (by rw [MK.out]; rfl))
    have th := R1.out.there
    have hput := (R1.out.put mg0 none 0 0).row
    have BX := Lib.hid (below_setCells' (w.heap.size) (Nat.le_refl _) (mgRow mg0 none 0 0) 0 B1.out)
    clear NO YES MK KRH HZ
    go_wp2_with fail
    refine bodyPost_ret (v := .tuple #[.agg (mgRow mg0 none 0 0).toArray, .int .i64 21]) (by simp [results, Tryd.results13, go_sem, hput]) rfl (E.out _ BX.out)
  | true =>
    obtain rfl : z = 0 := by have := HZ.out; simpa using this
    clear HZ
    go_wp2_with fail
    refine (KRH.out w1 q k).mono ?_
    rintro e w2 ⟨rfl, hb2⟩
    have R2 := Lib.hid (R1.out.on hb2)
    have B2 := Lib.hid (B1.out.trans (hb2.mono B1.out.size))
    have K2 := Lib.hid (K1.out.on hb2)
    have D2 := Lib.hid (D1.out.on hb2)
    have hrow := K2.out.row
    have th := R2.out.there
    clear hb2 K1 R1 B1 D1 KRH
    cases ok with
    | false =>
      have E := Lib.hid (NO.out (by rw [MK.out]; rfl))
      have hput := (R2.out.put mg0 none 0 0).row
      have BX := Lib.hid (below_setCells' (w.heap.size) (Nat.le_refl _) (mgRow mg0 none 0 0) 0 B2.out)
      clear NO YES MK
      go_wp2_with fail
      refine bodyPost_ret (v := .tuple #[.agg (mgRow mg0 none 0 0).toArray, .int .i64 21]) (by simp [results, Tryd.results13, go_sem, hput]) rfl (E.out _ BX.out)
    | true =>
      have hput := (R2.out.put m q m.data.length k).row
      have BX := Lib.hid (below_setCells' (w.heap.size) (Nat.le_refl _) (mgRow m q m.data.length k) 0 B2.out)
      have DX : Hid (Rd (w2.setCells w.heap.size 0 (mgRow m q m.data.length k)) (.slice q m.data.length k) m.data) := D2.out.chg (S := [w.heap.size]) (chg_setCells _ _ _ (Chg.refl _ _)) (fun _ g hg _ hm => by
        obtain rfl : g = w.heap.size := by simpa using hm
        have := F3.out _ hg
        omega)
      have E := Lib.hid (YES.out (by rw [MK.out]; rfl) _ q k DX.out BX.out)
      clear NO YES MK D2 DX BX
      go_wp2_with fail
      refine bodyPost_ret (v := .tuple #[.agg (mgRow m q m.data.length k).toArray, .int .i64 0]) (by simp [results, Tryd.results13, go_sem, hput]) rfl E.out
end Go.Proofs.YtcpoaalhpjipaaaDoor
namespace Go.Proofs.YtcpoaalhpjipaaaDoor
set_option maxRecDepth 100000
open Go.RowKit

theorem num9_any (n : Int) (w : World) : Calls Tryd.prog 18 #[.int .i64 n] w fun e w' => e = .returned (.int .i64 n) ∧ w' = w := by
  go_enter Tryd.func18, Tryd.ntmps18
  go_wp2_with fail
  go_ret
  exact ⟨rfl, rfl⟩
theorem conditions_any {w : World} : Calls Tryd.prog 59 #[] w fun e w' => e = .returned (.slice (some ⟨w.heap.size, 0, none⟩) 3 3) ∧ w' = w.alloc (.cells #[.int .i64 1, .func (.func 79) #[] #[], .int .i64 2, .func (.func 80) #[] #[], .int .i64 3, .func (.func 81) #[] #[]] 118) := by
  go_enter Tryd.func59, Tryd.ntmps59
  go_wp2_with fail
  go_ret
  exact ⟨rfl, rfl⟩
def tx1 : Value := .agg #[.int .i64 1, .int .u64 0, .int .u64 0, .int .u64 0, .int .u64 0, .int .u64 0, .int .u64 0, .int .u64 0, .int .u64 0, .slice none 0 0]
theorem cond1_any {w : World} : Calls Tryd.prog 79 #[.agg #[.int .i64 1, .int .u64 0, .int .u64 0, .int .u64 0, .int .u64 0, .int .u64 0, .int .u64 0, .int .u64 0, .int .u64 0, .slice none 0 0]] w fun e w' => e = .returned (.bool true) ∧ Below w.heap.size w w' := by
  have B0 := Lib.hid ((Below.refl w.heap.size w).alloc (Nat.le_refl _) (.cells #[.int .i64 1, .int .u64 0, .int .u64 0, .int .u64 0, .int .u64 0, .int .u64 0, .int .u64 0, .int .u64 0, .int .u64 0, .slice none 0 0] 72))
  go_enter Tryd.func79, Tryd.ntmps79
  go_wp2_with fail
  go_ret
  exact ⟨rfl, B0.out⟩
set_option maxHeartbeats 4000000 in
theorem RightTx1 {w : World} : Calls Tryd.prog 33 #[.agg #[.int .i64 1, .int .u64 0, .int .u64 0, .int .u64 0, .int .u64 0, .int .u64 0, .int .u64 0, .int .u64 0, .int .u64 0, .slice none 0 0]] w fun e w' => e = .returned (.bool true) ∧ Below w.heap.size w w' := by
  have b0 : Below w.heap.size w (w.alloc (.cells #[.int .i64 1, .int .u64 0, .int .u64 0, .int .u64 0, .int .u64 0, .int .u64 0, .int .u64 0, .int .u64 0, .int .u64 0, .slice none 0 0] 72)) := (Below.refl _ _).alloc (Nat.le_refl _) _
  go_enter Tryd.func33, Tryd.ntmps33
  go_wp2_with fail
  go_step3
  go_wp2_with fail
  go_step3
  go_wp2_with fail
  refine conditions_any.mono ?_
  rintro e w1 ⟨rfl, rfl⟩
  have b1 : Below (w.alloc (.cells #[.int .i64 1, .int .u64 0, .int .u64 0, .int .u64 0, .int .u64 0, .int .u64 0, .int .u64 0, .int .u64 0, .int .u64 0, .slice none 0 0] 72)).heap.size (w.alloc (.cells #[.int .i64 1, .int .u64 0, .int .u64 0, .int .u64 0, .int .u64 0, .int .u64 0, .int .u64 0, .int .u64 0, .int .u64 0, .slice none 0 0] 72)) ((w.alloc (.cells #[.int .i64 1, .int .u64 0, .int .u64 0, .int .u64 0, .int .u64 0, .int .u64 0, .int .u64 0, .int .u64 0, .int .u64 0, .slice none 0 0] 72)).alloc (.cells #[.int .i64 1, .func (.func 79) #[] #[], .int .i64 2, .func (.func 80) #[] #[], .int .i64 3, .func (.func 81) #[] #[]] 118)) := (Below.refl _ _).alloc (Nat.le_refl _) _
  have T0 := blk_onB2 (heap_alloc_new w (.cells #[.int .i64 1, .int .u64 0, .int .u64 0, .int .u64 0, .int .u64 0, .int .u64 0, .int .u64 0, .int .u64 0, .int .u64 0, .slice none 0 0] 72)) b1
  have D0 := heap_alloc_new (w.alloc (.cells #[.int .i64 1, .int .u64 0, .int .u64 0, .int .u64 0, .int .u64 0, .int .u64 0, .int .u64 0, .int .u64 0, .int .u64 0, .slice none 0 0] 72)) (.cells #[.int .i64 1, .func (.func 79) #[] #[], .int .i64 2, .func (.func 80) #[] #[], .int .i64 3, .func (.func 81) #[] #[]] 118)
  have hz : (w.alloc (.cells #[.int .i64 1, .int .u64 0, .int .u64 0, .int .u64 0, .int .u64 0, .int .u64 0, .int .u64 0, .int .u64 0, .int .u64 0, .slice none 0 0] 72)).heap.size = w.heap.size + 1 := by simp
  rw [hz] at D0
  have B0 := Lib.hid (b0.trans (b1.mono b0.size))
  clear b0 b1 hz
  go_wp2_with fail
  generalize ((w.alloc (.cells #[.int .i64 1, .int .u64 0, .int .u64 0, .int .u64 0, .int .u64 0, .int .u64 0, .int .u64 0, .int .u64 0, .int .u64 0, .slice none 0 0] 72)).alloc (.cells #[.int .i64 1, .func (.func 79) #[] #[], .int .i64 2, .func (.func 80) #[] #[], .int .i64 3, .func (.func 81) #[] #[]] 118)) = w2 at *
  have c0 : w2.cell? ⟨w.heap.size, 0, none⟩ = some (.int .i64 1) := (Joins.cell_of_block T0 0).trans rfl
  have c1 : w2.cell? ⟨w.heap.size, 1, none⟩ = some (.int .u64 0) := (Joins.cell_of_block T0 1).trans rfl
  have c2 : w2.cell? ⟨w.heap.size, 2, none⟩ = some (.int .u64 0) := (Joins.cell_of_block T0 2).trans rfl
  have c3 : w2.cell? ⟨w.heap.size, 3, none⟩ = some (.int .u64 0) := (Joins.cell_of_block T0 3).trans rfl
  have c4 : w2.cell? ⟨w.heap.size, 4, none⟩ = some (.int .u64 0) := (Joins.cell_of_block T0 4).trans rfl
  have c5 : w2.cell? ⟨w.heap.size, 5, none⟩ = some (.int .u64 0) := (Joins.cell_of_block T0 5).trans rfl
  have c6 : w2.cell? ⟨w.heap.size, 6, none⟩ = some (.int .u64 0) := (Joins.cell_of_block T0 6).trans rfl
  have c7 : w2.cell? ⟨w.heap.size, 7, none⟩ = some (.int .u64 0) := (Joins.cell_of_block T0 7).trans rfl
  have c8 : w2.cell? ⟨w.heap.size, 8, none⟩ = some (.int .u64 0) := (Joins.cell_of_block T0 8).trans rfl
  have c9 : w2.cell? ⟨w.heap.size, 9, none⟩ = some (.slice none 0 0) := (Joins.cell_of_block T0 9).trans rfl
  have d0 : w2.cell? ⟨w.heap.size + 1, 0, none⟩ = some (.int .i64 1) := (Joins.cell_of_block D0 0).trans rfl
  have d1 : w2.cell? ⟨w.heap.size + 1, 1, none⟩ = some (.func (.func 79) #[] #[]) := (Joins.cell_of_block D0 1).trans rfl
  have hl : w.heap.size < w2.heap.size := (Array.getElem?_eq_some_iff.1 T0).1
  refine wp_loop_rounds 1 ?_
  rw [rounds_succ]
  go_wp2_with fail
  refine cond1_any.mono ?_
  rintro e w5 ⟨rfl, hb5⟩
  have B5 := Lib.hid (B0.out.trans (((Below.refl w2.heap.size w2).alloc (Nat.le_refl _) (.cells #[.int .i64 1, .func (.func 79) #[] #[]] 118)).mono B0.out.size))
  have B6 := Lib.hid (B5.out.trans (hb5.mono B5.out.size))
  clear hb5
  go_wp2_with fail
  rw [Exit.noGoto_ret]
  go_ret
  exact ⟨rfl, B6.out⟩
theorem kz_put : pMB mg0 = mgB mg0 ∧ pME mg0 = 0 := by constructor <;> kernel_rfl
theorem kz_len : (mgB mg0).length = 72 := by kernel_rfl
theorem kz_get : mG (mgB mg0) = mg0 ∧ mE (mgB mg0) = 0 := by constructor <;> kernel_rfl
theorem kz_apart : (mgN true mg0 == mgN false mg0) = false := by kernel_rfl
set_option maxHeartbeats 4000000 in
theorem knows9_any {w : World} (hT : Tbl w) : Calls Tryd.prog 7 #[] w fun e w' => e = .returned (.bool true) ∧ Below w.heap.size w w' := by
  have HT := Lib.hid hT
  have KP := Lib.hid (PutMessage_any (w := w) (m := mg0) (q := none) (k := 0) mg0_ok (Rd.nil w) (by simp [mg0]))
  have KB := Lib.hid (mgB_bytes mg0_ok)
  obtain ⟨e1, e2⟩ := kz_put
  obtain ⟨e3, e4⟩ := kz_get
  have e5 := kz_len
  rw [e1, e2, e5] at KP
  obtain ⟨Z, hZ⟩ : ∃ Z, mgB mg0 = Z := ⟨_, rfl⟩
  rw [hZ] at KP KB e3 e4 e5
  have KG := Lib.hid (fun (W : World) (v : Value) (h : Rd W v Z) => GetMessage_any h KB.out (by rw [e5]; omega))
  have E3 := Lib.hid e3
  have E4 := Lib.hid e4
  have hap := kz_apart
  have lU := (sha_len (frm (sn downS) [mgB mg0]))
  have lV := (sha_len (frm (sn upS) [mgB mg0]))
  have hU1 : mgN true mg0 = sha (frm (sn downS) [mgB mg0]) := rfl
  have hV1 : mgN false mg0 = sha (frm (sn upS) [mgB mg0]) := rfl
  rw [← hU1] at lU
  rw [← hV1] at lV
  obtain ⟨U, hU⟩ : ∃ U, mgN true mg0 = U := ⟨_, rfl⟩
  obtain ⟨V, hV⟩ : ∃ V, mgN false mg0 = V := ⟨_, rfl⟩
  rw [hU] at lU
  rw [hV] at lV
  rw [hU, hV] at hap
  have HU := Lib.hid hU
  have HV := Lib.hid hV
  clear hT e1 e2 e3 e4 e5 hZ hU1 hV1 hU hV
  go_enter Tryd.func7, Tryd.ntmps7
  go_wp2_with fail
  refine KP.out.mono ?_
  rintro e w1 ⟨q1, k1, rfl, hr1, hb1⟩
  have R1 := Lib.hid hr1
  have B1 := Lib.hid hb1
  clear hr1 hb1 KP
  go_wp2_with fail
  refine (KG.out _ _ R1.out).mono ?_
  rintro e w2 ⟨q, k, rfl, -, hb2⟩
  rw [E3.out, E4.out]
  have B2 := Lib.hid (B1.out.trans (hb2.mono B1.out.size))
  have KA := MgAt.new w2 30 mg0 none 0 0
  have th := KA.there
  have b3 : Below w2.heap.size w2 (w2.alloc (.cells (mgRow mg0 none 0 0).toArray 30)) := (Below.refl _ _).alloc (Nat.le_refl _) _
  have K3 := Lib.hid (KA.put mg0 q 0 k)
  have B3 : Hid (Below w.heap.size w ((w2.alloc (.cells (mgRow mg0 none 0 0).toArray 30)).setCells w2.heap.size 0 (mgRow mg0 q 0 k))) := below_setCells' _ B2.out.size _ _ (B2.out.trans (b3.mono B2.out.size))
  have szz : ((w2.alloc (.cells (mgRow mg0 none 0 0).toArray 30)).setCells w2.heap.size 0 (mgRow mg0 q 0 k)).heap.size = w2.heap.size + 1 := by rw [size_setCells]; simp
  have hmd : mg0.data.length = 0 := rfl
  rw [hmd]
  clear hb2 KA b3 B2 B1 R1
  go_wp2_with fail
  clear th szz
  obtain ⟨b, hbe⟩ : ∃ b, w2.heap.size = b := ⟨_, rfl⟩
  rw [hbe] at K3 B3 ⊢
  generalize (w2.alloc (.cells (mgRow mg0 none 0 0).toArray 30)).setCells b 0 (mgRow mg0 q 0 k) = w3 at *
  have h9 := mgRow_len mg0 q 0 k
  have g0 : mg0.gas = 0 := rfl
  refine wp_region_held_drew (S := fun W => MgAt W b 30 mg0 q 0 k) (by kernel_rfl) (show MgAt w3.drew b 30 mg0 q 0 k from K3.out) (fun h0 => ?_)
  have B5 : Hid (Below w.heap.size w w3.drew) := Lib.hid B3.out.drew
  clear K3 B3 hbe
  generalize w3.drew = w5 at *
  refine wpAnyH_take (i := 0) (v := ?_) (by rw [List.getElem?_toArray]; rfl) (by kernel_rfl) (by kernel_rfl) (by kernel_rfl) (by exact fun _ _ _ h => h) (Or.inl ⟨by rfl, ?_⟩) h0 ?_
  rotate_left
  · intro W hW
    obtain ⟨c0, c1, c2, c3, c4, c5, c6, c7, c8⟩ := hW.cells
    have hrow := hW.row
    go_simp
    all_goals with_reducible rfl
  try simp only [Act.put, List.setIfInBounds_toArray, List.set_cons_zero, List.set_cons_succ]
  refine wpAnyH_take (i := 2) (v := ?_) (by rw [List.getElem?_toArray]; rfl) (by kernel_rfl) (by kernel_rfl) (by kernel_rfl) (by exact fun _ _ _ h => h) (Or.inl ⟨by rfl, ?_⟩) h0 ?_
  rotate_left
  · intro W hW
    obtain ⟨c0, c1, c2, c3, c4, c5, c6, c7, c8⟩ := hW.cells
    have hrow := hW.row
    go_simp
    all_goals with_reducible rfl
  try simp only [Act.put, List.setIfInBounds_toArray, List.set_cons_zero, List.set_cons_succ]
  refine wpAnyH_ready (rs := [1]) (by kernel_rfl) (by simp) ?_
  refine AllReadyH.cons (by rw [List.getElem?_toArray]; rfl) (fun K hK => ?_) AllReadyH.nil
  rw [if_pos (by rfl)]
  go_wp2_with fail
  refine (num9_any 0 _).mono ?_
  rintro e wz ⟨rfl, hwz⟩
  obtain rfl := hwz.symm
  clear hwz
  go_wp2_with fail
  refine hK.out _ _ (h0) (fun h1 => ?_)
  clear hK K
  try simp only [Act.put, List.setIfInBounds_toArray, List.set_cons_zero, List.set_cons_succ]
  refine wpAnyH_ready (rs := [3]) (by kernel_rfl) (by simp) ?_
  refine AllReadyH.cons (by rw [List.getElem?_toArray]; rfl) (fun K hK => ?_) AllReadyH.nil
  rw [if_pos (by rfl)]
  go_wp2_with fail
  refine (num9_any 0 _).mono ?_
  rintro e wz ⟨rfl, hwz⟩
  obtain rfl := hwz.symm
  clear hwz
  go_wp2_with fail
  refine hK.out _ _ (h1) (fun h3 => ?_)
  clear hK K
  try simp only [Act.put, List.setIfInBounds_toArray, List.set_cons_zero, List.set_cons_succ]
  refine wpAnyH_take (i := 4) (v := ?_) (by rw [List.getElem?_toArray]; rfl) (by kernel_rfl) (by kernel_rfl) (by kernel_rfl) (by exact fun _ _ _ h => h) (Or.inl ⟨by rfl, ?_⟩) h3 ?_
  rotate_left
  · intro W hW
    obtain ⟨c0, c1, c2, c3, c4, c5, c6, c7, c8⟩ := hW.cells
    have hrow := hW.row
    go_simp
    all_goals with_reducible rfl
  try simp only [Act.put, List.setIfInBounds_toArray, List.set_cons_zero, List.set_cons_succ]
  refine wpAnyH_take (i := 5) (v := ?_) (by rw [List.getElem?_toArray]; rfl) (by kernel_rfl) (by kernel_rfl) (by kernel_rfl) (by exact fun _ _ _ h => h) (Or.inl ⟨by rfl, ?_⟩) h3 ?_
  rotate_left
  · intro W hW
    obtain ⟨c0, c1, c2, c3, c4, c5, c6, c7, c8⟩ := hW.cells
    have hrow := hW.row
    go_simp
    all_goals with_reducible rfl
  try simp only [Act.put, List.setIfInBounds_toArray, List.set_cons_zero, List.set_cons_succ]
  refine wpAnyH_take (i := 6) (v := ?_) (by rw [List.getElem?_toArray]; rfl) (by kernel_rfl) (by kernel_rfl) (by kernel_rfl) (by exact fun _ _ _ h => h) (Or.inl ⟨by rfl, ?_⟩) h3 ?_
  rotate_left
  · intro W hW
    obtain ⟨c0, c1, c2, c3, c4, c5, c6, c7, c8⟩ := hW.cells
    have hrow := hW.row
    go_simp
    all_goals with_reducible rfl
  try simp only [Act.put, List.setIfInBounds_toArray, List.set_cons_zero, List.set_cons_succ]
  refine wpAnyH_take (i := 7) (v := ?_) (by rw [List.getElem?_toArray]; rfl) (by kernel_rfl) (by kernel_rfl) (by kernel_rfl) (by exact fun _ _ _ h => h) (Or.inl ⟨by rfl, ?_⟩) h3 ?_
  rotate_left
  · intro W hW
    obtain ⟨c0, c1, c2, c3, c4, c5, c6, c7, c8⟩ := hW.cells
    have hrow := hW.row
    go_simp
    all_goals with_reducible rfl
  try simp only [Act.put, List.setIfInBounds_toArray, List.set_cons_zero, List.set_cons_succ]
  refine wpAnyH_take (i := 8) (v := ?_) (by rw [List.getElem?_toArray]; rfl) (by kernel_rfl) (by kernel_rfl) (by kernel_rfl) (by exact fun _ _ _ h => h) (Or.inl ⟨by rfl, ?_⟩) h3 ?_
  rotate_left
  · intro W hW
    obtain ⟨c0, c1, c2, c3, c4, c5, c6, c7, c8⟩ := hW.cells
    have hrow := hW.row
    go_simp
    all_goals with_reducible rfl
  try simp only [Act.put, List.setIfInBounds_toArray, List.set_cons_zero, List.set_cons_succ]
  refine wpAnyH_take (i := 9) (v := ?_) (by rw [List.getElem?_toArray]; rfl) (by kernel_rfl) (by kernel_rfl) (by kernel_rfl) (by exact fun _ _ _ h => h) (Or.inl ⟨by rfl, ?_⟩) h3 ?_
  rotate_left
  · intro W hW
    obtain ⟨c0, c1, c2, c3, c4, c5, c6, c7, c8⟩ := hW.cells
    have hrow := hW.row
    go_simp
    all_goals with_reducible rfl
  try simp only [Act.put, List.setIfInBounds_toArray, List.set_cons_zero, List.set_cons_succ]
  refine wpAnyH_take (i := 10) (v := ?_) (by rw [List.getElem?_toArray]; rfl) (by kernel_rfl) (by kernel_rfl) (by kernel_rfl) (by exact fun _ _ _ h => h) (Or.inl ⟨by rfl, ?_⟩) h3 ?_
  rotate_left
  · intro W hW
    obtain ⟨c0, c1, c2, c3, c4, c5, c6, c7, c8⟩ := hW.cells
    have hrow := hW.row
    go_simp
    all_goals with_reducible rfl
  try simp only [Act.put, List.setIfInBounds_toArray, List.set_cons_zero, List.set_cons_succ]
  refine wpAnyH_take (i := 11) (v := ?_) (by rw [List.getElem?_toArray]; rfl) (by kernel_rfl) (by kernel_rfl) (by kernel_rfl) (by exact fun _ _ _ h => h) (Or.inl ⟨by rfl, ?_⟩) h3 ?_
  rotate_left
  · intro W hW
    obtain ⟨c0, c1, c2, c3, c4, c5, c6, c7, c8⟩ := hW.cells
    have hrow := hW.row
    go_simp
    all_goals with_reducible rfl
  try simp only [Act.put, List.setIfInBounds_toArray, List.set_cons_zero, List.set_cons_succ]
  refine wpAnyH_take (i := 12) (v := ?_) (by rw [List.getElem?_toArray]; rfl) (by kernel_rfl) (by kernel_rfl) (by kernel_rfl) (by exact fun _ _ _ h => h) (Or.inl ⟨by rfl, ?_⟩) h3 ?_
  rotate_left
  · intro W hW
    obtain ⟨c0, c1, c2, c3, c4, c5, c6, c7, c8⟩ := hW.cells
    have hrow := hW.row
    go_simp
    all_goals with_reducible rfl
  try simp only [Act.put, List.setIfInBounds_toArray, List.set_cons_zero, List.set_cons_succ]
  refine wpAnyH_take (i := 13) (v := ?_) (by rw [List.getElem?_toArray]; rfl) (by kernel_rfl) (by kernel_rfl) (by kernel_rfl) (by exact fun _ _ _ h => h) (Or.inl ⟨by rfl, ?_⟩) h3 ?_
  rotate_left
  · intro W hW
    obtain ⟨c0, c1, c2, c3, c4, c5, c6, c7, c8⟩ := hW.cells
    have hrow := hW.row
    go_simp
    all_goals with_reducible rfl
  try simp only [Act.put, List.setIfInBounds_toArray, List.set_cons_zero, List.set_cons_succ]
  refine wpAnyH_take (i := 14) (v := ?_) (by rw [List.getElem?_toArray]; rfl) (by kernel_rfl) (by kernel_rfl) (by kernel_rfl) (by exact fun _ _ _ h => h) (Or.inl ⟨by rfl, ?_⟩) h3 ?_
  rotate_left
  · intro W hW
    obtain ⟨c0, c1, c2, c3, c4, c5, c6, c7, c8⟩ := hW.cells
    have hrow := hW.row
    go_simp
    all_goals with_reducible rfl
  try simp only [Act.put, List.setIfInBounds_toArray, List.set_cons_zero, List.set_cons_succ]
  refine wpAnyH_take (i := 15) (v := ?_) (by rw [List.getElem?_toArray]; rfl) (by kernel_rfl) (by kernel_rfl) (by kernel_rfl) (by exact fun _ _ _ h => h) (Or.inl ⟨by rfl, ?_⟩) h3 ?_
  rotate_left
  · intro W hW
    obtain ⟨c0, c1, c2, c3, c4, c5, c6, c7, c8⟩ := hW.cells
    have hrow := hW.row
    go_simp
    all_goals with_reducible rfl
  try simp only [Act.put, List.setIfInBounds_toArray, List.set_cons_zero, List.set_cons_succ]
  refine wpAnyH_take (i := 16) (v := ?_) (by rw [List.getElem?_toArray]; rfl) (by kernel_rfl) (by kernel_rfl) (by kernel_rfl) (by exact fun _ _ _ h => h) (Or.inl ⟨by rfl, ?_⟩) h3 ?_
  rotate_left
  · intro W hW
    obtain ⟨c0, c1, c2, c3, c4, c5, c6, c7, c8⟩ := hW.cells
    have hrow := hW.row
    go_simp
    all_goals with_reducible rfl
  try simp only [Act.put, List.setIfInBounds_toArray, List.set_cons_zero, List.set_cons_succ]
  refine wpAnyH_take (i := 17) (v := ?_) (by rw [List.getElem?_toArray]; rfl) (by kernel_rfl) (by kernel_rfl) (by kernel_rfl) (by exact fun _ _ _ h => h) (Or.inl ⟨by rfl, ?_⟩) h3 ?_
  rotate_left
  · intro W hW
    obtain ⟨c0, c1, c2, c3, c4, c5, c6, c7, c8⟩ := hW.cells
    have hrow := hW.row
    go_simp
    all_goals with_reducible rfl
  try simp only [Act.put, List.setIfInBounds_toArray, List.set_cons_zero, List.set_cons_succ]
  refine wpAnyH_take (i := 19) (v := ?_) (by rw [List.getElem?_toArray]; rfl) (by kernel_rfl) (by kernel_rfl) (by kernel_rfl) (by exact fun _ _ _ h => h) (Or.inl ⟨by rfl, ?_⟩) h3 ?_
  rotate_left
  · intro W hW
    obtain ⟨c0, c1, c2, c3, c4, c5, c6, c7, c8⟩ := hW.cells
    have hrow := hW.row
    go_simp
    all_goals with_reducible rfl
  try simp only [Act.put, List.setIfInBounds_toArray, List.set_cons_zero, List.set_cons_succ]
  refine wpAnyH_ready (rs := [18]) (by kernel_rfl) (by simp) ?_
  refine AllReadyH.cons (by rw [List.getElem?_toArray]; rfl) (fun K hK => ?_) AllReadyH.nil
  rw [if_pos (by rfl)]
  go_wp2_with fail
  refine (Hash9_any (dn := true) (m := mg0) (q := q) (k := k) mg0_ok ⟨q, k, rfl, .inl rfl⟩ (by simp [mg0]) (HT.out.on B5.out HT.out.pos)).mono ?_
  rintro e w6 ⟨rfl, hb6⟩
  rw [HU.out]
  have M6 : MgAt w6 b 30 mg0 q 0 k := MgAt.on h3 hb6
  have B6 := Lib.hid (B5.out.trans (hb6.mono B5.out.size))
  clear hb6
  go_wp2_with fail
  refine hK.out _ _ (M6) (fun h18 => ?_)
  clear hK K M6
  try simp only [Act.put, List.setIfInBounds_toArray, List.set_cons_zero, List.set_cons_succ]
  refine wpAnyH_ready (rs := [20]) (by kernel_rfl) (by simp) ?_
  refine AllReadyH.cons (by rw [List.getElem?_toArray]; rfl) (fun K hK => ?_) AllReadyH.nil
  rw [if_pos (by rfl)]
  go_wp2_with fail
  refine (Hash9_any (dn := false) (m := mg0) (q := q) (k := k) mg0_ok ⟨q, k, rfl, .inl rfl⟩ (by simp [mg0]) (HT.out.on B6.out HT.out.pos)).mono ?_
  rintro e w7 ⟨rfl, hb7⟩
  rw [HV.out]
  have M7 : MgAt w7 b 30 mg0 q 0 k := MgAt.on h18 hb7
  have B7 := Lib.hid (B6.out.trans (hb7.mono B6.out.size))
  clear hb7
  go_wp2_with fail
  refine hK.out _ _ (M7) (fun h20 => ?_)
  clear hK K M7
  try simp only [Act.put, List.setIfInBounds_toArray, List.set_cons_zero, List.set_cons_succ]
  refine wpAnyH_take (i := 21) (v := ?_) (by rw [List.getElem?_toArray]; rfl) (by kernel_rfl) (by kernel_rfl) (by kernel_rfl) (by exact fun _ _ _ h => h) (Or.inl ⟨by rfl, ?_⟩) h20 ?_
  rotate_left
  · intro W hW
    obtain ⟨c0, c1, c2, c3, c4, c5, c6, c7, c8⟩ := hW.cells
    have hrow := hW.row
    go_simp
    all_goals with_reducible rfl
  try simp only [Act.put, List.setIfInBounds_toArray, List.set_cons_zero, List.set_cons_succ]
  refine wpAnyH_take (i := 22) (v := ?_) (by rw [List.getElem?_toArray]; rfl) (by kernel_rfl) (by kernel_rfl) (by kernel_rfl) (by exact fun _ _ _ h => h) (Or.inl ⟨by rfl, ?_⟩) h20 ?_
  rotate_left
  · intro W hW
    obtain ⟨c0, c1, c2, c3, c4, c5, c6, c7, c8⟩ := hW.cells
    have hrow := hW.row
    go_simp
    all_goals with_reducible rfl
  try simp only [Act.put, List.setIfInBounds_toArray, List.set_cons_zero, List.set_cons_succ]
  refine wpAnyH_take (i := 23) (v := ?_) (by rw [List.getElem?_toArray]; rfl) (by kernel_rfl) (by kernel_rfl) (by kernel_rfl) (by exact fun _ _ _ h => h) (Or.inl ⟨by rfl, ?_⟩) h20 ?_
  rotate_left
  · intro W hW
    obtain ⟨c0, c1, c2, c3, c4, c5, c6, c7, c8⟩ := hW.cells
    have hrow := hW.row
    go_simp
    all_goals with_reducible rfl
  try simp only [Act.put, List.setIfInBounds_toArray, List.set_cons_zero, List.set_cons_succ]
  refine wpAnyH_take (i := 24) (v := ?_) (by rw [List.getElem?_toArray]; rfl) (by kernel_rfl) (by kernel_rfl) (by kernel_rfl) (by exact fun _ _ _ h => h) (Or.inl ⟨by rfl, ?_⟩) h20 ?_
  rotate_left
  · intro W hW
    obtain ⟨c0, c1, c2, c3, c4, c5, c6, c7, c8⟩ := hW.cells
    have hrow := hW.row
    go_simp
    all_goals with_reducible rfl
  try simp only [Act.put, List.setIfInBounds_toArray, List.set_cons_zero, List.set_cons_succ]
  refine wpAnyH_ready (rs := [25]) (by kernel_rfl) (by simp) ?_
  refine AllReadyH.cons (by rw [List.getElem?_toArray]; rfl) (fun K hK => ?_) AllReadyH.nil
  rw [if_pos (by rfl)]
  go_wp2_with fail
  refine (RightTx1).mono ?_
  rintro e w8 ⟨rfl, hb8⟩
  have M8 : MgAt w8 b 30 mg0 q 0 k := MgAt.on h20 hb8
  have B8 := Lib.hid (B7.out.trans (hb8.mono B7.out.size))
  clear hb8
  go_wp2_with fail
  refine hK.out _ _ (M8) (fun h25 => ?_)
  clear hK K M8
  try simp only [Act.put, List.setIfInBounds_toArray, List.set_cons_zero, List.set_cons_succ]
  refine wpAnyH_take (i := 26) (v := ?_) (by rw [List.getElem?_toArray]; rfl) (by kernel_rfl) (by kernel_rfl) (by kernel_rfl) (by exact fun _ _ _ h => h) (Or.inl ⟨by rfl, ?_⟩) h25 ?_
  rotate_left
  · intro W hW
    obtain ⟨c0, c1, c2, c3, c4, c5, c6, c7, c8⟩ := hW.cells
    have hrow := hW.row
    go_simp
    all_goals with_reducible rfl
  try simp only [Act.put, List.setIfInBounds_toArray, List.set_cons_zero, List.set_cons_succ]
  refine wpAnyH_take (i := 27) (v := ?_) (by rw [List.getElem?_toArray]; rfl) (by kernel_rfl) (by kernel_rfl) (by kernel_rfl) (by exact fun _ _ _ h => h) (Or.inl ⟨by rfl, ?_⟩) h25 ?_
  rotate_left
  · intro W hW
    obtain ⟨c0, c1, c2, c3, c4, c5, c6, c7, c8⟩ := hW.cells
    have hrow := hW.row
    go_simp
    all_goals with_reducible rfl
  try simp only [Act.put, List.setIfInBounds_toArray, List.set_cons_zero]
  refine wpAnyH_done (by kernel_rfl) ?_ _
  go_wp2_with fail
  go_ret
  exact ⟨rfl, B8.out⟩
end Go.Proofs.YtcpoaalhpjipaaaDoor
