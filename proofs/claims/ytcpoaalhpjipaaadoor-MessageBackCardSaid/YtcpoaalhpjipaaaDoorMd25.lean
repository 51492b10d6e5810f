/-
  What the program reads of bytes as an input.; What GetInput answers.; An input's bytes, of the program.; Inputs: what is read of bytes that were written, and written of what was read.
-/
import Derived.Test.YtcpoaalhpjipaaaDoorMd19
import Derived.Test.YtcpoaalhpjipaaaDoorMd20
import Derived.Test.YtcpoaalhpjipaaaDoorMd24
namespace Go.Proofs.YtcpoaalhpjipaaaDoor
set_option maxRecDepth 100000
open Go.RowKit

section
variable {w : World} {b : Nat} {T : TypeId} {x : Inp} {qm qt : Option Addr} {nm km nt kt : Nat}
theorem InAt.st0 (h : InAt w b T x qm nm km qt nt kt) (d : Bool) : InAt (w.setCell ⟨b, 0, none⟩ (.bool d)) b T ⟨d, x.mint, x.m, x.t⟩ qm nm km qt nt kt :=
  RIn.st (i := 0) (pre := []) (row := inHd x) (post := mgRow x.m qm nm km ++ txRow x.t qt nt kt) (o := 0) h (by simp [inHd]) (.bool d) rfl
theorem InAt.stW (h : InAt w b T x qm nm km qt nt kt) (y : W4) : InAt ((((w.setCell ⟨b, 1, none⟩ (.int .u64 y.a)).setCell ⟨b, 2, none⟩ (.int .u64 y.b)).setCell ⟨b, 3, none⟩ (.int .u64 y.c)).setCell ⟨b, 4, none⟩ (.int .u64 y.d)) b T ⟨x.dep, y, x.m, x.t⟩ qm nm km qt nt kt := by
  have h1 := RIn.st (i := 1) (pre := []) (row := inHd x) (post := mgRow x.m qm nm km ++ txRow x.t qt nt kt) (o := 0) h (by simp [inHd]) (.int .u64 y.a) rfl
  have h2 := RIn.st (i := 2) (o := 0) h1 (by simp [inHd]) (.int .u64 y.b) rfl
  have h3 := RIn.st (i := 3) (o := 0) h2 (by simp [inHd]) (.int .u64 y.c) rfl
  have h4 := RIn.st (i := 4) (o := 0) h3 (by simp [inHd]) (.int .u64 y.d) rfl
  exact h4
theorem InAt.off {e : TypeId} {l : Nat} {v : Value} {ys : List Value} (h : InAt w b T x qm nm km qt nt kt) (ho : w.ownsRow 0 e 1 v l ys) (ht : T ≠ e) : ∀ g, v.ownBlock = some g → g ∉ [b] := fun g hg hm => by
  obtain rfl : g = b := by simpa using hm
  exact own_ne ho h ht hg
end
/-- What bytes tell as an input. -/
def i1 (xs : List Int) : Bool := fC false xs 0 1
def i2 (xs : List Int) : Bool := fU (i1 xs) xs (0 + 8) 32
def iD (xs : List Int) : Bool := uV (i1 xs) xs 0 == 1
def iM (xs : List Int) : Inp := if iD xs = true then ⟨true, wV (i2 xs) xs (0 + 8), qM xs (0 + 8 + 32) (i2 xs), tg0⟩ else ⟨false, ⟨0, 0, 0, 0⟩, mg0, tM xs (0 + 8) (i1 xs)⟩
def iF (xs : List Int) : Bool := if iD xs = true then q6 xs (0 + 8 + 32) (i2 xs) else t7 xs (0 + 8) (i1 xs)
def iN (xs : List Int) : Nat := if iD xs = true then qE xs (0 + 8 + 32) (i2 xs) else tE xs (0 + 8) (i1 xs)
theorem iM_ok {xs : List Int} (hx : Bytes xs) : (iM xs).ok := by
  unfold iM
  split
  · exact ⟨wV_ok hx _ _, qM_ok hx _ _, tg0_ok⟩
  · exact ⟨⟨dg0, dg0, dg0, dg0⟩, mg0_ok, tM_ok hx _ _⟩
theorem iM_len (xs : List Int) : (iM xs).m.data.length ≤ 65536 ∧ (iM xs).t.data.length ≤ 65536 := by
  unfold iM
  split
  · exact ⟨qM_len _ _ _, by simp [tg0]⟩
  · exact ⟨by simp [mg0], tM_len _ _ _⟩
def rIok (xs : List Int) : Bool := !(iF xs) && decide (iN xs = xs.length)
def iOk (xs : List Int) : Bool := rIok xs && okI (iM xs)
def iG (xs : List Int) : Inp := if iOk xs = true then iM xs else inp0
def iE (xs : List Int) : Int := if iOk xs = true then 0 else 21

/-- What stands behind the parsing. -/
def IpP (xs : List Int) (w : World) (b p : Nat) (v : Value) (w' : World) : Prop := ∃ qm km qt kt, InAt w' b 74 (iM xs) qm (iM xs).m.data.length km qt (iM xs).t.data.length kt ∧ RSt w' p v xs (iN xs) (iF xs) ∧ Rd w' (.slice qm (iM xs).m.data.length km) (iM xs).m.data ∧ Rd w' (.slice qt (iM xs).t.data.length kt) (iM xs).t.data ∧ (∀ g, (Value.slice qm (iM xs).m.data.length km).ownBlock = some g → w.heap.size ≤ g) ∧ (∀ g, (Value.slice qt (iM xs).t.data.length kt).ownBlock = some g → w.heap.size ≤ g) ∧ Chg w w' [b, p]
theorem IpP.yes {xs : List Int} {w w' : World} {b p : Nat} {v : Value} (hd : iD xs = true) {q : Option Addr} {k : Nat} (h1 : InAt w' b 74 ⟨true, wV (i2 xs) xs (0 + 8), qM xs (0 + 8 + 32) (i2 xs), tg0⟩ q (qM xs (0 + 8 + 32) (i2 xs)).data.length k none 0 0) (h2 : RSt w' p v xs (qE xs (0 + 8 + 32) (i2 xs)) (q6 xs (0 + 8 + 32) (i2 xs))) (h3 : Rd w' (.slice q (qM xs (0 + 8 + 32) (i2 xs)).data.length k) (qM xs (0 + 8 + 32) (i2 xs)).data) (h4 : ∀ g, (Value.slice q (qM xs (0 + 8 + 32) (i2 xs)).data.length k).ownBlock = some g → w.heap.size ≤ g) (h5 : Chg w w' [b, p]) : IpP xs w b p v w' := by
  have e1 : iM xs = ⟨true, wV (i2 xs) xs (0 + 8), qM xs (0 + 8 + 32) (i2 xs), tg0⟩ := if_pos hd
  have e2 : iF xs = q6 xs (0 + 8 + 32) (i2 xs) := if_pos hd
  have e3 : iN xs = qE xs (0 + 8 + 32) (i2 xs) := if_pos hd
  unfold IpP
  rw [e1, e2, e3]
  exact ⟨q, k, none, 0, h1, h2, h3, Rd.nil w', h4, by simp [Value.ownBlock], h5⟩
theorem IpP.no {xs : List Int} {w w' : World} {b p : Nat} {v : Value} (hd : iD xs = false) {q : Option Addr} {k : Nat} (h1 : InAt w' b 74 ⟨false, ⟨0, 0, 0, 0⟩, mg0, tM xs (0 + 8) (i1 xs)⟩ none 0 0 q (tM xs (0 + 8) (i1 xs)).data.length k) (h2 : RSt w' p v xs (tE xs (0 + 8) (i1 xs)) (t7 xs (0 + 8) (i1 xs))) (h3 : Rd w' (.slice q (tM xs (0 + 8) (i1 xs)).data.length k) (tM xs (0 + 8) (i1 xs)).data) (h4 : ∀ g, (Value.slice q (tM xs (0 + 8) (i1 xs)).data.length k).ownBlock = some g → w.heap.size ≤ g) (h5 : Chg w w' [b, p]) : IpP xs w b p v w' := by
  have hn : ¬ iD xs = true := by rw [hd]; simp
  have e1 : iM xs = ⟨false, ⟨0, 0, 0, 0⟩, mg0, tM xs (0 + 8) (i1 xs)⟩ := if_neg hn
  have e2 : iF xs = t7 xs (0 + 8) (i1 xs) := if_neg hn
  have e3 : iN xs = tE xs (0 + 8) (i1 xs) := if_neg hn
  unfold IpP
  rw [e1, e2, e3]
  exact ⟨none, 0, q, k, h1, h2, Rd.nil w', h3, by simp [Value.ownBlock], h4, h5⟩
set_option maxHeartbeats 8000000 in
theorem Inparse_any {w : World} {b p : Nat} {v : Value} {xs : List Int} (hK : InAt w b 74 inp0 none 0 0 none 0 0) (hS : RSt w p v xs 0 false) (hx : Bytes xs) (hbp : b ≠ p) :
    Calls Tryd.prog 121 #[.pointer (some ⟨b, 0, none⟩), .pointer (some ⟨p, 0, none⟩)] w fun e w' => e = .returned (.tuple #[]) ∧ IpP xs w b p v w' := by
  have BX := Lib.hid hx
  have K0 := Lib.hid hK
  have S0 := Lib.hid hS
  have d1 : Hid (fC false xs 0 1 = i1 xs) := rfl
  have d2 : Hid (fU (i1 xs) xs (0 + 8) 32 = i2 xs) := rfl
  have YES := Lib.hid (fun (hd : iD xs = true) (w' : World) (q : Option Addr) (k : Nat) => IpP.yes (w := w) (w' := w') (b := b) (p := p) (v := v) hd (q := q) (k := k))
  have NO := Lib.hid (fun (hd : iD xs = false) (w' : World) (q : Option Addr) (k : Nat) => IpP.no (w := w) (w' := w') (b := b) (p := p) (v := v) hd (q := q) (k := k))
  have HD : Hid (iD xs = (uV (i1 xs) xs 0 == 1)) := rfl
  obtain ⟨QP, hQP⟩ : ∃ QP, IpP xs w b p v = QP := ⟨_, rfl⟩
  rw [hQP] at YES NO ⊢
  obtain ⟨f1, e1⟩ : ∃ f, i1 xs = f := ⟨_, rfl⟩
  obtain ⟨f2, e2⟩ : ∃ f, i2 xs = f := ⟨_, rfl⟩
  obtain ⟨dd, e3⟩ : ∃ f, iD xs = f := ⟨_, rfl⟩
  rw [e1, e2] at d2
  rw [e1] at d1 HD NO
  rw [e2] at YES
  rw [e3] at HD YES NO
  obtain ⟨z0, e4⟩ : ∃ z, uV f1 xs 0 = z := ⟨_, rfl⟩
  rw [e4] at HD
  have Z0 := Lib.hid e4
  clear hK hS hx hQP e1 e2 e3 e4
  go_enter Tryd.func121, Tryd.ntmps121
  go_wp2_with fail
  refine (Count_det S0.out BX.out (most := 1) (by omega)).mono ?_
  rintro e w1 ⟨rfl, hs, hc⟩
  rw [d1.out] at hs ⊢
  rw [Z0.out]
  have S1 := Lib.hid hs
  have K1 := Lib.hid (K0.out.chg hc (by simpa using hbp))
  have C1 : Hid (Chg w w1 [b, p]) := (hc.more (by simp))
  clear hs hc S0 K0
  have HDz := HD.out.symm
  obtain ⟨c0, -, -, -, -⟩ := K1.out.cells
  have y0 := K1.out.frees 0
  have cs : Chg w1 (w1.setCell ⟨b, 0, none⟩ (.bool dd)) [b] := (Chg.refl _ [b]).setCell (p := ⟨b, 0, none⟩) (.inl (by simp)) _
  have K2 : Hid (InAt (w1.setCell ⟨b, 0, none⟩ (.bool dd)) b 74 ⟨dd, ⟨0, 0, 0, 0⟩, mg0, tg0⟩ none 0 0 none 0 0) := K1.out.st0 dd
  have S2 := Lib.hid (S1.out.chg2 cs (by simpa using Ne.symm hbp) (fun ho => K1.out.off ho (by decide)))
  have C2 : Hid (Chg w (w1.setCell ⟨b, 0, none⟩ (.bool dd)) [b, p]) := C1.out.trans (cs.more (by simp)) (fun x hx _ => hx)
  have c0' := K2.out.cells.1
  dsimp only at c0'
  clear cs S1 C1 K1
  cases dd with
  | true =>
    have Y := Lib.hid (YES.out rfl)
    clear YES NO HD
    go_wp2_with fail
    clear c0 y0 HDz
    generalize (w1.setCell ⟨b, 0, none⟩ (.bool true)) = w2 at *
    refine (Wide_st S2.out BX.out).mono ?_
    rintro e w3 ⟨rfl, hs, hc⟩
    rw [d2.out] at hs ⊢
    obtain ⟨x4, hx4⟩ : ∃ y, wV f2 xs (0 + 8) = y := ⟨_, rfl⟩
    have X4 := Lib.hid hx4
    rw [hx4]
    unfold w4v
    have S3 := Lib.hid hs
    have K3 := Lib.hid (K2.out.chg hc (by simpa using hbp))
    have C3 : Hid (Chg w w3 [b, p]) := C2.out.trans (hc.more (by simp)) (fun x hx _ => hx)
    clear hs hc S2 K2 C2 hx4 c0'
    obtain ⟨-, c1, c2, c3, c4⟩ := K3.out.cells
    have y1 := K3.out.frees 1
    have y2 := K3.out.frees 2
    have y3 := K3.out.frees 3
    have y4 := K3.out.frees 4
    have cs : Chg w3 ((((w3.setCell ⟨b, 1, none⟩ (.int .u64 x4.a)).setCell ⟨b, 2, none⟩ (.int .u64 x4.b)).setCell ⟨b, 3, none⟩ (.int .u64 x4.c)).setCell ⟨b, 4, none⟩ (.int .u64 x4.d)) [b] := ((((Chg.refl _ [b]).setCell (p := ⟨b, 1, none⟩) (.inl (by simp)) _).setCell (p := ⟨b, 2, none⟩) (.inl (by simp)) _).setCell (p := ⟨b, 3, none⟩) (.inl (by simp)) _).setCell (p := ⟨b, 4, none⟩) (.inl (by simp)) _
    have K4 := Lib.hid (K3.out.stW x4)
    have S4 := Lib.hid (S3.out.chg2 cs (by simpa using Ne.symm hbp) (fun ho => K3.out.off ho (by decide)))
    have C4 : Hid (Chg w ((((w3.setCell ⟨b, 1, none⟩ (.int .u64 x4.a)).setCell ⟨b, 2, none⟩ (.int .u64 x4.b)).setCell ⟨b, 3, none⟩ (.int .u64 x4.c)).setCell ⟨b, 4, none⟩ (.int .u64 x4.d)) [b, p]) := C3.out.trans (cs.more (by simp)) (fun x hx _ => hx)
    clear cs S3 C3 K3
    go_wp2_with fail
    clear c1 c2 c3 c4 y1 y2 y3 y4
    generalize ((((w3.setCell ⟨b, 1, none⟩ (.int .u64 x4.a)).setCell ⟨b, 2, none⟩ (.int .u64 x4.b)).setCell ⟨b, 3, none⟩ (.int .u64 x4.c)).setCell ⟨b, 4, none⟩ (.int .u64 x4.d)) = w4 at *
    have R4 : Hid (RIn w4 74 b (inHd ⟨true, x4, mg0, tg0⟩) (mgRow mg0 none 0 0) (txRow tg0 none 0 0)) := K4.out
    refine (Mgparse_in (o := 5) (by decide) R4.out rfl S4.out BX.out hbp).mono ?_
    rintro e w5 ⟨q, k, rfl, h1, h2, h3, h4, h5⟩
    have E1 : Hid (InAt w5 b 74 ⟨true, x4, qM xs (0 + 8 + 32) f2, tg0⟩ q (qM xs (0 + 8 + 32) f2).data.length k none 0 0) := h1
    have E2 := Lib.hid h2
    have E3 := Lib.hid h3
    have E4 : Hid (∀ g, (Value.slice q (qM xs (0 + 8 + 32) f2).data.length k).ownBlock = some g → w.heap.size ≤ g) := fun g hg => Nat.le_trans C4.out.size (h4 g hg)
    have E5 : Hid (Chg w w5 [b, p]) := C4.out.trans h5 (fun x hx _ => hx)
    clear h1 h2 h3 h4 h5 K4 S4 C4 R4
    go_wp2_with fail
    refine bodyPost_ret (results_none rfl _ _ _) rfl ?_
    refine ⟨rfl, Y.out _ _ _ ?_ E2.out E3.out E4.out E5.out⟩
    rw [X4.out]
    exact E1.out
  | false =>
    have Y := Lib.hid (NO.out rfl)
    clear YES NO HD
    go_wp2_with fail
    clear c0 y0 HDz c0'
    generalize (w1.setCell ⟨b, 0, none⟩ (.bool false)) = w2 at *
    have R4 : Hid (RIn w2 74 b (inHd inp0 ++ mgRow mg0 none 0 0) (txRow tg0 none 0 0) []) := by
      have := K2.out
      show RIn _ _ _ _ _ _
      unfold RIn
      unfold InAt at this
      simpa [inRow, inHd, inp0] using this
    refine (Txparse_in (o := 14) (by decide) R4.out rfl S2.out BX.out hbp).mono ?_
    rintro e w5 ⟨q, k, rfl, h1, h2, h3, h4, h5⟩
    have E1 : Hid (InAt w5 b 74 ⟨false, ⟨0, 0, 0, 0⟩, mg0, tM xs (0 + 8) f1⟩ none 0 0 q (tM xs (0 + 8) f1).data.length k) := by
      unfold RIn at h1
      show _ = _
      simpa [inRow, inHd, inp0] using h1
    have E2 := Lib.hid h2
    have E3 := Lib.hid h3
    have E4 : Hid (∀ g, (Value.slice q (tM xs (0 + 8) f1).data.length k).ownBlock = some g → w.heap.size ≤ g) := fun g hg => Nat.le_trans C2.out.size (h4 g hg)
    have E5 : Hid (Chg w w5 [b, p]) := C2.out.trans h5 (fun x hx _ => hx)
    clear h1 h2 h3 h4 h5 K2 S2 C2 R4
    go_wp2_with fail
    go_end0
    exact ⟨rfl, Y.out _ _ _ E1.out E2.out E3.out E4.out E5.out⟩
end Go.Proofs.YtcpoaalhpjipaaaDoor
namespace Go.Proofs.YtcpoaalhpjipaaaDoor
set_option maxRecDepth 100000
open Go.RowKit

/-- What stands behind the reading. -/
def IrP (xs : List Int) (w : World) (b : Nat) (e : Ending) (w' : World) : Prop := ∃ qm km qt kt, e = .returned (.bool (rIok xs)) ∧ InAt w' b 74 (iM xs) qm (iM xs).m.data.length km qt (iM xs).t.data.length kt ∧ Rd w' (.slice qm (iM xs).m.data.length km) (iM xs).m.data ∧ Rd w' (.slice qt (iM xs).t.data.length kt) (iM xs).t.data ∧ (∀ g, (Value.slice qm (iM xs).m.data.length km).ownBlock = some g → w.heap.size ≤ g) ∧ (∀ g, (Value.slice qt (iM xs).t.data.length kt).ownBlock = some g → w.heap.size ≤ g) ∧ Chg w w' [b]
set_option maxHeartbeats 4000000 in
theorem readI_any {w : World} {b : Nat} {vb : Value} {xs : List Int} (hr : Rd w vb xs) (hx : Bytes xs) (hl : xs.length ≤ 140737488355328) (hK : InAt w b 74 inp0 none 0 0 none 0 0) :
    Calls Tryd.prog 36 #[vb, .iface 114 (.pointer (some ⟨b, 0, none⟩))] w (IrP xs w b) := by
  have BX := Lib.hid hx
  have KN := Lib.hid (NewReader_any hr hl)
  have K0 := Lib.hid hK
  have hbl := hK.lt
  have RK : Hid (rIok xs = (!(iF xs) && decide (iN xs = xs.length))) := rfl
  obtain ⟨qv, cv, rfl⟩ := hr.len
  clear hr hx hK
  go_enter Tryd.func36, Tryd.ntmps36
  go_wp2_with fail
  refine KN.out.mono ?_
  rintro e w1 ⟨p, v1, rfl, hV, hp, hb1, -⟩
  have S1 := Lib.hid (RSt.mk0 hV)
  have K1 := Lib.hid (K0.out.on hb1)
  have B1 := Lib.hid hb1
  clear hV hb1 KN K0
  go_wp2_with fail
  refine (Inparse_any K1.out S1.out BX.out (by omega)).mono ?_
  rintro e w2 ⟨rfl, qm, km, qt, kt, hK2, hS2, hR2, hT2, hF2, hG2, hC2⟩
  have K2 := Lib.hid hK2
  have R2 := Lib.hid hR2
  have T2 := Lib.hid hT2
  have F2 : Hid (∀ g, (Value.slice qm (iM xs).m.data.length km).ownBlock = some g → w.heap.size ≤ g) := fun g hg => Nat.le_trans B1.out.size (hF2 g hg)
  have G2 : Hid (∀ g, (Value.slice qt (iM xs).t.data.length kt).ownBlock = some g → w.heap.size ≤ g) := fun g hg => Nat.le_trans B1.out.size (hG2 g hg)
  have C2 : Hid (Chg w w2 [b]) := (Chg.below B1.out (Nat.le_refl _) [b]).trans hC2 (fun x hx hl => by simp at hx ⊢; omega)
  clear hK2 hR2 hT2 hF2 hG2 hC2 K1 S1 B1
  go_wp2_with fail
  refine (Done_st hS2).mono ?_
  rintro e w3 ⟨z, m, rfl, rfl, hz⟩
  have K3 := Lib.hid (K2.out.on (below_drewN (Below.refl _ _) m))
  have R3 := Lib.hid (show Rd (w2.drewN m) (.slice qm (iM xs).m.data.length km) (iM xs).m.data from R2.out)
  have T3 := Lib.hid (show Rd (w2.drewN m) (.slice qt (iM xs).t.data.length kt) (iM xs).t.data from T2.out)
  have C3 : Hid (Chg w (w2.drewN m) [b]) := C2.out.trans (show Chg w2 (w2.drewN m) [] from ⟨rfl, rfl, rfl, Nat.le_refl _, fun _ _ _ => rfl⟩) (fun x hx _ => by cases hx)
  have HZ : Hid ((z == 0) = rIok xs) := by
    show _ = _
    rw [RK.out]
    by_cases h : z = 0
    · obtain ⟨h1, h2⟩ := hz.1 h
      rw [h1, h]; simp [h2]
    · have h0 : (z == 0) = false := by simpa using h
      rw [h0]
      cases hg : iF xs with
      | true => rfl
      | false =>
        have : ¬ iN xs = xs.length := fun e => h (hz.2 ⟨hg, e⟩)
        simp [this]
  clear hz hS2 K2 R2 T2 C2
  go_wp2_with fail
  go_ret
  exact ⟨qm, km, qt, kt, by first | rw [HZ.out]; rfl | rfl, K3.out, R3.out, T3.out, F2.out, G2.out, C3.out⟩

/-- What Get answers. -/
def GiP (xs : List Int) (w : World) (e : Ending) (w' : World) : Prop := ∃ qm km qt kt, e = .returned (.tuple #[.agg (inRow (iG xs) qm (iG xs).m.data.length km qt (iG xs).t.data.length kt).toArray, .int .i64 (iE xs)]) ∧ Rd w' (.slice qm (iG xs).m.data.length km) (iG xs).m.data ∧ Rd w' (.slice qt (iG xs).t.data.length kt) (iG xs).t.data ∧ Below w.heap.size w w'
theorem GiP.no {xs : List Int} {w W : World} (h : iOk xs = false) (hb : Below w.heap.size w W) : GiP xs w (.returned (.tuple #[.agg (inRow inp0 none 0 0 none 0 0).toArray, .int .i64 21])) W := by
  have e1 : iG xs = inp0 := by unfold iG; rw [if_neg (by rw [h]; simp)]
  have e2 : iE xs = 21 := by unfold iE; rw [if_neg (by rw [h]; simp)]
  exact ⟨none, 0, none, 0, by rw [e1, e2]; rfl, by rw [e1]; exact Rd.nil W, by rw [e1]; exact Rd.nil W, hb⟩
theorem GiP.yes {xs : List Int} {w W : World} {qm qt : Option Addr} {km kt : Nat} (h : iOk xs = true) (hr : Rd W (.slice qm (iM xs).m.data.length km) (iM xs).m.data) (ht : Rd W (.slice qt (iM xs).t.data.length kt) (iM xs).t.data) (hb : Below w.heap.size w W) : GiP xs w (.returned (.tuple #[.agg (inRow (iM xs) qm (iM xs).m.data.length km qt (iM xs).t.data.length kt).toArray, .int .i64 0])) W := by
  have e1 : iG xs = iM xs := if_pos h
  have e2 : iE xs = 0 := if_pos h
  exact ⟨qm, km, qt, kt, by rw [e1, e2], by rw [e1]; exact hr, by rw [e1]; exact ht, hb⟩
set_option maxHeartbeats 4000000 in
theorem GetInput_any {w : World} {vb : Value} {xs : List Int} (hr : Rd w vb xs) (hx : Bytes xs) (hl : xs.length ≤ 140737488355328) :
    Calls Tryd.prog 30 #[vb] w (GiP xs w) := by
  have b1 : Below w.heap.size w (w.alloc (.cells (inRow inp0 none 0 0 none 0 0).toArray 74)) := (Below.refl _ _).alloc (Nat.le_refl _) _
  have b2 : Below (w.alloc (.cells (inRow inp0 none 0 0 none 0 0).toArray 74)).heap.size (w.alloc (.cells (inRow inp0 none 0 0 none 0 0).toArray 74)) ((w.alloc (.cells (inRow inp0 none 0 0 none 0 0).toArray 74)).alloc (.cells (inRow inp0 none 0 0 none 0 0).toArray 74)) := (Below.refl _ _).alloc (Nat.le_refl _) _
  have hz : (w.alloc (.cells (inRow inp0 none 0 0 none 0 0).toArray 74)).heap.size = w.heap.size + 1 := by simp
  have R0 := Lib.hid ((InAt.new w 74 inp0 none 0 0 none 0 0).on b2)
  have K0 := InAt.new (w.alloc (.cells (inRow inp0 none 0 0 none 0 0).toArray 74)) 74 inp0 none 0 0 none 0 0
  rw [hz] at K0
  have B0 := Lib.hid (b1.trans (b2.mono b1.size))
  have KR := Lib.hid (readI_any (hr.on B0.out) hx hl K0)
  unfold IrP at KR
  have MK : Hid (iOk xs = (rIok xs && okI (iM xs))) := rfl
  have KRH := Lib.hid (fun (W : World) (qm qt : Option Addr) (km kt : Nat) (h : Rd W (.slice qt (iM xs).t.data.length kt) (iM xs).t.data) => RightInput_any (w := W) (x := iM xs) (qm := qm) (km := km) (iM_ok hx) (by have := (iM_len xs).1; omega) h (by have := (iM_len xs).2; omega))
  have NO := Lib.hid (fun (h : iOk xs = false) (W : World) (hb : Below w.heap.size w W) => GiP.no h hb)
  have YES := Lib.hid (fun (h : iOk xs = true) (W : World) (qm qt : Option Addr) (km kt : Nat) (hr : Rd W (.slice qm (iM xs).m.data.length km) (iM xs).m.data) (ht : Rd W (.slice qt (iM xs).t.data.length kt) (iM xs).t.data) (hb : Below w.heap.size w W) => GiP.yes h hr ht hb)
  obtain ⟨QP, hQP⟩ : ∃ QP, GiP xs w = QP := ⟨_, rfl⟩
  rw [hQP] at NO YES ⊢
  obtain ⟨y, hm⟩ : ∃ m, iM xs = m := ⟨_, rfl⟩
  rw [hm] at KR MK KRH YES
  obtain ⟨ok, hok⟩ : ∃ ok, okI y = ok := ⟨_, rfl⟩
  rw [hok] at KRH MK
  obtain ⟨r, hrr⟩ : ∃ r, rIok xs = r := ⟨_, rfl⟩
  rw [hrr] at KR MK
  obtain ⟨mo, hmo⟩ : ∃ mo, iOk xs = mo := ⟨_, rfl⟩
  rw [hmo] at MK NO YES
  obtain ⟨qv, cv, rfl⟩ := hr.len
  have SZ : Hid (((w.alloc (.cells (inRow inp0 none 0 0 none 0 0).toArray 74)).alloc (.cells (inRow inp0 none 0 0 none 0 0).toArray 74)).heap.size = w.heap.size + 2) := by show _ = _; simp
  clear hr hx b1 b2 hz K0 hQP hm hok hrr hmo
  go_enter Tryd.func30, Tryd.ntmps30
  go_wp2_with fail
  generalize ((w.alloc (.cells (inRow inp0 none 0 0 none 0 0).toArray 74)).alloc (.cells (inRow inp0 none 0 0 none 0 0).toArray 74)) = w0 at *
  refine KR.out.mono ?_
  rintro e w1 ⟨qm, km, qt, kt, rfl, hK1, hR1, hT1, hF1, hG1, hC1⟩
  have R1 := Lib.hid (R0.out.chg hC1 (by simp))
  have B1 : Hid (Below w.heap.size w w1) := Lib.hid (B0.out.trans (hC1.toBelow B0.out.size (fun g hg => by simp at hg; omega)))
  have K1 := Lib.hid hK1
  have D1 := Lib.hid hR1
  have U1 := Lib.hid hT1
  have NB : Hid (w.heap.size + 1 < w0.heap.size) := Nat.lt_of_lt_of_le (show w.heap.size + 1 < w.heap.size + 2 by omega) (Nat.le_of_eq SZ.out.symm)
  have F1 := Lib.hid hF1
  have G1 := Lib.hid hG1
  have hrow := hK1.row
  have h24 := inRow_len y qm y.m.data.length km qt y.t.data.length kt
  clear hK1 hR1 hT1 hF1 hG1 hC1 KR R0 B0
  cases r with
  | false =>
    have E := Lib.hid (NO.out (by rw [MK.out]; rfl))
    have th := R1.out.there
    have hput := (R1.out.put inp0 none 0 0 none 0 0).row
    have BX := Lib.hid (below_setCells' (w.heap.size) (Nat.le_refl _) (inRow inp0 none 0 0 none 0 0) 0 B1.out)
    clear NO YES MK KRH
    go_wp2_with fail
    refine bodyPost_ret (v := .tuple #[.agg (inRow inp0 none 0 0 none 0 0).toArray, .int .i64 21]) (by simp [results, Tryd.results30, go_sem, hput]) rfl (E.out _ BX.out)
  | true =>
    go_wp2_with fail
    refine (KRH.out w1 qm qt km kt U1.out).mono ?_
    rintro e w2 ⟨rfl, hb2⟩
    have R2 := Lib.hid (R1.out.on hb2)
    have B2 := Lib.hid (B1.out.trans (hb2.mono B1.out.size))
    have K2 := Lib.hid (K1.out.on hb2)
    have D2 := Lib.hid (D1.out.on hb2)
    have U2 := Lib.hid (U1.out.on hb2)
    have hrow := K2.out.row
    have th := R2.out.there
    clear hb2 K1 R1 B1 D1 U1 KRH
    cases ok with
    | false =>
      have E := Lib.hid (NO.out (by rw [MK.out]; rfl))
      have hput := (R2.out.put inp0 none 0 0 none 0 0).row
      have BX := Lib.hid (below_setCells' (w.heap.size) (Nat.le_refl _) (inRow inp0 none 0 0 none 0 0) 0 B2.out)
      clear NO YES MK
      go_wp2_with fail
      refine bodyPost_ret (v := .tuple #[.agg (inRow inp0 none 0 0 none 0 0).toArray, .int .i64 21]) (by simp [results, Tryd.results30, go_sem, hput]) rfl (E.out _ BX.out)
    | true =>
      have hput := (R2.out.put y qm y.m.data.length km qt y.t.data.length kt).row
      have BX := Lib.hid (below_setCells' (w.heap.size) (Nat.le_refl _) (inRow y qm y.m.data.length km qt y.t.data.length kt) 0 B2.out)
      have DX : Hid (Rd (w2.setCells w.heap.size 0 (inRow y qm y.m.data.length km qt y.t.data.length kt)) (.slice qm y.m.data.length km) y.m.data) := D2.out.chg (S := [w.heap.size]) (chg_setCells _ _ _ (Chg.refl _ _)) (fun _ g hg _ hm => by
        obtain rfl : g = w.heap.size := by simpa using hm
        have := F1.out _ hg
        have := NB.out
        omega)
      have UX : Hid (Rd (w2.setCells w.heap.size 0 (inRow y qm y.m.data.length km qt y.t.data.length kt)) (.slice qt y.t.data.length kt) y.t.data) := U2.out.chg (S := [w.heap.size]) (chg_setCells _ _ _ (Chg.refl _ _)) (fun _ g hg _ hm => by
        obtain rfl : g = w.heap.size := by simpa using hm
        have := G1.out _ hg
        have := NB.out
        omega)
      have E := Lib.hid (YES.out (by rw [MK.out]; rfl) _ qm qt km kt DX.out UX.out BX.out)
      clear NO YES MK D2 U2 DX UX BX
      go_wp2_with fail
      refine bodyPost_ret (v := .tuple #[.agg (inRow y qm y.m.data.length km qt y.t.data.length kt).toArray, .int .i64 0]) (by simp [results, Tryd.results30, go_sem, hput]) rfl E.out
end Go.Proofs.YtcpoaalhpjipaaaDoor
namespace Go.Proofs.YtcpoaalhpjipaaaDoor
set_option maxRecDepth 100000
open Go.RowKit

/-- What PutInput answers. -/
def inB (x : Inp) : List Int := if x.dep = true then (be8 1 ++ x.mint.bytes) ++ mgB x.m else be8 0 ++ txB x.t
def pIB (x : Inp) : List Int := if okI x = true then inB x else []
def pIE (x : Inp) : Int := if okI x = true then 0 else 1
theorem okI_len {x : Inp} (h : okI x = true) : x.m.data.length ≤ 64 ∧ x.t.data.length ≤ 256 := by
  unfold okI at h
  split at h
  · simp only [okM, zT, Bool.and_eq_true, decide_eq_true_eq, beq_iff_eq] at h
    omega
  · simp only [zM, Bool.and_eq_true, beq_iff_eq] at h
    have := (okT_kd h.2).2
    omega
theorem okI_t {x : Inp} (h : okI x = true) (hd : x.dep = false) : 0 ≤ x.t.kd := by
  unfold okI at h
  rw [if_neg (by rw [hd]; simp)] at h
  simp only [Bool.and_eq_true] at h
  exact (okT_kd h.2).1
set_option maxHeartbeats 8000000 in
theorem PutInput_any {w : World} {x : Inp} {qm qt : Option Addr} {km kt : Nat} (ok : x.ok) (hr : Rd w (.slice qm x.m.data.length km) x.m.data) (hm : x.m.data.length ≤ 140737488355000) (ht : Rd w (.slice qt x.t.data.length kt) x.t.data) (hn : x.t.data.length ≤ 140737488355000) :
    Calls Tryd.prog 28 #[.agg (inRow x qm x.m.data.length km qt x.t.data.length kt).toArray] w fun e w' => ∃ q' k', e = .returned (.tuple #[.slice q' (pIB x).length k', .int .i64 (pIE x)]) ∧ Rd w' (.slice q' (pIB x).length k') (pIB x) ∧ Below w.heap.size w w' := by
  obtain ⟨i0, hi, hz0, hz1, hz2⟩ := info_parts Tryd.infoU8
  replace hi := Lib.hid hi
  replace hz0 := Lib.hid hz0
  replace hz1 := Lib.hid hz1
  replace hz2 := Lib.hid hz2
  have HM : Hid (∀ W, Below w.heap.size w W → Rd W (.slice qm x.m.data.length km) x.m.data) := fun W hb => hr.on hb
  have HT : Hid (∀ W, Below w.heap.size w W → Rd W (.slice qt x.t.data.length kt) x.t.data) := fun W hb => ht.on hb
  have OK := Lib.hid ok
  have KR := Lib.hid (fun (W : World) (h : Rd W (.slice qt x.t.data.length kt) x.t.data) => RightInput_any (w := W) (qm := qm) (km := km) ok (by omega) h (by omega))
  have YES : Hid (okI x = true → pIB x = inB x ∧ pIE x = 0 ∧ x.m.data.length ≤ 64 ∧ x.t.data.length ≤ 256) := fun h => ⟨if_pos h, if_pos h, okI_len h⟩
  have KD : Hid (okI x = true → x.dep = false → 0 ≤ x.t.kd) := fun h hd => okI_t h hd
  have NO : Hid (okI x = false → pIB x = [] ∧ pIE x = 1) := fun h => by unfold pIB pIE; rw [h]; exact ⟨rfl, rfl⟩
  obtain ⟨res, hres⟩ : ∃ res, okI x = res := ⟨_, rfl⟩
  rw [hres] at KR YES NO KD
  have b0 : Below w.heap.size w (w.alloc (.cells (inRow x qm x.m.data.length km qt x.t.data.length kt).toArray 74)) := (Below.refl _ _).alloc (Nat.le_refl _) _
  have B0 := Lib.hid b0
  have K0 : Hid (InAt (w.alloc (.cells (inRow x qm x.m.data.length km qt x.t.data.length kt).toArray 74)) w.heap.size 74 x qm x.m.data.length km qt x.t.data.length kt) := InAt.new w 74 x qm x.m.data.length km qt x.t.data.length kt
  have hrow := K0.out.row
  have h24 := inRow_len x qm x.m.data.length km qt x.t.data.length kt
  clear hr ht ok hres b0
  go_enter Tryd.func28, Tryd.ntmps28
  go_wp2_with fail
  clear hrow
  have hs0 : Hid (w.heap.size < (w.alloc (.cells (inRow x qm x.m.data.length km qt x.t.data.length kt).toArray 74)).heap.size) := by show _ < _; simp
  generalize w.alloc (.cells (inRow x qm x.m.data.length km qt x.t.data.length kt).toArray 74) = w0 at *
  refine (KR.out _ (HT.out _ B0.out)).mono ?_
  rintro e w1 ⟨rfl, hb1⟩
  have K1 := Lib.hid (K0.out.on hb1)
  have B1 := Lib.hid (B0.out.trans (hb1.mono B0.out.size))
  have hs1 : Hid (w.heap.size < w1.heap.size) := Nat.lt_of_lt_of_le hs0.out hb1.size
  clear hb1 K0 B0 KR hs0
  cases res with
  | false =>
    have E := Lib.hid (NO.out rfl)
    clear NO YES
    go_wp2_with fail
    go_ret2
    exact ⟨none, 0, by rw [E.out.1, E.out.2]; rfl, by rw [E.out.1]; exact Rd.nil w1, B1.out⟩
  | true =>
  have E := Lib.hid (YES.out rfl)
  replace KD := Lib.hid (KD.out rfl)
  obtain ⟨c0, -, -, -, -⟩ := K1.out.cells
  clear NO YES
  obtain ⟨IB, hIB⟩ : ∃ IB, inB x = IB := ⟨_, rfl⟩
  have HIB := Lib.hid hIB
  clear hIB
  cases hd : x.dep with
  | false =>
    rw [hd] at c0
    have HI : Hid (IB = be8 0 ++ txB x.t) := by
      show _ = _
      rw [← HIB.out]; exact if_neg (by rw [hd]; simp)
    have HKD := Lib.hid (KD.out hd)
    have hdd := Lib.hid hd
    clear hd
    go_wp2_with fail
    clear c0
    have B2 : Hid (Below w.heap.size w w1.drew) := Lib.hid B1.out.drew
    have K2 : InAt w1.drew w.heap.size 74 x qm x.m.data.length km qt x.t.data.length kt := K1.out.on (Below.refl _ _).drew
    refine wp_region_held_drew (S := fun W => InAt W w.heap.size 74 x qm x.m.data.length km qt x.t.data.length kt) (by kernel_rfl) (K2) (fun h0 => ?_)
    generalize w1.drew = w2 at *
    refine wpAnyH_take (i := 1) (v := ?_) (by rw [List.getElem?_toArray]; rfl) (by kernel_rfl) (by kernel_rfl) (by kernel_rfl) (by exact fun _ _ _ h => h) (Or.inl ⟨by rfl, ?_⟩) h0 ?_
    rotate_left
    · intro W hW
      obtain ⟨c0, c1, c2, c3, c4⟩ := hW.cells
      have rm := hW.rowm
      have rt := hW.rowt
      go_simp
      all_goals with_reducible rfl
    try simp only [Act.put, List.setIfInBounds_toArray, List.set_cons_zero, List.set_cons_succ]
    refine wpAnyH_take (i := 2) (v := ?_) (by rw [List.getElem?_toArray]; rfl) (by kernel_rfl) (by kernel_rfl) (by kernel_rfl) (by exact fun _ _ _ h => h) (Or.inl ⟨by rfl, ?_⟩) h0 ?_
    rotate_left
    · intro W hW
      obtain ⟨c0, c1, c2, c3, c4⟩ := hW.cells
      have rm := hW.rowm
      have rt := hW.rowt
      go_simp
      all_goals with_reducible rfl
    try simp only [Act.put, List.setIfInBounds_toArray, List.set_cons_zero, List.set_cons_succ]
    refine wpAnyH_ready (rs := [0]) (by kernel_rfl) (by simp) ?_
    refine AllReadyH.cons (by rw [List.getElem?_toArray]; rfl) (fun K hK => ?_) AllReadyH.nil
    rw [if_pos (by rfl)]
    go_wp2_with fail
    refine (number_any (n := 0) w2).mono ?_
    rintro e w3 ⟨u3, rfl, hN⟩
    have hs := hN.bus
    obtain ⟨a3, o3, rfl⟩ := hs.len
    have M3 := h0.on hs.below
    have S3 := Lib.hid (hs.base B2.out)
    have L3 : Hid ((be8 (0 : Int)).length = 8) := be8_len _
    rw [be8_len]
    clear hN hs
    go_wp2_with fail
    refine hK.out _ _ (M3) (fun h3 => ?_)
    clear hK K
    try simp only [Act.put, List.setIfInBounds_toArray, List.set_cons_zero, List.set_cons_succ]
    clear M3
    refine wpAnyH_ready (rs := [3]) (by kernel_rfl) (by simp) ?_
    refine AllReadyH.cons (by rw [List.getElem?_toArray]; rfl) (fun K hK => ?_) AllReadyH.nil
    rw [if_pos (by rfl)]
    go_wp2_with fail
    refine (txBytes_any OK.out.t HKD.out (HT.out _ S3.out.below) E.out.2.2.2).mono ?_
    rintro e w4 ⟨u4, rfl, hs⟩
    obtain ⟨a4, o4, rfl⟩ := hs.len
    have M4 := h3.on hs.below
    have S4 := Lib.hid (S3.out.on hs.below)
    have R4 := Lib.hid hs.rd
    have LT : (txB x.t).length ≤ 336 := by rw [txB_len]; have := E.out.2.2.2; omega
    obtain ⟨TB, hTB⟩ : ∃ TB, txB x.t = TB := ⟨_, rfl⟩
    rw [hTB] at R4 LT HI ⊢
    clear hs S3 hTB
    go_wp2_with fail
    refine hK.out _ _ (M4) (fun h4 => ?_)
    clear hK K
    try simp only [Act.put, List.setIfInBounds_toArray, List.set_cons_zero, List.set_cons_succ]
    clear M4
    refine wpAnyH_ready (rs := [4]) (by kernel_rfl) (by simp) ?_
    refine AllReadyH.cons (by rw [List.getElem?_toArray]; rfl) (fun K hK => ?_) AllReadyH.nil
    rw [if_pos (by rfl)]
    refine wp_append_row _ _ rfl Tryd.underlying25 hi.out hz0.out hz1.out hz2.out rfl (by have := S4.out.own; rw [L3.out] at this; exact this) (R4.out.src (P := Tryd.prog) Tryd.underlying25) (by unfold maxLen; omega) (by omega) ?_
    intro q5 k5 w5 own5 grow5 fr5
    have OW : w4.ownsRow 0 5 1 (.slice a3 8 o3) 8 (bc (be8 0)) := by have := S4.out.own; rw [L3.out] at this; exact this
    have gr : w4.grownBy w5 (Value.slice a3 8 o3).ownBlock := grow5
    have M5 := h4.chg (Chg.grown (S := (Value.slice a3 8 o3).ownBlock.toList) gr (fun g hg => by simp [hg])) (fun hm => own_ne OW h4 (by decide) (by simpa using hm))
    have S5 : Hid (BuS w w5 (.slice q5 IB.length k5) IB) := by
      have e : IB.length = 8 + TB.length := by rw [HI.out, List.length_append, L3.out]
      have h := S4.out
      rw [L3.out] at h
      have := h.app (L3.out) rfl own5 grow5 fr5
      rw [e, HI.out]
      exact this
    have e5 : Hid (IB.length = 8 + TB.length) := by show _ = _; rw [HI.out, List.length_append, L3.out]
    rw [← e5.out]
    clear own5 grow5 fr5 S4 R4 OW gr
    refine hK.out _ _ (M5) (fun h5 => ?_)
    clear hK K
    try simp only [Act.put, List.setIfInBounds_toArray, List.set_cons_zero, List.set_cons_succ]
    clear M5
    refine wpAnyH_take (i := 5) (v := ?_) (by rw [List.getElem?_toArray]; rfl) (by kernel_rfl) (by kernel_rfl) (by kernel_rfl) (by exact fun _ _ _ h => h) (Or.inl ⟨by rfl, ?_⟩) h5 ?_
    rotate_left
    · intro W hW
      go_simp
      all_goals with_reducible rfl
    try simp only [Act.put, List.setIfInBounds_toArray, List.set_cons_zero, List.set_cons_succ]
    refine wpAnyH_take (i := 6) (v := ?_) (by rw [List.getElem?_toArray]; rfl) (by kernel_rfl) (by kernel_rfl) (by kernel_rfl) (by exact fun _ _ _ h => h) (Or.inl ⟨by rfl, ?_⟩) h5 ?_
    rotate_left
    · intro W hW
      go_simp
      all_goals with_reducible rfl
    try simp only [Act.put, List.setIfInBounds_toArray, List.set_cons_zero, List.set_cons_succ]
    refine wpAnyH_done (by kernel_rfl) ?_ _
    clear h0 h3 h4 h5
    go_wp2_with fail
    go_ret2
    exact ⟨q5, k5, by rw [E.out.1, E.out.2.1, HIB.out]; rfl, by rw [E.out.1, HIB.out]; exact S5.out.rd, S5.out.below⟩
  | true =>
    rw [hd] at c0
    have HI : Hid (IB = (be8 1 ++ x.mint.bytes) ++ mgB x.m) := by
      show _ = _
      rw [← HIB.out]; exact if_pos hd
    have HXM := Lib.hid (show mgB x.m = mgB x.m from rfl)
    clear hd KD
    go_wp2_with fail
    refine (NewWriter_any w1).mono ?_
    rintro e w2 ⟨rfl, rfl⟩
    have b2 : Below w1.heap.size w1 (w1.alloc (.cells #[.bool true, .slice none 0 0] 137)) := (Below.refl _ _).alloc (Nat.le_refl _) _
    have b3 : Below (w1.alloc (.cells #[.bool true, .slice none 0 0] 137)).heap.size (w1.alloc (.cells #[.bool true, .slice none 0 0] 137)) ((w1.alloc (.cells #[.bool true, .slice none 0 0] 137)).alloc (.cells #[.int .u64 1] 22)) := (Below.refl _ _).alloc (Nat.le_refl _) _
    have hz1' : (w1.alloc (.cells #[.bool true, .slice none 0 0] 137)).heap.size = w1.heap.size + 1 := by simp
    have b23 := b2.trans (b3.mono b2.size)
    have K3 := Lib.hid (K1.out.on b23)
    have HW := Lib.hid ((WrV.new w1).on b3)
    have HR : Hid (RdN ((w1.alloc (.cells #[.bool true, .slice none 0 0] 137)).alloc (.cells #[.int .u64 1] 22)) (.slice (some ⟨w1.heap.size + 1, 0, none⟩) 1 1) [1] (w1.heap.size :: (Value.slice none 0 0).ownBlock.toList)) := by
      refine ⟨_, 1, rfl, .inr ⟨w1.heap.size + 1, 0, rfl, by simp [Value.ownBlock], fun i hi => ?_⟩⟩
      have h3 := heap_alloc_new (w1.alloc (.cells #[.bool true, .slice none 0 0] 137)) (.cells #[.int .u64 1] 22)
      rw [hz1'] at h3
      obtain rfl : i = 0 := by simpa using hi
      exact (Joins.cell_of_block h3 0).trans rfl
    have B3 := Lib.hid (B1.out.trans (b23.mono B1.out.size))
    clear b2 b3 b23 K1 hz1' B1 c0
    go_wp2_with fail
    refine (WUint_fits HW.out HR.out (by simp)).mono ?_
    rintro e w4 ⟨rfl, hS⟩
    obtain ⟨q4, k4, hW4, hC4, hF4⟩ := hS.own
    obtain ⟨XS, hXS⟩ : ∃ XS, ([] ++ nums [(1 : Int)]) = XS := ⟨_, rfl⟩
    rw [hXS] at hW4 hF4
    have lXS : Hid (XS.length = 8) := by show _ = _; rw [← hXS]; simp [nums]
    have HXS : Hid (XS = be8 1) := by show _ = _; rw [← hXS]; simp [nums]
    have HW4 := Lib.hid hW4
    have B4 := Lib.hid (B3.out.trans (hC4.toBelow B3.out.size (fun g hg => by simp [Value.ownBlock] at hg; have := hs1.out; omega)))
    have K4 := Lib.hid (K3.out.chg hC4 (by have := hs1.out; simp [Value.ownBlock]; omega))
    have F4 : Hid (∀ g, (Value.slice q4 XS.length k4).ownBlock = some g → w1.heap.size ≤ g) := fun g hg => by
      rcases hF4 with e | e
      · rw [e] at hg; simp [Value.ownBlock] at hg
      · have := e g hg; simp at this; omega
    clear hC4 hF4 hW4 hS hXS HR HW B3 K3
    obtain ⟨-, c1, c2, c3, c4⟩ := K4.out.cells
    have hsl := Tryd.run_slice_wide w4 x.mint.a x.mint.b x.mint.c x.mint.d
    have b5 : Below w4.heap.size w4 (w4.alloc (.cells #[.int .u64 x.mint.a, .int .u64 x.mint.b, .int .u64 x.mint.c, .int .u64 x.mint.d] 24)) := (Below.refl _ _).alloc (Nat.le_refl _) _
    have hpw4 := HW4.out.lt
    have HW5 := Lib.hid (HW4.out.on b5)
    have K5 := Lib.hid (K4.out.on b5)
    have B5 := Lib.hid (B4.out.trans (b5.mono B4.out.size))
    have HR5 : Hid (RdW (w4.alloc (.cells #[.int .u64 x.mint.a, .int .u64 x.mint.b, .int .u64 x.mint.c, .int .u64 x.mint.d] 24)) (.slice (some ⟨w4.heap.size, 0, none⟩) 1 1) [x.mint] (w1.heap.size :: (Value.slice q4 XS.length k4).ownBlock.toList)) := by
      refine ⟨_, 1, rfl, .inr ⟨w4.heap.size, 0, rfl, fun hm => ?_, fun i hi => ?_⟩⟩
      · rcases List.mem_cons.1 hm with e | hm
        · omega
        · have := own_lt HW4.out.own (by simpa using hm); omega
      · obtain rfl : i = 0 := by simpa using hi
        have h3 := heap_alloc_new w4 (.cells #[.int .u64 x.mint.a, .int .u64 x.mint.b, .int .u64 x.mint.c, .int .u64 x.mint.d] 24)
        exact ⟨OK.out.mint, (Joins.cell_of_block h3 0).trans rfl, (Joins.cell_of_block h3 1).trans rfl, (Joins.cell_of_block h3 2).trans rfl, (Joins.cell_of_block h3 3).trans rfl⟩
    clear b5 B4 K4 HW4
    go_wp2_with fail
    clear c1 c2 c3 c4 hsl
    have l8 := lXS.out
    refine (WWide_fits HW5.out HR5.out (by rw [l8]; simp)).mono ?_
    rintro e w6 ⟨rfl, hS⟩
    obtain ⟨q6, k6, hW6, hC6, hF6⟩ := hS.own
    obtain ⟨XT, hXT⟩ : ∃ XT, XS ++ wides [x.mint] = XT := ⟨_, rfl⟩
    rw [hXT] at hW6 hF6
    have lXT : Hid (XT.length = 40) := by show _ = _; rw [← hXT]; simp [wides, W4.len, l8]
    have HXT : Hid (XT = be8 1 ++ x.mint.bytes) := by show _ = _; rw [← hXT, HXS.out]; simp [wides]
    have HW6 := Lib.hid hW6
    have hs5 : (w4.alloc (.cells #[.int .u64 x.mint.a, .int .u64 x.mint.b, .int .u64 x.mint.c, .int .u64 x.mint.d] 24)).heap.size = w4.heap.size + 1 := by simp
    have NK : ∀ g, g ∈ w1.heap.size :: (Value.slice q4 XS.length k4).ownBlock.toList → w1.heap.size ≤ g := fun g hg => by
      rcases List.mem_cons.1 hg with e | hg
      · omega
      · exact F4.out g (by simpa using hg)
    have B6 := Lib.hid (B5.out.trans (hC6.toBelow B5.out.size (fun g hg => by have := NK g hg; have := hs1.out; omega)))
    have K6 := Lib.hid (K5.out.chg hC6 (fun hm => by have := NK _ hm; have := hs1.out; omega))
    clear hC6 hF6 hW6 hS hXT HR5 HW5 B5 K5 NK hs5 l8 HXS F4 lXS
    go_wp2_with fail
    have HW9 : Hid (WrV w6.drew w1.heap.size (.slice q6 XT.length k6) XT) := Lib.hid (HW6.out.on ((Below.refl _ _).drew))
    have B9 : Hid (Below w.heap.size w w6.drew) := Lib.hid B6.out.drew
    have K9 : InAt w6.drew w.heap.size 74 x qm x.m.data.length km qt x.t.data.length kt := K6.out.on (Below.refl _ _).drew
    clear K6 HW6 B6
    refine wp_region_held_drew (S := fun W => InAt W w.heap.size 74 x qm x.m.data.length km qt x.t.data.length kt) (by kernel_rfl) (K9) (fun h0 => ?_)
    generalize w6.drew = w9 at *
    refine wpAnyH_take (i := 0) (v := ?_) (by rw [List.getElem?_toArray]; rfl) (by kernel_rfl) (by kernel_rfl) (by kernel_rfl) (by exact fun _ _ _ h => h) (Or.inl ⟨by rfl, ?_⟩) h0 ?_
    rotate_left
    · intro W hW
      go_simp
      all_goals with_reducible rfl
    try simp only [Act.put, List.setIfInBounds_toArray, List.set_cons_zero, List.set_cons_succ]
    refine wpAnyH_take (i := 2) (v := ?_) (by rw [List.getElem?_toArray]; rfl) (by kernel_rfl) (by kernel_rfl) (by kernel_rfl) (by exact fun _ _ _ h => h) (Or.inl ⟨by rfl, ?_⟩) h0 ?_
    rotate_left
    · intro W hW
      obtain ⟨c0, c1, c2, c3, c4⟩ := hW.cells
      have rm := hW.rowm
      have rt := hW.rowt
      go_simp
      all_goals with_reducible rfl
    try simp only [Act.put, List.setIfInBounds_toArray, List.set_cons_zero, List.set_cons_succ]
    refine wpAnyH_take (i := 3) (v := ?_) (by rw [List.getElem?_toArray]; rfl) (by kernel_rfl) (by kernel_rfl) (by kernel_rfl) (by exact fun _ _ _ h => h) (Or.inl ⟨by rfl, ?_⟩) h0 ?_
    rotate_left
    · intro W hW
      obtain ⟨c0, c1, c2, c3, c4⟩ := hW.cells
      have rm := hW.rowm
      have rt := hW.rowt
      go_simp
      all_goals with_reducible rfl
    try simp only [Act.put, List.setIfInBounds_toArray, List.set_cons_zero, List.set_cons_succ]
    refine wpAnyH_ready (rs := [1]) (by kernel_rfl) (by simp) ?_
    refine AllReadyH.cons (by rw [List.getElem?_toArray]; rfl) (fun K hK => ?_) AllReadyH.nil
    rw [if_pos (by rfl)]
    go_wp2_with fail
    refine (WBytes_any HW9.out (by have := lXT.out; omega)).mono ?_
    rintro e w10 ⟨u, rfl, hN⟩
    obtain ⟨⟨q10, k10, rfl⟩, ho10, hb10, hf10⟩ := hN
    have K10 := h0.on hb10
    have S10 := Lib.hid ((show BuS w9 w10 (.slice q10 XT.length k10) XT from ⟨ho10, hf10, hb10⟩).base B9.out)
    clear ho10 hb10 hf10
    go_wp2_with fail
    refine hK.out _ _ (K10) (fun h10 => ?_)
    clear hK K
    try simp only [Act.put, List.setIfInBounds_toArray, List.set_cons_zero, List.set_cons_succ]
    clear K10
    refine wpAnyH_ready (rs := [4]) (by kernel_rfl) (by simp) ?_
    refine AllReadyH.cons (by rw [List.getElem?_toArray]; rfl) (fun K hK => ?_) AllReadyH.nil
    rw [if_pos (by rfl)]
    go_wp2_with fail
    refine (messageBytes_any OK.out.m (HM.out _ S10.out.below) hm).mono ?_
    rintro e w11 ⟨u11, rfl, hs⟩
    obtain ⟨a11, o11, rfl⟩ := hs.len
    have K11 := h10.on hs.below
    have S11 := Lib.hid (S10.out.on hs.below)
    have R11 := Lib.hid hs.rd
    have LT : (mgB x.m).length ≤ 136 := by rw [mgB_len]; have := E.out.2.2.1; omega
    obtain ⟨TB, hTB⟩ : ∃ TB, mgB x.m = TB := ⟨_, rfl⟩
    rw [hTB] at R11 LT HI ⊢
    clear hs S10 hTB
    go_wp2_with fail
    refine hK.out _ _ (K11) (fun h11 => ?_)
    clear hK K
    try simp only [Act.put, List.setIfInBounds_toArray, List.set_cons_zero, List.set_cons_succ]
    clear K11
    refine wpAnyH_ready (rs := [5]) (by kernel_rfl) (by simp) ?_
    refine AllReadyH.cons (by rw [List.getElem?_toArray]; rfl) (fun K hK => ?_) AllReadyH.nil
    rw [if_pos (by rfl)]
    refine wp_append_row _ _ rfl Tryd.underlying25 hi.out hz0.out hz1.out hz2.out rfl S11.out.own (R11.out.src (P := Tryd.prog) Tryd.underlying25) (by have := lXT.out; unfold maxLen; omega) (by have := lXT.out; omega) ?_
    intro q12 k12 w12 own12 grow12 fr12
    have gr : w11.grownBy w12 (Value.slice q10 XT.length k10).ownBlock := grow12
    have M12 := h11.chg (Chg.grown (S := (Value.slice q10 XT.length k10).ownBlock.toList) gr (fun g hg => by simp [hg])) (fun hm => own_ne S11.out.own h11 (by decide) (by simpa using hm))
    have S12 : Hid (BuS w w12 (.slice q12 IB.length k12) IB) := by
      have e : IB.length = XT.length + TB.length := by rw [HI.out, List.length_append, HXT.out]
      have := S11.out.app rfl rfl own12 grow12 fr12
      rw [e, HI.out, ← HXT.out]
      exact this
    have e12 : Hid (IB.length = XT.length + TB.length) := by show _ = _; rw [HI.out, List.length_append, HXT.out]
    rw [← e12.out]
    clear own12 grow12 fr12 S11 R11 gr
    refine hK.out _ _ (M12) (fun h12 => ?_)
    clear hK K
    try simp only [Act.put, List.setIfInBounds_toArray, List.set_cons_zero, List.set_cons_succ]
    clear M12
    refine wpAnyH_take (i := 6) (v := ?_) (by rw [List.getElem?_toArray]; rfl) (by kernel_rfl) (by kernel_rfl) (by kernel_rfl) (by exact fun _ _ _ h => h) (Or.inl ⟨by rfl, ?_⟩) h12 ?_
    rotate_left
    · intro W hW
      go_simp
      all_goals with_reducible rfl
    try simp only [Act.put, List.setIfInBounds_toArray, List.set_cons_zero, List.set_cons_succ]
    refine wpAnyH_take (i := 7) (v := ?_) (by rw [List.getElem?_toArray]; rfl) (by kernel_rfl) (by kernel_rfl) (by kernel_rfl) (by exact fun _ _ _ h => h) (Or.inl ⟨by rfl, ?_⟩) h12 ?_
    rotate_left
    · intro W hW
      go_simp
      all_goals with_reducible rfl
    try simp only [Act.put, List.setIfInBounds_toArray, List.set_cons_zero, List.set_cons_succ]
    refine wpAnyH_done (by kernel_rfl) ?_ _
    clear h0 h10 h11 h12
    go_wp2_with fail
    go_ret2
    exact ⟨q12, k12, by rw [E.out.1, E.out.2.1, HIB.out]; rfl, by rw [E.out.1, HIB.out]; exact S12.out.rd, S12.out.below⟩
end Go.Proofs.YtcpoaalhpjipaaaDoor
namespace Go.Proofs.YtcpoaalhpjipaaaDoor
set_option maxRecDepth 100000
open Go.RowKit

theorem q_back {xs X : List Int} {p : Nat} {m : Mg} (h : xs.drop p = mgB m ++ X) (ok : m.ok) (hl : m.data.length ≤ 65536) : q6 xs p false = false ∧ qM xs p false = m ∧ qE xs p false = p + (mgB m).length := by
  have h0 : xs.drop p = be8 m.no ++ (be8 m.se ++ (be8 m.ta ++ (m.val.bytes ++ (be8 m.gas ++ (be8 m.data.length ++ (m.data ++ X)))))) := by rw [h]; simp [mgB, mgH]
  obtain ⟨a1, b1, c1⟩ := nAt_back h0 ok.no.1 ok.no.2
  obtain ⟨a2, b2, c2⟩ := nAt_back c1 ok.se.1 ok.se.2
  obtain ⟨a3, b3, c3⟩ := nAt_back c2 ok.ta.1 ok.ta.2
  obtain ⟨a4, b4, c4⟩ := w4_back c3 ok.val
  obtain ⟨a5, b5, c5⟩ := nAt_back c4 ok.gas.1 ok.gas.2
  obtain ⟨a6, b6, c6⟩ := blob_back c5 hl
  have e1 : q1 xs p false = false := fU_ok a1
  have e2 : q2 xs p false = false := by unfold q2; rw [e1]; exact fU_ok a2
  have e3 : q3 xs p false = false := by unfold q3; rw [e2]; exact fU_ok a3
  have e4 : q4 xs p false = false := by unfold q4; rw [e3]; exact fU_ok a4
  have e5 : q5 xs p false = false := by unfold q5; rw [e4]; exact fU_ok a5
  have e6 : q6 xs p false = false := by unfold q6; rw [e5]; exact a6
  have em : qM xs p false = m := by
    unfold qM
    rw [e1, e2, e3, e4, e5, e6, uV_false, uV_false, uV_false, uV_false, wV_false, b1, b2, b3, b4, b5, b6]
  refine ⟨e6, em, ?_⟩
  unfold qE
  rw [em, mgB_len]
  omega
theorem q_fwd {xs : List Int} (hx : Bytes xs) {p : Nat} {f : Bool} (h : q6 xs p f = false) : f = false ∧ xs.drop p = mgB (qM xs p f) ++ xs.drop (qE xs p f) ∧ qE xs p f ≤ xs.length := by
  obtain ⟨h5, b6, lb⟩ := blob_fwd hx (show fB (q5 xs p f) xs _ = false from h)
  obtain ⟨h4, l5⟩ := fU_fwd (show fU (q4 xs p f) xs _ 8 = false from h5)
  obtain ⟨h3, l4⟩ := fU_fwd (show fU (q3 xs p f) xs _ 32 = false from h4)
  obtain ⟨h2, l3⟩ := fU_fwd (show fU (q2 xs p f) xs _ 8 = false from h3)
  obtain ⟨h1, l2⟩ := fU_fwd (show fU (q1 xs p f) xs _ 8 = false from h2)
  obtain ⟨h0, l1⟩ := fU_fwd (show fU f xs p 8 = false from h1)
  have a1 := nAt_fwd hx l1
  have a2 := nAt_fwd hx l2
  have a3 := nAt_fwd hx l3
  have a4 := w4_fwd hx l4
  have a5 := nAt_fwd hx l5
  have em : qM xs p f = ⟨nAt xs p, nAt xs (p + 8), nAt xs (p + 8 + 8), w4 xs (p + 8 + 8 + 8), nAt xs (p + 8 + 8 + 8 + 32), bD false xs (p + 8 + 8 + 8 + 32 + 8)⟩ := by
    unfold qM
    rw [h1, h2, h3, h4, h5, h, uV_false, uV_false, uV_false, uV_false, wV_false]
  have ee : qE xs p f = p + 8 + 8 + 8 + 32 + 8 + 8 + (bD false xs (p + 8 + 8 + 8 + 32 + 8)).length := by unfold qE; rw [em]
  refine ⟨h0, ?_, by rw [ee]; exact lb⟩
  rw [ee, em]
  unfold mgB mgH
  simp only [List.append_assoc]
  rw [← b6, ← a5, ← a4, ← a3, ← a2, ← a1]

theorem zW_eq {y : W4} (h : zW y = true) : y = ⟨0, 0, 0, 0⟩ := by
  obtain ⟨a, b, c, d⟩ := y
  simp [zW] at h
  obtain ⟨rfl, rfl, rfl, rfl⟩ := h
  rfl
theorem zT_eq {t : Tg} (h : zT t t.data.length = true) : t = tg0 := by
  obtain ⟨a, b, c, d, e, f, D⟩ := t
  simp only [zT, Bool.and_eq_true, beq_iff_eq] at h
  obtain ⟨⟨⟨⟨⟨⟨h1, h2⟩, h3⟩, h4⟩, h5⟩, h6⟩, h7⟩ := h
  have h8 := zW_eq h5
  have h9 : D = [] := List.eq_nil_of_length_eq_zero (by omega)
  subst h1 h2 h3 h4 h6 h8 h9
  rfl
theorem zM_eq {m : Mg} (h : zM m m.data.length = true) : m = mg0 := by
  obtain ⟨a, b, c, e, f, D⟩ := m
  simp only [zM, Bool.and_eq_true, beq_iff_eq] at h
  obtain ⟨⟨⟨⟨⟨h1, h2⟩, h3⟩, h5⟩, h6⟩, h7⟩ := h
  have h8 := zW_eq h5
  have h9 : D = [] := List.eq_nil_of_length_eq_zero (by omega)
  subst h1 h2 h3 h6 h8 h9
  rfl
theorem inB_bytes {x : Inp} (ok : x.ok) : Bytes (inB x) := by
  unfold inB
  split
  · exact bytes_app9 (bytes_app9 (be8_bytes _) (w4_bytes9 _)) (mgB_bytes ok.m)
  · exact bytes_app9 (be8_bytes _) (txB_bytes9 ok.t)
theorem inB_len {x : Inp} (h : okI x = true) : (inB x).length ≤ 1000 := by
  obtain ⟨h1, h2⟩ := okI_len h
  unfold inB
  split
  · rw [List.length_append, List.length_append, be8_len, W4.len, mgB_len]; omega
  · rw [List.length_append, be8_len, txB_len]; omega
theorem i_back {x : Inp} (ok : x.ok) (h : okI x = true) : iOk (inB x) = true ∧ iM (inB x) = x := by
  have h' := h
  have hl := okI_len h
  obtain ⟨d, y, m, t⟩ := x
  cases d with
  | true =>
    unfold okI at h'
    simp only [if_true, Bool.and_eq_true] at h'
    have ht := zT_eq h'.2
    dsimp only at ht hl
    subst ht
    have hb : inB ⟨true, y, m, tg0⟩ = (be8 1 ++ y.bytes) ++ mgB m := rfl
    have h0 : (inB ⟨true, y, m, tg0⟩).drop 0 = be8 1 ++ (y.bytes ++ (mgB m ++ [])) := by rw [hb]; simp
    have hlen : (inB ⟨true, y, m, tg0⟩).length = 0 + 8 + 32 + (mgB m).length := by rw [hb, List.length_append, List.length_append, be8_len, W4.len]
    generalize inB ⟨true, y, m, tg0⟩ = xs at *
    obtain ⟨a1, b1, c1⟩ := nAt_back h0 (by decide) (by decide)
    obtain ⟨a2, b2, c2⟩ := w4_back c1 ok.mint
    obtain ⟨e6, em, ee⟩ := q_back c2 ok.m (by omega)
    have f1 : i1 xs = false := by
      simp only [i1, fC, b1, Bool.false_or, Bool.or_eq_false_iff, decide_eq_false_iff_not]
      exact ⟨by omega, by omega⟩
    have f2 : i2 xs = false := by unfold i2; rw [f1]; exact fU_ok a2
    have fd : iD xs = true := by unfold iD; rw [f1, uV_false, b1]; rfl
    have hM : iM xs = ⟨true, y, m, tg0⟩ := by
      unfold iM
      rw [if_pos fd, f2, wV_false, b2, em]
    have hF : iF xs = false := by unfold iF; rw [if_pos fd, f2]; exact e6
    have hN : iN xs = xs.length := by unfold iN; rw [if_pos fd, f2, ee, hlen]
    refine ⟨?_, hM⟩
    unfold iOk rIok
    rw [hF, hN, hM]
    simpa using h
  | false =>
    unfold okI at h'
    simp only [Bool.false_eq_true, if_false, Bool.and_eq_true] at h'
    have hy := zW_eq h'.1.1
    have hm := zM_eq h'.1.2
    have hk := okT_kd3 h'.2
    dsimp only at hy hm hl hk
    subst hy hm
    have hb : inB ⟨false, ⟨0, 0, 0, 0⟩, mg0, t⟩ = be8 0 ++ txB t := rfl
    have h0 : (inB ⟨false, ⟨0, 0, 0, 0⟩, mg0, t⟩).drop 0 = be8 0 ++ (txB t ++ []) := by rw [hb]; simp
    have hlen : (inB ⟨false, ⟨0, 0, 0, 0⟩, mg0, t⟩).length = 0 + 8 + (txB t).length := by rw [hb, List.length_append, be8_len]
    generalize inB ⟨false, ⟨0, 0, 0, 0⟩, mg0, t⟩ = xs at *
    obtain ⟨a1, b1, c1⟩ := nAt_back h0 (by decide) (by decide)
    obtain ⟨e7, em, _, ee⟩ := t_back c1 ok.t hk (by omega)
    have f1 : i1 xs = false := by
      simp only [i1, fC, b1, Bool.false_or, Bool.or_eq_false_iff, decide_eq_false_iff_not]
      exact ⟨by omega, by omega⟩
    have fd : ¬ iD xs = true := by unfold iD; rw [f1, uV_false, b1]; decide
    have hM : iM xs = ⟨false, ⟨0, 0, 0, 0⟩, mg0, t⟩ := by
      unfold iM
      rw [if_neg fd, f1, em]
    have hF : iF xs = false := by unfold iF; rw [if_neg fd, f1]; exact e7
    have hN : iN xs = xs.length := by unfold iN; rw [if_neg fd, f1, ee, hlen]
    refine ⟨?_, hM⟩
    unfold iOk rIok
    rw [hF, hN, hM]
    simpa using h
theorem i_fwd {xs : List Int} (hx : Bytes xs) (h : iOk xs = true) : inB (iM xs) = xs ∧ okI (iM xs) = true := by
  have h' := h
  simp only [iOk, rIok, Bool.and_eq_true, Bool.not_eq_true', decide_eq_true_eq] at h'
  obtain ⟨⟨hF, hN⟩, hO⟩ := h'
  refine ⟨?_, hO⟩
  cases fd : iD xs with
  | true =>
    have eM : iM xs = ⟨true, wV (i2 xs) xs (0 + 8), qM xs (0 + 8 + 32) (i2 xs), tg0⟩ := if_pos fd
    unfold iF at hF
    unfold iN at hN
    rw [if_pos fd] at hF hN
    obtain ⟨f2, hd, _⟩ := q_fwd hx hF
    obtain ⟨f1, l2⟩ := fU_fwd (show fU (i1 xs) xs (0 + 8) 32 = false from f2)
    obtain ⟨_, l1⟩ := fC_fwd (show fC false xs 0 1 = false from f1)
    have a1 := nAt_fwd hx l1
    have a2 := w4_fwd hx l2
    have en : nAt xs 0 = 1 := by
      unfold iD at fd
      rw [f1, uV_false] at fd
      simpa using fd
    rw [hN, List.drop_length, List.append_nil] at hd
    rw [eM]
    show (be8 1 ++ (wV (i2 xs) xs (0 + 8)).bytes) ++ mgB (qM xs (0 + 8 + 32) (i2 xs)) = xs
    rw [← hd, f2, wV_false, List.append_assoc, ← a2, ← en, ← a1, List.drop_zero]
  | false =>
    have hn : ¬ iD xs = true := by rw [fd]; simp
    have eM : iM xs = ⟨false, ⟨0, 0, 0, 0⟩, mg0, tM xs (0 + 8) (i1 xs)⟩ := if_neg hn
    unfold iF at hF
    unfold iN at hN
    rw [if_neg hn] at hF hN
    obtain ⟨f1, hd, _⟩ := t_fwd hx hF
    have f1' : fC false xs 0 1 = false := f1
    obtain ⟨_, l1⟩ := fC_fwd f1'
    have a1 := nAt_fwd hx l1
    have en : nAt xs 0 = 0 := by
      have hb := nAt_bd hx 0
      have h1 : ¬ (1 : Int) < nAt xs 0 := fun h3 => by simp [fC, h3] at f1'
      have h2 : ¬ nAt xs 0 = 1 := fun h3 => by
        unfold iD at fd
        rw [f1, uV_false, h3] at fd
        simp at fd
      omega
    rw [hN, List.drop_length, List.append_nil] at hd
    rw [eM]
    show be8 0 ++ txB (tM xs (0 + 8) (i1 xs)) = xs
    rw [← hd, ← en, ← a1, List.drop_zero]
end Go.Proofs.YtcpoaalhpjipaaaDoor
