/-
  A message's bytes, of the document.; A message's name, of the program and of the document; its bytes, where it may be.; What the program reads of bytes as a message.; What the program's GetMessage answers.; What the document's GetMessage answers.; basculelaw09.knows answers true.
-/
import Derived.Laws.EntriesVeiled
import Derived.Test.YtonjkhhihiigfaaDv4
import Derived.Test.YtonjkhhihiigfaaDv5
import Derived.Test.YtonjkhhihiigfaaDv8
namespace Go.Proofs.Ytonjkhhihiigfaa
set_option maxRecDepth 100000
open Go.RowKit

/-- An append to bytes of one's own. -/
theorem BuS.app {w W W2 : World} {u : Value} {xs ys : List Int} {n m : Nat} {q : Option Addr} {k : Nat} (h : BuS w W u xs) (hn : xs.length = n) (hm : ys.length = m) (own : W2.ownsRow 0 5 1 (.slice q (n + m) k) (n + m) (bc xs ++ bc ys)) (grow : W.grownBy W2 u.ownBlock) (fr : (Value.slice q (n + m) k).ownBlock = u.ownBlock ∨ (Value.slice q (n + m) k).ownBlock = some W.heap.size) : BuS w W2 (.slice q (n + m) k) (xs ++ ys) := by
  subst hn
  exact h.grow hm own grow fr
theorem BuS.len {w W : World} {u : Value} {xs : List Int} (h : BuS w W u xs) : ∃ q k, u = .slice q xs.length k := by
  obtain ⟨q, k, e⟩ := own_slice h.own
  exact ⟨q, k, e⟩
theorem BuS.base {w w1 W : World} {u : Value} {xs : List Int} (h : BuS w1 W u xs) (hb : Below w.heap.size w w1) : BuS w W u xs :=
  ⟨h.own, fun g hg => Nat.le_trans hb.size (h.fresh g hg), hb.trans (h.below.mono hb.size)⟩
theorem MgAt.grown {W W2 : World} {b : Nat} {m : Mg} {q : Option Addr} {n k : Nat} {u : Value} {l : Nat} {xs : List Value} (h : MgAt W b 62 m q n k) (ho : W.ownsRow 0 5 1 u l xs) (grow : W.grownBy W2 u.ownBlock) : MgAt W2 b 62 m q n k := by
  have h' := h
  unfold MgAt at h ⊢
  rw [grow.block _ (Array.getElem?_eq_some_iff.1 h).1 (fun e => own_ne ho h (by decide) e.symm)]
  exact h

end Go.Proofs.Ytonjkhhihiigfaa
namespace Go.Proofs.Ytonjkhhihiigfaa
set_option maxRecDepth 100000
open Go.RowKit

def downS : ByteArray := ⟨#[100, 111, 119, 110]⟩
def upS : ByteArray := ⟨#[117, 112]⟩
theorem down_sn : sn downS = [100, 111, 119, 110] := by rfl
theorem up_sn : sn upS = [117, 112] := by rfl
theorem mgB_bytes {m : Mg} (ok : m.ok) : Bytes (mgB m) := fun x hx => by
  simp only [mgB, mgH, List.mem_append] at hx
  rcases hx with (h | h | h | h | h | h) | h
  · exact be8_bytes _ x h
  · exact be8_bytes _ x h
  · exact be8_bytes _ x h
  · obtain ⟨i, -, rfl⟩ := List.mem_map.1 h
    have := by_lo (V m.val.a m.val.b m.val.c m.val.d) (32 - 1 - i)
    omega
  · exact be8_bytes _ x h
  · exact be8_bytes _ x h
  · exact ok.data x h
/-- A message's name. -/
def mgN (dn : Bool) (m : Mg) : List Int := sha (frm (sn (if dn then downS else upS)) [mgB m])
theorem one_rdl {w : World} {T : TypeId} {u : Value} {xs : List Int} (h : Rd w u xs) : RdL (w.alloc (.cells #[u] T)) (.slice (some ⟨w.heap.size, 0, none⟩) 1 1) [xs] [] := by
  refine ⟨_, 1, rfl, .inr ⟨w.heap.size, 0, rfl, by simp, fun i hi => ?_⟩⟩
  obtain rfl : i = 0 := by simpa using hi
  exact ⟨u, (Joins.cell_of_block (heap_alloc_new w (.cells #[u] T)) 0).trans rfl, h.alloc _, fun _ k _ hm => by cases hm⟩
theorem frm_one {t : List Int} (xs : List Int) : (frm t [xs]).length = 1 + t.length + (8 + xs.length) := by rw [frm_len]; simp [blobs, be8_len]



/-- May a message be? Its bytes, where it may; what Put tells. -/
def okM (m : Mg) : Bool := decide (m.gas ≤ 65536 ∧ m.data.length ≤ 64)
def pMB (m : Mg) : List Int := if okM m = true then mgB m else []
def pME (m : Mg) : Int := if okM m = true then 0 else 1


end Go.Proofs.Ytonjkhhihiigfaa
namespace Go.Proofs.Ytonjkhhihiigfaa
set_option maxRecDepth 100000
open Go.RowKit

/-- What bytes tell as a message, and whether they tell one. -/
def g1 (xs : List Int) : Bool := fU false xs 0 8
def g2 (xs : List Int) : Bool := fU (g1 xs) xs 8 8
def g3 (xs : List Int) : Bool := fU (g2 xs) xs 16 8
def g4 (xs : List Int) : Bool := fU (g3 xs) xs 24 32
def g5 (xs : List Int) : Bool := fU (g4 xs) xs 56 8
def g6 (xs : List Int) : Bool := fB (g5 xs) xs 64
def mM (xs : List Int) : Mg := ⟨uV (g1 xs) xs 0, uV (g2 xs) xs 8, uV (g3 xs) xs 16, wV (g4 xs) xs 24, uV (g5 xs) xs 56, bD (g6 xs) xs 64⟩
theorem wV_ok {xs : List Int} (hx : Bytes xs) (f : Bool) (pos : Nat) : D4 (wV f xs pos).a (wV f xs pos).b (wV f xs pos).c (wV f xs pos).d := by
  unfold wV
  split
  · exact ⟨dg0, dg0, dg0, dg0⟩
  · exact w4_ok hx pos
theorem mM_ok {xs : List Int} (hx : Bytes xs) : (mM xs).ok := ⟨uV_bd hx _ _, uV_bd hx _ _, uV_bd hx _ _, wV_ok hx _ _, uV_bd hx _ _, bD_bytes hx _ _⟩
theorem mM_len (xs : List Int) : (mM xs).data.length ≤ 65536 := bD_len (g5 xs) xs 64 (.inr trivial)
/-- Where the reader stands behind a message; whether the bytes tell one. -/
def mEnd (xs : List Int) : Nat := 72 + (mM xs).data.length
def mOk (xs : List Int) : Bool := (!(g6 xs) && decide (mEnd xs = xs.length)) && okM (mM xs)
def mG (xs : List Int) : Mg := if mOk xs = true then mM xs else mg0
def mE (xs : List Int) : Int := if mOk xs = true then 0 else 21
theorem mG_ok {xs : List Int} (hx : Bytes xs) : (mG xs).ok := by
  unfold mG
  split
  · exact mM_ok hx
  · exact mg0_ok
theorem mG_len (xs : List Int) : (mG xs).data.length ≤ 65536 := by
  unfold mG
  split
  · exact mM_len xs
  · simp [mg0]

section
variable {w : World} {b : Nat} {t : TypeId} {a1 a2 a3 a5 : Int} {x4 : W4} {D : List Int} {q : Option Addr} {n k : Nat}
theorem MgAt.st0 (h : MgAt w b t ⟨a1, a2, a3, x4, a5, D⟩ q n k) (z : Int) : MgAt (w.setCell ⟨b, 0, none⟩ (.int .u64 z)) b t ⟨z, a2, a3, x4, a5, D⟩ q n k := by
  unfold MgAt at h ⊢
  rw [Joins.block_setCell (i := 0) h]; rfl
theorem MgAt.st1 (h : MgAt w b t ⟨a1, a2, a3, x4, a5, D⟩ q n k) (z : Int) : MgAt (w.setCell ⟨b, 1, none⟩ (.int .u64 z)) b t ⟨a1, z, a3, x4, a5, D⟩ q n k := by
  unfold MgAt at h ⊢
  rw [Joins.block_setCell (i := 1) h]; rfl
theorem MgAt.st2 (h : MgAt w b t ⟨a1, a2, a3, x4, a5, D⟩ q n k) (z : Int) : MgAt (w.setCell ⟨b, 2, none⟩ (.int .u64 z)) b t ⟨a1, a2, z, x4, a5, D⟩ q n k := by
  unfold MgAt at h ⊢
  rw [Joins.block_setCell (i := 2) h]; rfl
theorem MgAt.st3 (h : MgAt w b t ⟨a1, a2, a3, x4, a5, D⟩ q n k) (y : W4) : MgAt ((((w.setCell ⟨b, 3, none⟩ (.int .u64 y.a)).setCell ⟨b, 4, none⟩ (.int .u64 y.b)).setCell ⟨b, 5, none⟩ (.int .u64 y.c)).setCell ⟨b, 6, none⟩ (.int .u64 y.d)) b t ⟨a1, a2, a3, y, a5, D⟩ q n k := by
  unfold MgAt at h ⊢
  rw [Joins.block_setCell (i := 6) (Joins.block_setCell (i := 5) (Joins.block_setCell (i := 4) (Joins.block_setCell (i := 3) h _) _) _)]; rfl
theorem MgAt.st7 (h : MgAt w b t ⟨a1, a2, a3, x4, a5, D⟩ q n k) (z : Int) : MgAt (w.setCell ⟨b, 7, none⟩ (.int .u64 z)) b t ⟨a1, a2, a3, x4, z, D⟩ q n k := by
  unfold MgAt at h ⊢
  rw [Joins.block_setCell (i := 7) h]; rfl
theorem MgAt.st8 (h : MgAt w b t ⟨a1, a2, a3, x4, a5, D⟩ q n k) (D' : List Int) (q' : Option Addr) (n' k' : Nat) : MgAt (w.setCell ⟨b, 8, none⟩ (.slice q' n' k')) b t ⟨a1, a2, a3, x4, a5, D'⟩ q' n' k' := by
  unfold MgAt at h ⊢
  rw [Joins.block_setCell (i := 8) h]; rfl
end
theorem MgAt.off {w : World} {b : Nat} {t e : TypeId} {m : Mg} {q : Option Addr} {n k l : Nat} {v : Value} {ys : List Value} (h : MgAt w b t m q n k) (ho : w.ownsRow 0 e 1 v l ys) (ht : t ≠ e) : ∀ g, v.ownBlock = some g → g ∉ [b] := fun g hg hm => by
  obtain rfl : g = b := by simpa using hm
  exact own_ne ho h ht hg
theorem Chg.more {w w' : World} {K L : List Nat} (h : Chg w w' K) (hl : ∀ x, x ∈ K → x ∈ L) : Chg w w' L := (Chg.refl w L).trans h (fun x hx _ => hl x hx)

set_option maxHeartbeats 8000000 in
theorem parse_any {w : World} {b p : Nat} {v : Value} {xs : List Int} (hK : MgAt w b 52 mg0 none 0 0) (hS : RSt w p v xs 0 false) (hx : Bytes xs) (hbp : b ≠ p) :
    Calls Try.prog 100 #[.pointer (some ⟨b, 0, none⟩), .pointer (some ⟨p, 0, none⟩)] w fun e w' => ∃ q k, e = .returned (.tuple #[]) ∧ MgAt w' b 52 (mM xs) q (mM xs).data.length k ∧ RSt w' p v xs (mEnd xs) (g6 xs) ∧ Rd w' (.slice q (mM xs).data.length k) (mM xs).data ∧ (∀ g, (Value.slice q (mM xs).data.length k).ownBlock = some g → w.heap.size ≤ g) ∧ Chg w w' [b, p] := by
  have BX := Lib.hid hx
  have K0 := Lib.hid hK
  have S0 := Lib.hid hS
  have MM : Hid (mM xs = ⟨uV (g1 xs) xs 0, uV (g2 xs) xs 8, uV (g3 xs) xs 16, wV (g4 xs) xs 24, uV (g5 xs) xs 56, bD (g6 xs) xs 64⟩) := rfl
  have ME : Hid (mEnd xs = 72 + (mM xs).data.length) := rfl
  obtain ⟨f1, e1⟩ : ∃ f, g1 xs = f := ⟨_, rfl⟩
  obtain ⟨f2, e2⟩ : ∃ f, g2 xs = f := ⟨_, rfl⟩
  obtain ⟨f3, e3⟩ : ∃ f, g3 xs = f := ⟨_, rfl⟩
  obtain ⟨f4, e4⟩ : ∃ f, g4 xs = f := ⟨_, rfl⟩
  obtain ⟨f5, e5⟩ : ∃ f, g5 xs = f := ⟨_, rfl⟩
  obtain ⟨f6, e6⟩ : ∃ f, g6 xs = f := ⟨_, rfl⟩
  rw [e1, e2, e3, e4, e5, e6] at MM
  have d1 := Lib.hid (show fU false xs 0 8 = f1 from e1)
  have d2 := Lib.hid (show fU f1 xs 8 8 = f2 by rw [← e1]; exact e2)
  have d3 := Lib.hid (show fU f2 xs 16 8 = f3 by rw [← e2]; exact e3)
  have d4 := Lib.hid (show fU f3 xs 24 32 = f4 by rw [← e3]; exact e4)
  have d5 := Lib.hid (show fU f4 xs 56 8 = f5 by rw [← e4]; exact e5)
  have d6 := Lib.hid (show fB f5 xs 64 = f6 by rw [← e5]; exact e6)
  have E6 := Lib.hid e6
  obtain ⟨z1, h1⟩ : ∃ z, uV f1 xs 0 = z := ⟨_, rfl⟩
  obtain ⟨z2, h2⟩ : ∃ z, uV f2 xs 8 = z := ⟨_, rfl⟩
  obtain ⟨z3, h3⟩ : ∃ z, uV f3 xs 16 = z := ⟨_, rfl⟩
  obtain ⟨x4, h4⟩ : ∃ z, wV f4 xs 24 = z := ⟨_, rfl⟩
  obtain ⟨z5, h5⟩ : ∃ z, uV f5 xs 56 = z := ⟨_, rfl⟩
  obtain ⟨D6, h6⟩ : ∃ z, bD f6 xs 64 = z := ⟨_, rfl⟩
  rw [h1, h2, h3, h4, h5, h6] at MM
  have Z1 := Lib.hid h1
  have Z2 := Lib.hid h2
  have Z3 := Lib.hid h3
  have X4 := Lib.hid h4
  have Z5 := Lib.hid h5
  have H6 := Lib.hid h6
  clear hK hS hx e1 e2 e3 e4 e5 e6 h1 h2 h3 h4 h5 h6
  go_enter Try.func100, Try.ntmps100
  go_wp2_with fail
  refine (Uint_st S0.out BX.out).mono ?_
  rintro e w1 ⟨rfl, hs1, hc1⟩
  rw [d1.out] at hs1 ⊢
  rw [Z1.out]
  have S1 := Lib.hid hs1
  have K1 := Lib.hid (K0.out.chg hc1 (by simpa using hbp))
  have C1 : Hid (Chg w w1 [b, p]) := (hc1.more (by simp))
  clear hs1 hc1 S0 K0
  go_wp2_with fail
  refine (Uint_st S1.out BX.out).mono ?_
  rintro e w2 ⟨rfl, hs2, hc2⟩
  rw [d2.out] at hs2 ⊢
  rw [Z2.out]
  have S2 := Lib.hid hs2
  have K2 := Lib.hid (K1.out.chg hc2 (by simpa using hbp))
  have C2 : Hid (Chg w w2 [b, p]) := C1.out.trans (hc2.more (by simp)) (fun x hx _ => hx)
  clear hs2 hc2 S1 C1 K1
  go_wp2_with fail
  refine (Uint_st S2.out BX.out).mono ?_
  rintro e w3 ⟨rfl, hs3, hc3⟩
  rw [d3.out] at hs3 ⊢
  rw [Z3.out]
  have S3 := Lib.hid hs3
  have K3 := Lib.hid (K2.out.chg hc3 (by simpa using hbp))
  have C3 : Hid (Chg w w3 [b, p]) := C2.out.trans (hc3.more (by simp)) (fun x hx _ => hx)
  clear hs3 hc3 S2 C2 K2
  obtain ⟨c0, c1, c2, -, -, -, -, -, -⟩ := K3.out.cells
  have y0 := K3.out.frees 0
  have y1 := K3.out.frees 1
  have y2 := K3.out.frees 2
  have cs : Chg w3 (((w3.setCell ⟨b, 0, none⟩ (.int .u64 z1)).setCell ⟨b, 1, none⟩ (.int .u64 z2)).setCell ⟨b, 2, none⟩ (.int .u64 z3)) [b] := ((((Chg.refl _ [b]).setCell (p := ⟨b, 0, none⟩) (.inl (by simp)) _).setCell (p := ⟨b, 1, none⟩) (.inl (by simp)) _).setCell (p := ⟨b, 2, none⟩) (.inl (by simp)) _)
  have K4 := Lib.hid (((K3.out.st0 z1).st1 z2).st2 z3)
  have S4 := Lib.hid (S3.out.chg2 cs (by simpa using Ne.symm hbp) (fun ho => K3.out.off ho (by decide)))
  have C4 : Hid (Chg w (((w3.setCell ⟨b, 0, none⟩ (.int .u64 z1)).setCell ⟨b, 1, none⟩ (.int .u64 z2)).setCell ⟨b, 2, none⟩ (.int .u64 z3)) [b, p]) := C3.out.trans (cs.more (by simp)) (fun x hx _ => hx)
  clear cs S3 C3 K3
  go_wp2_with fail
  clear c0 c1 c2 y0 y1 y2
  generalize (((w3.setCell ⟨b, 0, none⟩ (.int .u64 z1)).setCell ⟨b, 1, none⟩ (.int .u64 z2)).setCell ⟨b, 2, none⟩ (.int .u64 z3)) = w4 at *
  refine (Wide_st S4.out BX.out).mono ?_
  rintro e w5 ⟨rfl, hs5, hc5⟩
  rw [d4.out] at hs5 ⊢
  rw [X4.out]
  unfold w4v
  have S5 := Lib.hid hs5
  have K5 := Lib.hid (K4.out.chg hc5 (by simpa using hbp))
  have C5 : Hid (Chg w w5 [b, p]) := C4.out.trans (hc5.more (by simp)) (fun x hx _ => hx)
  clear hs5 hc5 S4 C4 K4
  obtain ⟨-, -, -, c3, c4, c5, c6, -, -⟩ := K5.out.cells
  have y3 := K5.out.frees 3
  have y4 := K5.out.frees 4
  have y5 := K5.out.frees 5
  have y6 := K5.out.frees 6
  have cs : Chg w5 ((((w5.setCell ⟨b, 3, none⟩ (.int .u64 x4.a)).setCell ⟨b, 4, none⟩ (.int .u64 x4.b)).setCell ⟨b, 5, none⟩ (.int .u64 x4.c)).setCell ⟨b, 6, none⟩ (.int .u64 x4.d)) [b] := (((((Chg.refl _ [b]).setCell (p := ⟨b, 3, none⟩) (.inl (by simp)) _).setCell (p := ⟨b, 4, none⟩) (.inl (by simp)) _).setCell (p := ⟨b, 5, none⟩) (.inl (by simp)) _).setCell (p := ⟨b, 6, none⟩) (.inl (by simp)) _)
  have K6 := Lib.hid (K5.out.st3 x4)
  have S6 := Lib.hid (S5.out.chg2 cs (by simpa using Ne.symm hbp) (fun ho => K5.out.off ho (by decide)))
  have C6 : Hid (Chg w ((((w5.setCell ⟨b, 3, none⟩ (.int .u64 x4.a)).setCell ⟨b, 4, none⟩ (.int .u64 x4.b)).setCell ⟨b, 5, none⟩ (.int .u64 x4.c)).setCell ⟨b, 6, none⟩ (.int .u64 x4.d)) [b, p]) := C5.out.trans (cs.more (by simp)) (fun x hx _ => hx)
  clear cs S5 C5 K5
  go_wp2_with fail
  clear c3 c4 c5 c6 y3 y4 y5 y6
  generalize ((((w5.setCell ⟨b, 3, none⟩ (.int .u64 x4.a)).setCell ⟨b, 4, none⟩ (.int .u64 x4.b)).setCell ⟨b, 5, none⟩ (.int .u64 x4.c)).setCell ⟨b, 6, none⟩ (.int .u64 x4.d)) = w6 at *
  refine (Uint_st S6.out BX.out).mono ?_
  rintro e w7 ⟨rfl, hs7, hc7⟩
  rw [d5.out] at hs7 ⊢
  rw [Z5.out]
  have S7 := Lib.hid hs7
  have K7 := Lib.hid (K6.out.chg hc7 (by simpa using hbp))
  have C7 : Hid (Chg w w7 [b, p]) := C6.out.trans (hc7.more (by simp)) (fun x hx _ => hx)
  clear hs7 hc7 S6 C6 K6
  obtain ⟨-, -, -, -, -, -, -, c7, -⟩ := K7.out.cells
  have y7 := K7.out.frees 7
  have cs : Chg w7 (w7.setCell ⟨b, 7, none⟩ (.int .u64 z5)) [b] := ((Chg.refl _ [b]).setCell (p := ⟨b, 7, none⟩) (.inl (by simp)) _)
  have K8 := Lib.hid (K7.out.st7 z5)
  have S8 := Lib.hid (S7.out.chg2 cs (by simpa using Ne.symm hbp) (fun ho => K7.out.off ho (by decide)))
  have C8 : Hid (Chg w (w7.setCell ⟨b, 7, none⟩ (.int .u64 z5)) [b, p]) := C7.out.trans (cs.more (by simp)) (fun x hx _ => hx)
  clear cs S7 C7 K7
  go_wp2_with fail
  clear c7 y7
  generalize (w7.setCell ⟨b, 7, none⟩ (.int .u64 z5)) = w8 at *
  refine (Blob_st S8.out BX.out).mono ?_
  rintro e w9 ⟨q9, k9, rfl, hr9, hf9, hs9, hc9⟩
  rw [d6.out] at hr9 hf9 hs9 ⊢
  rw [H6.out] at hr9 hf9 hs9 ⊢
  have S9 := Lib.hid hs9
  have K9 := Lib.hid (K8.out.chg hc9 (by simpa using hbp))
  have hb8 := K8.out.lt
  have C9 : Hid (Chg w w9 [b, p]) := C8.out.trans (hc9.more (by simp)) (fun x hx _ => hx)
  have R9 : Hid (Rd (w9.setCell ⟨b, 8, none⟩ (.slice q9 D6.length k9)) (.slice q9 D6.length k9) D6) := hr9.setCell (a := ⟨b, 8, none⟩) (fun e => by have h9 : w8.heap.size ≤ b := hf9 _ e; omega) _
  have F9 : Hid (∀ g, (Value.slice q9 D6.length k9).ownBlock = some g → w.heap.size ≤ g) := fun g hg => Nat.le_trans C8.out.size (hf9 g hg)
  clear hs9 hc9 S8 C8 K8 hr9 hf9
  obtain ⟨-, -, -, -, -, -, -, -, c8⟩ := K9.out.cells
  have y8 := K9.out.frees 8
  have cs : Chg w9 (w9.setCell ⟨b, 8, none⟩ (.slice q9 D6.length k9)) [b] := ((Chg.refl _ [b]).setCell (p := ⟨b, 8, none⟩) (.inl (by simp)) _)
  have K10 := Lib.hid (K9.out.st8 D6 q9 D6.length k9)
  have S10 := Lib.hid (S9.out.chg2 cs (by simpa using Ne.symm hbp) (fun ho => K9.out.off ho (by decide)))
  have C10 : Hid (Chg w (w9.setCell ⟨b, 8, none⟩ (.slice q9 D6.length k9)) [b, p]) := C9.out.trans (cs.more (by simp)) (fun x hx _ => hx)
  clear cs S9 C9
  go_wp2_with fail
  go_end0
  have MD : (mM xs).data = D6 := by rw [MM.out]
  rw [ME.out, MD, E6.out]
  exact ⟨q9, k9, rfl, by rw [MM.out]; exact K10.out, by have := S10.out; rw [show 64 + 8 = 72 from rfl] at this; exact this, R9.out, F9.out, C10.out⟩
end Go.Proofs.Ytonjkhhihiigfaa
namespace Go.Proofs.Ytonjkhhihiigfaa
set_option maxRecDepth 100000
open Go.RowKit

def rOk (xs : List Int) : Bool := !(g6 xs) && decide (mEnd xs = xs.length)
theorem mOk_eq (xs : List Int) : mOk xs = (rOk xs && okM (mM xs)) := rfl
set_option maxHeartbeats 4000000 in
theorem read_any {w : World} {b : Nat} {vb : Value} {xs : List Int} (hr : Rd w vb xs) (hx : Bytes xs) (hl : xs.length ≤ 140737488355328) (hK : MgAt w b 52 mg0 none 0 0) :
    Calls Try.prog 58 #[vb, .iface 151 (.pointer (some ⟨b, 0, none⟩))] w fun e w' => ∃ q k, e = .returned (.bool (rOk xs)) ∧ MgAt w' b 52 (mM xs) q (mM xs).data.length k ∧ Rd w' (.slice q (mM xs).data.length k) (mM xs).data ∧ (∀ g, (Value.slice q (mM xs).data.length k).ownBlock = some g → w.heap.size ≤ g) ∧ Chg w w' [b] := by
  have BX := Lib.hid hx
  have KN := Lib.hid (NewReader_any hr hl)
  have K0 := Lib.hid hK
  have hbl := hK.lt
  have RK : Hid (rOk xs = (!(g6 xs) && decide (mEnd xs = xs.length))) := rfl
  obtain ⟨qv, cv, rfl⟩ := hr.len
  clear hr hx hK
  go_enter Try.func58, Try.ntmps58
  go_wp2_with fail
  refine KN.out.mono ?_
  rintro e w1 ⟨p, v1, rfl, hV, hp, hb1, -⟩
  have S1 := Lib.hid (RSt.mk0 hV)
  have K1 := Lib.hid (K0.out.on hb1)
  have B1 := Lib.hid hb1
  clear hV hb1 KN K0
  go_wp2_with fail
  refine (parse_any K1.out S1.out BX.out (by omega)).mono ?_
  rintro e w2 ⟨q, k, rfl, hK2, hS2, hR2, hF2, hC2⟩
  have K2 := Lib.hid hK2
  have R2 := Lib.hid hR2
  have F2 : Hid (∀ g, (Value.slice q (mM xs).data.length k).ownBlock = some g → w.heap.size ≤ g) := fun g hg => Nat.le_trans B1.out.size (hF2 g hg)
  have C2 : Hid (Chg w w2 [b]) := (Chg.below B1.out (Nat.le_refl _) [b]).trans hC2 (fun x hx hl => by simp at hx ⊢; omega)
  clear hK2 hR2 hF2 hC2 K1 S1 B1
  go_wp2_with fail
  refine (Done_st hS2).mono ?_
  rintro e w3 ⟨z, m, rfl, rfl, hz⟩
  have K3 := Lib.hid (show MgAt (w2.drewN m) b 52 (mM xs) q (mM xs).data.length k from K2.out)
  have R3 := Lib.hid (show Rd (w2.drewN m) (.slice q (mM xs).data.length k) (mM xs).data from R2.out)
  have C3 : Hid (Chg w (w2.drewN m) [b]) := C2.out.trans (show Chg w2 (w2.drewN m) [] from ⟨rfl, rfl, rfl, Nat.le_refl _, fun _ _ _ => rfl⟩) (fun x hx _ => by cases hx)
  have HZ : Hid ((z == 0) = rOk xs) := by
    show _ = _
    rw [RK.out]
    by_cases h : z = 0
    · obtain ⟨h1, h2⟩ := hz.1 h
      rw [h1, h]; simp [h2]
    · have h0 : (z == 0) = false := by simpa using h
      rw [h0]
      cases hg : g6 xs with
      | true => rfl
      | false =>
        have : ¬ mEnd xs = xs.length := fun e => h (hz.2 ⟨hg, e⟩)
        simp [this]
  clear hz hS2 K2 R2 C2
  go_wp2_with fail
  go_ret
  exact ⟨q, k, by first | rw [HZ.out]; rfl | rfl, K3.out, R3.out, F2.out, C3.out⟩

/-- What Get answers. -/
def GmP (xs : List Int) (w : World) (e : Ending) (w' : World) : Prop := ∃ q k, e = .returned (.tuple #[.agg (mgRow (mG xs) q (mG xs).data.length k).toArray, .int .i64 (mE xs)]) ∧ Rd w' (.slice q (mG xs).data.length k) (mG xs).data ∧ Below w.heap.size w w'
theorem GmP.no {xs : List Int} {w W : World} (h : mOk xs = false) (hb : Below w.heap.size w W) : GmP xs w (.returned (.tuple #[.agg (mgRow mg0 none 0 0).toArray, .int .i64 21])) W := by
  have e1 : mG xs = mg0 := by unfold mG; rw [if_neg (by rw [h]; simp)]
  have e2 : mE xs = 21 := by unfold mE; rw [if_neg (by rw [h]; simp)]
  exact ⟨none, 0, by rw [e1, e2]; rfl, by rw [e1]; exact Rd.nil W, hb⟩
theorem GmP.yes {xs : List Int} {w W : World} {q : Option Addr} {k : Nat} (h : mOk xs = true) (hr : Rd W (.slice q (mM xs).data.length k) (mM xs).data) (hb : Below w.heap.size w W) : GmP xs w (.returned (.tuple #[.agg (mgRow (mM xs) q (mM xs).data.length k).toArray, .int .i64 0])) W := by
  have e1 : mG xs = mM xs := if_pos h
  have e2 : mE xs = 0 := if_pos h
  exact ⟨q, k, by rw [e1, e2], by rw [e1]; exact hr, hb⟩
set_option maxHeartbeats 4000000 in
theorem GetMessage_any {w : World} {vb : Value} {xs : List Int} (hr : Rd w vb xs) (hx : Bytes xs) (hl : xs.length ≤ 140737488355328) :
    Calls Try.prog 72 #[vb] w (GmP xs w) := by
  have b1 : Below w.heap.size w (w.alloc (.cells (mgRow mg0 none 0 0).toArray 52)) := (Below.refl _ _).alloc (Nat.le_refl _) _
  have b2 : Below (w.alloc (.cells (mgRow mg0 none 0 0).toArray 52)).heap.size (w.alloc (.cells (mgRow mg0 none 0 0).toArray 52)) ((w.alloc (.cells (mgRow mg0 none 0 0).toArray 52)).alloc (.cells (mgRow mg0 none 0 0).toArray 52)) := (Below.refl _ _).alloc (Nat.le_refl _) _
  have hz : (w.alloc (.cells (mgRow mg0 none 0 0).toArray 52)).heap.size = w.heap.size + 1 := by simp
  have R0 := Lib.hid ((MgAt.new w 52 mg0 none 0 0).on b2)
  have K0 := MgAt.new (w.alloc (.cells (mgRow mg0 none 0 0).toArray 52)) 52 mg0 none 0 0
  rw [hz] at K0
  have B0 := Lib.hid (b1.trans (b2.mono b1.size))
  have KR := Lib.hid (read_any (hr.on B0.out) hx hl K0)
  have MK := Lib.hid (mOk_eq xs)
  have e0 : decide ((mM xs).gas ≤ 65536 ∧ (mM xs).data.length ≤ 64) = okM (mM xs) := rfl
  have KRM := fun (W : World) (q : Option Addr) (k : Nat) => RightMessage_any (w := W) (m := mM xs) (q := q) (n := (mM xs).data.length) (k := k) (mM_ok hx).gas (by have := mM_len xs; unfold maxLen; omega)
  rw [e0] at KRM
  have KRH := Lib.hid KRM
  have NO := Lib.hid (fun (h : mOk xs = false) (W : World) (hb : Below w.heap.size w W) => GmP.no h hb)
  have YES := Lib.hid (fun (h : mOk xs = true) (W : World) (q : Option Addr) (k : Nat) (hr : Rd W (.slice q (mM xs).data.length k) (mM xs).data) (hb : Below w.heap.size w W) => GmP.yes h hr hb)
  obtain ⟨QP, hQP⟩ : ∃ QP, GmP xs w = QP := ⟨_, rfl⟩
  rw [hQP] at NO YES ⊢
  obtain ⟨m, hm⟩ : ∃ m, mM xs = m := ⟨_, rfl⟩
  rw [hm] at KR MK KRH YES
  obtain ⟨ok, hok⟩ : ∃ ok, okM m = ok := ⟨_, rfl⟩
  rw [hok] at KRH MK
  obtain ⟨r, hrr⟩ : ∃ r, rOk xs = r := ⟨_, rfl⟩
  rw [hrr] at KR MK
  obtain ⟨mo, hmo⟩ : ∃ mo, mOk xs = mo := ⟨_, rfl⟩
  rw [hmo] at MK NO YES
  obtain ⟨qv, cv, rfl⟩ := hr.len
  have SZ : Hid (((w.alloc (.cells (mgRow mg0 none 0 0).toArray 52)).alloc (.cells (mgRow mg0 none 0 0).toArray 52)).heap.size = w.heap.size + 2) := by show _ = _; simp
  clear hr hx b1 b2 hz K0 e0 KRM hQP hm hok hrr hmo
  go_enter Try.func72, Try.ntmps72
  go_wp2_with fail
  generalize ((w.alloc (.cells (mgRow mg0 none 0 0).toArray 52)).alloc (.cells (mgRow mg0 none 0 0).toArray 52)) = w0 at *
  refine KR.out.mono ?_
  rintro e w1 ⟨q, k, rfl, hK1, hR1, hF1, hC1⟩
  have R1 := Lib.hid (R0.out.chg hC1 (by simp))
  have B1 : Hid (Below w.heap.size w w1) := Lib.hid (B0.out.trans (hC1.toBelow B0.out.size (fun g hg => by simp at hg; omega)))
  have K1 := Lib.hid hK1
  have D1 := Lib.hid hR1
  have NB : Hid (w.heap.size + 1 < w0.heap.size) := Nat.lt_of_lt_of_le (show w.heap.size + 1 < w.heap.size + 2 by omega) (Nat.le_of_eq SZ.out.symm)
  have F1 := Lib.hid hF1
  have hrow := hK1.row
  have h9 := mgRow_len m q m.data.length k
  clear hK1 hR1 hF1 hC1 KR R0 B0
  cases r with
  | false =>
    have E := Lib.hid (NO.out (by rw [MK.out]; rfl))
    have th := R1.out.there
    have hput := (R1.out.put mg0 none 0 0).row
    have BX := Lib.hid (below_setCells' (w.heap.size) (Nat.le_refl _) (mgRow mg0 none 0 0) 0 B1.out)
    clear NO YES MK KRH
    go_wp2_with fail
    refine bodyPost_ret (v := .tuple #[.agg (mgRow mg0 none 0 0).toArray, .int .i64 21]) (by simp [results, Try.results72, go_sem, hput]) rfl (E.out _ BX.out)
  | true =>
    go_wp2_with fail
    refine (KRH.out w1 q k).mono ?_
    rintro e w2 ⟨rfl, hb2⟩
    have R2 := Lib.hid (R1.out.on hb2)
    have B2 := Lib.hid (B1.out.trans (hb2.mono B1.out.size))
    have K2 := Lib.hid (K1.out.on hb2)
    have D2 := Lib.hid (D1.out.on hb2)
    have hrow := K2.out.row
    have th := R2.out.there
    clear hb2 K1 R1 B1 D1 KRH
    cases ok with
    | false =>
      have E := Lib.hid (NO.out (by rw [MK.out]; rfl))
      have hput := (R2.out.put mg0 none 0 0).row
      have BX := Lib.hid (below_setCells' (w.heap.size) (Nat.le_refl _) (mgRow mg0 none 0 0) 0 B2.out)
      clear NO YES MK
      go_wp2_with fail
      refine bodyPost_ret (v := .tuple #[.agg (mgRow mg0 none 0 0).toArray, .int .i64 21]) (by simp [results, Try.results72, go_sem, hput]) rfl (E.out _ BX.out)
    | true =>
      have hput := (R2.out.put m q m.data.length k).row
      have BX := Lib.hid (below_setCells' (w.heap.size) (Nat.le_refl _) (mgRow m q m.data.length k) 0 B2.out)
      have DX : Hid (Rd (w2.setCells w.heap.size 0 (mgRow m q m.data.length k)) (.slice q m.data.length k) m.data) := D2.out.chg (S := [w.heap.size]) (chg_setCells _ _ _ (Chg.refl _ _)) (fun _ g hg _ hm => by
        obtain rfl : g = w.heap.size := by simpa using hm
        have := F1.out _ hg
        have := NB.out
        omega)
      have E := Lib.hid (YES.out (by rw [MK.out]; rfl) _ q k DX.out BX.out)
      clear NO YES MK D2 DX BX
      go_wp2_with fail
      refine bodyPost_ret (v := .tuple #[.agg (mgRow m q m.data.length k).toArray, .int .i64 0]) (by simp [results, Try.results72, go_sem, hput]) rfl E.out
end Go.Proofs.Ytonjkhhihiigfaa
namespace Go.Proofs.Ytonjkhhihiigfaa
set_option maxRecDepth 100000
open Go.RowKit

theorem DSt.off {w : World} {b p pos : Nat} {v : Value} {xs : List Int} {f : Bool} {m : Mg} {q : Option Addr} {n k : Nat} (h : DSt w p v xs pos f) (hK : MgAt w b 62 m q n k) : b ≠ p := fun e => by
  subst e
  unfold MgAt at hK
  cases f with
  | false =>
    have h1 := (h.ok rfl).blk
    rw [hK] at h1
    exact absurd (Obj.cells.inj (Option.some.inj h1)).2.1 (by decide)
  | true =>
    obtain ⟨_, _, _, _, h1⟩ := h.bad rfl
    rw [hK] at h1
    exact absurd (Obj.cells.inj (Option.some.inj h1)).2.1 (by decide)
set_option maxHeartbeats 8000000 in
theorem refmessage_any {w : World} {p : Nat} {v : Value} {xs : List Int} (hS : DSt w p v xs 0 false) (hx : Bytes xs) :
    Calls Try.prog 67 #[.pointer (some ⟨p, 0, none⟩)] w fun e w' => ∃ q k, e = .returned (.agg (mgRow (mM xs) q (mM xs).data.length k).toArray) ∧ DSt w' p v xs (mEnd xs) (g6 xs) ∧ Rd w' (.slice q (mM xs).data.length k) (mM xs).data ∧ (∀ g, (Value.slice q (mM xs).data.length k).ownBlock = some g → w.heap.size ≤ g) ∧ Chg w w' [p] := by
  have BX := Lib.hid hx
  have MM : Hid (mM xs = ⟨uV (g1 xs) xs 0, uV (g2 xs) xs 8, uV (g3 xs) xs 16, wV (g4 xs) xs 24, uV (g5 xs) xs 56, bD (g6 xs) xs 64⟩) := rfl
  have ME : Hid (mEnd xs = 72 + (mM xs).data.length) := rfl
  obtain ⟨f1, e1⟩ : ∃ f, g1 xs = f := ⟨_, rfl⟩
  obtain ⟨f2, e2⟩ : ∃ f, g2 xs = f := ⟨_, rfl⟩
  obtain ⟨f3, e3⟩ : ∃ f, g3 xs = f := ⟨_, rfl⟩
  obtain ⟨f4, e4⟩ : ∃ f, g4 xs = f := ⟨_, rfl⟩
  obtain ⟨f5, e5⟩ : ∃ f, g5 xs = f := ⟨_, rfl⟩
  obtain ⟨f6, e6⟩ : ∃ f, g6 xs = f := ⟨_, rfl⟩
  rw [e1, e2, e3, e4, e5, e6] at MM
  have d1 := Lib.hid (show fU false xs 0 8 = f1 from e1)
  have d2 := Lib.hid (show fU f1 xs 8 8 = f2 by rw [← e1]; exact e2)
  have d3 := Lib.hid (show fU f2 xs 16 8 = f3 by rw [← e2]; exact e3)
  have d4 := Lib.hid (show fU f3 xs 24 32 = f4 by rw [← e3]; exact e4)
  have d5 := Lib.hid (show fU f4 xs 56 8 = f5 by rw [← e4]; exact e5)
  have d6 := Lib.hid (show fB f5 xs 64 = f6 by rw [← e5]; exact e6)
  have E6 := Lib.hid e6
  obtain ⟨z1, h1⟩ : ∃ z, uV f1 xs 0 = z := ⟨_, rfl⟩
  obtain ⟨z2, h2⟩ : ∃ z, uV f2 xs 8 = z := ⟨_, rfl⟩
  obtain ⟨z3, h3⟩ : ∃ z, uV f3 xs 16 = z := ⟨_, rfl⟩
  obtain ⟨x4, h4⟩ : ∃ z, wV f4 xs 24 = z := ⟨_, rfl⟩
  obtain ⟨z5, h5⟩ : ∃ z, uV f5 xs 56 = z := ⟨_, rfl⟩
  obtain ⟨D6, h6⟩ : ∃ z, bD f6 xs 64 = z := ⟨_, rfl⟩
  rw [h1, h2, h3, h4, h5, h6] at MM
  have Z1 := Lib.hid h1
  have Z2 := Lib.hid h2
  have Z3 := Lib.hid h3
  have X4 := Lib.hid h4
  have Z5 := Lib.hid h5
  have H6 := Lib.hid h6
  have b0 : Below w.heap.size w (w.alloc (.cells (mgRow mg0 none 0 0).toArray 62)) := (Below.refl _ _).alloc (Nat.le_refl _) _
  have R0 := Lib.hid (MgAt.new w 62 mg0 none 0 0)
  have S0 := Lib.hid (hS.on b0)
  have hpw := hS.lt
  have C0 : Hid (Chg w (w.alloc (.cells (mgRow mg0 none 0 0).toArray 62)) [p]) := Chg.below b0 (Nat.le_refl _) [p]
  clear hS hx e1 e2 e3 e4 e5 e6 h1 h2 h3 h4 h5 h6 b0
  go_enter Try.func67, Try.ntmps67
  go_wp2_with fail
  generalize w.alloc (.cells (mgRow mg0 none 0 0).toArray 62) = w0 at *
  refine (rdUint_st S0.out BX.out).mono ?_
  rintro e w1 ⟨rfl, hs1, hc1⟩
  rw [d1.out] at hs1 ⊢
  rw [Z1.out]
  have b1 : Below w1.heap.size w1 (w1.alloc (.cells (mgRow mg0 none 0 0).toArray 62)) := (Below.refl _ _).alloc (Nat.le_refl _) _
  have hm1 := fun W => Try.run_mg1r W z1
  have hrl : Hid (w.heap.size < w1.heap.size) := Nat.lt_of_lt_of_le R0.out.lt hc1.size
  have KA := MgAt.new w1 62 mg0 none 0 0
  have R1 := R0.out.chg hc1 (by simp; omega)
  have th := KA.there
  have cs : Chg (w1.alloc (.cells (mgRow mg0 none 0 0).toArray 62)) ((w1.alloc (.cells (mgRow mg0 none 0 0).toArray 62)).setCells w1.heap.size 0 (mgRow ⟨z1, 0, 0, ⟨0, 0, 0, 0⟩, 0, []⟩ none 0 0)) [w1.heap.size] := chg_setCells _ _ _ (Chg.refl _ _)
  have K1 := Lib.hid (KA.put ⟨z1, 0, 0, ⟨0, 0, 0, 0⟩, 0, []⟩ none 0 0)
  have R2 := Lib.hid ((R1.on b1).chg cs (by have := hrl.out; simp; omega))
  have S1 := Lib.hid ((hs1.on b1).chg2 cs (by have := hs1.lt; simp; omega) (fun ho => KA.off ho (by decide)))
  have C1 : Hid (Chg w ((w1.alloc (.cells (mgRow mg0 none 0 0).toArray 62)).setCells w1.heap.size 0 (mgRow ⟨z1, 0, 0, ⟨0, 0, 0, 0⟩, 0, []⟩ none 0 0)) [p]) := ((C0.out.trans hc1 (fun x hx _ => hx)).trans (Chg.below b1 (Nat.le_refl _) [p]) (fun x hx _ => hx)).trans cs (fun x hx hl => by have := hrl.out; simp at hx; omega)
  have szz : ((w1.alloc (.cells (mgRow mg0 none 0 0).toArray 62)).setCells w1.heap.size 0 (mgRow ⟨z1, 0, 0, ⟨0, 0, 0, 0⟩, 0, []⟩ none 0 0)).heap.size = w1.heap.size + 1 := by rw [size_setCells]; simp
  clear hs1 hc1 b1 KA R1 cs R0 S0 C0
  go_wp2_with fail
  clear hm1 th szz
  obtain ⟨b, hbe⟩ : ∃ b, w1.heap.size = b := ⟨_, rfl⟩
  rw [hbe] at K1 R2 S1 C1 hrl ⊢
  generalize (w1.alloc (.cells (mgRow mg0 none 0 0).toArray 62)).setCells b 0 (mgRow ⟨z1, 0, 0, ⟨0, 0, 0, 0⟩, 0, []⟩ none 0 0) = w2 at *
  clear hbe
  have HBP := Lib.hid (S1.out.off K1.out)
  have HBR : Hid (w.heap.size ≠ p) := by show _ ≠ _; omega
  refine (rdUint_st S1.out BX.out).mono ?_
  rintro e v3 ⟨rfl, hs, hc⟩
  rw [d2.out] at hs ⊢
  rw [Z2.out]
  have T3 := Lib.hid hs
  have L3 := Lib.hid (K1.out.chg hc (by have := HBP.out; simpa using this))
  have Q3 := Lib.hid (R2.out.chg hc (by have := hrl.out; have := HBR.out; simp; omega))
  have D3 : Hid (Chg w v3 [p]) := C1.out.trans hc (fun x hx _ => hx)
  clear hs hc S1 K1 R2 C1
  obtain ⟨-, c1, -, -, -, -, -, -, -⟩ := L3.out.cells
  have y1 := L3.out.frees 1
  have cs : Chg v3 (v3.setCell ⟨b, 1, none⟩ (.int .u64 z2)) [b] := ((Chg.refl _ [b]).setCell (p := ⟨b, 1, none⟩) (.inl (by simp)) _)
  have K3 := Lib.hid (L3.out.st1 z2)
  have S3 := Lib.hid (T3.out.chg2 cs (by have := HBP.out; simpa using Ne.symm this) (fun ho => L3.out.off ho (by decide)))
  have R3 := Lib.hid (Q3.out.chg cs (by have := hrl.out; simp; omega))
  have C3 : Hid (Chg w (v3.setCell ⟨b, 1, none⟩ (.int .u64 z2)) [p]) := D3.out.trans cs (fun x hx hl => by have := hrl.out; simp at hx; omega)
  clear cs T3 L3 Q3 D3
  go_wp2_with fail
  clear c1 y1
  generalize (v3.setCell ⟨b, 1, none⟩ (.int .u64 z2)) = w3 at *
  refine (rdUint_st S3.out BX.out).mono ?_
  rintro e v4 ⟨rfl, hs, hc⟩
  rw [d3.out] at hs ⊢
  rw [Z3.out]
  have T4 := Lib.hid hs
  have L4 := Lib.hid (K3.out.chg hc (by have := HBP.out; simpa using this))
  have Q4 := Lib.hid (R3.out.chg hc (by have := hrl.out; have := HBR.out; simp; omega))
  have D4 : Hid (Chg w v4 [p]) := C3.out.trans hc (fun x hx _ => hx)
  clear hs hc S3 K3 R3 C3
  obtain ⟨-, -, c2, -, -, -, -, -, -⟩ := L4.out.cells
  have y2 := L4.out.frees 2
  have cs : Chg v4 (v4.setCell ⟨b, 2, none⟩ (.int .u64 z3)) [b] := ((Chg.refl _ [b]).setCell (p := ⟨b, 2, none⟩) (.inl (by simp)) _)
  have K4 := Lib.hid (L4.out.st2 z3)
  have S4 := Lib.hid (T4.out.chg2 cs (by have := HBP.out; simpa using Ne.symm this) (fun ho => L4.out.off ho (by decide)))
  have R4 := Lib.hid (Q4.out.chg cs (by have := hrl.out; simp; omega))
  have C4 : Hid (Chg w (v4.setCell ⟨b, 2, none⟩ (.int .u64 z3)) [p]) := D4.out.trans cs (fun x hx hl => by have := hrl.out; simp at hx; omega)
  clear cs T4 L4 Q4 D4
  go_wp2_with fail
  clear c2 y2
  generalize (v4.setCell ⟨b, 2, none⟩ (.int .u64 z3)) = w4 at *
  refine (rdWide_st S4.out BX.out).mono ?_
  rintro e v5 ⟨rfl, hs, hc⟩
  rw [d4.out] at hs ⊢
  rw [X4.out]
  unfold w4v
  have T5 := Lib.hid hs
  have L5 := Lib.hid (K4.out.chg hc (by have := HBP.out; simpa using this))
  have Q5 := Lib.hid (R4.out.chg hc (by have := hrl.out; have := HBR.out; simp; omega))
  have D5 : Hid (Chg w v5 [p]) := C4.out.trans hc (fun x hx _ => hx)
  clear hs hc S4 K4 R4 C4
  obtain ⟨-, -, -, c3, c4, c5, c6, -, -⟩ := L5.out.cells
  have y3 := L5.out.frees 3
  have y4 := L5.out.frees 4
  have y5 := L5.out.frees 5
  have y6 := L5.out.frees 6
  have cs : Chg v5 ((((v5.setCell ⟨b, 3, none⟩ (.int .u64 x4.a)).setCell ⟨b, 4, none⟩ (.int .u64 x4.b)).setCell ⟨b, 5, none⟩ (.int .u64 x4.c)).setCell ⟨b, 6, none⟩ (.int .u64 x4.d)) [b] := (((((Chg.refl _ [b]).setCell (p := ⟨b, 3, none⟩) (.inl (by simp)) _).setCell (p := ⟨b, 4, none⟩) (.inl (by simp)) _).setCell (p := ⟨b, 5, none⟩) (.inl (by simp)) _).setCell (p := ⟨b, 6, none⟩) (.inl (by simp)) _)
  have K5 := Lib.hid (L5.out.st3 x4)
  have S5 := Lib.hid (T5.out.chg2 cs (by have := HBP.out; simpa using Ne.symm this) (fun ho => L5.out.off ho (by decide)))
  have R5 := Lib.hid (Q5.out.chg cs (by have := hrl.out; simp; omega))
  have C5 : Hid (Chg w ((((v5.setCell ⟨b, 3, none⟩ (.int .u64 x4.a)).setCell ⟨b, 4, none⟩ (.int .u64 x4.b)).setCell ⟨b, 5, none⟩ (.int .u64 x4.c)).setCell ⟨b, 6, none⟩ (.int .u64 x4.d)) [p]) := D5.out.trans cs (fun x hx hl => by have := hrl.out; simp at hx; omega)
  clear cs T5 L5 Q5 D5
  go_wp2_with fail
  clear c3 c4 c5 c6 y3 y4 y5 y6
  generalize ((((v5.setCell ⟨b, 3, none⟩ (.int .u64 x4.a)).setCell ⟨b, 4, none⟩ (.int .u64 x4.b)).setCell ⟨b, 5, none⟩ (.int .u64 x4.c)).setCell ⟨b, 6, none⟩ (.int .u64 x4.d)) = w5 at *
  refine (rdUint_st S5.out BX.out).mono ?_
  rintro e v6 ⟨rfl, hs, hc⟩
  rw [d5.out] at hs ⊢
  rw [Z5.out]
  have T6 := Lib.hid hs
  have L6 := Lib.hid (K5.out.chg hc (by have := HBP.out; simpa using this))
  have Q6 := Lib.hid (R5.out.chg hc (by have := hrl.out; have := HBR.out; simp; omega))
  have D6 : Hid (Chg w v6 [p]) := C5.out.trans hc (fun x hx _ => hx)
  clear hs hc S5 K5 R5 C5
  obtain ⟨-, -, -, -, -, -, -, c7, -⟩ := L6.out.cells
  have y7 := L6.out.frees 7
  have cs : Chg v6 (v6.setCell ⟨b, 7, none⟩ (.int .u64 z5)) [b] := ((Chg.refl _ [b]).setCell (p := ⟨b, 7, none⟩) (.inl (by simp)) _)
  have K6 := Lib.hid (L6.out.st7 z5)
  have S6 := Lib.hid (T6.out.chg2 cs (by have := HBP.out; simpa using Ne.symm this) (fun ho => L6.out.off ho (by decide)))
  have R6 := Lib.hid (Q6.out.chg cs (by have := hrl.out; simp; omega))
  have C6 : Hid (Chg w (v6.setCell ⟨b, 7, none⟩ (.int .u64 z5)) [p]) := D6.out.trans cs (fun x hx hl => by have := hrl.out; simp at hx; omega)
  clear cs T6 L6 Q6 D6
  go_wp2_with fail
  clear c7 y7
  generalize (v6.setCell ⟨b, 7, none⟩ (.int .u64 z5)) = w6 at *
  refine (rdBlob_st S6.out BX.out).mono ?_
  rintro e v7 ⟨q7, k7, rfl, hr7, hf7, hs, hc⟩
  rw [d6.out] at hr7 hf7 hs ⊢
  rw [H6.out] at hr7 hf7 hs ⊢
  have hb6 := K6.out.lt
  have T7 := Lib.hid hs
  have L7 := Lib.hid (K6.out.chg hc (by have := HBP.out; simpa using this))
  have Q7 := Lib.hid (R6.out.chg hc (by have := hrl.out; have := HBR.out; simp; omega))
  have D7 : Hid (Chg w v7 [p]) := C6.out.trans hc (fun x hx _ => hx)
  have A7 : Hid (Rd (v7.setCell ⟨b, 8, none⟩ (.slice q7 D6.length k7)) (.slice q7 D6.length k7) D6) := hr7.setCell (a := ⟨b, 8, none⟩) (fun e => by have h9 : w6.heap.size ≤ b := hf7 _ e; omega) _
  have hw6 : Hid (w.heap.size < w6.heap.size) := by have := hrl.out; show _ < _; omega
  have F7 : Hid (∀ g, (Value.slice q7 D6.length k7).ownBlock = some g → w.heap.size < g) := fun g hg => Nat.lt_of_lt_of_le hw6.out (hf7 g hg)
  clear hs hc S6 K6 R6 C6 hr7 hf7 hb6 hw6
  obtain ⟨-, -, -, -, -, -, -, -, c8⟩ := L7.out.cells
  have y8 := L7.out.frees 8
  have cs : Chg v7 (v7.setCell ⟨b, 8, none⟩ (.slice q7 D6.length k7)) [b] := ((Chg.refl _ [b]).setCell (p := ⟨b, 8, none⟩) (.inl (by simp)) _)
  have K7 := Lib.hid (L7.out.st8 D6 q7 D6.length k7)
  have S7 := Lib.hid (T7.out.chg2 cs (by have := HBP.out; simpa using Ne.symm this) (fun ho => L7.out.off ho (by decide)))
  have R7 := Lib.hid (Q7.out.chg cs (by have := hrl.out; simp; omega))
  have C7 : Hid (Chg w (v7.setCell ⟨b, 8, none⟩ (.slice q7 D6.length k7)) [p]) := D7.out.trans cs (fun x hx hl => by have := hrl.out; simp at hx; omega)
  clear cs T7 L7 Q7 D7
  have hrow := K7.out.row
  have th := R7.out.there
  have MD : mM xs = ⟨z1, z2, z3, x4, z5, D6⟩ := MM.out
  have hput := (R7.out.put ⟨z1, z2, z3, x4, z5, D6⟩ q7 D6.length k7).row
  have cs : Chg (v7.setCell ⟨b, 8, none⟩ (.slice q7 D6.length k7)) ((v7.setCell ⟨b, 8, none⟩ (.slice q7 D6.length k7)).setCells w.heap.size 0 (mgRow ⟨z1, z2, z3, x4, z5, D6⟩ q7 D6.length k7)) [w.heap.size] := chg_setCells _ _ _ (Chg.refl _ _)
  have SF := Lib.hid (S7.out.chg2 cs (by have := HBR.out; simpa using Ne.symm this) (fun ho => R7.out.off ho (by decide)))
  have CF : Hid (Chg w ((v7.setCell ⟨b, 8, none⟩ (.slice q7 D6.length k7)).setCells w.heap.size 0 (mgRow ⟨z1, z2, z3, x4, z5, D6⟩ q7 D6.length k7)) [p]) := C7.out.trans cs (fun x hx hl => by simp at hx; omega)
  have AF : Hid (Rd ((v7.setCell ⟨b, 8, none⟩ (.slice q7 D6.length k7)).setCells w.heap.size 0 (mgRow ⟨z1, z2, z3, x4, z5, D6⟩ q7 D6.length k7)) (.slice q7 D6.length k7) D6) := A7.out.chg cs (fun _ g hg _ hm => by
    obtain rfl : g = w.heap.size := by simpa using hm
    have := F7.out _ hg
    omega)
  have HMD := Lib.hid MD
  clear cs S7 C7 A7 MD K7 MM
  go_wp2_with fail
  refine bodyPost_ret (v := .agg (mgRow ⟨z1, z2, z3, x4, z5, D6⟩ q7 D6.length k7).toArray) (by simp [results, Try.results67, go_sem, hput]) rfl ?_
  have MDD : (mM xs).data = D6 := by rw [HMD.out]
  rw [ME.out, MDD, E6.out]
  exact ⟨q7, k7, by rw [HMD.out], by have := SF.out; rw [show 64 + 8 = 72 from rfl] at this; exact this, AF.out, fun g hg => Nat.le_of_lt (F7.out g hg), CF.out⟩

set_option maxHeartbeats 4000000 in
theorem refGetMessage_any {w : World} {vb : Value} {xs : List Int} (hr : Rd w vb xs) (hx : Bytes xs) (hl : xs.length ≤ 140737488355328) :
    Calls Try.prog 60 #[vb] w (GmP xs w) := by
  have b1 : Below w.heap.size w (w.alloc (.cells (mgRow mg0 none 0 0).toArray 62)) := (Below.refl _ _).alloc (Nat.le_refl _) _
  have R0 := Lib.hid (MgAt.new w 62 mg0 none 0 0)
  have B0 := Lib.hid b1
  have BX := Lib.hid hx
  have KN := Lib.hid (rdNew_any (hr.on b1) hl)
  have MK := Lib.hid (mOk_eq xs)
  have RK : Hid (rOk xs = (!(g6 xs) && decide (mEnd xs = xs.length))) := rfl
  have e0 : decide ((mM xs).gas ≤ 65536 ∧ (mM xs).data.length ≤ 64) = okM (mM xs) := rfl
  have KRM := fun (W : World) (q : Option Addr) (k : Nat) => refRightMessage_any (w := W) (m := mM xs) (q := q) (n := (mM xs).data.length) (k := k) (mM_ok hx).gas (by have := mM_len xs; unfold maxLen; omega)
  rw [e0] at KRM
  have KRH := Lib.hid KRM
  have NO := Lib.hid (fun (h : mOk xs = false) (W : World) (hb : Below w.heap.size w W) => GmP.no h hb)
  have YES := Lib.hid (fun (h : mOk xs = true) (W : World) (q : Option Addr) (k : Nat) (hr : Rd W (.slice q (mM xs).data.length k) (mM xs).data) (hb : Below w.heap.size w W) => GmP.yes h hr hb)
  have KM := Lib.hid (fun (W : World) (p : Nat) (v : Value) (h : DSt W p v xs 0 false) => refmessage_any h hx)
  obtain ⟨QP, hQP⟩ : ∃ QP, GmP xs w = QP := ⟨_, rfl⟩
  rw [hQP] at NO YES ⊢
  obtain ⟨m, hm⟩ : ∃ m, mM xs = m := ⟨_, rfl⟩
  rw [hm] at KM MK KRH YES
  obtain ⟨ok, hok⟩ : ∃ ok, okM m = ok := ⟨_, rfl⟩
  rw [hok] at KRH MK
  obtain ⟨r, hrr⟩ : ∃ r, rOk xs = r := ⟨_, rfl⟩
  rw [hrr] at MK RK
  obtain ⟨mo, hmo⟩ : ∃ mo, mOk xs = mo := ⟨_, rfl⟩
  rw [hmo] at MK NO YES
  obtain ⟨qv, cv, rfl⟩ := hr.len
  clear hr hx b1 e0 KRM hQP hm hok hrr hmo
  go_enter Try.func60, Try.ntmps60
  go_wp2_with fail
  generalize (w.alloc (.cells (mgRow mg0 none 0 0).toArray 62)) = w0 at *
  refine KN.out.mono ?_
  rintro e w1 ⟨p, v1, rfl, hV, hp, hb1, -⟩
  have S1 := Lib.hid (DSt.mk0 hV)
  have R1 := Lib.hid (R0.out.on hb1)
  have B1 := Lib.hid (B0.out.trans (hb1.mono B0.out.size))
  have hwp : Hid (w.heap.size < p) := Nat.lt_of_lt_of_le R0.out.lt hp
  clear hV hb1 KN R0 B0 hp
  go_wp2_with fail
  refine (KM.out w1 p v1 S1.out).mono ?_
  rintro e w2 ⟨q, k, rfl, hS2, hR2, hF2, hC2⟩
  have b3 : Below w2.heap.size w2 (w2.alloc (.cells (mgRow mg0 none 0 0).toArray 62)) := (Below.refl _ _).alloc (Nat.le_refl _) _
  have KA := MgAt.new w2 62 mg0 none 0 0
  have th := KA.there
  have cs : Chg (w2.alloc (.cells (mgRow mg0 none 0 0).toArray 62)) ((w2.alloc (.cells (mgRow mg0 none 0 0).toArray 62)).setCells w2.heap.size 0 (mgRow m q m.data.length k)) [w2.heap.size] := chg_setCells _ _ _ (Chg.refl _ _)
  have K3 := Lib.hid (KA.put m q m.data.length k)
  have hw2 : Hid (w.heap.size < w2.heap.size) := Nat.lt_of_lt_of_le R1.out.lt hC2.size
  have R3 := Lib.hid (((R1.out.chg hC2 (by have := hwp.out; simp; omega)).on b3).chg cs (by have := hw2.out; simp; omega))
  have S3 := Lib.hid ((hS2.on b3).chg2 cs (by have := hS2.lt; simp; omega) (fun ho => KA.off ho (by decide)))
  have B2 := B1.out.trans (hC2.toBelow B1.out.size (fun g hg => by have := hwp.out; simp at hg; omega))
  have B3 : Hid (Below w.heap.size w ((w2.alloc (.cells (mgRow mg0 none 0 0).toArray 62)).setCells w2.heap.size 0 (mgRow m q m.data.length k))) := (B2.trans (b3.mono B2.size)).trans (cs.toBelow (by have := hw2.out; simp; omega) (fun g hg => by have := hw2.out; simp at hg; omega))
  have A3 : Hid (Rd ((w2.alloc (.cells (mgRow mg0 none 0 0).toArray 62)).setCells w2.heap.size 0 (mgRow m q m.data.length k)) (.slice q m.data.length k) m.data) := (hR2.on b3).chg cs (fun hne g hg hl hm => by
    obtain rfl : g = w2.heap.size := by simpa using hm
    have := hR2.lt hne hg
    omega)
  have F3 : Hid (∀ g, (Value.slice q m.data.length k).ownBlock = some g → w.heap.size < g) := fun g hg => Nat.lt_of_lt_of_le R1.out.lt (hF2 g hg)
  have szz : ((w2.alloc (.cells (mgRow mg0 none 0 0).toArray 62)).setCells w2.heap.size 0 (mgRow m q m.data.length k)).heap.size = w2.heap.size + 1 := by rw [size_setCells]; simp
  clear hS2 hR2 hF2 hC2 b3 KA cs B2 R1 S1 B1 KM
  go_wp2_with fail
  clear th szz
  obtain ⟨b, hbe⟩ : ∃ b, w2.heap.size = b := ⟨_, rfl⟩
  rw [hbe] at K3 R3 S3 B3 A3 hw2 ⊢
  generalize (w2.alloc (.cells (mgRow mg0 none 0 0).toArray 62)).setCells b 0 (mgRow m q m.data.length k) = w3 at *
  clear hbe
  refine (rdDone_st S3.out).mono ?_
  rintro e w4 ⟨z, mm, rfl, rfl, hz⟩
  have HZ : Hid ((z == 0) = r) := by
    show _ = _
    rw [RK.out]
    by_cases h : z = 0
    · obtain ⟨h1, h2⟩ := hz.1 h
      rw [h1, h]; simp [h2]
    · have h0 : (z == 0) = false := by simpa using h
      rw [h0]
      cases hg : g6 xs with
      | true => rfl
      | false =>
        have : ¬ mEnd xs = xs.length := fun e => h (hz.2 ⟨hg, e⟩)
        simp [this]
  have K4 := Lib.hid (show MgAt (w3.drewN mm) b 62 m q m.data.length k from K3.out)
  have R4 := Lib.hid (show MgAt (w3.drewN mm) w.heap.size 62 mg0 none 0 0 from R3.out)
  have A4 := Lib.hid (show Rd (w3.drewN mm) (.slice q m.data.length k) m.data from A3.out)
  have B4 := Lib.hid (below_drewN B3.out mm)
  clear hz K3 R3 A3 B3 S3 RK
  generalize w3.drewN mm = w1 at *
  have hrow := K4.out.row
  have h9 := mgRow_len m q m.data.length k
  have R1 := R4
  have B1 := B4
  have K1 := K4
  have D1 := A4
  clear R4 B4 K4 A4
  cases r with
  | false =>
    have hz1 : (z != 0) = true := by have := HZ.out; simpa using this
    have E := Lib.hid (NO.out (by rw [MK.out]; rfl))
    have th := R1.out.there
    have hput := (R1.out.put mg0 none 0 0).row
    have BX := Lib.hid (below_setCells' (w.heap.size) (Nat.le_refl _) (mgRow mg0 none 0 0) 0 B1.out)
    clear NO YES MK KRH HZ
    go_wp2_with fail
    refine bodyPost_ret (v := .tuple #[.agg (mgRow mg0 none 0 0).toArray, .int .i64 21]) (by simp [results, Try.results60, go_sem, hput]) rfl (E.out _ BX.out)
  | true =>
    obtain rfl : z = 0 := by have := HZ.out; simpa using this
    clear HZ
    go_wp2_with fail
    refine (KRH.out w1 q k).mono ?_
    rintro e w2 ⟨rfl, hb2⟩
    have R2 := Lib.hid (R1.out.on hb2)
    have B2 := Lib.hid (B1.out.trans (hb2.mono B1.out.size))
    have K2 := Lib.hid (K1.out.on hb2)
    have D2 := Lib.hid (D1.out.on hb2)
    have hrow := K2.out.row
    have th := R2.out.there
    clear hb2 K1 R1 B1 D1 KRH
    cases ok with
    | false =>
      have E := Lib.hid (NO.out (by rw [MK.out]; rfl))
      have hput := (R2.out.put mg0 none 0 0).row
      have BX := Lib.hid (below_setCells' (w.heap.size) (Nat.le_refl _) (mgRow mg0 none 0 0) 0 B2.out)
      clear NO YES MK
      go_wp2_with fail
      refine bodyPost_ret (v := .tuple #[.agg (mgRow mg0 none 0 0).toArray, .int .i64 21]) (by simp [results, Try.results60, go_sem, hput]) rfl (E.out _ BX.out)
    | true =>
      have hput := (R2.out.put m q m.data.length k).row
      have BX := Lib.hid (below_setCells' (w.heap.size) (Nat.le_refl _) (mgRow m q m.data.length k) 0 B2.out)
      have DX : Hid (Rd (w2.setCells w.heap.size 0 (mgRow m q m.data.length k)) (.slice q m.data.length k) m.data) := D2.out.chg (S := [w.heap.size]) (chg_setCells _ _ _ (Chg.refl _ _)) (fun _ g hg _ hm => by
        obtain rfl : g = w.heap.size := by simpa using hm
        have := F3.out _ hg
        omega)
      have E := Lib.hid (YES.out (by rw [MK.out]; rfl) _ q k DX.out BX.out)
      clear NO YES MK D2 DX BX
      go_wp2_with fail
      refine bodyPost_ret (v := .tuple #[.agg (mgRow m q m.data.length k).toArray, .int .i64 0]) (by simp [results, Try.results60, go_sem, hput]) rfl E.out
end Go.Proofs.Ytonjkhhihiigfaa
namespace Go.Proofs.Ytonjkhhihiigfaa
set_option maxRecDepth 100000
open Go.RowKit

theorem conditions_any {w : World} : Calls Try.prog 61 #[] w fun e w' => e = .returned (.slice (some ⟨w.heap.size, 0, none⟩) 3 3) ∧ w' = w.alloc (.cells #[.int .i64 1, .func (.func 69) #[] #[], .int .i64 2, .func (.func 70) #[] #[], .int .i64 3, .func (.func 71) #[] #[]] 126) := by
  go_enter Try.func61, Try.ntmps61
  go_wp2_with fail
  go_ret
  exact ⟨rfl, rfl⟩
def tx1 : Value := .agg #[.int .i64 1, .int .u64 0, .int .u64 0, .int .u64 0, .int .u64 0, .int .u64 0, .int .u64 0, .int .u64 0, .int .u64 0, .slice none 0 0]
theorem cond1_any {w : World} : Calls Try.prog 69 #[.agg #[.int .i64 1, .int .u64 0, .int .u64 0, .int .u64 0, .int .u64 0, .int .u64 0, .int .u64 0, .int .u64 0, .int .u64 0, .slice none 0 0]] w fun e w' => e = .returned (.bool true) ∧ Below w.heap.size w w' := by
  have B0 := Lib.hid ((Below.refl w.heap.size w).alloc (Nat.le_refl _) (.cells #[.int .i64 1, .int .u64 0, .int .u64 0, .int .u64 0, .int .u64 0, .int .u64 0, .int .u64 0, .int .u64 0, .int .u64 0, .slice none 0 0] 54))
  go_enter Try.func69, Try.ntmps69
  go_wp2_with fail
  go_ret
  exact ⟨rfl, B0.out⟩
set_option maxHeartbeats 4000000 in
theorem RightTx1 {w : World} : Calls Try.prog 52 #[.agg #[.int .i64 1, .int .u64 0, .int .u64 0, .int .u64 0, .int .u64 0, .int .u64 0, .int .u64 0, .int .u64 0, .int .u64 0, .slice none 0 0]] w fun e w' => e = .returned (.bool true) ∧ Below w.heap.size w w' := by
  have b0 : Below w.heap.size w (w.alloc (.cells #[.int .i64 1, .int .u64 0, .int .u64 0, .int .u64 0, .int .u64 0, .int .u64 0, .int .u64 0, .int .u64 0, .int .u64 0, .slice none 0 0] 54)) := (Below.refl _ _).alloc (Nat.le_refl _) _
  go_enter Try.func52, Try.ntmps52
  go_wp2_with fail
  go_step3
  go_wp2_with fail
  go_step3
  go_wp2_with fail
  refine conditions_any.mono ?_
  rintro e w1 ⟨rfl, rfl⟩
  have b1 : Below (w.alloc (.cells #[.int .i64 1, .int .u64 0, .int .u64 0, .int .u64 0, .int .u64 0, .int .u64 0, .int .u64 0, .int .u64 0, .int .u64 0, .slice none 0 0] 54)).heap.size (w.alloc (.cells #[.int .i64 1, .int .u64 0, .int .u64 0, .int .u64 0, .int .u64 0, .int .u64 0, .int .u64 0, .int .u64 0, .int .u64 0, .slice none 0 0] 54)) ((w.alloc (.cells #[.int .i64 1, .int .u64 0, .int .u64 0, .int .u64 0, .int .u64 0, .int .u64 0, .int .u64 0, .int .u64 0, .int .u64 0, .slice none 0 0] 54)).alloc (.cells #[.int .i64 1, .func (.func 69) #[] #[], .int .i64 2, .func (.func 70) #[] #[], .int .i64 3, .func (.func 71) #[] #[]] 126)) := (Below.refl _ _).alloc (Nat.le_refl _) _
  have T0 := blk_onB2 (heap_alloc_new w (.cells #[.int .i64 1, .int .u64 0, .int .u64 0, .int .u64 0, .int .u64 0, .int .u64 0, .int .u64 0, .int .u64 0, .int .u64 0, .slice none 0 0] 54)) b1
  have D0 := heap_alloc_new (w.alloc (.cells #[.int .i64 1, .int .u64 0, .int .u64 0, .int .u64 0, .int .u64 0, .int .u64 0, .int .u64 0, .int .u64 0, .int .u64 0, .slice none 0 0] 54)) (.cells #[.int .i64 1, .func (.func 69) #[] #[], .int .i64 2, .func (.func 70) #[] #[], .int .i64 3, .func (.func 71) #[] #[]] 126)
  have hz : (w.alloc (.cells #[.int .i64 1, .int .u64 0, .int .u64 0, .int .u64 0, .int .u64 0, .int .u64 0, .int .u64 0, .int .u64 0, .int .u64 0, .slice none 0 0] 54)).heap.size = w.heap.size + 1 := by simp
  rw [hz] at D0
  have B0 := Lib.hid (b0.trans (b1.mono b0.size))
  clear b0 b1 hz
  go_wp2_with fail
  generalize ((w.alloc (.cells #[.int .i64 1, .int .u64 0, .int .u64 0, .int .u64 0, .int .u64 0, .int .u64 0, .int .u64 0, .int .u64 0, .int .u64 0, .slice none 0 0] 54)).alloc (.cells #[.int .i64 1, .func (.func 69) #[] #[], .int .i64 2, .func (.func 70) #[] #[], .int .i64 3, .func (.func 71) #[] #[]] 126)) = w2 at *
  have c0 : w2.cell? ⟨w.heap.size, 0, none⟩ = some (.int .i64 1) := (Joins.cell_of_block T0 0).trans rfl
  have c1 : w2.cell? ⟨w.heap.size, 1, none⟩ = some (.int .u64 0) := (Joins.cell_of_block T0 1).trans rfl
  have c2 : w2.cell? ⟨w.heap.size, 2, none⟩ = some (.int .u64 0) := (Joins.cell_of_block T0 2).trans rfl
  have c3 : w2.cell? ⟨w.heap.size, 3, none⟩ = some (.int .u64 0) := (Joins.cell_of_block T0 3).trans rfl
  have c4 : w2.cell? ⟨w.heap.size, 4, none⟩ = some (.int .u64 0) := (Joins.cell_of_block T0 4).trans rfl
  have c5 : w2.cell? ⟨w.heap.size, 5, none⟩ = some (.int .u64 0) := (Joins.cell_of_block T0 5).trans rfl
  have c6 : w2.cell? ⟨w.heap.size, 6, none⟩ = some (.int .u64 0) := (Joins.cell_of_block T0 6).trans rfl
  have c7 : w2.cell? ⟨w.heap.size, 7, none⟩ = some (.int .u64 0) := (Joins.cell_of_block T0 7).trans rfl
  have c8 : w2.cell? ⟨w.heap.size, 8, none⟩ = some (.int .u64 0) := (Joins.cell_of_block T0 8).trans rfl
  have c9 : w2.cell? ⟨w.heap.size, 9, none⟩ = some (.slice none 0 0) := (Joins.cell_of_block T0 9).trans rfl
  have d0 : w2.cell? ⟨w.heap.size + 1, 0, none⟩ = some (.int .i64 1) := (Joins.cell_of_block D0 0).trans rfl
  have d1 : w2.cell? ⟨w.heap.size + 1, 1, none⟩ = some (.func (.func 69) #[] #[]) := (Joins.cell_of_block D0 1).trans rfl
  have hl : w.heap.size < w2.heap.size := (Array.getElem?_eq_some_iff.1 T0).1
  refine wp_loop_rounds 1 ?_
  rw [rounds_succ]
  go_wp2_with fail
  refine cond1_any.mono ?_
  rintro e w5 ⟨rfl, hb5⟩
  have B5 := Lib.hid (B0.out.trans (((Below.refl w2.heap.size w2).alloc (Nat.le_refl _) (.cells #[.int .i64 1, .func (.func 69) #[] #[]] 126)).mono B0.out.size))
  have B6 := Lib.hid (B5.out.trans (hb5.mono B5.out.size))
  clear hb5
  go_wp2_with fail
  rw [Exit.noGoto_ret]
  go_ret
  exact ⟨rfl, B6.out⟩
theorem kz_put : pMB mg0 = mgB mg0 ∧ pME mg0 = 0 := by constructor <;> kernel_rfl
theorem kz_len : (mgB mg0).length = 72 := by kernel_rfl
theorem kz_get : mG (mgB mg0) = mg0 ∧ mE (mgB mg0) = 0 := by constructor <;> kernel_rfl
theorem kz_apart : (mgN true mg0 == mgN false mg0) = false := by kernel_rfl
end Go.Proofs.Ytonjkhhihiigfaa
