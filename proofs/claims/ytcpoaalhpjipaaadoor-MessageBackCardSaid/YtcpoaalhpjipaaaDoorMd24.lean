/-
  What is told by bytes has these bytes.; What the program reads of bytes as a message, or a Tx, into a part of a block.; Inputs: rows of 24 cells; which may be.
-/
import Derived.Test.YtcpoaalhpjipaaaDoorMd17
import Derived.Test.YtcpoaalhpjipaaaDoorMd18
import Derived.Test.YtcpoaalhpjipaaaDoorMd19
namespace Go.Proofs.YtcpoaalhpjipaaaDoor
set_option maxRecDepth 100000
open Go.RowKit

theorem by_pow (N : Int) (i : Nat) : by_ N (i + 1) = by_ (N / 256) i := by
  unfold by_
  rw [Int.pow_succ, Int.mul_comm, ← Int.ediv_ediv_of_nonneg (by omega)]
theorem pd_front (f : Nat → Int) (s : Nat) : ∀ m, pd f s (m + 1) = f s + 256 * pd f (s + 1) m
  | 0 => by simp [pd]
  | m + 1 => by
    rw [show pd f s (m + 1 + 1) = pd f s (m + 1) + f (s + (m + 1)) * 256 ^ (m + 1) from rfl, pd_front f s m, show pd f (s + 1) (m + 1) = pd f (s + 1) m + f (s + 1 + m) * 256 ^ m from rfl, Int.pow_succ, show s + (m + 1) = s + 1 + m by omega]
    grind
theorem by_pd {f : Nat → Int} (hf : By f) : ∀ (m s i : Nat), i < m → s + m ≤ 32 → by_ (pd f s m) i = f (s + i)
  | m + 1, s, 0, _, h => by
    obtain ⟨a, b⟩ := hf s (by omega)
    rw [pd_front]
    unfold by_
    rw [Int.pow_zero, Int.ediv_one]
    show _ = f s
    omega
  | m + 1, s, i + 1, hi, h => by
    obtain ⟨a, b⟩ := hf s (by omega)
    rw [by_pow, pd_front, show (f s + 256 * pd f (s + 1) m) / 256 = pd f (s + 1) m by omega, by_pd hf m (s + 1) i (by omega) (by omega), show s + 1 + i = s + (i + 1) by omega]
theorem pd_cat (f : Nat → Int) (o m : Nat) : ∀ k, pd f o (m + k) = pd f o m + 256 ^ m * pd f (o + m) k
  | 0 => by simp [pd]
  | k + 1 => by
    rw [show pd f o (m + (k + 1)) = pd f o (m + k) + f (o + (m + k)) * 256 ^ (m + k) from rfl, pd_cat f o m k, show pd f (o + m) (k + 1) = pd f (o + m) k + f (o + m + k) * 256 ^ k from rfl, Int.pow_add, show o + (m + k) = o + m + k by omega]
    grind
theorem wf_By {xs : List Int} (hx : Bytes xs) (pos : Nat) : By (wf xs pos) := fun i _ => by
  unfold wf
  by_cases h : pos + (31 - i) < xs.length
  · have e : xs.getD (pos + (31 - i)) 0 = xs[pos + (31 - i)] := by simp [List.getD, h]
    rw [e]; exact hx _ (List.getElem_mem h)
  · have e : xs.getD (pos + (31 - i)) 0 = 0 := by simp [List.getD, Nat.not_lt.1 h]
    rw [e]; omega
theorem w4_V {xs : List Int} (pos : Nat) : V (w4 xs pos).a (w4 xs pos).b (w4 xs pos).c (w4 xs pos).d = pd (wf xs pos) 0 32 := by
  have e1 := pd_cat (wf xs pos) 0 8 24
  have e2 := pd_cat (wf xs pos) 8 8 16
  have e3 := pd_cat (wf xs pos) 16 8 8
  have p8 : (256 : Int) ^ 8 = 18446744073709551616 := by decide
  rw [p8] at e1 e2 e3
  simp only [Nat.zero_add] at e1
  show V (pd (wf xs pos) 0 8) (pd (wf xs pos) 8 8) (pd (wf xs pos) 16 8) (pd (wf xs pos) 24 8) = _
  rw [show (8 + 24 : Nat) = 32 from rfl] at e1
  rw [show (8 + 16 : Nat) = 24 from rfl, show (8 + 8 : Nat) = 16 from rfl] at e2
  rw [show (8 + 8 : Nat) = 16 from rfl, show (16 + 8 : Nat) = 24 from rfl] at e3
  rw [e1, e2, e3]
  unfold V B
  generalize pd (wf xs pos) 0 8 = a
  generalize pd (wf xs pos) 8 8 = b
  generalize pd (wf xs pos) 16 8 = c
  generalize pd (wf xs pos) 24 8 = d
  omega
theorem w4_bytes {xs : List Int} (hx : Bytes xs) {pos : Nat} (h : pos + 32 ≤ xs.length) : (w4 xs pos).bytes = (xs.drop pos).take 32 := by
  unfold W4.bytes
  rw [w4_V]
  apply List.ext_getElem
  · simp [bys]; omega
  · intro i h1 h2
    have hi : i < 32 := by simpa [bys] using h1
    have e1 := bys_at (pd (wf xs pos) 0 32) i hi
    have e2 : (bys (pd (wf xs pos) 0 32) 32).getD i 0 = (bys (pd (wf xs pos) 0 32) 32)[i] := by rw [List.getD_eq_getElem?_getD, List.getElem?_eq_getElem h1]; rfl
    refine e2.symm.trans ?_
    rw [e1, by_pd (wf_By hx pos) 32 0 (31 - i) (by omega) (by omega)]
    unfold wf
    rw [show pos + (31 - (0 + (31 - i))) = pos + i by omega]
    simp [List.getD, show pos + i < xs.length by omega]

/-! ### One number, one blob -/
theorem nAt_fwd {xs : List Int} (hx : Bytes xs) {pos : Nat} (h : pos + 8 ≤ xs.length) : xs.drop pos = be8 (nAt xs pos) ++ xs.drop (pos + 8) := by
  unfold nAt
  have hb8 : Bytes ((xs.drop pos).take 8) := fun x hx' => hx x (List.mem_of_mem_drop (List.mem_of_mem_take hx'))
  rw [be8_num hb8 (by rw [List.length_take, List.length_drop]; omega), ← List.drop_drop, List.take_append_drop]
theorem w4_fwd {xs : List Int} (hx : Bytes xs) {pos : Nat} (h : pos + 32 ≤ xs.length) : xs.drop pos = (w4 xs pos).bytes ++ xs.drop (pos + 32) := by
  rw [w4_bytes hx h, ← List.drop_drop, List.take_append_drop]
theorem blob_fwd {xs : List Int} (hx : Bytes xs) {pos : Nat} {f : Bool} (h : fB f xs pos = false) : f = false ∧ xs.drop pos = be8 (bD false xs pos).length ++ (bD false xs pos ++ xs.drop (pos + 8 + (bD false xs pos).length)) ∧ pos + 8 + (bD false xs pos).length ≤ xs.length := by
  simp only [fB, Bool.or_eq_false_iff, decide_eq_false_iff_not] at h
  obtain ⟨⟨⟨hf, h1⟩, h2⟩, h3⟩ := h
  have hn := nAt_bd hx pos
  obtain ⟨z, hz⟩ : ∃ z : Nat, nAt xs pos = z := ⟨(nAt xs pos).toNat, by omega⟩
  have hzt : (nAt xs pos).toNat = z := by omega
  rw [hzt] at h3
  have e : bD false xs pos = (xs.drop (pos + 8)).take z := by unfold bD; rw [if_neg (by simp), hzt]
  have l : (bD false xs pos).length = z := by rw [e, List.length_take, List.length_drop]; omega
  refine ⟨hf, ?_, by omega⟩
  have e8 := nAt_fwd hx (pos := pos) (by omega)
  rw [hz] at e8
  rw [l, e8, e, show xs.drop (pos + 8 + z) = (xs.drop (pos + 8)).drop z by rw [List.drop_drop], List.take_append_drop]
theorem fU_fwd {f : Bool} {xs : List Int} {pos k : Nat} (h : fU f xs pos k = false) : f = false ∧ pos + k ≤ xs.length := by
  simp only [fU, Bool.or_eq_false_iff, decide_eq_false_iff_not] at h
  exact ⟨h.1, by omega⟩
theorem fC_fwd {f : Bool} {xs : List Int} {pos most : Nat} (h : fC f xs pos most = false) : f = false ∧ pos + 8 ≤ xs.length := by
  simp only [fC, Bool.or_eq_false_iff, decide_eq_false_iff_not] at h
  exact ⟨h.1.1, by omega⟩

/-! ### A message, a Tx, a batch -/
theorem m_fwd {xs : List Int} (hx : Bytes xs) (h : g6 xs = false) : xs = mgB (mM xs) ++ xs.drop (mEnd xs) := by
  obtain ⟨h5, b6, _⟩ := blob_fwd hx (show fB (g5 xs) xs 64 = false from h)
  obtain ⟨h4, l5⟩ := fU_fwd (show fU (g4 xs) xs 56 8 = false from h5)
  obtain ⟨h3, l4⟩ := fU_fwd (show fU (g3 xs) xs 24 32 = false from h4)
  obtain ⟨h2, l3⟩ := fU_fwd (show fU (g2 xs) xs 16 8 = false from h3)
  obtain ⟨h1, l2⟩ := fU_fwd (show fU (g1 xs) xs 8 8 = false from h2)
  obtain ⟨_, l1⟩ := fU_fwd (show fU false xs 0 8 = false from h1)
  have a1 := nAt_fwd hx l1
  have a2 := nAt_fwd hx l2
  have a3 := nAt_fwd hx l3
  have a4 := w4_fwd hx l4
  have a5 := nAt_fwd hx l5
  have em : mM xs = ⟨nAt xs 0, nAt xs 8, nAt xs 16, w4 xs 24, nAt xs 56, bD false xs 64⟩ := by
    unfold mM
    rw [h1, h2, h3, h4, h5, h, uV_false, uV_false, uV_false, uV_false, wV_false]
  have ee : mEnd xs = 64 + 8 + (bD false xs 64).length := by unfold mEnd; rw [em]
  rw [ee, em]
  rw [List.drop_zero] at a1
  simp only [Nat.zero_add, Nat.reduceAdd] at a1 a2 a3 a4 a5 b6 ⊢
  unfold mgB mgH
  simp only [List.append_assoc]
  rw [← b6, ← a5, ← a4, ← a3, ← a2, ← a1]
theorem mOk_bytes {xs : List Int} (hx : Bytes xs) (h : mOk xs = true) : mgB (mM xs) = xs ∧ okM (mM xs) = true ∧ mG xs = mM xs := by
  have h' := h
  simp only [mOk, Bool.and_eq_true, Bool.not_eq_true', decide_eq_true_eq] at h'
  have e := m_fwd hx h'.1.1
  rw [h'.1.2, List.drop_length, List.append_nil] at e
  exact ⟨e.symm, h'.2, if_pos h⟩
theorem t_fwd {xs : List Int} (hx : Bytes xs) {p : Nat} {f : Bool} (h : t7 xs p f = false) : f = false ∧ xs.drop p = txB (tM xs p f) ++ xs.drop (tE xs p f) ∧ tE xs p f ≤ xs.length := by
  obtain ⟨h6, b7, lb⟩ := blob_fwd hx (show fB (t6 xs p f) xs _ = false from h)
  obtain ⟨h5, l6⟩ := fU_fwd (show fU (t5 xs p f) xs _ 8 = false from h6)
  obtain ⟨h4, l5⟩ := fU_fwd (show fU (t4 xs p f) xs _ 32 = false from h5)
  obtain ⟨h3, l4⟩ := fU_fwd (show fU (t3 xs p f) xs _ 8 = false from h4)
  obtain ⟨h2, l3⟩ := fU_fwd (show fU (t2 xs p f) xs _ 8 = false from h3)
  obtain ⟨h1, l2⟩ := fU_fwd (show fU (t1 xs p f) xs _ 8 = false from h2)
  obtain ⟨h0, l1⟩ := fC_fwd (show fC f xs p 3 = false from h1)
  have a1 := nAt_fwd hx l1
  have a2 := nAt_fwd hx l2
  have a3 := nAt_fwd hx l3
  have a4 := nAt_fwd hx l4
  have a5 := w4_fwd hx l5
  have a6 := nAt_fwd hx l6
  have em : tM xs p f = ⟨nAt xs p, nAt xs (p + 8), nAt xs (p + 8 + 8), nAt xs (p + 8 + 8 + 8), w4 xs (p + 8 + 8 + 8 + 8), nAt xs (p + 8 + 8 + 8 + 8 + 32), bD false xs (p + 8 + 8 + 8 + 8 + 32 + 8)⟩ := by
    unfold tM
    rw [h1, h2, h3, h4, h5, h6, h, uV_false, uV_false, uV_false, uV_false, uV_false, wV_false]
  have ee : tE xs p f = p + 8 + 8 + 8 + 8 + 32 + 8 + 8 + (bD false xs (p + 8 + 8 + 8 + 8 + 32 + 8)).length := by unfold tE; rw [em]
  refine ⟨h0, ?_, by rw [ee]; exact lb⟩
  rw [ee, em]
  unfold txB
  simp only [List.append_assoc]
  rw [← b7, ← a6, ← a5, ← a4, ← a3, ← a2, ← a1]
theorem b_fwd {xs : List Int} (hx : Bytes xs) : ∀ i, (bIt xs i).2.2 = false → (bIt xs 0).2.2 = false ∧ (bIt xs i).1.length = i ∧ xs = (be8 (bEp xs) ++ (be8 (bN xs : Int) ++ ((bIt xs i).1.map txB).flatten)) ++ xs.drop (bIt xs i).2.1
  | 0, h => by
    have h' : fC (fU false xs 0 8) xs 8 8 = false := h
    obtain ⟨h1, l2⟩ := fC_fwd h'
    obtain ⟨_, l1⟩ := fU_fwd h1
    have a1 := nAt_fwd hx l1
    have a2 := nAt_fwd hx l2
    have e1 : bEp xs = nAt xs 0 := by
      show uV (fU false xs 0 8) xs 0 = _
      rw [h1]; rfl
    have e2 : (bN xs : Int) = nAt xs 8 := by
      have := (bN_le hx).2
      rw [← this]
      have h0 : (bIt xs 0).2.2 = false := h
      show uV (fC (fU false xs 0 8) xs 8 8) xs 8 = _
      rw [h']
      rfl
    refine ⟨h, rfl, ?_⟩
    rw [e1, e2]
    show xs = (be8 (nAt xs 0) ++ (be8 (nAt xs 8) ++ [])) ++ xs.drop 16
    rw [List.drop_zero, Nat.zero_add] at a1
    rw [List.append_nil, List.append_assoc, ← a2, ← a1]
  | i + 1, h => by
    have h' : t7 xs (bIt xs i).2.1 (bIt xs i).2.2 = false := h
    obtain ⟨h0, hd, hl⟩ := t_fwd hx h'
    obtain ⟨z, il, ih⟩ := b_fwd hx i h0
    refine ⟨z, by simp [bIt, il], ?_⟩
    have e : (bIt xs (i + 1)).1 = (bIt xs i).1 ++ [tM xs (bIt xs i).2.1 (bIt xs i).2.2] := rfl
    have e2 : (bIt xs (i + 1)).2.1 = tE xs (bIt xs i).2.1 (bIt xs i).2.2 := rfl
    rw [e, e2, List.map_append, List.flatten_append]
    rw [hd] at ih
    simpa [List.append_assoc] using ih
theorem bOk_bytes {xs : List Int} (hx : Bytes xs) (h : bOk xs = true) : baB (bEp xs) (bIt xs (bN xs)).1 (bIt xs (bN xs)).1.length = xs ∧ okB (bIt xs (bN xs)).1 = true := by
  have h' := h
  simp only [bOk, brOk, Bool.and_eq_true, Bool.not_eq_true', decide_eq_true_eq] at h'
  obtain ⟨_, l, e⟩ := b_fwd hx _ h'.1.1
  rw [h'.1.2, List.drop_length, List.append_nil] at e
  refine ⟨?_, h'.2⟩
  unfold baB
  rw [List.take_length, l]
  exact e.symm
end Go.Proofs.YtcpoaalhpjipaaaDoor
namespace Go.Proofs.YtcpoaalhpjipaaaDoor
set_option maxRecDepth 100000
open Go.RowKit

/-- A row in a block of more, of type T. -/
def RIn (w : World) (T : TypeId) (b : Nat) (pre row post : List Value) : Prop := w.heap[b]? = some (.cells (pre ++ (row ++ post)).toArray T (0, 0))
section
variable {w w' : World} {T : TypeId} {b : Nat} {pre row post : List Value}
theorem RIn.lt (h : RIn w T b pre row post) : b < w.heap.size := (Array.getElem?_eq_some_iff.1 h).1
theorem RIn.on (h : RIn w T b pre row post) (hb : Below w.heap.size w w') : RIn w' T b pre row post := by
  unfold RIn at h ⊢
  rw [hb.block _ (Array.getElem?_eq_some_iff.1 h).1]; exact h
theorem RIn.chg {K : List Nat} (h : RIn w T b pre row post) (hc : Chg w w' K) (hb : b ∉ K) : RIn w' T b pre row post := by
  unfold RIn at h ⊢
  rw [hc.block _ (Array.getElem?_eq_some_iff.1 h).1 hb]; exact h
theorem RIn.cell (h : RIn w T b pre row post) {i : Nat} {u : Value} (hu : row[i]? = some u) {o : Nat} (ho : o = pre.length) : w.cell? ⟨b, o + i, none⟩ = some u := by
  subst ho
  rw [Joins.cell_of_block h]
  have hi := (List.getElem?_eq_some_iff.1 hu).1
  simp only [List.getElem?_toArray]
  rw [List.getElem?_append_right (by omega), Nat.add_sub_cancel_left, List.getElem?_append_left hi]
  exact hu
theorem RIn.free (h : RIn w T b pre row post) (i : Nat) : w.frozen? ⟨b, i, none⟩ = false := Joins.unfrozen_of_block h i
theorem RIn.st (h : RIn w T b pre row post) {i : Nat} (hi : i < row.length) (v : Value) {o : Nat} (ho : o = pre.length) : RIn (w.setCell ⟨b, o + i, none⟩ v) T b pre (row.set i v) post := by
  subst ho
  unfold RIn at h ⊢
  rw [Joins.block_setCell (i := pre.length + i) h]
  congr 2
  apply Array.ext'
  simp only [Array.toList_setIfInBounds]
  rw [List.set_append_right _ _ (by omega), Nat.add_sub_cancel_left, List.set_append_left _ _ hi]
theorem RIn.off {e : TypeId} {l : Nat} {v : Value} {ys : List Value} (h : RIn w T b pre row post) (ho : w.ownsRow 0 e 1 v l ys) (ht : T ≠ e) : ∀ g, v.ownBlock = some g → g ∉ [b] := fun g hg hm => by
  obtain rfl : g = b := by simpa using hm
  exact own_ne ho h ht hg
end
/-- What bytes tell as a message, from a place on. -/
def q1 (xs : List Int) (p : Nat) (f : Bool) : Bool := fU f xs p 8
def q2 (xs : List Int) (p : Nat) (f : Bool) : Bool := fU (q1 xs p f) xs (p + 8) 8
def q3 (xs : List Int) (p : Nat) (f : Bool) : Bool := fU (q2 xs p f) xs (p + 8 + 8) 8
def q4 (xs : List Int) (p : Nat) (f : Bool) : Bool := fU (q3 xs p f) xs (p + 8 + 8 + 8) 32
def q5 (xs : List Int) (p : Nat) (f : Bool) : Bool := fU (q4 xs p f) xs (p + 8 + 8 + 8 + 32) 8
def q6 (xs : List Int) (p : Nat) (f : Bool) : Bool := fB (q5 xs p f) xs (p + 8 + 8 + 8 + 32 + 8)
def qM (xs : List Int) (p : Nat) (f : Bool) : Mg := ⟨uV (q1 xs p f) xs p, uV (q2 xs p f) xs (p + 8), uV (q3 xs p f) xs (p + 8 + 8), wV (q4 xs p f) xs (p + 8 + 8 + 8), uV (q5 xs p f) xs (p + 8 + 8 + 8 + 32), bD (q6 xs p f) xs (p + 8 + 8 + 8 + 32 + 8)⟩
def qE (xs : List Int) (p : Nat) (f : Bool) : Nat := p + 8 + 8 + 8 + 32 + 8 + 8 + (qM xs p f).data.length
theorem qM_ok {xs : List Int} (hx : Bytes xs) (p : Nat) (f : Bool) : (qM xs p f).ok := ⟨uV_bd hx _ _, uV_bd hx _ _, uV_bd hx _ _, wV_ok hx _ _, uV_bd hx _ _, bD_bytes hx _ _⟩
theorem qM_len (xs : List Int) (p : Nat) (f : Bool) : (qM xs p f).data.length ≤ 65536 := bD_len (q5 xs p f) xs _ (.inr trivial)

set_option maxHeartbeats 8000000 in
theorem Mgparse_in {w : World} {T : TypeId} {b p o pos : Nat} {v : Value} {xs : List Int} {f : Bool} {pre post : List Value} (hT : T ≠ 5) (hK : RIn w T b pre (mgRow mg0 none 0 0) post) (ho : o = pre.length) (hS : RSt w p v xs pos f) (hx : Bytes xs) (hbp : b ≠ p) :
    Calls Tryd.prog 110 #[.pointer (some ⟨b, o, none⟩), .pointer (some ⟨p, 0, none⟩)] w fun e w' => ∃ q k, e = .returned (.tuple #[]) ∧ RIn w' T b pre (mgRow (qM xs pos f) q (qM xs pos f).data.length k) post ∧ RSt w' p v xs (qE xs pos f) (q6 xs pos f) ∧ Rd w' (.slice q (qM xs pos f).data.length k) (qM xs pos f).data ∧ (∀ g, (Value.slice q (qM xs pos f).data.length k).ownBlock = some g → w.heap.size ≤ g) ∧ Chg w w' [b, p] := by
  have BX := Lib.hid hx
  have TT := Lib.hid hT
  have HO := Lib.hid ho
  have K0 := Lib.hid hK
  have S0 := Lib.hid hS
  have MM : Hid (qM xs pos f = ⟨uV (q1 xs pos f) xs (pos), uV (q2 xs pos f) xs (pos + 8), uV (q3 xs pos f) xs (pos + 8 + 8), wV (q4 xs pos f) xs (pos + 8 + 8 + 8), uV (q5 xs pos f) xs (pos + 8 + 8 + 8 + 32), bD (q6 xs pos f) xs (pos + 8 + 8 + 8 + 32 + 8)⟩) := rfl
  have ME : Hid (qE xs pos f = pos + 8 + 8 + 8 + 32 + 8 + 8 + (qM xs pos f).data.length) := rfl
  obtain ⟨f1, e1⟩ : ∃ f', q1 xs pos f = f' := ⟨_, rfl⟩
  obtain ⟨f2, e2⟩ : ∃ f', q2 xs pos f = f' := ⟨_, rfl⟩
  obtain ⟨f3, e3⟩ : ∃ f', q3 xs pos f = f' := ⟨_, rfl⟩
  obtain ⟨f4, e4⟩ : ∃ f', q4 xs pos f = f' := ⟨_, rfl⟩
  obtain ⟨f5, e5⟩ : ∃ f', q5 xs pos f = f' := ⟨_, rfl⟩
  obtain ⟨f6, e6⟩ : ∃ f', q6 xs pos f = f' := ⟨_, rfl⟩
  rw [e1, e2, e3, e4, e5, e6] at MM
  have d1 := Lib.hid (show fU f xs (pos) 8 = f1 from e1)
  have d2 := Lib.hid (show fU f1 xs (pos + 8) 8 = f2 by rw [← e1]; exact e2)
  have d3 := Lib.hid (show fU f2 xs (pos + 8 + 8) 8 = f3 by rw [← e2]; exact e3)
  have d4 := Lib.hid (show fU f3 xs (pos + 8 + 8 + 8) 32 = f4 by rw [← e3]; exact e4)
  have d5 := Lib.hid (show fU f4 xs (pos + 8 + 8 + 8 + 32) 8 = f5 by rw [← e4]; exact e5)
  have d6 := Lib.hid (show fB f5 xs (pos + 8 + 8 + 8 + 32 + 8) = f6 by rw [← e5]; exact e6)
  have E6x := Lib.hid e6
  obtain ⟨z1, h1⟩ : ∃ z, uV f1 xs (pos) = z := ⟨_, rfl⟩
  obtain ⟨z2, h2⟩ : ∃ z, uV f2 xs (pos + 8) = z := ⟨_, rfl⟩
  obtain ⟨z3, h3⟩ : ∃ z, uV f3 xs (pos + 8 + 8) = z := ⟨_, rfl⟩
  obtain ⟨z4, h4⟩ : ∃ z, wV f4 xs (pos + 8 + 8 + 8) = z := ⟨_, rfl⟩
  obtain ⟨z5, h5⟩ : ∃ z, uV f5 xs (pos + 8 + 8 + 8 + 32) = z := ⟨_, rfl⟩
  obtain ⟨D6, h6⟩ : ∃ z, bD f6 xs (pos + 8 + 8 + 8 + 32 + 8) = z := ⟨_, rfl⟩
  rw [h1, h2, h3, h4, h5, h6] at MM
  have Z1 := Lib.hid h1
  have Z2 := Lib.hid h2
  have Z3 := Lib.hid h3
  have Z4 := Lib.hid h4
  have Z5 := Lib.hid h5
  have Z6 := Lib.hid h6
  clear hT hK hS hx ho e1 e2 e3 e4 e5 e6 h1 h2 h3 h4 h5 h6
  go_enter Tryd.func110, Tryd.ntmps110
  go_wp2_with fail
  refine (Uint_st S0.out BX.out).mono ?_
  rintro e w1 ⟨rfl, hs, hc⟩
  rw [d1.out] at hs ⊢
  rw [Z1.out]
  have S1 := Lib.hid hs
  have K1 := Lib.hid (K0.out.chg hc (by simpa using hbp))
  have C1 : Hid (Chg w w1 [b, p]) := (hc.more (by simp))
  clear hs hc S0 K0
  go_wp2_with fail
  refine (Uint_st S1.out BX.out).mono ?_
  rintro e w2 ⟨rfl, hs, hc⟩
  rw [d2.out] at hs ⊢
  rw [Z2.out]
  have S2 := Lib.hid hs
  have K2 := Lib.hid (K1.out.chg hc (by simpa using hbp))
  have C2 : Hid (Chg w w2 [b, p]) := C1.out.trans (hc.more (by simp)) (fun x hx _ => hx)
  clear hs hc S1 K1 C1
  go_wp2_with fail
  refine (Uint_st S2.out BX.out).mono ?_
  rintro e w3 ⟨rfl, hs, hc⟩
  rw [d3.out] at hs ⊢
  rw [Z3.out]
  have S3 := Lib.hid hs
  have K3 := Lib.hid (K2.out.chg hc (by simpa using hbp))
  have C3 : Hid (Chg w w3 [b, p]) := C2.out.trans (hc.more (by simp)) (fun x hx _ => hx)
  clear hs hc S2 K2 C2
  have c0 : w3.cell? ⟨b, o, none⟩ = some (.int .u64 0) := K3.out.cell (i := 0) rfl HO.out
  have y0 := K3.out.free (o)
  have c1 : w3.cell? ⟨b, o + 1, none⟩ = some (.int .u64 0) := K3.out.cell (i := 1) rfl HO.out
  have y1 := K3.out.free (o + 1)
  have c2 : w3.cell? ⟨b, o + 2, none⟩ = some (.int .u64 0) := K3.out.cell (i := 2) rfl HO.out
  have y2 := K3.out.free (o + 2)
  have cs : Chg w3 (((w3.setCell ⟨b, o, none⟩ (.int .u64 z1)).setCell ⟨b, o + 1, none⟩ (.int .u64 z2)).setCell ⟨b, o + 2, none⟩ (.int .u64 z3)) [b] := ((((Chg.refl _ [b]).setCell (p := ⟨b, o, none⟩) (.inl (by simp)) _).setCell (p := ⟨b, o + 1, none⟩) (.inl (by simp)) _).setCell (p := ⟨b, o + 2, none⟩) (.inl (by simp)) _)
  have K4 : Hid (RIn (((w3.setCell ⟨b, o, none⟩ (.int .u64 z1)).setCell ⟨b, o + 1, none⟩ (.int .u64 z2)).setCell ⟨b, o + 2, none⟩ (.int .u64 z3)) T b pre (mgRow ⟨z1, z2, z3, ⟨0, 0, 0, 0⟩, 0, []⟩ none 0 0) post) := (RIn.st (i := 2) (RIn.st (i := 1) (RIn.st (i := 0) K3.out (by simp [mgRow]) (.int .u64 z1) HO.out) (by simp [mgRow]) (.int .u64 z2) HO.out) (by simp [mgRow]) (.int .u64 z3) HO.out)
  have S4 := Lib.hid (S3.out.chg2 cs (by simpa using Ne.symm hbp) (fun ho => K3.out.off ho TT.out))
  have C4 : Hid (Chg w (((w3.setCell ⟨b, o, none⟩ (.int .u64 z1)).setCell ⟨b, o + 1, none⟩ (.int .u64 z2)).setCell ⟨b, o + 2, none⟩ (.int .u64 z3)) [b, p]) := C3.out.trans (cs.more (by simp)) (fun x hx _ => hx)
  clear cs S3 C3 K3
  go_wp2_with fail
  clear c0 y0 c1 y1 c2 y2
  generalize (((w3.setCell ⟨b, o, none⟩ (.int .u64 z1)).setCell ⟨b, o + 1, none⟩ (.int .u64 z2)).setCell ⟨b, o + 2, none⟩ (.int .u64 z3)) = w4 at *
  refine (Wide_st S4.out BX.out).mono ?_
  rintro e w5 ⟨rfl, hs, hc⟩
  rw [d4.out] at hs ⊢
  rw [Z4.out]
  unfold w4v
  have S5 := Lib.hid hs
  have K5 := Lib.hid (K4.out.chg hc (by simpa using hbp))
  have C5 : Hid (Chg w w5 [b, p]) := C4.out.trans (hc.more (by simp)) (fun x hx _ => hx)
  clear hs hc S4 K4 C4
  have c3 : w5.cell? ⟨b, o + 3, none⟩ = some (.int .u64 0) := K5.out.cell (i := 3) rfl HO.out
  have y3 := K5.out.free (o + 3)
  have c4 : w5.cell? ⟨b, o + 4, none⟩ = some (.int .u64 0) := K5.out.cell (i := 4) rfl HO.out
  have y4 := K5.out.free (o + 4)
  have c5 : w5.cell? ⟨b, o + 5, none⟩ = some (.int .u64 0) := K5.out.cell (i := 5) rfl HO.out
  have y5 := K5.out.free (o + 5)
  have c6 : w5.cell? ⟨b, o + 6, none⟩ = some (.int .u64 0) := K5.out.cell (i := 6) rfl HO.out
  have y6 := K5.out.free (o + 6)
  have cs : Chg w5 ((((w5.setCell ⟨b, o + 3, none⟩ (.int .u64 z4.a)).setCell ⟨b, o + 4, none⟩ (.int .u64 z4.b)).setCell ⟨b, o + 5, none⟩ (.int .u64 z4.c)).setCell ⟨b, o + 6, none⟩ (.int .u64 z4.d)) [b] := (((((Chg.refl _ [b]).setCell (p := ⟨b, o + 3, none⟩) (.inl (by simp)) _).setCell (p := ⟨b, o + 4, none⟩) (.inl (by simp)) _).setCell (p := ⟨b, o + 5, none⟩) (.inl (by simp)) _).setCell (p := ⟨b, o + 6, none⟩) (.inl (by simp)) _)
  have K6 : Hid (RIn ((((w5.setCell ⟨b, o + 3, none⟩ (.int .u64 z4.a)).setCell ⟨b, o + 4, none⟩ (.int .u64 z4.b)).setCell ⟨b, o + 5, none⟩ (.int .u64 z4.c)).setCell ⟨b, o + 6, none⟩ (.int .u64 z4.d)) T b pre (mgRow ⟨z1, z2, z3, z4, 0, []⟩ none 0 0) post) := (RIn.st (i := 6) (RIn.st (i := 5) (RIn.st (i := 4) (RIn.st (i := 3) K5.out (by simp [mgRow]) (.int .u64 z4.a) HO.out) (by simp [mgRow]) (.int .u64 z4.b) HO.out) (by simp [mgRow]) (.int .u64 z4.c) HO.out) (by simp [mgRow]) (.int .u64 z4.d) HO.out)
  have S6 := Lib.hid (S5.out.chg2 cs (by simpa using Ne.symm hbp) (fun ho => K5.out.off ho TT.out))
  have C6 : Hid (Chg w ((((w5.setCell ⟨b, o + 3, none⟩ (.int .u64 z4.a)).setCell ⟨b, o + 4, none⟩ (.int .u64 z4.b)).setCell ⟨b, o + 5, none⟩ (.int .u64 z4.c)).setCell ⟨b, o + 6, none⟩ (.int .u64 z4.d)) [b, p]) := C5.out.trans (cs.more (by simp)) (fun x hx _ => hx)
  clear cs S5 C5 K5
  go_wp2_with fail
  clear c3 y3 c4 y4 c5 y5 c6 y6
  generalize ((((w5.setCell ⟨b, o + 3, none⟩ (.int .u64 z4.a)).setCell ⟨b, o + 4, none⟩ (.int .u64 z4.b)).setCell ⟨b, o + 5, none⟩ (.int .u64 z4.c)).setCell ⟨b, o + 6, none⟩ (.int .u64 z4.d)) = w6 at *
  refine (Uint_st S6.out BX.out).mono ?_
  rintro e w7 ⟨rfl, hs, hc⟩
  rw [d5.out] at hs ⊢
  rw [Z5.out]
  have S7 := Lib.hid hs
  have K7 := Lib.hid (K6.out.chg hc (by simpa using hbp))
  have C7 : Hid (Chg w w7 [b, p]) := C6.out.trans (hc.more (by simp)) (fun x hx _ => hx)
  clear hs hc S6 K6 C6
  have c7 : w7.cell? ⟨b, o + 7, none⟩ = some (.int .u64 0) := K7.out.cell (i := 7) rfl HO.out
  have y7 := K7.out.free (o + 7)
  have cs : Chg w7 (w7.setCell ⟨b, o + 7, none⟩ (.int .u64 z5)) [b] := ((Chg.refl _ [b]).setCell (p := ⟨b, o + 7, none⟩) (.inl (by simp)) _)
  have K8 : Hid (RIn (w7.setCell ⟨b, o + 7, none⟩ (.int .u64 z5)) T b pre (mgRow ⟨z1, z2, z3, z4, z5, []⟩ none 0 0) post) := (RIn.st (i := 7) K7.out (by simp [mgRow]) (.int .u64 z5) HO.out)
  have S8 := Lib.hid (S7.out.chg2 cs (by simpa using Ne.symm hbp) (fun ho => K7.out.off ho TT.out))
  have C8 : Hid (Chg w (w7.setCell ⟨b, o + 7, none⟩ (.int .u64 z5)) [b, p]) := C7.out.trans (cs.more (by simp)) (fun x hx _ => hx)
  clear cs S7 C7 K7
  go_wp2_with fail
  clear c7 y7
  generalize (w7.setCell ⟨b, o + 7, none⟩ (.int .u64 z5)) = w8 at *
  refine (Blob_st S8.out BX.out).mono ?_
  rintro e w9 ⟨q9, k9, rfl, hr, hf, hs, hc⟩
  rw [d6.out] at hr hf hs ⊢
  rw [Z6.out] at hr hf hs ⊢
  have hbx := K8.out.lt
  have S9 := Lib.hid hs
  have K9 := Lib.hid (K8.out.chg hc (by simpa using hbp))
  have C9 : Hid (Chg w w9 [b, p]) := C8.out.trans (hc.more (by simp)) (fun x hx _ => hx)
  have R9 : Hid (Rd (w9.setCell ⟨b, o + 8, none⟩ (.slice q9 D6.length k9)) (.slice q9 D6.length k9) D6) := hr.setCell (a := ⟨b, o + 8, none⟩) (fun e => by have h9 : w8.heap.size ≤ b := hf _ e; omega) _
  have F9 : Hid (∀ g, (Value.slice q9 D6.length k9).ownBlock = some g → w.heap.size ≤ g) := fun g hg => Nat.le_trans C8.out.size (hf g hg)
  clear hs hc S8 C8 K8 hr hf hbx
  have c8 : w9.cell? ⟨b, o + 8, none⟩ = some (.slice none 0 0) := K9.out.cell (i := 8) rfl HO.out
  have y8 := K9.out.free (o + 8)
  have cs : Chg w9 (w9.setCell ⟨b, o + 8, none⟩ (.slice q9 D6.length k9)) [b] := ((Chg.refl _ [b]).setCell (p := ⟨b, o + 8, none⟩) (.inl (by simp)) _)
  have KZ : Hid (RIn (w9.setCell ⟨b, o + 8, none⟩ (.slice q9 D6.length k9)) T b pre (mgRow ⟨z1, z2, z3, z4, z5, D6⟩ q9 D6.length k9) post) := (RIn.st (i := 8) K9.out (by simp [mgRow]) (.slice q9 D6.length k9) HO.out)
  have SZ := Lib.hid (S9.out.chg2 cs (by simpa using Ne.symm hbp) (fun ho => K9.out.off ho TT.out))
  have CZ : Hid (Chg w (w9.setCell ⟨b, o + 8, none⟩ (.slice q9 D6.length k9)) [b, p]) := C9.out.trans (cs.more (by simp)) (fun x hx _ => hx)
  clear cs S9 C9 K9
  go_wp2_with fail
  go_end0
  have MD : (qM xs pos f).data = D6 := by rw [MM.out]
  rw [ME.out, MD, E6x.out]
  exact ⟨q9, k9, rfl, by rw [MM.out]; exact KZ.out, SZ.out, R9.out, F9.out, CZ.out⟩

set_option maxHeartbeats 8000000 in
theorem Txparse_in {w : World} {T : TypeId} {b p o pos : Nat} {v : Value} {xs : List Int} {f : Bool} {pre post : List Value} (hT : T ≠ 5) (hK : RIn w T b pre (txRow tg0 none 0 0) post) (ho : o = pre.length) (hS : RSt w p v xs pos f) (hx : Bytes xs) (hbp : b ≠ p) :
    Calls Tryd.prog 120 #[.pointer (some ⟨b, o, none⟩), .pointer (some ⟨p, 0, none⟩)] w fun e w' => ∃ q k, e = .returned (.tuple #[]) ∧ RIn w' T b pre (txRow (tM xs pos f) q (tM xs pos f).data.length k) post ∧ RSt w' p v xs (tE xs pos f) (t7 xs pos f) ∧ Rd w' (.slice q (tM xs pos f).data.length k) (tM xs pos f).data ∧ (∀ g, (Value.slice q (tM xs pos f).data.length k).ownBlock = some g → w.heap.size ≤ g) ∧ Chg w w' [b, p] := by
  have BX := Lib.hid hx
  have TT := Lib.hid hT
  have HO := Lib.hid ho
  have K0 := Lib.hid hK
  have S0 := Lib.hid hS
  have MM : Hid (tM xs pos f = ⟨uV (t1 xs pos f) xs (pos), uV (t2 xs pos f) xs (pos + 8), uV (t3 xs pos f) xs (pos + 8 + 8), uV (t4 xs pos f) xs (pos + 8 + 8 + 8), wV (t5 xs pos f) xs (pos + 8 + 8 + 8 + 8), uV (t6 xs pos f) xs (pos + 8 + 8 + 8 + 8 + 32), bD (t7 xs pos f) xs (pos + 8 + 8 + 8 + 8 + 32 + 8)⟩) := rfl
  have ME : Hid (tE xs pos f = pos + 8 + 8 + 8 + 8 + 32 + 8 + 8 + (tM xs pos f).data.length) := rfl
  obtain ⟨f1, e1⟩ : ∃ f', t1 xs pos f = f' := ⟨_, rfl⟩
  obtain ⟨f2, e2⟩ : ∃ f', t2 xs pos f = f' := ⟨_, rfl⟩
  obtain ⟨f3, e3⟩ : ∃ f', t3 xs pos f = f' := ⟨_, rfl⟩
  obtain ⟨f4, e4⟩ : ∃ f', t4 xs pos f = f' := ⟨_, rfl⟩
  obtain ⟨f5, e5⟩ : ∃ f', t5 xs pos f = f' := ⟨_, rfl⟩
  obtain ⟨f6, e6⟩ : ∃ f', t6 xs pos f = f' := ⟨_, rfl⟩
  obtain ⟨f7, e7⟩ : ∃ f', t7 xs pos f = f' := ⟨_, rfl⟩
  rw [e1, e2, e3, e4, e5, e6, e7] at MM
  have d1 := Lib.hid (show fC f xs (pos) 3 = f1 from e1)
  have d2 := Lib.hid (show fU f1 xs (pos + 8) 8 = f2 by rw [← e1]; exact e2)
  have d3 := Lib.hid (show fU f2 xs (pos + 8 + 8) 8 = f3 by rw [← e2]; exact e3)
  have d4 := Lib.hid (show fU f3 xs (pos + 8 + 8 + 8) 8 = f4 by rw [← e3]; exact e4)
  have d5 := Lib.hid (show fU f4 xs (pos + 8 + 8 + 8 + 8) 32 = f5 by rw [← e4]; exact e5)
  have d6 := Lib.hid (show fU f5 xs (pos + 8 + 8 + 8 + 8 + 32) 8 = f6 by rw [← e5]; exact e6)
  have d7 := Lib.hid (show fB f6 xs (pos + 8 + 8 + 8 + 8 + 32 + 8) = f7 by rw [← e6]; exact e7)
  have E7x := Lib.hid e7
  obtain ⟨z1, h1⟩ : ∃ z, uV f1 xs (pos) = z := ⟨_, rfl⟩
  obtain ⟨z2, h2⟩ : ∃ z, uV f2 xs (pos + 8) = z := ⟨_, rfl⟩
  obtain ⟨z3, h3⟩ : ∃ z, uV f3 xs (pos + 8 + 8) = z := ⟨_, rfl⟩
  obtain ⟨z4, h4⟩ : ∃ z, uV f4 xs (pos + 8 + 8 + 8) = z := ⟨_, rfl⟩
  obtain ⟨z5, h5⟩ : ∃ z, wV f5 xs (pos + 8 + 8 + 8 + 8) = z := ⟨_, rfl⟩
  obtain ⟨z6, h6⟩ : ∃ z, uV f6 xs (pos + 8 + 8 + 8 + 8 + 32) = z := ⟨_, rfl⟩
  obtain ⟨D7, h7⟩ : ∃ z, bD f7 xs (pos + 8 + 8 + 8 + 8 + 32 + 8) = z := ⟨_, rfl⟩
  rw [h1, h2, h3, h4, h5, h6, h7] at MM
  have Z1 := Lib.hid h1
  have Z2 := Lib.hid h2
  have Z3 := Lib.hid h3
  have Z4 := Lib.hid h4
  have Z5 := Lib.hid h5
  have Z6 := Lib.hid h6
  have Z7 := Lib.hid h7
  clear hT hK hS hx ho e1 e2 e3 e4 e5 e6 e7 h1 h2 h3 h4 h5 h6 h7
  go_enter Tryd.func120, Tryd.ntmps120
  go_wp2_with fail
  refine (Count_det S0.out BX.out (most := 3) (by omega)).mono ?_
  rintro e w1 ⟨rfl, hs, hc⟩
  rw [d1.out] at hs ⊢
  rw [Z1.out]
  have S1 := Lib.hid hs
  have K1 := Lib.hid (K0.out.chg hc (by simpa using hbp))
  have C1 : Hid (Chg w w1 [b, p]) := (hc.more (by simp))
  clear hs hc S0 K0
  have c0 : w1.cell? ⟨b, o, none⟩ = some (.int .i64 0) := K1.out.cell (i := 0) rfl HO.out
  have y0 := K1.out.free (o)
  have cs : Chg w1 (w1.setCell ⟨b, o, none⟩ (.int .i64 z1)) [b] := ((Chg.refl _ [b]).setCell (p := ⟨b, o, none⟩) (.inl (by simp)) _)
  have K2 : Hid (RIn (w1.setCell ⟨b, o, none⟩ (.int .i64 z1)) T b pre (txRow ⟨z1, 0, 0, 0, ⟨0, 0, 0, 0⟩, 0, []⟩ none 0 0) post) := (RIn.st (i := 0) K1.out (by simp [txRow]) (.int .i64 z1) HO.out)
  have S2 := Lib.hid (S1.out.chg2 cs (by simpa using Ne.symm hbp) (fun ho => K1.out.off ho TT.out))
  have C2 : Hid (Chg w (w1.setCell ⟨b, o, none⟩ (.int .i64 z1)) [b, p]) := C1.out.trans (cs.more (by simp)) (fun x hx _ => hx)
  clear cs S1 C1 K1
  go_wp2_with fail
  clear c0 y0
  generalize (w1.setCell ⟨b, o, none⟩ (.int .i64 z1)) = w2 at *
  refine (Uint_st S2.out BX.out).mono ?_
  rintro e w3 ⟨rfl, hs, hc⟩
  rw [d2.out] at hs ⊢
  rw [Z2.out]
  have S3 := Lib.hid hs
  have K3 := Lib.hid (K2.out.chg hc (by simpa using hbp))
  have C3 : Hid (Chg w w3 [b, p]) := C2.out.trans (hc.more (by simp)) (fun x hx _ => hx)
  clear hs hc S2 K2 C2
  go_wp2_with fail
  refine (Uint_st S3.out BX.out).mono ?_
  rintro e w4 ⟨rfl, hs, hc⟩
  rw [d3.out] at hs ⊢
  rw [Z3.out]
  have S4 := Lib.hid hs
  have K4 := Lib.hid (K3.out.chg hc (by simpa using hbp))
  have C4 : Hid (Chg w w4 [b, p]) := C3.out.trans (hc.more (by simp)) (fun x hx _ => hx)
  clear hs hc S3 K3 C3
  go_wp2_with fail
  refine (Uint_st S4.out BX.out).mono ?_
  rintro e w5 ⟨rfl, hs, hc⟩
  rw [d4.out] at hs ⊢
  rw [Z4.out]
  have S5 := Lib.hid hs
  have K5 := Lib.hid (K4.out.chg hc (by simpa using hbp))
  have C5 : Hid (Chg w w5 [b, p]) := C4.out.trans (hc.more (by simp)) (fun x hx _ => hx)
  clear hs hc S4 K4 C4
  have c1 : w5.cell? ⟨b, o + 1, none⟩ = some (.int .u64 0) := K5.out.cell (i := 1) rfl HO.out
  have y1 := K5.out.free (o + 1)
  have c2 : w5.cell? ⟨b, o + 2, none⟩ = some (.int .u64 0) := K5.out.cell (i := 2) rfl HO.out
  have y2 := K5.out.free (o + 2)
  have c3 : w5.cell? ⟨b, o + 3, none⟩ = some (.int .u64 0) := K5.out.cell (i := 3) rfl HO.out
  have y3 := K5.out.free (o + 3)
  have cs : Chg w5 (((w5.setCell ⟨b, o + 1, none⟩ (.int .u64 z2)).setCell ⟨b, o + 2, none⟩ (.int .u64 z3)).setCell ⟨b, o + 3, none⟩ (.int .u64 z4)) [b] := ((((Chg.refl _ [b]).setCell (p := ⟨b, o + 1, none⟩) (.inl (by simp)) _).setCell (p := ⟨b, o + 2, none⟩) (.inl (by simp)) _).setCell (p := ⟨b, o + 3, none⟩) (.inl (by simp)) _)
  have K6 : Hid (RIn (((w5.setCell ⟨b, o + 1, none⟩ (.int .u64 z2)).setCell ⟨b, o + 2, none⟩ (.int .u64 z3)).setCell ⟨b, o + 3, none⟩ (.int .u64 z4)) T b pre (txRow ⟨z1, z2, z3, z4, ⟨0, 0, 0, 0⟩, 0, []⟩ none 0 0) post) := (RIn.st (i := 3) (RIn.st (i := 2) (RIn.st (i := 1) K5.out (by simp [txRow]) (.int .u64 z2) HO.out) (by simp [txRow]) (.int .u64 z3) HO.out) (by simp [txRow]) (.int .u64 z4) HO.out)
  have S6 := Lib.hid (S5.out.chg2 cs (by simpa using Ne.symm hbp) (fun ho => K5.out.off ho TT.out))
  have C6 : Hid (Chg w (((w5.setCell ⟨b, o + 1, none⟩ (.int .u64 z2)).setCell ⟨b, o + 2, none⟩ (.int .u64 z3)).setCell ⟨b, o + 3, none⟩ (.int .u64 z4)) [b, p]) := C5.out.trans (cs.more (by simp)) (fun x hx _ => hx)
  clear cs S5 C5 K5
  go_wp2_with fail
  clear c1 y1 c2 y2 c3 y3
  generalize (((w5.setCell ⟨b, o + 1, none⟩ (.int .u64 z2)).setCell ⟨b, o + 2, none⟩ (.int .u64 z3)).setCell ⟨b, o + 3, none⟩ (.int .u64 z4)) = w6 at *
  refine (Wide_st S6.out BX.out).mono ?_
  rintro e w7 ⟨rfl, hs, hc⟩
  rw [d5.out] at hs ⊢
  rw [Z5.out]
  unfold w4v
  have S7 := Lib.hid hs
  have K7 := Lib.hid (K6.out.chg hc (by simpa using hbp))
  have C7 : Hid (Chg w w7 [b, p]) := C6.out.trans (hc.more (by simp)) (fun x hx _ => hx)
  clear hs hc S6 K6 C6
  have c4 : w7.cell? ⟨b, o + 4, none⟩ = some (.int .u64 0) := K7.out.cell (i := 4) rfl HO.out
  have y4 := K7.out.free (o + 4)
  have c5 : w7.cell? ⟨b, o + 5, none⟩ = some (.int .u64 0) := K7.out.cell (i := 5) rfl HO.out
  have y5 := K7.out.free (o + 5)
  have c6 : w7.cell? ⟨b, o + 6, none⟩ = some (.int .u64 0) := K7.out.cell (i := 6) rfl HO.out
  have y6 := K7.out.free (o + 6)
  have c7 : w7.cell? ⟨b, o + 7, none⟩ = some (.int .u64 0) := K7.out.cell (i := 7) rfl HO.out
  have y7 := K7.out.free (o + 7)
  have cs : Chg w7 ((((w7.setCell ⟨b, o + 4, none⟩ (.int .u64 z5.a)).setCell ⟨b, o + 5, none⟩ (.int .u64 z5.b)).setCell ⟨b, o + 6, none⟩ (.int .u64 z5.c)).setCell ⟨b, o + 7, none⟩ (.int .u64 z5.d)) [b] := (((((Chg.refl _ [b]).setCell (p := ⟨b, o + 4, none⟩) (.inl (by simp)) _).setCell (p := ⟨b, o + 5, none⟩) (.inl (by simp)) _).setCell (p := ⟨b, o + 6, none⟩) (.inl (by simp)) _).setCell (p := ⟨b, o + 7, none⟩) (.inl (by simp)) _)
  have K8 : Hid (RIn ((((w7.setCell ⟨b, o + 4, none⟩ (.int .u64 z5.a)).setCell ⟨b, o + 5, none⟩ (.int .u64 z5.b)).setCell ⟨b, o + 6, none⟩ (.int .u64 z5.c)).setCell ⟨b, o + 7, none⟩ (.int .u64 z5.d)) T b pre (txRow ⟨z1, z2, z3, z4, z5, 0, []⟩ none 0 0) post) := (RIn.st (i := 7) (RIn.st (i := 6) (RIn.st (i := 5) (RIn.st (i := 4) K7.out (by simp [txRow]) (.int .u64 z5.a) HO.out) (by simp [txRow]) (.int .u64 z5.b) HO.out) (by simp [txRow]) (.int .u64 z5.c) HO.out) (by simp [txRow]) (.int .u64 z5.d) HO.out)
  have S8 := Lib.hid (S7.out.chg2 cs (by simpa using Ne.symm hbp) (fun ho => K7.out.off ho TT.out))
  have C8 : Hid (Chg w ((((w7.setCell ⟨b, o + 4, none⟩ (.int .u64 z5.a)).setCell ⟨b, o + 5, none⟩ (.int .u64 z5.b)).setCell ⟨b, o + 6, none⟩ (.int .u64 z5.c)).setCell ⟨b, o + 7, none⟩ (.int .u64 z5.d)) [b, p]) := C7.out.trans (cs.more (by simp)) (fun x hx _ => hx)
  clear cs S7 C7 K7
  go_wp2_with fail
  clear c4 y4 c5 y5 c6 y6 c7 y7
  generalize ((((w7.setCell ⟨b, o + 4, none⟩ (.int .u64 z5.a)).setCell ⟨b, o + 5, none⟩ (.int .u64 z5.b)).setCell ⟨b, o + 6, none⟩ (.int .u64 z5.c)).setCell ⟨b, o + 7, none⟩ (.int .u64 z5.d)) = w8 at *
  refine (Uint_st S8.out BX.out).mono ?_
  rintro e w9 ⟨rfl, hs, hc⟩
  rw [d6.out] at hs ⊢
  rw [Z6.out]
  have S9 := Lib.hid hs
  have K9 := Lib.hid (K8.out.chg hc (by simpa using hbp))
  have C9 : Hid (Chg w w9 [b, p]) := C8.out.trans (hc.more (by simp)) (fun x hx _ => hx)
  clear hs hc S8 K8 C8
  have c8 : w9.cell? ⟨b, o + 8, none⟩ = some (.int .u64 0) := K9.out.cell (i := 8) rfl HO.out
  have y8 := K9.out.free (o + 8)
  have cs : Chg w9 (w9.setCell ⟨b, o + 8, none⟩ (.int .u64 z6)) [b] := ((Chg.refl _ [b]).setCell (p := ⟨b, o + 8, none⟩) (.inl (by simp)) _)
  have K10 : Hid (RIn (w9.setCell ⟨b, o + 8, none⟩ (.int .u64 z6)) T b pre (txRow ⟨z1, z2, z3, z4, z5, z6, []⟩ none 0 0) post) := (RIn.st (i := 8) K9.out (by simp [txRow]) (.int .u64 z6) HO.out)
  have S10 := Lib.hid (S9.out.chg2 cs (by simpa using Ne.symm hbp) (fun ho => K9.out.off ho TT.out))
  have C10 : Hid (Chg w (w9.setCell ⟨b, o + 8, none⟩ (.int .u64 z6)) [b, p]) := C9.out.trans (cs.more (by simp)) (fun x hx _ => hx)
  clear cs S9 C9 K9
  go_wp2_with fail
  clear c8 y8
  generalize (w9.setCell ⟨b, o + 8, none⟩ (.int .u64 z6)) = w10 at *
  refine (Blob_st S10.out BX.out).mono ?_
  rintro e w11 ⟨q9, k9, rfl, hr, hf, hs, hc⟩
  rw [d7.out] at hr hf hs ⊢
  rw [Z7.out] at hr hf hs ⊢
  have hbx := K10.out.lt
  have S11 := Lib.hid hs
  have K11 := Lib.hid (K10.out.chg hc (by simpa using hbp))
  have C11 : Hid (Chg w w11 [b, p]) := C10.out.trans (hc.more (by simp)) (fun x hx _ => hx)
  have R11 : Hid (Rd (w11.setCell ⟨b, o + 9, none⟩ (.slice q9 D7.length k9)) (.slice q9 D7.length k9) D7) := hr.setCell (a := ⟨b, o + 9, none⟩) (fun e => by have h9 : w10.heap.size ≤ b := hf _ e; omega) _
  have F11 : Hid (∀ g, (Value.slice q9 D7.length k9).ownBlock = some g → w.heap.size ≤ g) := fun g hg => Nat.le_trans C10.out.size (hf g hg)
  clear hs hc S10 C10 K10 hr hf hbx
  have c9 : w11.cell? ⟨b, o + 9, none⟩ = some (.slice none 0 0) := K11.out.cell (i := 9) rfl HO.out
  have y9 := K11.out.free (o + 9)
  have cs : Chg w11 (w11.setCell ⟨b, o + 9, none⟩ (.slice q9 D7.length k9)) [b] := ((Chg.refl _ [b]).setCell (p := ⟨b, o + 9, none⟩) (.inl (by simp)) _)
  have KZ : Hid (RIn (w11.setCell ⟨b, o + 9, none⟩ (.slice q9 D7.length k9)) T b pre (txRow ⟨z1, z2, z3, z4, z5, z6, D7⟩ q9 D7.length k9) post) := (RIn.st (i := 9) K11.out (by simp [txRow]) (.slice q9 D7.length k9) HO.out)
  have SZ := Lib.hid (S11.out.chg2 cs (by simpa using Ne.symm hbp) (fun ho => K11.out.off ho TT.out))
  have CZ : Hid (Chg w (w11.setCell ⟨b, o + 9, none⟩ (.slice q9 D7.length k9)) [b, p]) := C11.out.trans (cs.more (by simp)) (fun x hx _ => hx)
  clear cs S11 C11 K11
  go_wp2_with fail
  go_end0
  have MD : (tM xs pos f).data = D7 := by rw [MM.out]
  rw [ME.out, MD, E7x.out]
  exact ⟨q9, k9, rfl, by rw [MM.out]; exact KZ.out, SZ.out, R11.out, F11.out, CZ.out⟩
end Go.Proofs.YtcpoaalhpjipaaaDoor
namespace Go.Proofs.YtcpoaalhpjipaaaDoor
set_option maxRecDepth 100000
open Go.RowKit

structure Inp where
  dep : Bool
  mint : W4
  m : Mg
  t : Tg
structure Inp.ok (x : Inp) : Prop where
  mint : D4 x.mint.a x.mint.b x.mint.c x.mint.d
  m : x.m.ok
  t : x.t.ok
def inp0 : Inp := ⟨false, ⟨0, 0, 0, 0⟩, mg0, tg0⟩
theorem inp0_ok : inp0.ok := ⟨⟨dg0, dg0, dg0, dg0⟩, mg0_ok, tg0_ok⟩
def inHd (x : Inp) : List Value := [.bool x.dep, .int .u64 x.mint.a, .int .u64 x.mint.b, .int .u64 x.mint.c, .int .u64 x.mint.d]
def inRow (x : Inp) (qm : Option Addr) (nm km : Nat) (qt : Option Addr) (nt kt : Nat) : List Value := inHd x ++ (mgRow x.m qm nm km ++ txRow x.t qt nt kt)
@[go_sem] theorem inRow_len (x : Inp) (qm : Option Addr) (nm km : Nat) (qt : Option Addr) (nt kt : Nat) : (inRow x qm nm km qt nt kt).length = 24 := rfl
theorem inRow_one (x : Inp) (qm : Option Addr) (nm km : Nat) (qt : Option Addr) (nt kt : Nat) : ∀ u ∈ (inRow x qm nm km qt nt kt), u.oneCell' = true := by
  intro u hu
  simp only [inRow, inHd, List.mem_append, List.mem_cons, List.not_mem_nil, or_false] at hu
  rcases hu with (rfl | rfl | rfl | rfl | rfl) | h | h
  · rfl
  · rfl
  · rfl
  · rfl
  · rfl
  · exact mgRow_one _ _ _ _ u h
  · exact txRow_one _ _ _ _ u h
/-- The block b holds an input. -/
def InAt (w : World) (b : Nat) (T : TypeId) (x : Inp) (qm : Option Addr) (nm km : Nat) (qt : Option Addr) (nt kt : Nat) : Prop := w.heap[b]? = some (.cells (inRow x qm nm km qt nt kt).toArray T (0, 0))
section
variable {w w' : World} {b : Nat} {T : TypeId} {x : Inp} {qm qt : Option Addr} {nm km nt kt : Nat}
theorem InAt.lt (h : InAt w b T x qm nm km qt nt kt) : b < w.heap.size := (Array.getElem?_eq_some_iff.1 h).1
theorem InAt.new (w : World) (T : TypeId) (x : Inp) (qm : Option Addr) (nm km : Nat) (qt : Option Addr) (nt kt : Nat) : InAt (w.alloc (.cells (inRow x qm nm km qt nt kt).toArray T)) w.heap.size T x qm nm km qt nt kt := heap_alloc_new w _
theorem InAt.on (h : InAt w b T x qm nm km qt nt kt) (hb : Below w.heap.size w w') : InAt w' b T x qm nm km qt nt kt := by
  unfold InAt at h ⊢
  rw [hb.block _ (Array.getElem?_eq_some_iff.1 h).1]; exact h
theorem InAt.chg {K : List Nat} (h : InAt w b T x qm nm km qt nt kt) (hc : Chg w w' K) (hb : b ∉ K) : InAt w' b T x qm nm km qt nt kt := by
  unfold InAt at h ⊢
  rw [hc.block _ (Array.getElem?_eq_some_iff.1 h).1 hb]; exact h
theorem InAt.row (h : InAt w b T x qm nm km qt nt kt) : rowOf w b 0 24 = (inRow x qm nm km qt nt kt) := by
  rw [rowOf_block h]; simp [inRow, inHd, mgRow, txRow]
theorem InAt.rowm (h : InAt w b T x qm nm km qt nt kt) : rowOf w b 5 9 = mgRow x.m qm nm km := by
  rw [rowOf_block h]; simp [inRow, inHd, mgRow, txRow]
theorem InAt.rowt (h : InAt w b T x qm nm km qt nt kt) : rowOf w b 14 10 = txRow x.t qt nt kt := by
  rw [rowOf_block h]; simp [inRow, inHd, mgRow, txRow]
theorem InAt.there (h : InAt w b T x qm nm km qt nt kt) : w.there b 0 24 := fun j hj => by
  refine ⟨?_, Joins.unfrozen_of_block h _⟩
  rw [cell_of_row _ _ _ _ _ _ h]
  simp only [List.getElem?_toArray]
  rw [List.getElem?_eq_getElem (by rw [inRow_len]; omega)]
  rfl
theorem InAt.frees (h : InAt w b T x qm nm km qt nt kt) (i : Nat) : w.frozen? ⟨b, i, none⟩ = false := Joins.unfrozen_of_block h i
theorem InAt.put {x' : Inp} {qm' qt' : Option Addr} {nm' km' nt' kt' : Nat} (h : InAt w b T x' qm' nm' km' qt' nt' kt') (x : Inp) (qm : Option Addr) (nm km : Nat) (qt : Option Addr) (nt kt : Nat) : InAt (w.setCells b 0 (inRow x qm nm km qt nt kt)) b T x qm nm km qt nt kt := by
  unfold InAt at h ⊢
  have := setCells_block (b := b) (t := T) (fr := (0, 0)) (inRow x qm nm km qt nt kt) (o := 0) (w := w) (pre := []) (mid := inRow x' qm' nm' km' qt' nt' kt') (post := []) (by simpa using h) rfl rfl
  simpa using this
theorem InAt.cells (h : InAt w b T x qm nm km qt nt kt) : w.cell? ⟨b, 0, none⟩ = some (.bool x.dep) ∧ w.cell? ⟨b, 1, none⟩ = some (.int .u64 x.mint.a) ∧ w.cell? ⟨b, 2, none⟩ = some (.int .u64 x.mint.b) ∧ w.cell? ⟨b, 3, none⟩ = some (.int .u64 x.mint.c) ∧ w.cell? ⟨b, 4, none⟩ = some (.int .u64 x.mint.d) :=
  ⟨(Joins.cell_of_block h 0).trans rfl, (Joins.cell_of_block h 1).trans rfl, (Joins.cell_of_block h 2).trans rfl, (Joins.cell_of_block h 3).trans rfl, (Joins.cell_of_block h 4).trans rfl⟩
end
@[go_sem ↓] theorem load24 (a : Addr) : loadCellsFrom a 0 24 #[] = rowLoad a 24 := rfl
@[go_sem] theorem run_storeCells_in {P : Program} (w : World) (b : Nat) (x : Inp) (qm : Option Addr) (nm km : Nat) (qt : Option Addr) (nt kt : Nat) (hw : w.there b 0 24) : (storeCells ⟨b, 0, none⟩ (inRow x qm nm km qt nt kt) 0).run P w = .ok () (w.setCells b 0 (inRow x qm nm km qt nt kt)) := by
  have := run_storeCells_cells (P := P) b 0 (inRow x qm nm km qt nt kt) 0 w (fun j hj => by rw [inRow_len] at hj; simpa using (hw j hj).1) (fun j hj => by rw [inRow_len] at hj; simpa using (hw j hj).2) (inRow_one x qm nm km qt nt kt)
  simpa using this
@[go_sem ↓] theorem Tryd.zero_inp (w : World) : (zeroValue 74).run Tryd.prog w = .ok (.agg (inRow inp0 none 0 0 none 0 0).toArray) w := by kernel_rfl
@[go_sem ↓] theorem Tryd.build_inp (ps : Array (Nat × Value)) : Instr.build 74 ps = rowBuild 74 ps := rfl
@[go_sem] theorem Tryd.run_in0p (w : World) : (rowBuild 74 #[]).run Tryd.prog w = .ok (.agg (inRow inp0 none 0 0 none 0 0).toArray) w := by unfold rowBuild; kernel_rfl
theorem Tryd.run_inp (w : World) (x : Inp) (qm : Option Addr) (nm km : Nat) (qt : Option Addr) (nt kt : Nat) : (rowBuild 74 #[(0, .bool x.dep), (1, .agg #[.int .u64 x.mint.a, .int .u64 x.mint.b, .int .u64 x.mint.c, .int .u64 x.mint.d]), (2, .agg (mgRow x.m qm nm km).toArray), (3, .agg (txRow x.t qt nt kt).toArray)]).run Tryd.prog w = .ok (.agg (inRow x qm nm km qt nt kt).toArray) w := by unfold rowBuild; kernel_rfl
@[go_sem ↓] theorem Tryd.zero_inr (w : World) : (zeroValue 70).run Tryd.prog w = .ok (.agg (inRow inp0 none 0 0 none 0 0).toArray) w := by kernel_rfl
@[go_sem ↓] theorem Tryd.build_inr (ps : Array (Nat × Value)) : Instr.build 70 ps = rowBuild 70 ps := rfl
@[go_sem] theorem Tryd.run_in0r (w : World) : (rowBuild 70 #[]).run Tryd.prog w = .ok (.agg (inRow inp0 none 0 0 none 0 0).toArray) w := by unfold rowBuild; kernel_rfl
theorem Tryd.run_inr (w : World) (x : Inp) (qm : Option Addr) (nm km : Nat) (qt : Option Addr) (nt kt : Nat) : (rowBuild 70 #[(0, .bool x.dep), (1, .agg #[.int .u64 x.mint.a, .int .u64 x.mint.b, .int .u64 x.mint.c, .int .u64 x.mint.d]), (2, .agg (mgRow x.m qm nm km).toArray), (3, .agg (txRow x.t qt nt kt).toArray)]).run Tryd.prog w = .ok (.agg (inRow x qm nm km qt nt kt).toArray) w := by unfold rowBuild; kernel_rfl

/-- Whether a Tx, a message is all zero. -/
def zT (t : Tg) (n : Nat) : Bool := ((((((t.kd == 0) && (t.fr == 0)) && (t.no == 0)) && (t.to == 0)) && zW t.val) && (t.gas == 0)) && ((n : Int) == 0)
def zM (m : Mg) (n : Nat) : Bool := (((((m.no == 0) && (m.se == 0)) && (m.ta == 0)) && zW m.val) && (m.gas == 0)) && ((n : Int) == 0)

set_option maxHeartbeats 4000000 in
theorem zeroTx_any {w : World} {t : Tg} {q : Option Addr} {n k : Nat} (_hn : n ≤ 140737488355328) :
    Calls Tryd.prog 74 #[.agg (txRow t q n k).toArray] w fun e w' => e = .returned (.bool (zT t n)) ∧ Below w.heap.size w w' := by
  have HB := Lib.hid ((Below.refl w.heap.size w).alloc (Nat.le_refl _) (.cells (txRow t q n k).toArray 72))
  have K := TxAt.new w 72 t q n k
  obtain ⟨c0, c1, c2, c3, c4, c5, c6, c7, c8, c9⟩ := K.cells
  have HWZ := fun W => Tryd.eq_wide0 W t.val
  unfold zT
  obtain ⟨zw, hzw⟩ : ∃ zw, zW t.val = zw := ⟨_, rfl⟩
  rw [hzw] at HWZ ⊢
  clear K hzw
  cases h0 : (t.kd == 0) with
  | false =>
    go_enter Tryd.func74, Tryd.ntmps74
    go_wp2_with fail
    go_ret
    exact ⟨rfl, HB.out⟩
  | true =>
    cases h1 : (t.fr == 0) with
    | false =>
      go_enter Tryd.func74, Tryd.ntmps74
      go_wp2_with fail
      go_ret
      exact ⟨rfl, HB.out⟩
    | true =>
      cases h2 : (t.no == 0) with
      | false =>
        go_enter Tryd.func74, Tryd.ntmps74
        go_wp2_with fail
        go_ret
        exact ⟨rfl, HB.out⟩
      | true =>
        cases h3 : (t.to == 0) with
        | false =>
          go_enter Tryd.func74, Tryd.ntmps74
          go_wp2_with fail
          go_ret
          exact ⟨rfl, HB.out⟩
        | true =>
          cases zw with
          | false =>
            go_enter Tryd.func74, Tryd.ntmps74
            go_wp2_with fail
            go_ret
            exact ⟨rfl, HB.out⟩
          | true =>
            cases h5 : (t.gas == 0) with
            | false =>
              go_enter Tryd.func74, Tryd.ntmps74
              go_wp2_with fail
              go_ret
              exact ⟨rfl, HB.out⟩
            | true =>
              cases h6 : ((n : Int) == 0) with
              | false =>
                go_enter Tryd.func74, Tryd.ntmps74
                go_wp2_with fail
                go_ret
                exact ⟨rfl, HB.out⟩
              | true =>
                go_enter Tryd.func74, Tryd.ntmps74
                go_wp2_with fail
                go_ret
                exact ⟨rfl, HB.out⟩

set_option maxHeartbeats 4000000 in
theorem zeroMessage_any {w : World} {t : Mg} {q : Option Addr} {n k : Nat} (_hn : n ≤ 140737488355328) :
    Calls Tryd.prog 75 #[.agg (mgRow t q n k).toArray] w fun e w' => e = .returned (.bool (zM t n)) ∧ Below w.heap.size w w' := by
  have HB := Lib.hid ((Below.refl w.heap.size w).alloc (Nat.le_refl _) (.cells (mgRow t q n k).toArray 30))
  have K := MgAt.new w 30 t q n k
  obtain ⟨c0, c1, c2, c3, c4, c5, c6, c7, c8⟩ := K.cells
  have HWZ := fun W => Tryd.eq_wide0 W t.val
  unfold zM
  obtain ⟨zw, hzw⟩ : ∃ zw, zW t.val = zw := ⟨_, rfl⟩
  rw [hzw] at HWZ ⊢
  clear K hzw
  cases h0 : (t.no == 0) with
  | false =>
    go_enter Tryd.func75, Tryd.ntmps75
    go_wp2_with fail
    go_ret
    exact ⟨rfl, HB.out⟩
  | true =>
    cases h1 : (t.se == 0) with
    | false =>
      go_enter Tryd.func75, Tryd.ntmps75
      go_wp2_with fail
      go_ret
      exact ⟨rfl, HB.out⟩
    | true =>
      cases h2 : (t.ta == 0) with
      | false =>
        go_enter Tryd.func75, Tryd.ntmps75
        go_wp2_with fail
        go_ret
        exact ⟨rfl, HB.out⟩
      | true =>
        cases zw with
        | false =>
          go_enter Tryd.func75, Tryd.ntmps75
          go_wp2_with fail
          go_ret
          exact ⟨rfl, HB.out⟩
        | true =>
          cases h4 : (t.gas == 0) with
          | false =>
            go_enter Tryd.func75, Tryd.ntmps75
            go_wp2_with fail
            go_ret
            exact ⟨rfl, HB.out⟩
          | true =>
            cases h5 : ((n : Int) == 0) with
            | false =>
              go_enter Tryd.func75, Tryd.ntmps75
              go_wp2_with fail
              go_ret
              exact ⟨rfl, HB.out⟩
            | true =>
              go_enter Tryd.func75, Tryd.ntmps75
              go_wp2_with fail
              go_ret
              exact ⟨rfl, HB.out⟩

/-- Which inputs may be. -/
def okI (x : Inp) : Bool := if x.dep = true then okM x.m && zT x.t x.t.data.length else (zW x.mint && zM x.m x.m.data.length) && okT x.t x.t.data.length
set_option maxHeartbeats 8000000 in
theorem RightInput_any {w : World} {x : Inp} {qm qt : Option Addr} {km kt : Nat} (ok : x.ok) (hm : x.m.data.length ≤ 140737488355328) (hr : Rd w (.slice qt x.t.data.length kt) x.t.data) (hn : x.t.data.length ≤ 140737488355328) :
    Calls Tryd.prog 54 #[.agg (inRow x qm x.m.data.length km qt x.t.data.length kt).toArray] w fun e w' => e = .returned (.bool (okI x)) ∧ Below w.heap.size w w' := by
  have b1 : Below w.heap.size w (w.alloc (.cells (inRow x qm x.m.data.length km qt x.t.data.length kt).toArray 74)) := (Below.refl w.heap.size w).alloc (Nat.le_refl _) _
  have HB := Lib.hid b1
  have K0 := Lib.hid (InAt.new w 74 x qm x.m.data.length km qt x.t.data.length kt)
  obtain ⟨c0, c1, c2, c3, c4⟩ := K0.out.cells
  have rm := K0.out.rowm
  have rt := K0.out.rowt
  have RM := Lib.hid (fun (W : World) => RightMessage_any (w := W) (q := qm) (k := km) ok.m.gas (show x.m.data.length ≤ maxLen by unfold maxLen; omega))
  have RT := Lib.hid (fun (W : World) (hb : Below w.heap.size w W) => RightTx_any (hr.on hb) ok.t.data hn)
  have ZT := Lib.hid (fun (W : World) => zeroTx_any (w := W) (t := x.t) (q := qt) (k := kt) hn)
  have ZM := Lib.hid (fun (W : World) => zeroMessage_any (w := W) (t := x.m) (q := qm) (k := km) hm)
  have HWZ := fun W => Tryd.eq_wide0 W x.mint
  unfold okI
  have EM : decide (x.m.gas ≤ 65536 ∧ x.m.data.length ≤ 64) = okM x.m := rfl
  obtain ⟨o1, h1⟩ : ∃ z, okM x.m = z := ⟨_, rfl⟩
  obtain ⟨o2, h2⟩ : ∃ z, zT x.t x.t.data.length = z := ⟨_, rfl⟩
  obtain ⟨o3, h3⟩ : ∃ z, zM x.m x.m.data.length = z := ⟨_, rfl⟩
  obtain ⟨o4, h4⟩ : ∃ z, okT x.t x.t.data.length = z := ⟨_, rfl⟩
  obtain ⟨zw, h5⟩ : ∃ zw, zW x.mint = zw := ⟨_, rfl⟩
  rw [h5] at HWZ ⊢
  rw [h1] at EM
  rw [EM] at RM
  rw [h2] at ZT ⊢
  rw [h3] at ZM ⊢
  rw [h4] at RT ⊢
  rw [h1]
  have lm := mgRow_len x.m qm x.m.data.length km
  have lt := txRow_len x.t qt x.t.data.length kt
  clear ok hm hr hn h1 h2 h3 h4 h5 b1 EM
  cases hd : x.dep with
  | true =>
    rw [hd] at c0
    go_enter Tryd.func54, Tryd.ntmps54
    go_wp2_with fail
    refine (RM.out _).mono ?_
    rintro e w2 ⟨rfl, hb2⟩
    have B2 := Lib.hid (HB.out.trans (hb2.mono HB.out.size))
    have rt := (K0.out.on hb2).rowt
    clear hb2 c0 c1 c2 c3 c4 rm
    cases o1 with
    | false =>
      go_wp2_with fail
      go_ret
      exact ⟨rfl, B2.out⟩
    | true =>
      go_wp2_with fail
      refine (ZT.out _).mono ?_
      rintro e w3 ⟨rfl, hb3⟩
      have B3 := Lib.hid (B2.out.trans (hb3.mono B2.out.size))
      clear hb3 rt
      go_wp2_with fail
      go_ret
      exact ⟨by simp, B3.out⟩
  | false =>
    rw [hd] at c0
    cases zw with
    | false =>
      go_enter Tryd.func54, Tryd.ntmps54
      go_wp2_with fail
      go_ret
      exact ⟨rfl, HB.out⟩
    | true =>
      go_enter Tryd.func54, Tryd.ntmps54
      go_wp2_with fail
      refine (ZM.out _).mono ?_
      rintro e w2 ⟨rfl, hb2⟩
      have B2 := Lib.hid (HB.out.trans (hb2.mono HB.out.size))
      have rt := (K0.out.on hb2).rowt
      clear hb2 c0 c1 c2 c3 c4 rm
      cases o3 with
      | false =>
        go_wp2_with fail
        go_ret
        exact ⟨rfl, B2.out⟩
      | true =>
        go_wp2_with fail
        refine (RT.out _ B2.out).mono ?_
        rintro e w3 ⟨rfl, hb3⟩
        have B3 := Lib.hid (B2.out.trans (hb3.mono B2.out.size))
        clear hb3 rt
        go_wp2_with fail
        go_ret
        exact ⟨by simp, B3.out⟩
end Go.Proofs.YtcpoaalhpjipaaaDoor
