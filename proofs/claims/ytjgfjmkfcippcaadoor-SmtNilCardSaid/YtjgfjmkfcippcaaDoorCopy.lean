/-
  Rows behind calls that change blocks; a copy into a row; put32 and put64.
-/
import Derived.Test.YtjgfjmkfcippcaaDoorRowK
import Derived.Test.YtjgfjmkfcippcaaDoorMem
import Derived.Laws.CopyOwn
namespace Go.Proofs.YtjgfjmkfcippcaaDoor
open Go.RowKit
set_option maxRecDepth 100000

theorem RwK.chg {k : IntKind} {w w' : World} {b n : Nat} {T : TypeId} {f : Nat → Int} {S : List Nat} (h : RwK k w b n T f) (hc : Chg w w' S) (hS : b ∉ S) : RwK k w' b n T f := by
  have l := h.lt
  obtain ⟨cs, h1, h2⟩ := h
  exact ⟨cs, by rw [hc.block b l hS]; exact h1, h2⟩
/-- The index function behind a copy. -/
def cpf (f : Nat → Int) (off : Nat) (xs : List Int) : Nat → Int := fun i => if off ≤ i ∧ i < off + xs.length then xs.getD (i - off) 0 else f i
theorem cpf_nil (f : Nat → Int) (off : Nat) : cpf f off [] = f := by
  funext i; unfold cpf; rw [if_neg (by simp only [List.length_nil]; omega)]
theorem cpf_in {f : Nat → Int} {off : Nat} {xs : List Int} {i : Nat} (h0 : off ≤ i) (h1 : i < off + xs.length) : cpf f off xs i = xs.getD (i - off) 0 := if_pos ⟨h0, h1⟩
theorem cpf_out {f : Nat → Int} {off : Nat} {xs : List Int} {i : Nat} (h : i < off ∨ off + xs.length ≤ i) : cpf f off xs i = f i := if_neg (by omega)
theorem list_ext_K {k : IntKind} {l : List Value} {n : Nat} {f : Nat → Int} (hl : l.length = n) (h : ∀ i, i < n → l[i]? = some (.int k (f i))) : l = (List.range n).map fun i => .int k (f i) := by
  apply List.ext_getElem?
  intro i
  by_cases hi : i < n
  · rw [h i hi]; simp [hi]
  · rw [List.getElem?_eq_none (by omega), List.getElem?_eq_none (by simp; omega)]

theorem wp_copy_rw {P : Program} {w : World} {o : Oper} {a : Act} {K : Act → World → Prop} {Q : Exit → Act → World → Prop} (d s : Operand) (dT sT : TypeId)
    (ho : o.op = .call { callee := .builtin .copy, args := #[d, s], argTypes := #[dT, sT] }) (elem : TypeId) (hu : P.underlying dT = some (.slice elem)) (hsz : (P.info? elem).map (·.size) = some 1)
    (dp sp : Option Addr) (dLen dCap sLen sCap : Nat) (hd : a.eval d = .slice dp dLen dCap) (hs : a.eval s = .slice sp sLen sCap)
    {k : IntKind} {g N : Nat} {T : TypeId} {f : Nat → Int} (hg : RwK k w g N T f) (off : Nat) (xs : List Int) (hn : xs.length = Nat.min sLen dLen)
    (hpos : 0 < xs.length → dp = some ⟨g, off, none⟩ ∧ ∃ ad, sp = some ad ∧ ∀ j, j < xs.length → w.cell? (ad.add j) = some (.int k (xs.getD j 0)))
    (hfit : off + xs.length ≤ N)
    (h : ∀ w', RwK k w' g N T (cpf f off xs) → Chg w w' [g] → K (a.put o.dst (goInt xs.length)) w') : o.wp P a w K Q := by
  by_cases h0 : xs.length = 0
  · obtain rfl : xs = [] := List.eq_nil_of_length_eq_zero h0
    have hrun := run_copy_none (P := P) w dT sT o.type elem dp sp dLen dCap sLen sCap hu hsz (by simpa using hn.symm)
    unfold Oper.wp
    simp [execOp, ho, resolve, invoke, builtin, hd, hs, hrun, Result.andThen]
    exact h w (by rw [cpf_nil]; exact hg) (Chg.refl _ _)
  · obtain ⟨rfl, ad, rfl, hsrc⟩ := hpos (by omega)
    obtain ⟨cs, h1, h2, h3⟩ := hg
    have hrun := run_copy_row (P := P) w dT sT o.type elem g off dLen dCap ad sLen sCap cs T (xs.map (Value.int k)) hu hsz h1 (by simpa using hn) (by
      intro j v hv
      simp only [List.getElem?_map, Option.map_eq_some_iff] at hv
      obtain ⟨x, hx, rfl⟩ := hv
      have hj : j < xs.length := (List.getElem?_eq_some_iff.1 hx).1
      rw [hsrc j hj, getD_of hx]) (by simpa [h2] using hfit) (by intro v hv; simp at hv; obtain ⟨x, _, rfl⟩ := hv; rfl)
    have e : (goInt (xs.map (Value.int k)).length) = goInt xs.length := by simp
    rw [e] at hrun
    unfold Oper.wp
    simp [execOp, ho, resolve, invoke, builtin, hd, hs, hrun, Result.andThen]
    refine h _ ⟨_, setRow_heap w g _ _ T _ h1, ?_, ?_⟩ ⟨rfl, rfl, rfl, by simp, fun j hj hn => ?_⟩
    · have : cs.toList.length = N := by simpa using h2
      simp; omega
    · intro i hi
      have hc : cs.toList.length = N := by simpa using h2
      have h3' : cs.toList[i]? = some (.int k (f i)) := by simpa using h3 i hi
      rw [List.getElem?_toArray]
      by_cases hlo : i < off
      · rw [List.getElem?_append_left (by simp; omega), List.getElem?_take, if_pos hlo, h3', cpf_out (Or.inl hlo)]
      · rw [List.getElem?_append_right (by simp; omega)]
        have e1 : (cs.toList.take off).length = off := by simp; omega
        rw [e1]
        by_cases hin : i < off + xs.length
        · rw [List.getElem?_append_left (by simp; omega), cpf_in (by omega) hin]
          simp only [List.getElem?_map]
          have : i - off < xs.length := by omega
          simp [List.getD, this]
        · rw [List.getElem?_append_right (by simp; omega), List.getElem?_drop, cpf_out (Or.inr (by omega)), ← h3']
          congr 1
          simp; omega
    · have hne : g ≠ j := fun e => hn (by simp [e])
      show (w.heap.modify g _)[j]? = _
      rw [Array.getElem?_modify, if_neg hne]
theorem wpList_copy_rw {P : Program} {w : World} {ops : Array Oper} {rest : List Oper} {o : Oper} {a : Act} {Q : Exit → Act → World → Prop} (hgd : o.guard = none) (d s : Operand) (dT sT : TypeId)
    (ho : o.op = .call { callee := .builtin .copy, args := #[d, s], argTypes := #[dT, sT] }) (elem : TypeId) (hu : P.underlying dT = some (.slice elem)) (hsz : (P.info? elem).map (·.size) = some 1)
    (dp sp : Option Addr) (dLen dCap sLen sCap : Nat) (hd : a.eval d = .slice dp dLen dCap) (hs : a.eval s = .slice sp sLen sCap)
    {k : IntKind} {g N : Nat} {T : TypeId} {f : Nat → Int} (hg : RwK k w g N T f) (off : Nat) (xs : List Int) (hn : xs.length = Nat.min sLen dLen)
    (hpos : 0 < xs.length → dp = some ⟨g, off, none⟩ ∧ ∃ ad, sp = some ad ∧ ∀ j, j < xs.length → w.cell? (ad.add j) = some (.int k (xs.getD j 0)))
    (hfit : off + xs.length ≤ N)
    (h : ∀ w', RwK k w' g N T (cpf f off xs) → Chg w w' [g] → wpList P ops Q rest (a.put o.dst (goInt xs.length)) w') :
    wpList P ops Q (o :: rest) a w :=
  wpList_plain hgd fun _ hK => wp_copy_rw d s dT sT ho elem hu hsz dp sp dLen dCap sLen sCap hd hs hg off xs hn hpos hfit fun w' h1 h2 => hK _ _ (h w' h1 h2)

/-- A word's four bytes, the highest first. -/
def put4 (f : Nat → Int) (off : Nat) (n : Int) : Nat → Int := updK (updK (updK (updK f off (n / 16777216 % 256)) (off + 1) (n / 65536 % 256)) (off + 2) (n / 256 % 256)) (off + 3) (n % 256)
def put8 (f : Nat → Int) (off : Nat) (n : Int) : Nat → Int := put4 (put4 f off (n / 4294967296 % 4294967296)) (off + 4) (n % 4294967296)
theorem put4_out {f : Nat → Int} {off : Nat} (n : Int) {i : Nat} (h : i < off ∨ off + 4 ≤ i) : put4 f off n i = f i := by
  unfold put4
  rw [updK_ne _ _ (by omega), updK_ne _ _ (by omega), updK_ne _ _ (by omega), updK_ne _ _ (by omega)]
theorem put4_0 (f : Nat → Int) (off : Nat) (n : Int) : put4 f off n off = n / 16777216 % 256 := by
  unfold put4
  rw [updK_ne _ _ (by omega), updK_ne _ _ (by omega), updK_ne _ _ (by omega), updK_same]
theorem put4_1 (f : Nat → Int) (off : Nat) (n : Int) : put4 f off n (off + 1) = n / 65536 % 256 := by
  unfold put4
  rw [updK_ne _ _ (by omega), updK_ne _ _ (by omega), updK_same]
theorem put4_2 (f : Nat → Int) (off : Nat) (n : Int) : put4 f off n (off + 2) = n / 256 % 256 := by
  unfold put4
  rw [updK_ne _ _ (by omega), updK_same]
theorem put4_3 (f : Nat → Int) (off : Nat) (n : Int) : put4 f off n (off + 3) = n % 256 := by
  unfold put4
  rw [updK_same]
theorem put8_out {f : Nat → Int} {off : Nat} (n : Int) {i : Nat} (h : i < off ∨ off + 8 ≤ i) : put8 f off n i = f i := by
  unfold put8
  rw [put4_out _ (by omega), put4_out _ (by omega)]
theorem put8_in (f : Nat → Int) (off : Nat) (n : Int) {k : Nat} (h : k < 8) : put8 f off n (off + k) = (be8 n).getD k 0 := by
  unfold put8
  have e : k = 0 ∨ k = 1 ∨ k = 2 ∨ k = 3 ∨ k = 4 ∨ k = 5 ∨ k = 6 ∨ k = 7 := by omega
  rcases e with rfl | rfl | rfl | rfl | rfl | rfl | rfl | rfl
  · rw [put4_out _ (by omega), Nat.add_zero, put4_0]; simp [be8] <;> omega
  · rw [put4_out _ (by omega), put4_1]; simp [be8] <;> omega
  · rw [put4_out _ (by omega), put4_2]; simp [be8] <;> omega
  · rw [put4_out _ (by omega), put4_3]; simp [be8] <;> omega
  · rw [put4_0]; simp [be8] <;> omega
  · rw [show off + 5 = off + 4 + 1 by omega, put4_1]; simp [be8] <;> omega
  · rw [show off + 6 = off + 4 + 2 by omega, put4_2]; simp [be8] <;> omega
  · rw [show off + 7 = off + 4 + 3 by omega, put4_3]; simp [be8] <;> omega

set_option maxHeartbeats 1000000 in
theorem put32_any {w : World} {b N : Nat} {T : TypeId} {f : Nat → Int} (h : RwK .u8 w b N T f) {off len cap : Nat} (hl : 4 ≤ len) (ho : off + 4 ≤ N) (n : Int) :
    Calls Tryd.prog 95 #[.slice (some ⟨b, off, none⟩) len cap, .int .u32 n] w fun e w' => e = .returned (.tuple #[]) ∧ RwK .u8 w' b N T (put4 f off n) ∧ Chg w w' [b] := by
  have c0 := h.cell off (by omega)
  have c1 := h.cell (off + 1) (by omega)
  have c2 := h.cell (off + 2) (by omega)
  have c3 := h.cell (off + 3) (by omega)
  have f0 := h.free off
  have f1 := h.free (off + 1)
  have f2 := h.free (off + 2)
  have f3 := h.free (off + 3)
  have H := Lib.hid (And.intro ((((h.store (j := off) (by omega) (n / 16777216 % 256)).store (j := off + 1) (by omega) (n / 65536 % 256)).store (j := off + 2) (by omega) (n / 256 % 256)).store (j := off + 3) (by omega) (n % 256))
    ((((((Chg.refl w [b]).setCell (p := ⟨b, off, none⟩) (.inl (by simp)) (.int .u8 (n / 16777216 % 256))).setCell (p := ⟨b, off + 1, none⟩) (.inl (by simp)) (.int .u8 (n / 65536 % 256))).setCell (p := ⟨b, off + 2, none⟩) (.inl (by simp)) (.int .u8 (n / 256 % 256))).setCell (p := ⟨b, off + 3, none⟩) (.inl (by simp)) (.int .u8 (n % 256)))))
  clear h
  go_enter Tryd.func95, Tryd.ntmps95
  go_wp2_with fail
  go_end0
  exact ⟨rfl, H.out⟩

set_option maxHeartbeats 1000000 in
theorem put64_any {w : World} {b N : Nat} {T : TypeId} {f : Nat → Int} (h : RwK .u8 w b N T f) {off len cap : Nat} (hl : 8 ≤ len) (hcap : len ≤ cap) (ho : off + 8 ≤ N) (n : Int) :
    Calls Tryd.prog 96 #[.slice (some ⟨b, off, none⟩) len cap, .int .u64 n] w fun e w' => e = .returned (.tuple #[]) ∧ RwK .u8 w' b N T (put8 f off n) ∧ Chg w w' [b] := by
  have H := Lib.hid h
  clear h
  go_enter Tryd.func96, Tryd.ntmps96
  go_wp2_with fail
  refine (put32_any H.out (by omega) (by omega) _).mono ?_
  rintro e w1 ⟨rfl, h1, k1⟩
  have H1 := Lib.hid h1
  have K1 := Lib.hid k1
  clear h1 k1
  go_wp2_with fail
  refine (put32_any H1.out (by omega) (by omega) _).mono ?_
  rintro e w2 ⟨rfl, h2, k2⟩
  have H2 := Lib.hid h2
  have K2 := Lib.hid (K1.out.trans k2 (fun _ h _ => h))
  clear h2 k2
  go_wp2_with fail
  go_end0
  exact ⟨rfl, H2.out, K2.out⟩
end Go.Proofs.YtjgfjmkfcippcaaDoor
