/-
  Rows behind calls that change blocks; a copy into a row; put32 and put64.; Lists of slices of bytes; the bytes of blobs. Copies out of a string.; math/bits.RotateLeft32, walked.; SHA-256, plain, as the program's walk spells it.; SHA-256, plain: the padding, the blocks, the digest.; The walk of digest.end.; The walk of digest.mix.; A law for '==' on arrays of integers, of whatever program.; Rows of cells in the midst of a block, as a walk reads and writes them; a hash's cells; '==' on hashes.
-/
import Derived.Laws.CopyOwn
import Derived.Lib.BufferWrite
import Derived.OwnWalk
import Derived.WalkSmall
import Derived.Test.YtebeacejlkiglaaDoorRows
import Derived.WalkKit
import Derived.DeepKeys3
import Derived.Deep.MidRow
import Derived.Deep.WholeRow
import Derived.Lib.Hide
import Derived.Lib.SmallJoins
import Derived.StillTailTactics
import Derived.BigQuiet
import Derived.Deep.QuietTactic
import Derived.Test.YtebeacejlkiglaaDoorMa1
import Derived.Test.YtebeacejlkiglaaDoorMa2
namespace Go.Proofs.YtebeacejlkiglaaDoor
open Go.RowKit
set_option maxRecDepth 100000

theorem RwK.chg {k : IntKind} {w w' : World} {b n : Nat} {T : TypeId} {f : Nat → Int} {S : List Nat} (h : RwK k w b n T f) (hc : Chg w w' S) (hS : b ∉ S) : RwK k w' b n T f := by
  have l := h.lt
  obtain ⟨cs, h1, h2⟩ := h
  exact ⟨cs, by rw [hc.block b l hS]; exact h1, h2⟩
/-- The index function behind a copy. -/
def cpf (f : Nat → Int) (off : Nat) (xs : List Int) : Nat → Int := fun i => if off ≤ i ∧ i < off + xs.length then xs.getD (i - off) 0 else f i
theorem cpf_nil (f : Nat → Int) (off : Nat) : cpf f off [] = f := by
  funext i; unfold cpf; rw [if_neg (by simp only [List.length_nil]; omega)]
theorem cpf_in {f : Nat → Int} {off : Nat} {xs : List Int} {i : Nat} (h0 : off ≤ i) (h1 : i < off + xs.length) : cpf f off xs i = xs.getD (i - off) 0 := if_pos ⟨h0, h1⟩
theorem cpf_out {f : Nat → Int} {off : Nat} {xs : List Int} {i : Nat} (h : i < off ∨ off + xs.length ≤ i) : cpf f off xs i = f i := if_neg (by omega)
theorem list_ext_K {k : IntKind} {l : List Value} {n : Nat} {f : Nat → Int} (hl : l.length = n) (h : ∀ i, i < n → l[i]? = some (.int k (f i))) : l = (List.range n).map fun i => .int k (f i) := by
  apply List.ext_getElem?
  intro i
  by_cases hi : i < n
  · rw [h i hi]; simp [hi]
  · rw [List.getElem?_eq_none (by omega), List.getElem?_eq_none (by simp; omega)]

theorem wp_copy_rw {P : Program} {w : World} {o : Oper} {a : Act} {K : Act → World → Prop} {Q : Exit → Act → World → Prop} (d s : Operand) (dT sT : TypeId)
    (ho : o.op = .call { callee := .builtin .copy, args := #[d, s], argTypes := #[dT, sT] }) (elem : TypeId) (hu : P.underlying dT = some (.slice elem)) (hsz : (P.info? elem).map (·.size) = some 1)
    (dp sp : Option Addr) (dLen dCap sLen sCap : Nat) (hd : a.eval d = .slice dp dLen dCap) (hs : a.eval s = .slice sp sLen sCap)
    {k : IntKind} {g N : Nat} {T : TypeId} {f : Nat → Int} (hg : RwK k w g N T f) (off : Nat) (xs : List Int) (hn : xs.length = Nat.min sLen dLen)
    (hpos : 0 < xs.length → dp = some ⟨g, off, none⟩ ∧ ∃ ad, sp = some ad ∧ ∀ j, j < xs.length → w.cell? (ad.add j) = some (.int k (xs.getD j 0)))
    (hfit : off + xs.length ≤ N)
    (h : ∀ w', RwK k w' g N T (cpf f off xs) → Chg w w' [g] → K (a.put o.dst (goInt xs.length)) w') : o.wp P a w K Q := by
  by_cases h0 : xs.length = 0
  · obtain rfl : xs = [] := List.eq_nil_of_length_eq_zero h0
    have hrun := run_copy_none (P := P) w dT sT o.type elem dp sp dLen dCap sLen sCap hu hsz (by simpa using hn.symm)
    unfold Oper.wp
    simp [execOp, ho, resolve, invoke, builtin, hd, hs, hrun, Result.andThen]
    exact h w (by rw [cpf_nil]; exact hg) (Chg.refl _ _)
  · obtain ⟨rfl, ad, rfl, hsrc⟩ := hpos (by omega)
    obtain ⟨cs, h1, h2, h3⟩ := hg
    have hrun := run_copy_row (P := P) w dT sT o.type elem g off dLen dCap ad sLen sCap cs T (xs.map (Value.int k)) hu hsz h1 (by simpa using hn) (by
      intro j v hv
      simp only [List.getElem?_map, Option.map_eq_some_iff] at hv
      obtain ⟨x, hx, rfl⟩ := hv
      have hj : j < xs.length := (List.getElem?_eq_some_iff.1 hx).1
      rw [hsrc j hj, getD_of hx]) (by simpa [h2] using hfit) (by intro v hv; simp at hv; obtain ⟨x, _, rfl⟩ := hv; rfl)
    have e : (goInt (xs.map (Value.int k)).length) = goInt xs.length := by simp
    rw [e] at hrun
    unfold Oper.wp
    simp [execOp, ho, resolve, invoke, builtin, hd, hs, hrun, Result.andThen]
    refine h _ ⟨_, setRow_heap w g _ _ T _ h1, ?_, ?_⟩ ⟨rfl, rfl, rfl, by simp, fun j hj hn => ?_⟩
    · have : cs.toList.length = N := by simpa using h2
      simp; omega
    · intro i hi
      have hc : cs.toList.length = N := by simpa using h2
      have h3' : cs.toList[i]? = some (.int k (f i)) := by simpa using h3 i hi
      rw [List.getElem?_toArray]
      by_cases hlo : i < off
      · rw [List.getElem?_append_left (by simp; omega), List.getElem?_take, if_pos hlo, h3', cpf_out (Or.inl hlo)]
      · rw [List.getElem?_append_right (by simp; omega)]
        have e1 : (cs.toList.take off).length = off := by simp; omega
        rw [e1]
        by_cases hin : i < off + xs.length
        · rw [List.getElem?_append_left (by simp; omega), cpf_in (by omega) hin]
          simp only [List.getElem?_map]
          have : i - off < xs.length := by omega
          simp [List.getD, this]
        · rw [List.getElem?_append_right (by simp; omega), List.getElem?_drop, cpf_out (Or.inr (by omega)), ← h3']
          congr 1
          simp; omega
    · have hne : g ≠ j := fun e => hn (by simp [e])
      show (w.heap.modify g _)[j]? = _
      rw [Array.getElem?_modify, if_neg hne]
theorem wpList_copy_rw {P : Program} {w : World} {ops : Array Oper} {rest : List Oper} {o : Oper} {a : Act} {Q : Exit → Act → World → Prop} (hgd : o.guard = none) (d s : Operand) (dT sT : TypeId)
    (ho : o.op = .call { callee := .builtin .copy, args := #[d, s], argTypes := #[dT, sT] }) (elem : TypeId) (hu : P.underlying dT = some (.slice elem)) (hsz : (P.info? elem).map (·.size) = some 1)
    (dp sp : Option Addr) (dLen dCap sLen sCap : Nat) (hd : a.eval d = .slice dp dLen dCap) (hs : a.eval s = .slice sp sLen sCap)
    {k : IntKind} {g N : Nat} {T : TypeId} {f : Nat → Int} (hg : RwK k w g N T f) (off : Nat) (xs : List Int) (hn : xs.length = Nat.min sLen dLen)
    (hpos : 0 < xs.length → dp = some ⟨g, off, none⟩ ∧ ∃ ad, sp = some ad ∧ ∀ j, j < xs.length → w.cell? (ad.add j) = some (.int k (xs.getD j 0)))
    (hfit : off + xs.length ≤ N)
    (h : ∀ w', RwK k w' g N T (cpf f off xs) → Chg w w' [g] → wpList P ops Q rest (a.put o.dst (goInt xs.length)) w') :
    wpList P ops Q (o :: rest) a w :=
  wpList_plain hgd fun _ hK => wp_copy_rw d s dT sT ho elem hu hsz dp sp dLen dCap sLen sCap hd hs hg off xs hn hpos hfit fun w' h1 h2 => hK _ _ (h w' h1 h2)

/-- A word's four bytes, the highest first. -/
def put4 (f : Nat → Int) (off : Nat) (n : Int) : Nat → Int := updK (updK (updK (updK f off (n / 16777216 % 256)) (off + 1) (n / 65536 % 256)) (off + 2) (n / 256 % 256)) (off + 3) (n % 256)
def put8 (f : Nat → Int) (off : Nat) (n : Int) : Nat → Int := put4 (put4 f off (n / 4294967296 % 4294967296)) (off + 4) (n % 4294967296)
theorem put4_out {f : Nat → Int} {off : Nat} (n : Int) {i : Nat} (h : i < off ∨ off + 4 ≤ i) : put4 f off n i = f i := by
  unfold put4
  rw [updK_ne _ _ (by omega), updK_ne _ _ (by omega), updK_ne _ _ (by omega), updK_ne _ _ (by omega)]
theorem put4_0 (f : Nat → Int) (off : Nat) (n : Int) : put4 f off n off = n / 16777216 % 256 := by
  unfold put4
  rw [updK_ne _ _ (by omega), updK_ne _ _ (by omega), updK_ne _ _ (by omega), updK_same]
theorem put4_1 (f : Nat → Int) (off : Nat) (n : Int) : put4 f off n (off + 1) = n / 65536 % 256 := by
  unfold put4
  rw [updK_ne _ _ (by omega), updK_ne _ _ (by omega), updK_same]
theorem put4_2 (f : Nat → Int) (off : Nat) (n : Int) : put4 f off n (off + 2) = n / 256 % 256 := by
  unfold put4
  rw [updK_ne _ _ (by omega), updK_same]
theorem put4_3 (f : Nat → Int) (off : Nat) (n : Int) : put4 f off n (off + 3) = n % 256 := by
  unfold put4
  rw [updK_same]
theorem put8_out {f : Nat → Int} {off : Nat} (n : Int) {i : Nat} (h : i < off ∨ off + 8 ≤ i) : put8 f off n i = f i := by
  unfold put8
  rw [put4_out _ (by omega), put4_out _ (by omega)]
theorem put8_in (f : Nat → Int) (off : Nat) (n : Int) {k : Nat} (h : k < 8) : put8 f off n (off + k) = (be8 n).getD k 0 := by
  unfold put8
  have e : k = 0 ∨ k = 1 ∨ k = 2 ∨ k = 3 ∨ k = 4 ∨ k = 5 ∨ k = 6 ∨ k = 7 := by omega
  rcases e with rfl | rfl | rfl | rfl | rfl | rfl | rfl | rfl
  · rw [put4_out _ (by omega), Nat.add_zero, put4_0]; simp [be8] <;> omega
  · rw [put4_out _ (by omega), put4_1]; simp [be8] <;> omega
  · rw [put4_out _ (by omega), put4_2]; simp [be8] <;> omega
  · rw [put4_out _ (by omega), put4_3]; simp [be8] <;> omega
  · rw [put4_0]; simp [be8] <;> omega
  · rw [show off + 5 = off + 4 + 1 by omega, put4_1]; simp [be8] <;> omega
  · rw [show off + 6 = off + 4 + 2 by omega, put4_2]; simp [be8] <;> omega
  · rw [show off + 7 = off + 4 + 3 by omega, put4_3]; simp [be8] <;> omega

set_option maxHeartbeats 1000000 in
theorem put32_any {w : World} {b N : Nat} {T : TypeId} {f : Nat → Int} (h : RwK .u8 w b N T f) {off len cap : Nat} (hl : 4 ≤ len) (ho : off + 4 ≤ N) (n : Int) :
    Calls Tryd.prog 82 #[.slice (some ⟨b, off, none⟩) len cap, .int .u32 n] w fun e w' => e = .returned (.tuple #[]) ∧ RwK .u8 w' b N T (put4 f off n) ∧ Chg w w' [b] := by
  have c0 := h.cell off (by omega)
  have c1 := h.cell (off + 1) (by omega)
  have c2 := h.cell (off + 2) (by omega)
  have c3 := h.cell (off + 3) (by omega)
  have f0 := h.free off
  have f1 := h.free (off + 1)
  have f2 := h.free (off + 2)
  have f3 := h.free (off + 3)
  have H := Lib.hid (And.intro ((((h.store (j := off) (by omega) (n / 16777216 % 256)).store (j := off + 1) (by omega) (n / 65536 % 256)).store (j := off + 2) (by omega) (n / 256 % 256)).store (j := off + 3) (by omega) (n % 256))
    ((((((Chg.refl w [b]).setCell (p := ⟨b, off, none⟩) (.inl (by simp)) (.int .u8 (n / 16777216 % 256))).setCell (p := ⟨b, off + 1, none⟩) (.inl (by simp)) (.int .u8 (n / 65536 % 256))).setCell (p := ⟨b, off + 2, none⟩) (.inl (by simp)) (.int .u8 (n / 256 % 256))).setCell (p := ⟨b, off + 3, none⟩) (.inl (by simp)) (.int .u8 (n % 256)))))
  clear h
  go_enter Tryd.func82, Tryd.ntmps82
  go_wp2_with fail
  go_end0
  exact ⟨rfl, H.out⟩

set_option maxHeartbeats 1000000 in
theorem put64_any {w : World} {b N : Nat} {T : TypeId} {f : Nat → Int} (h : RwK .u8 w b N T f) {off len cap : Nat} (hl : 8 ≤ len) (hcap : len ≤ cap) (ho : off + 8 ≤ N) (n : Int) :
    Calls Tryd.prog 83 #[.slice (some ⟨b, off, none⟩) len cap, .int .u64 n] w fun e w' => e = .returned (.tuple #[]) ∧ RwK .u8 w' b N T (put8 f off n) ∧ Chg w w' [b] := by
  have H := Lib.hid h
  clear h
  go_enter Tryd.func83, Tryd.ntmps83
  go_wp2_with fail
  refine (put32_any H.out (by omega) (by omega) _).mono ?_
  rintro e w1 ⟨rfl, h1, k1⟩
  have H1 := Lib.hid h1
  have K1 := Lib.hid k1
  clear h1 k1
  go_wp2_with fail
  refine (put32_any H1.out (by omega) (by omega) _).mono ?_
  rintro e w2 ⟨rfl, h2, k2⟩
  have H2 := Lib.hid h2
  have K2 := Lib.hid (K1.out.trans k2 (fun _ h _ => h))
  clear h2 k2
  go_wp2_with fail
  go_end0
  exact ⟨rfl, H2.out, K2.out⟩
end Go.Proofs.YtebeacejlkiglaaDoor
namespace Go.Proofs.YtebeacejlkiglaaDoor
set_option maxRecDepth 100000
open Go.RowKit

/-! ### Lists of slices -/
/-- The slice v holds slices that read as these, none of them in a block of S. -/
def RdL (w : World) (v : Value) (L : List (List Int)) (S : List Nat) : Prop := ∃ q c, v = .slice q L.length c ∧ (L = [] ∨ ∃ b off, q = some ⟨b, off, none⟩ ∧ b ∉ S ∧
  ∀ i, i < L.length → ∃ u, w.cell? ⟨b, off + i, none⟩ = some u ∧ Rd w u (L.getD i []) ∧ (L.getD i [] ≠ [] → ∀ k, u.ownBlock = some k → k ∉ S))
theorem RdL.chg {w w' : World} {v : Value} {L : List (List Int)} {S : List Nat} (h : RdL w v L S) (hc : Chg w w' S) : RdL w' v L S := by
  obtain ⟨q, c, rfl, hq | ⟨b, off, rfl, hb, hx⟩⟩ := h
  · exact ⟨q, c, rfl, .inl hq⟩
  · refine ⟨_, c, rfl, .inr ⟨b, off, rfl, hb, fun i hi => ?_⟩⟩
    obtain ⟨u, h1, h2, h3⟩ := hx i hi
    have hl := lt_of_cell h1
    exact ⟨u, by rw [World.cell?_of_block (w := w) (hc.block b hl hb)]; exact h1, h2.chg hc (fun hn k hk _ => h3 hn k hk), h3⟩
theorem RdL.at {w : World} {q : Option Addr} {n c : Nat} {L : List (List Int)} {S : List Nat} (h : RdL w (.slice q n c) L S) {i : Nat} (hi : i < L.length) :
    ∃ b off r m k, n = L.length ∧ q = some ⟨b, off, none⟩ ∧ b ∉ S ∧ w.cell? ⟨b, off + i, none⟩ = some (.slice r m k) ∧ m = (L.getD i []).length ∧ Rd w (.slice r m k) (L.getD i []) ∧ (L.getD i [] ≠ [] → ∀ x, (Value.slice r m k).ownBlock = some x → x ∉ S) := by
  obtain ⟨q', c', e, rfl | ⟨b, off, rfl, hb, hx⟩⟩ := h
  · simp at hi
  · obtain ⟨u, h1, h2, h3⟩ := hx i hi
    obtain ⟨r, k, rfl⟩ := h2.len
    simp only [Value.slice.injEq] at e
    exact ⟨b, off, r, _, k, e.2.1, e.1, hb, h1, rfl, h2, h3⟩

/-- The bytes of blobs. -/
def blobs (L : List (List Int)) : List Int := L.flatMap fun b => be8 b.length ++ b
theorem blobs_take {L : List (List Int)} {i : Nat} (hi : i < L.length) : blobs (L.take (i + 1)) = blobs (L.take i) ++ be8 (L.getD i []).length ++ L.getD i [] := by
  have e : L.take (i + 1) = L.take i ++ [L.getD i []] := by
    rw [List.take_add_one]
    simp [List.getD, hi]
  rw [e, blobs, List.flatMap_append]
  simp [blobs]
theorem blobs_le (L : List (List Int)) (i : Nat) : (blobs (L.take i)).length ≤ (blobs L).length := by
  have e : blobs L = blobs (L.take i) ++ blobs (L.drop i) := by
    conv => lhs; rw [← List.take_append_drop i L]
    rw [blobs, List.flatMap_append]; rfl
  rw [e]; simp
theorem blobs_len {L : List (List Int)} {i : Nat} (hi : i < L.length) : (blobs (L.take (i + 1))).length = (blobs (L.take i)).length + 8 + (L.getD i []).length := by
  rw [blobs_take hi]; simp; omega
theorem blobs_many : ∀ L : List (List Int), L.length ≤ (blobs L).length
  | [] => by simp
  | b :: L => by have := blobs_many L; simp [blobs] at this ⊢; omega

/-- A string's bytes, as numbers. -/
def sn (s : ByteArray) : List Int := s.data.toList.map fun c => (c.toNat : Int)
theorem sn_len (s : ByteArray) : (sn s).length = s.size := by
  simp only [sn, List.length_map, Array.length_toList]
  rfl
theorem sn_bytes (s : ByteArray) : Bytes (sn s) := by
  intro x hx
  obtain ⟨c, _, rfl⟩ := List.mem_map.1 hx
  have := c.toNat_lt
  omega
theorem sn_inj {s t : ByteArray} (h : sn s = sn t) : s = t := by
  have := congrArg strOfNums h
  unfold sn at this
  rw [show ∀ u : ByteArray, strOfNums (u.data.toList.map fun c => (c.toNat : Int)) = u from fun u => by
    apply ByteArray.ext
    apply Array.ext'
    show (u.data.toList.map fun c => (c.toNat : Int)).map (fun n => UInt8.ofNat n.toNat) = u.data.toList
    rw [List.map_map]
    conv => rhs; rw [← List.map_id u.data.toList]
    apply List.map_congr_left
    intro c _
    simp] at this
  rw [show ∀ u : ByteArray, strOfNums (u.data.toList.map fun c => (c.toNat : Int)) = u from fun u => by
    apply ByteArray.ext
    apply Array.ext'
    show (u.data.toList.map fun c => (c.toNat : Int)).map (fun n => UInt8.ofNat n.toNat) = u.data.toList
    rw [List.map_map]
    conv => rhs; rw [← List.map_id u.data.toList]
    apply List.map_congr_left
    intro c _
    simp] at this
  exact this

theorem wpList_copy_str {P : Program} {w : World} {ops : Array Oper} {rest : List Oper} {o : Oper} {a : Act} {Q : Exit → Act → World → Prop} (hgd : o.guard = none) (d s : Operand) (dT sT : TypeId)
    (ho : o.op = .call { callee := .builtin .copy, args := #[d, s], argTypes := #[dT, sT] }) (elem : TypeId) (hu : P.underlying dT = some (.slice elem)) (hsz : (P.info? elem).map (·.size) = some 1)
    (dp : Option Addr) (dLen dCap : Nat) (t : ByteArray) (hd : a.eval d = .slice dp dLen dCap) (hs : a.eval s = .string t)
    {g N : Nat} {T : TypeId} {f : Nat → Int} (hg : RwK .u8 w g N T f) (off : Nat) (hle : t.size ≤ dLen) (hpos : 0 < t.size → dp = some ⟨g, off, none⟩) (hfit : off + t.size ≤ N)
    (h : ∀ w', RwK .u8 w' g N T (cpf f off (sn t)) → Chg w w' [g] → wpList P ops Q rest (a.put o.dst (goInt t.size)) w') :
    wpList P ops Q (o :: rest) a w := by
  have hl := sn_len t
  by_cases h0 : t.size = 0
  · have e : sn t = [] := List.eq_nil_of_length_eq_zero (by omega)
    refine wpList_plain hgd fun K hK => ?_
    have hrun := Lib.run_copy_empty_string (P := P) w dT sT o.type elem dp dLen dCap t hu (by rw [hsz]; rfl) h0
    unfold Oper.wp
    simp [execOp, ho, resolve, invoke, builtin, hd, hs, hrun, Result.andThen]
    refine hK _ _ ?_
    have := h w (by rw [e, cpf_nil]; exact hg) (Chg.refl _ _)
    rw [h0] at this
    exact this
  · obtain rfl := hpos (by omega)
    obtain ⟨cs, h1, h2, h3⟩ := hg
    refine wpList_plain hgd fun K hK => ?_
    have hrun := Lib.run_copy_row_string (P := P) w dT sT o.type elem g off dLen dCap t cs T hu hsz h1 hle (by omega)
    unfold Oper.wp
    simp [execOp, ho, resolve, invoke, builtin, hd, hs, hrun, Result.andThen]
    refine hK _ _ ?_
    have eb : Lib.byteCells t.data.toList = (sn t).map (Value.int .u8) := by simp [Lib.byteCells, sn]
    rw [eb]
    refine h _ ⟨_, setRow_heap w g _ _ T _ h1, ?_, ?_⟩ ⟨rfl, rfl, rfl, by simp, fun j hj hn => ?_⟩
    · have : cs.toList.length = N := by simpa using h2
      simp; omega
    · intro i hi
      have hc : cs.toList.length = N := by simpa using h2
      have h3' : cs.toList[i]? = some (.int .u8 (f i)) := by simpa using h3 i hi
      rw [List.getElem?_toArray]
      by_cases hlo : i < off
      · rw [List.getElem?_append_left (by simp; omega), List.getElem?_take, if_pos hlo, h3', cpf_out (Or.inl hlo)]
      · rw [List.getElem?_append_right (by simp; omega)]
        have e1 : (cs.toList.take off).length = off := by simp; omega
        rw [e1]
        by_cases hin : i < off + (sn t).length
        · rw [List.getElem?_append_left (by simp; omega), cpf_in (by omega) hin]
          simp only [List.getElem?_map]
          have : i - off < (sn t).length := by omega
          simp [List.getD, this]
        · rw [List.getElem?_append_right (by simp; omega), List.getElem?_drop, cpf_out (Or.inr (by omega)), ← h3']
          congr 1
          simp; omega
    · have hne : g ≠ j := fun e => hn (by simp [e])
      show (w.heap.modify g _)[j]? = _
      rw [Array.getElem?_modify, if_neg hne]

/-- A row out of make. -/
theorem rw_of_made {w : World} {e : TypeId} {g n : Nat} {k : IntKind} (h : w.ownsRow 0 e 1 (.slice (some ⟨g, 0, none⟩) n n) n (madeCells #[.int k 0] n).toList) : RwK k w g n e (fun _ => 0) := by
  rcases h.2 with ⟨h0, _⟩ | ⟨g', cap, cur, h1, _, hg, hnc, hcm, hcs, htake⟩
  · simp at h0
  · simp only [Value.slice.injEq, Option.some.injEq, Addr.mk.injEq, true_and, and_true] at h1
    obtain ⟨rfl, rfl⟩ := h1
    refine ⟨cur, hg, by simpa using hcs, fun i hi => ?_⟩
    have hl : cur.toList.length = n := by simpa using hcs
    have := congrArg (·[i]?) htake
    simp only [Nat.mul_one] at this
    rw [List.take_of_length_le (by omega)] at this
    rw [← Array.getElem?_toList, this]
    simp [madeCells, hi, Nat.mod_one]
end Go.Proofs.YtebeacejlkiglaaDoor
namespace Go.Proofs.YtebeacejlkiglaaDoor
open Go.RowKit
set_option maxRecDepth 100000

/-- How far to the left. -/
def rsh (k : Int) : Nat := (bits .and .u64 (IntKind.u64.wrap k) 31).toNat
theorem rsh_lt (k : Int) : ∃ s : Nat, bits .and .u64 (IntKind.u64.wrap k) 31 = (s : Int) ∧ s ≤ 31 := by
  refine ⟨(BitVec.ofInt 64 (IntKind.u64.wrap k) &&& BitVec.ofInt 64 31).toNat, ?_, ?_⟩
  · show IntKind.u64.wrap _ = _
    have h : (BitVec.ofInt 64 (IntKind.u64.wrap k) &&& BitVec.ofInt 64 31).toNat < 2 ^ 64 := BitVec.isLt _
    rw [IntKind.wrap_u64]
    show ((((BitVec.ofInt 64 (IntKind.u64.wrap k) &&& BitVec.ofInt 64 31).toNat : Nat) : Int)) % _ = _
    omega
  · rw [BitVec.toNat_and]
    have : (BitVec.ofInt 64 31).toNat = 31 := by decide
    rw [this]
    have := Nat.and_lt_two_pow (n := 5) (BitVec.ofInt 64 (IntKind.u64.wrap k)).toNat (y := 31) (by decide)
    omega
/-- Turned to the left, as the library does it. -/
def rk (k x : Int) : Int := bits .or .u32 (x * 2 ^ rsh k % 4294967296) (x / 2 ^ (32 - rsh k))

theorem rot_any (x k : Int) (w : World) : Calls Tryd.prog 85 #[.int .u32 x, .int .i64 k] w fun e w' => e = .returned (.int .u32 (rk k x)) ∧ w' = w := by
  obtain ⟨s, hs, h1⟩ := rsh_lt k
  have HR : Hid (rk k x = bits .or .u32 (x * 2 ^ s % 4294967296) (x / 2 ^ (32 - s))) := by
    unfold rk rsh
    rw [hs]
    rfl
  have e1 : min s 32 = s := by omega
  have e2 : min ((32 : Int) - (s : Int)).toNat 32 = 32 - s := by omega
  have h0 : (0 : Int) ≤ 32 - (s : Int) := by omega
  go_enter Tryd.func85, Tryd.ntmps85
  go_wp2_with fail
  rw [← HR.out]
  go_ret
  exact ⟨rfl, rfl⟩
end Go.Proofs.YtebeacejlkiglaaDoor
namespace Go.Proofs.YtebeacejlkiglaaDoor
open Go.RowKit

/-- A word out of four bytes. -/
def wd (B : Nat → Int) (i : Nat) : Int := bits .or .u32 (bits .or .u32 (bits .or .u32 (B (4 * i) * 16777216) (B (4 * i + 1) * 65536)) (B (4 * i + 2) * 256)) (B (4 * i + 3))
def sg0 (x : Int) : Int := bits .xor .u32 (bits .xor .u32 (rk (-7) x) (rk (-18) x)) (x / 8)
def sg1 (x : Int) : Int := bits .xor .u32 (bits .xor .u32 (rk (-17) x) (rk (-19) x)) (x / 1024)
def p32 (x y : Int) : Int := (x + y) % 4294967296
def nxt (f : Nat → Int) (i : Nat) : Int := (f (i - 16) + sg0 (f (i - 15)) + f (i - 7) + sg1 (f (i - 2))) % 4294967296
/-- The words of a block. -/
def wrow (B : Nat → Int) : Nat → List Int
  | 0 => []
  | n + 1 => wrow B n ++ [if n < 16 then wd B n else nxt (fun j => (wrow B n).getD j 0) n]
def W (B : Nat → Int) (j : Nat) : Int := (wrow B (j + 1)).getD j 0
theorem wrow_len (B : Nat → Int) : ∀ n, (wrow B n).length = n
  | 0 => rfl
  | n + 1 => by simp [wrow, wrow_len B n]
theorem wrow_get (B : Nat → Int) (j : Nat) : ∀ n, j < n → (wrow B n).getD j 0 = W B j
  | 0, h => by omega
  | n + 1, h => by
    by_cases e : j = n
    · subst e; rfl
    · have l := wrow_len B n
      have hj : j < (wrow B n).length := by omega
      rw [← wrow_get B j n (by omega), wrow]
      simp only [List.getD_eq_getElem?_getD]
      rw [List.getElem?_append_left hj]
theorem W_low (B : Nat → Int) {n : Nat} (h : n < 16) : W B n = wd B n := by
  unfold W
  rw [wrow, if_pos h]
  have l := wrow_len B n
  simp [List.getD_eq_getElem?_getD, l]
theorem nxt_cong {f g : Nat → Int} {n : Nat} (h0 : 16 ≤ n) (h : ∀ j, j < n → f j = g j) : nxt f n = nxt g n := by
  unfold nxt
  rw [h (n - 16) (by omega), h (n - 15) (by omega), h (n - 7) (by omega), h (n - 2) (by omega)]
theorem W_high (B : Nat → Int) {n : Nat} (h : 16 ≤ n) : W B n = nxt (W B) n := by
  have l := wrow_len B n
  have e : W B n = nxt (fun j => (wrow B n).getD j 0) n := by
    unfold W
    rw [wrow, if_neg (by omega)]
    simp [List.getD_eq_getElem?_getD, l]
  rw [e]
  exact nxt_cong h (fun j hj => wrow_get B j n hj)

/-- The table of the rounds. -/
def rootsZ : List Int := [1116352408, 1899447441, 3049323471, 3921009573, 961987163, 1508970993, 2453635748, 2870763221, 3624381080, 310598401, 607225278, 1426881987, 1925078388, 2162078206, 2614888103, 3248222580, 3835390401, 4022224774, 264347078, 604807628, 770255983, 1249150122, 1555081692, 1996064986, 2554220882, 2821834349, 2952996808, 3210313671, 3336571891, 3584528711, 113926993, 338241895, 666307205, 773529912, 1294757372, 1396182291, 1695183700, 1986661051, 2177026350, 2456956037, 2730485921, 2820302411, 3259730800, 3345764771, 3516065817, 3600352804, 4094571909, 275423344, 430227734, 506948616, 659060556, 883997877, 958139571, 1322822218, 1537002063, 1747873779, 1955562222, 2024104815, 2227730452, 2361852424, 2428436474, 2756734187, 3204031479, 3329325298]
def rt (i : Nat) : Int := rootsZ.getD i 0

/-- The state: eight words. -/
structure St8 where
  a : Int
  b : Int
  c : Int
  d : Int
  e : Int
  f : Int
  g : Int
  h : Int
def fa (x : Int) : Int := bits .xor .u32 (bits .xor .u32 (rk (-2) x) (rk (-13) x)) (rk (-22) x)
def fe (x : Int) : Int := bits .xor .u32 (bits .xor .u32 (rk (-6) x) (rk (-11) x)) (rk (-25) x)
def notI (x : Int) : Int := bits .xor .u32 (if IntKind.u32.signed = true then -1 else IntKind.u32.max) x
def fch (e f g : Int) : Int := bits .xor .u32 (bits .and .u32 e f) (bits .and .u32 (notI e) g)
def fmj (a b c : Int) : Int := bits .xor .u32 (bits .xor .u32 (bits .and .u32 a b) (bits .and .u32 a c)) (bits .and .u32 b c)
def St8.u1 (s : St8) (k w : Int) : Int := s.h + fe s.e + fch s.e s.f s.g + k + w
def St8.u2 (s : St8) : Int := fa s.a + fmj s.a s.b s.c
def St8.rnd (s : St8) (k w : Int) : St8 := ⟨(s.u1 k w % 4294967296 + s.u2 % 4294967296) % 4294967296, s.a, s.b, s.c, (s.d + s.u1 k w % 4294967296) % 4294967296, s.e, s.f, s.g⟩
def St8.rounds (s : St8) (B : Nat → Int) : Nat → St8
  | 0 => s
  | i + 1 => (s.rounds B i).rnd (rt i) (W B i)
def St8.add (s t : St8) : St8 := ⟨p32 s.a t.a, p32 s.b t.b, p32 s.c t.c, p32 s.d t.d, p32 s.e t.e, p32 s.f t.f, p32 s.g t.g, p32 s.h t.h⟩
def St8.mix (s : St8) (B : Nat → Int) : St8 := s.add (s.rounds B 64)
def St8.lst (s : St8) : List Int := [s.a, s.b, s.c, s.d, s.e, s.f, s.g, s.h]
def St8.agg (s : St8) : Value := .agg #[.int .u32 s.a, .int .u32 s.b, .int .u32 s.c, .int .u32 s.d, .int .u32 s.e, .int .u32 s.f, .int .u32 s.g, .int .u32 s.h]
end Go.Proofs.YtebeacejlkiglaaDoor
namespace Go.Proofs.YtebeacejlkiglaaDoor
open Go.RowKit

/-- How many blocks. -/
def nbk (L : Nat) : Nat := L / 64 + (if 64 < L % 64 + 9 then 2 else 1)
/-- The padded string. -/
def padF (xs : List Int) (j : Nat) : Int :=
  if j < xs.length then xs.getD j 0 else if j = xs.length then 128 else if j + 8 < 64 * nbk xs.length then 0 else (be8 (8 * (xs.length : Int))).getD (j + 8 - 64 * nbk xs.length) 0
def blkF (xs : List Int) (i j : Nat) : Int := padF xs (64 * i + j)
def iv : St8 := ⟨1779033703, 3144134277, 1013904242, 2773480762, 1359893119, 2600822924, 528734635, 1541459225⟩
def shaSt (xs : List Int) : Nat → St8
  | 0 => iv
  | i + 1 => (shaSt xs i).mix (blkF xs i)
def be4 (n : Int) : List Int := [n / 16777216 % 256, n / 65536 % 256, n / 256 % 256, n % 256]
def St8.out (s : St8) : List Int := be4 s.a ++ be4 s.b ++ be4 s.c ++ be4 s.d ++ be4 s.e ++ be4 s.f ++ be4 s.g ++ be4 s.h
/-- The digest. -/
def sha (xs : List Int) : List Int := (shaSt xs (nbk xs.length)).out
theorem sha_len (xs : List Int) : (sha xs).length = 32 := rfl
theorem be4_bytes (n : Int) : Bytes (be4 n) := by
  intro x hx
  simp only [be4, List.mem_cons, List.not_mem_nil, or_false] at hx
  omega
theorem Bytes.append {xs ys : List Int} (h : Bytes xs) (k : Bytes ys) : Bytes (xs ++ ys) := by
  intro x hx
  rcases List.mem_append.1 hx with a | a
  · exact h x a
  · exact k x a
theorem sha_bytes (xs : List Int) : Bytes (sha xs) :=
  (((((((be4_bytes _).append (be4_bytes _)).append (be4_bytes _)).append (be4_bytes _)).append (be4_bytes _)).append (be4_bytes _)).append (be4_bytes _)).append (be4_bytes _)
theorem Bytes.getD {xs : List Int} (h : Bytes xs) (j : Nat) : 0 ≤ xs.getD j 0 ∧ xs.getD j 0 < 256 := by
  by_cases hj : j < xs.length
  · have : xs.getD j 0 = xs[j] := by simp [List.getD, hj]
    rw [this]; exact h _ (List.getElem_mem hj)
  · have : xs.getD j 0 = 0 := by simp [List.getD, hj]
    rw [this]; omega
theorem padF_bytes {xs : List Int} (h : Bytes xs) (j : Nat) : 0 ≤ padF xs j ∧ padF xs j < 256 := by
  unfold padF
  split
  · exact h.getD j
  · split
    · omega
    · split
      · omega
      · exact (be8_bytes _).getD _
theorem padF_low {xs : List Int} {j : Nat} (h : j < xs.length) : padF xs j = xs.getD j 0 := if_pos h

/-- The last one or two blocks, as the program lays them. -/
def endF (rs : List Int) (L n : Nat) : Nat → Int := put8 (updK (cpf (fun _ => 0) 0 rs) rs.length 128) (n - 8) (8 * (L : Int))
theorem put8_mod (f : Nat → Int) (off : Nat) (n : Int) : put8 f off (n % 18446744073709551616) = put8 f off n := by
  unfold put8
  rw [show n % 18446744073709551616 / 4294967296 % 4294967296 = n / 4294967296 % 4294967296 by omega, show n % 18446744073709551616 % 4294967296 = n % 4294967296 by omega]
theorem endF_pad {xs rs : List Int} {q n : Nat} (hq : q = xs.length / 64) (hr : rs = xs.drop (64 * q)) (hn : n = 64 * (if 64 < xs.length % 64 + 9 then 2 else 1)) {j : Nat} (hj : j < n) :
    endF rs xs.length n j = padF xs (64 * q + j) := by
  have hl : rs.length = xs.length - 64 * q := by rw [hr]; simp
  have hP : 64 * nbk xs.length = 64 * q + n := by unfold nbk; rw [hn, hq]; omega
  have h64 : n = 64 ∨ n = 128 := by rw [hn]; split <;> omega
  have hfit : rs.length + 9 ≤ n := by rw [hn]; split <;> omega
  have hxl : xs.length = 64 * q + rs.length := by omega
  unfold endF padF
  rw [hP]
  by_cases h8 : n - 8 ≤ j
  · obtain ⟨k, rfl⟩ : ∃ k, j = n - 8 + k := ⟨j - (n - 8), by omega⟩
    rw [put8_in _ _ _ (by omega), if_neg (by omega), if_neg (by omega), if_neg (by omega)]
    congr 1
    omega
  · rw [put8_out _ (by omega)]
    by_cases e : j = rs.length
    · subst e
      rw [updK_same, if_neg (by omega), if_pos (by omega)]
    · rw [updK_ne _ _ e]
      by_cases hlt : j < rs.length
      · rw [cpf_in (by omega) (by omega), if_pos (by omega), hr]
        simp [List.getD]
      · rw [cpf_out (by omega), if_neg (by omega), if_neg (by omega), if_pos (by omega)]
end Go.Proofs.YtebeacejlkiglaaDoor
namespace Go.Proofs.YtebeacejlkiglaaDoor
open Go.RowKit
set_option maxRecDepth 100000

theorem Tryd.size_u8 : (Tryd.prog.info? 5).map (·.size) = some 1 := by kernel_rfl

set_option maxHeartbeats 2000000 in
theorem end_any {w : World} {b : Nat} (h : RwK .u8 w b 128 123 (fun _ => 0)) {v : Value} {rs : List Int} (hr : Rd w v rs) (h64 : rs.length < 64) (L : Nat) :
    Calls Tryd.prog 81 #[.pointer (some ⟨b, 0, none⟩), v, .int .i64 L] w fun e w' => e = .returned (.int .i64 (64 * (if 64 < rs.length + 9 then 2 else 1 : Nat) : Nat)) ∧ RwK .u8 w' b 128 123 (endF rs L (64 * (if 64 < rs.length + 9 then 2 else 1))) ∧ Chg w w' [b] := by
  obtain ⟨q, c, rfl, hx⟩ := hr
  have HN := Lib.hid (show rs.length = Nat.min rs.length 128 from (Nat.min_eq_left (by omega)).symm)
  have HP : Hid (0 < rs.length → (some ⟨b, 0, none⟩ : Option Addr) = some ⟨b, 0, none⟩ ∧ ∃ ad, q = some ad ∧ ∀ j, j < rs.length → w.cell? (ad.add j) = some (.int .u8 (rs.getD j 0))) := by
    intro h0
    rcases hx with rfl | ⟨b', off, rfl, hc⟩
    · simp at h0
    · exact ⟨rfl, _, rfl, fun j hj => by rw [addr_add]; exact hc j hj⟩
  have H := Lib.hid h
  clear h hx
  by_cases hlt : 64 < rs.length + 9
  all_goals
    simp only [hlt, if_true, if_false]
    go_enter Tryd.func81, Tryd.ntmps81
    go_wp2_with (with_reducible refine wpList_copy_rw rfl _ _ _ _ rfl 5 Tryd.underlying42 Tryd.size_u8 _ _ _ _ _ _ rfl rfl H.out 0 rs HN.out HP.out (by omega) ?_)
    intro w1 h1 k1
    have c1 := h1.cell rs.length (by omega)
    have f1 := h1.free rs.length
    have H1 := Lib.hid (h1.store (j := rs.length) (by omega) 128)
    have K1 := Lib.hid (k1.setCell (p := ⟨b, rs.length, none⟩) (.inl (by simp)) (.int .u8 128))
    clear h1 k1
    go_wp2_with fail
    refine (put64_any H1.out (by omega) (by omega) (by omega) _).mono ?_
    rintro e w2 ⟨rfl, h2, k2⟩
    have H2 := Lib.hid h2
    have K2 := Lib.hid (K1.out.trans k2 (fun _ h _ => h))
    clear h2 k2
    go_wp2_with fail
    go_ret
    refine ⟨rfl, ?_, K2.out⟩
    have h2 := H2.out
    rw [show IntKind.u64.wrap (IntKind.u64.wrap (L : Int) * 8) = (8 * (L : Int)) % 18446744073709551616 by rw [IntKind.wrap_u64, IntKind.wrap_u64]; omega, put8_mod] at h2
    exact h2
theorem end_two {w : World} {b : Nat} (h : RwK .u8 w b 128 123 (fun _ => 0)) {v : Value} {rs : List Int} (hr : Rd w v rs) (h64 : rs.length < 64) (L : Nat) (hlt : 64 < rs.length + 9) :
    Calls Tryd.prog 81 #[.pointer (some ⟨b, 0, none⟩), v, .int .i64 L] w fun e w' => e = .returned (.int .i64 128) ∧ RwK .u8 w' b 128 123 (endF rs L 128) ∧ Chg w w' [b] := by
  have := end_any h hr h64 L
  simp only [hlt, if_true] at this
  exact this
theorem end_one {w : World} {b : Nat} (h : RwK .u8 w b 128 123 (fun _ => 0)) {v : Value} {rs : List Int} (hr : Rd w v rs) (h64 : rs.length < 64) (L : Nat) (hlt : ¬ 64 < rs.length + 9) :
    Calls Tryd.prog 81 #[.pointer (some ⟨b, 0, none⟩), v, .int .i64 L] w fun e w' => e = .returned (.int .i64 64) ∧ RwK .u8 w' b 128 123 (endF rs L 64) ∧ Chg w w' [b] := by
  have := end_any h hr h64 L
  simp only [hlt, if_false] at this
  exact this
end Go.Proofs.YtebeacejlkiglaaDoor
namespace Go.Proofs.YtebeacejlkiglaaDoor
open Go.RowKit
set_option maxRecDepth 100000

theorem zero64u (w : World) : (zeroValue 112).run Tryd.prog w = .ok (.agg (Array.replicate 64 (.int .u32 0))) w := by kernel_rfl


/-- What stands in memory: the state handed in, the result, the words. -/
structure MxSt (w wr : World) (S : St8) (f : Nat → Int) : Prop where
  below : Below w.heap.size w wr
  rs : RwK .u32 wr w.heap.size 8 111 (fun i => S.lst.getD i 0)
  rr : RwK .u32 wr (w.heap.size + 1) 8 111 (fun i => [(0 : Int), 0, 0, 0, 0, 0, 0, 0].getD i 0)
  rw : RwK .u32 wr (w.heap.size + 1 + 1) 64 112 f

theorem MxSt.step {w wr : World} {S : St8} {f : Nat → Int} (h : MxSt w wr S f) {j : Nat} (hj : j < 64) (v : Int) : MxSt w (wr.setCell ⟨w.heap.size + 1 + 1, j, none⟩ (.int .u32 v)) S (updK f j v) :=
  ⟨h.below.setCell (by simp; omega) _, h.rs.other (by simp; omega) _, h.rr.other (by simp) _, h.rw.store hj v⟩
theorem MxSt.drew {w wr : World} {S : St8} {f : Nat → Int} (h : MxSt w wr S f) : MxSt w wr.drew S f := ⟨h.below.drew, h.rs, h.rr, h.rw⟩
theorem MxSt.start (w : World) (S : St8) : MxSt w (((w.alloc (.cells #[.int .u32 S.a, .int .u32 S.b, .int .u32 S.c, .int .u32 S.d, .int .u32 S.e, .int .u32 S.f, .int .u32 S.g, .int .u32 S.h] 111)).alloc
    (.cells #[.int .u32 0, .int .u32 0, .int .u32 0, .int .u32 0, .int .u32 0, .int .u32 0, .int .u32 0, .int .u32 0] 111)).alloc (.cells (Array.replicate 64 (.int .u32 0)) 112)) S (fun _ => 0) := by
  refine ⟨?_, ?_, ?_, ?_⟩
  · exact (((Below.refl _ _).alloc (Nat.le_refl _) _).alloc (by simp) _).alloc (by simp; omega) _
  · exact ((RwK.newL .u32 w S.lst 111).alloc _).alloc _
  · have := (RwK.newL .u32 (w.alloc (.cells #[.int .u32 S.a, .int .u32 S.b, .int .u32 S.c, .int .u32 S.d, .int .u32 S.e, .int .u32 S.f, .int .u32 S.g, .int .u32 S.h] 111)) [(0 : Int), 0, 0, 0, 0, 0, 0, 0] 111).alloc (.cells (Array.replicate 64 (.int .u32 0)) 112)
    simp only [World.size_alloc] at this
    exact this
  · have := RwK.new .u32 ((w.alloc (.cells #[.int .u32 S.a, .int .u32 S.b, .int .u32 S.c, .int .u32 S.d, .int .u32 S.e, .int .u32 S.f, .int .u32 S.g, .int .u32 S.h] 111)).alloc
      (.cells #[.int .u32 0, .int .u32 0, .int .u32 0, .int .u32 0, .int .u32 0, .int .u32 0, .int .u32 0, .int .u32 0] 111)) 64 112
    simp only [World.size_alloc] at this
    exact this
theorem MxSt.drewN {w wr : World} {S : St8} {f : Nat → Int} (h : MxSt w wr S f) (n : Nat) : MxSt w (wr.drewN n) S f := by
  have b : Below wr.heap.size wr (wr.drewN n) := below_drewN (Below.refl _ _) n
  exact ⟨below_drewN h.below n, h.rs.on b, h.rr.on b, h.rw.on b⟩
theorem MxSt.tab {w wr : World} {S : St8} {f : Nat → Int} (h : MxSt w wr S f) {g i : Nat} {v : Value} (hc : w.cell? ⟨g, i, none⟩ = some v) : wr.cell? ⟨g, i, none⟩ = some v := by
  rw [h.below.cell (p := ⟨g, i, none⟩) (World.block_lt_of_cell? w ⟨g, i, none⟩ hc)]; exact hc

set_option maxHeartbeats 4000000 in
theorem mix_any {w : World} (S : St8) {b off n c : Nat} {B : Nat → Int} (hn : 64 ≤ n) (hc : n ≤ c) (hB : ∀ i, i < 64 → w.cell? ⟨b, off + i, none⟩ = some (.int .u8 (B i))) (hb8 : ∀ i, i < 64 → 0 ≤ B i ∧ B i < 256)
    (hT : ∀ i, i < 64 → w.cell? ⟨0, i, none⟩ = some (.int .u32 (rt i))) :
    Calls Tryd.prog 80 #[.agg #[.int .u32 S.a, .int .u32 S.b, .int .u32 S.c, .int .u32 S.d, .int .u32 S.e, .int .u32 S.f, .int .u32 S.g, .int .u32 S.h], .slice (some ⟨b, off, none⟩) n c] w
      fun e w' => e = .returned (.agg #[.int .u32 (S.mix B).a, .int .u32 (S.mix B).b, .int .u32 (S.mix B).c, .int .u32 (S.mix B).d, .int .u32 (S.mix B).e, .int .u32 (S.mix B).f, .int .u32 (S.mix B).g, .int .u32 (S.mix B).h]) ∧ Below w.heap.size w w' := by
  have HB := Lib.hid hB
  have HB8 := Lib.hid hb8
  have HT := Lib.hid hT
  clear hB hb8 hT
  have hz := zero64u
  have h0 := Lib.hid (MxSt.start w S)
  go_enter Tryd.func80, Tryd.ntmps80
  go_wp2_with fail
  clear hz
  go_loopw [25] (fun iv wr => ∃ (i : Nat) (f : Nat → Int), iv = .int .i64 i ∧ i ≤ 16 ∧ Hid (MxSt w wr S f) ∧ Hid (∀ j, j < i → f j = W B j)) (fun iv _ => 16 - (intOf iv).toNat)
  case atStart => exact ⟨0, _, rfl, by omega, h0, fun j hj => by omega⟩
  case round =>
    clear h0
    obtain ⟨i, f, rfl, hi, hm, hf⟩ := hrel
    by_cases hlt : i < 16
    · have q (j : Nat) (hj : j < 64) : wr.cell? ⟨b, off + j, none⟩ = some (.int .u8 (B j)) := hm.out.tab (HB.out j hj)
      have c0 := q (4 * i) (by omega)
      have c1 := q (4 * i + 1) (by omega)
      have c2 := q (4 * i + 2) (by omega)
      have c3 := q (4 * i + 3) (by omega)
      obtain ⟨a0, b0⟩ := HB8.out (4 * i) (by omega)
      obtain ⟨a1, b1⟩ := HB8.out (4 * i + 1) (by omega)
      obtain ⟨a2, b2⟩ := HB8.out (4 * i + 2) (by omega)
      obtain ⟨a3, b3⟩ := HB8.out (4 * i + 3) (by omega)
      have cw := hm.out.rw.cell i (by omega)
      have fw := hm.out.rw.free i
      clear q
      have HN : Hid (MxSt w (wr.setCell ⟨w.heap.size + 1 + 1, i, none⟩ (.int .u32 (bits .or .u32 (bits .or .u32 (bits .or .u32 (B (4 * i) * 16777216) (B (4 * i + 1) * 65536)) (B (4 * i + 2) * 256)) (B (4 * i + 3))))).drew S (updK f i (W B i))) := by
        have := (hm.out.step (j := i) (by omega) (W B i)).drew
        rw [W_low B hlt] at this ⊢
        exact this
      have HF : Hid (∀ j, j < i + 1 → updK f i (W B i) j = W B j) := by
        intro j hj
        by_cases e : j = i
        · subst e; rw [updK_same]
        · rw [updK_ne _ _ e]; exact hf.out j (by omega)
      generalize B (4 * i) = x0 at c0 a0 b0 HN
      generalize B (4 * i + 1) = x1 at c1 a1 b1 HN
      generalize B (4 * i + 2) = x2 at c2 a2 b2 HN
      generalize B (4 * i + 3) = x3 at c3 a3 b3 HN
      generalize updK f i (W B i) = f' at HN HF
      go_wp2_with fail
      go_region
      go_wp2_with fail
      go_roundw
      case rel => exact ⟨i + 1, f', by go_num, by omega, HN, HF⟩
      case measure => simp [intOf]; omega
    · obtain rfl : i = 16 := by omega
      clear hlt hi
      have hm0 := hm
      have hf0 := hf
      go_wp2_with fail
      clear hm hf
      rw [show ((16 : Nat) : Int) = 16 from rfl]
      obtain ⟨w0, hw0⟩ : ∃ w0 : World, w0 = wr := ⟨_, rfl⟩
      rw [← hw0] at hm0 ⊢
      clear hw0
      go_loopw [7] (fun iv wr => ∃ (i : Nat) (f : Nat → Int), iv = .int .i64 i ∧ 16 ≤ i ∧ i ≤ 64 ∧ Hid (MxSt w wr S f) ∧ Hid (∀ j, j < i → f j = W B j)) (fun iv _ => 64 - (intOf iv).toNat)
      case atStart => exact ⟨16, _, rfl, by omega, by omega, hm0, hf0⟩
      case round =>
        clear hm0 hf0
        obtain ⟨i, f, rfl, hi0, hi, hm, hf⟩ := hrel
        by_cases hlt : i < 64
        · have cx := hm.out.rw.cell (i - 15) (by omega)
          have cy := hm.out.rw.cell (i - 2) (by omega)
          have cz := hm.out.rw.cell (i - 16) (by omega)
          have cv := hm.out.rw.cell (i - 7) (by omega)
          have cw := hm.out.rw.cell i (by omega)
          have fw := hm.out.rw.free i
          have e15 : ((i : Int) - 15).toNat = i - 15 := by omega
          have e2 : ((i : Int) - 2).toNat = i - 2 := by omega
          have e16 : ((i : Int) - 16).toNat = i - 16 := by omega
          have e7 : ((i : Int) - 7).toNat = i - 7 := by omega
          have HV := Lib.hid ((W_high B hi0).trans (nxt_cong (g := f) hi0 (fun j hj => (hf.out j hj).symm)))
          have HN := Lib.hid (fun v => (hm.out.step (j := i) hlt v).drew.drew)
          have HF : Hid (∀ j, j < i + 1 → updK f i (W B i) j = W B j) := by
            intro j hj
            by_cases e : j = i
            · subst e; rw [updK_same]
            · rw [updK_ne _ _ e]; exact hf.out j (by omega)
          go_wp2_with fail
          go_region
          go_wp2_with (go_at_call 85; refine (rot_any _ _ _).mono ?_; rintro e w' ⟨rfl, rfl⟩)
          go_region
          go_wp2_with fail
          go_roundw
          case rel => exact ⟨i + 1, updK f i (W B i), by go_num, by omega, by omega, by rw [HV.out]; exact HN.out _, HF⟩
          case measure => simp [intOf]; omega
        · obtain rfl : i = 64 := by omega
          clear hlt hi hi0
          have hm0 := hm
          have hf0 := hf
          clear hm hf
          have s0 := hm0.out.rs.cell 0 (by omega)
          have s1 := hm0.out.rs.cell 1 (by omega)
          have s2 := hm0.out.rs.cell 2 (by omega)
          have s3 := hm0.out.rs.cell 3 (by omega)
          have s4 := hm0.out.rs.cell 4 (by omega)
          have s5 := hm0.out.rs.cell 5 (by omega)
          have s6 := hm0.out.rs.cell 6 (by omega)
          have s7 := hm0.out.rs.cell 7 (by omega)
          simp only [St8.lst, List.getD_cons_zero, List.getD_cons_succ] at s0 s1 s2 s3 s4 s5 s6 s7
          go_wp2_with fail
          go_quiet (fail)
          have hm1 := Lib.hid (hm0.out.drewN nq)
          generalize wr.drewN nq = wq at hm1 ⊢
          clear hm0 s0 s1 s2 s3 s4 s5 s6 s7
          go_wp2_with fail
          rw [show ((64 : Nat) : Int) = 64 from rfl]
          go_loopw [123, 12, 13, 14, 15, 16, 17, 18, 19] (fun iv a b' c' d e f' g h wr => ∃ (i : Nat) (s : St8), iv = .int .i64 i ∧ i ≤ 64 ∧ Hid (s = S.rounds B i) ∧ a = .int .u32 s.a ∧ b' = .int .u32 s.b ∧ c' = .int .u32 s.c ∧ d = .int .u32 s.d ∧ e = .int .u32 s.e ∧ f' = .int .u32 s.f ∧ g = .int .u32 s.g ∧ h = .int .u32 s.h ∧ Hid (MxSt w wr S f)) (fun iv _ _ _ _ _ _ _ _ _ => 64 - (intOf iv).toNat)
          case atStart => exact ⟨0, S, rfl, by omega, rfl, rfl, rfl, rfl, rfl, rfl, rfl, rfl, rfl, hm1⟩
          case round =>
            clear hm1
            obtain ⟨i, s, rfl, hi, hs, rfl, rfl, rfl, rfl, rfl, rfl, rfl, rfl, hm⟩ := hrel
            by_cases hlt : i < 64
            · have cw := hm.out.rw.cell i hlt
              rw [hf0.out i hlt] at cw
              have ct := hm.out.tab (HT.out i hlt)
              have HS : Hid (s.rnd (rt i) (W B i) = S.rounds B (i + 1)) := by
                show _ = (S.rounds B i).rnd (rt i) (W B i)
                rw [← hs.out]
              generalize W B i = wi at cw HS
              generalize rt i = ki at ct HS
              obtain ⟨xa, xb, xc, xd, xe, xf, xg, xh⟩ := s
              simp only []
              go_wp2_with fail
              go_quiet (exact Calls.quiet_of_same (rot_any _ _ _))
              have hN := Lib.hid (hm.out.drewN nq)
              generalize wr.drewN nq = wz at hN ⊢
              clear cw ct hm
              go_wp2_with (go_at_call 85; refine (rot_any _ _ _).mono ?_; rintro e w' ⟨rfl, rfl⟩)
              go_roundw
              case rel => exact ⟨i + 1, _, by go_num, by omega, HS, rfl, rfl, rfl, rfl, rfl, rfl, rfl, rfl, hN⟩
              case measure => simp [intOf]; omega
            · obtain rfl : i = 64 := by omega
              have HM : Hid (S.add s = S.mix B) := by
                show _ = S.add (S.rounds B 64)
                rw [← hs.out]
              have s0 := hm.out.rs.cell 0 (by omega)
              have s1 := hm.out.rs.cell 1 (by omega)
              have s2 := hm.out.rs.cell 2 (by omega)
              have s3 := hm.out.rs.cell 3 (by omega)
              have s4 := hm.out.rs.cell 4 (by omega)
              have s5 := hm.out.rs.cell 5 (by omega)
              have s6 := hm.out.rs.cell 6 (by omega)
              have s7 := hm.out.rs.cell 7 (by omega)
              simp only [St8.lst, List.getD_cons_zero, List.getD_cons_succ] at s0 s1 s2 s3 s4 s5 s6 s7
              have r0 := hm.out.rr.cell 0 (by omega)
              have r1 := hm.out.rr.cell 1 (by omega)
              have r2 := hm.out.rr.cell 2 (by omega)
              have r3 := hm.out.rr.cell 3 (by omega)
              have r4 := hm.out.rr.cell 4 (by omega)
              have r5 := hm.out.rr.cell 5 (by omega)
              have r6 := hm.out.rr.cell 6 (by omega)
              have r7 := hm.out.rr.cell 7 (by omega)
              have f0 := hm.out.rr.free 0
              have f1 := hm.out.rr.free 1
              have f2 := hm.out.rr.free 2
              have f3 := hm.out.rr.free 3
              have f4 := hm.out.rr.free 4
              have f5 := hm.out.rr.free 5
              have f6 := hm.out.rr.free 6
              have f7 := hm.out.rr.free 7
              clear hs
              obtain ⟨xa, xb, xc, xd, xe, xf, xg, xh⟩ := s
              simp only []
              go_wp2_with fail
              refine bodyPost_ret (v := .agg #[.int .u32 ((S.a + xa) % 4294967296), .int .u32 ((S.b + xb) % 4294967296), .int .u32 ((S.c + xc) % 4294967296), .int .u32 ((S.d + xd) % 4294967296), .int .u32 ((S.e + xe) % 4294967296), .int .u32 ((S.f + xf) % 4294967296), .int .u32 ((S.g + xg) % 4294967296), .int .u32 ((S.h + xh) % 4294967296)]) (by simp [results, Tryd.results80, go_sem, r0, r1, r2, r3, r4, r5, r6, r7]) rfl ⟨?_, ?_⟩
              · rw [← HM.out]; rfl
              · have hb := hm.out.below
                repeat (first | with_reducible exact hb | with_reducible refine Below.setCell ?_ (by simp; try omega) _)
end Go.Proofs.YtebeacejlkiglaaDoor
namespace Go.Proofs.YtebeacejlkiglaaDoor
open Go.RowKit

theorem all_range_beq : ∀ (n : Nat) (xs ys : List Int), xs.length = n → ys.length = n → ((List.range' 0 n).all fun i => xs[i]? == ys[i]?) = (xs == ys) := by
  intro n xs ys hx hy
  rw [Bool.eq_iff_iff]
  simp only [List.all_eq_true, beq_iff_eq]
  constructor
  · intro h
    refine List.ext_getElem? fun i => ?_
    by_cases hi : i < n
    · exact h i (by simp [List.mem_range'_1]; omega)
    · rw [List.getElem?_eq_none (by omega), List.getElem?_eq_none (by omega)]
  · rintro rfl _ _; rfl

theorem run_equalIn_ints {P : Program} (w : World) (d : Nat) {t e : TypeId} {n : Nat} {k : IntKind} (ht : P.underlying t = some (.array n e)) (he : P.underlying e = some (.int k)) (hc : P.cellsOf e = 1) (xs ys : List Int) (hx : xs.length = n) (hy : ys.length = n) :
    (Op.equalIn (d + 2) t (.agg (xs.map (Value.int k)).toArray) (.agg (ys.map (Value.int k)).toArray)).run P w = .ok (xs == ys) w := by
  rw [← all_range_beq n xs ys hx hy]
  obtain ⟨i, hi⟩ := info_of_underlying he
  have hs := run_sizeOf w hi
  rw [hc] at hs
  rw [Op.equalIn]
  simp only [Sem.run_bind, run_underlying ht, Result.andThen_ok, hs]
  simp only [Std.Legacy.Range.forIn_eq_forIn_range', Std.Legacy.Range.size, Nat.sub_zero, Nat.add_one_sub_one, Nat.div_one, Nat.mul_one]
  have hb : ∀ j ∈ List.range' 0 n, j < n := fun j hj => by simp [List.mem_range'_1] at hj; omega
  generalize List.range' 0 n = is at hb ⊢
  induction is with
  | nil => simp
  | cons j is ih =>
    have hj := hb j (by simp)
    have hp : P.plainKey e = true := by unfold Program.plainKey; rw [he]
    have p1 : (part e (xs.map (Value.int k)).toArray j).run P w = .ok (.int k xs[j]) w := run_part_plain w hp (by simp [hx, hj])
    have p2 : (part e (ys.map (Value.int k)).toArray j).run P w = .ok (.int k ys[j]) w := run_part_plain w hp (by simp [hy, hj])
    have p3 := run_equalIn_int (P := P) w d e k k xs[j] ys[j] he
    simp only [List.forIn_cons, Sem.run_bind, p1, p2, p3, Result.andThen_ok]
    have ih' := ih fun y hy => hb y (by simp [hy])
    have e1 : (xs[j]? == ys[j]?) = (xs[j] == ys[j]) := by rw [List.getElem?_eq_getElem, List.getElem?_eq_getElem]; rfl
    simp only [List.all_cons, e1]
    cases xs[j] == ys[j]
    · simp
    · simpa using ih'
end Go.Proofs.YtebeacejlkiglaaDoor
namespace Go.Proofs.YtebeacejlkiglaaDoor
open Go.RowKit

/-- n cells of block b from offset o on. -/
def rowOf (w : World) (b o n : Nat) : List Value := match w.heap[b]? with
  | some (.cells cs _ _) => (cs.extract o (o + n)).toList
  | _ => []

theorem rowOf_block {w : World} {b : Nat} {cs : Array Value} {t : TypeId} {fr : Nat × Nat} (h : w.heap[b]? = some (.cells cs t fr)) (o n : Nat) : rowOf w b o n = (cs.extract o (o + n)).toList := by
  simp [rowOf, h]

@[simp, go_sem] theorem rowOf_drew (w : World) (b o n : Nat) : rowOf w.drew b o n = rowOf w b o n := rfl
@[simp, go_sem] theorem there_drew (w : World) (b o n : Nat) : w.drew.there b o n = w.there b o n := by simp

theorem range_rowOf (w : World) (b o n : Nat) : w.rangeAt b o (rowOf w b o n) := by
  intro j v hv
  unfold rowOf at hv
  split at hv
  · rename_i cs t fr h
    exact World.rangeAt_of_block h o n j v hv
  · simp at hv

theorem run_load_rowOf {P : Program} (w : World) (b o : Nat) (ty : TypeId) (d : TypeDesc) {n : Nat} (hu : P.underlying ty = some d) (hd : d.isRow = true) (hi : (P.info? ty).map (·.size) = some n) (hn : (rowOf w b o n).length = n) :
    (Instr.loadAt ty (.pointer (some ⟨b, o, none⟩))).run P w = .ok (.agg (rowOf w b o n).toArray) w :=
  run_loadAt_mid w b o ty _ d (range_rowOf w b o n) hu hd (by rw [hi, hn])

/-- The same load, kept shut: a walk would open it cell by cell. -/
def rowLoad (a : Addr) (n : Nat) : Sem (Array Value) := loadCellsFrom a 0 n #[]
@[go_sem ↓] theorem load32 (a : Addr) : loadCellsFrom a 0 32 #[] = rowLoad a 32 := rfl
@[go_sem] theorem run_rowLoad {P : Program} (w : World) (b o n : Nat) (hn : (rowOf w b o n).length = n) :
    (rowLoad ⟨b, o, none⟩ n).run P w = .ok (rowOf w b o n).toArray w := by
  have := run_loadCells_list (P := P) w ⟨b, o, none⟩ (rowOf w b o n) (fun j v hv => by rw [Addr.add_mid]; exact range_rowOf w b o n j v hv)
  rw [hn] at this
  exact this
def rowBuild (t : TypeId) (ps : Array (Nat × Value)) : Sem Value := Instr.build t ps

/-- A hash's cells. -/
def hc (F : List Int) : List Value := F.map (Value.int .u8)
@[go_sem] theorem hc_len (F : List Int) : (hc F).length = F.length := by simp [hc]
def zero32 : List Int := [0, 0, 0, 0, 0, 0, 0, 0, 0, 0, 0, 0, 0, 0, 0, 0, 0, 0, 0, 0, 0, 0, 0, 0, 0, 0, 0, 0, 0, 0, 0, 0]
@[go_sem] theorem zero32_len : zero32.length = 32 := by simp [zero32]
theorem hc_one (F : List Int) : (hc F).toArray.all (·.oneCell') = true := by
  rw [Array.all_eq_true_iff_forall_mem]
  intro v hv
  simp [hc] at hv
  obtain ⟨x, _, rfl⟩ := hv
  rfl

@[go_sem] theorem run_storeCells_hash {P : Program} (w : World) (b o : Nat) (F : List Int) (ht : w.there b o F.length) : (storeCells ⟨b, o, none⟩ (hc F) 0).run P w = .ok () (w.setCells b o (hc F)) := by
  have := run_storeCells_cells (P := P) b o (hc F) 0 w (fun j hj => by rw [hc_len] at hj; simpa using (ht j hj).1) (fun j hj => by rw [hc_len] at hj; simpa using (ht j hj).2) (fun v hv => (Array.all_eq_true_iff_forall_mem.1 (hc_one F)) v (by simpa using hv))
  simpa using this
@[go_sem ↓] theorem Tryd.build_hash (ps : Array (Nat × Value)) : Instr.build 36 ps = rowBuild 36 ps := rfl
@[go_sem] theorem Tryd.run_hash0 (w : World) : (rowBuild 36 #[]).run Tryd.prog w = .ok (.agg (hc zero32).toArray) w := by
  unfold rowBuild; kernel_rfl
@[go_sem ↓] theorem Tryd.zero_hash (w : World) : (zeroValue 36).run Tryd.prog w = .ok (.agg (hc zero32).toArray) w := by kernel_rfl
@[go_sem] theorem Tryd.eq_hash (w : World) (F G : List Int) (hF : F.length = 32) (hG : G.length = 32) : (Op.equalIn 10000 36 (.agg (hc F).toArray) (.agg (hc G).toArray)).run Tryd.prog w = .ok (F == G) w :=
  run_equalIn_ints (P := Tryd.prog) w 9998 Tryd.underlying36 Tryd.underlying5 (by kernel_rfl) F G hF hG

/-! ### What a store of many cells leaves -/
theorem setCells_block {b : Nat} {t : TypeId} {fr : Nat × Nat} : ∀ (vs : List Value) {o : Nat} {w : World} {pre mid post : List Value}, w.heap[b]? = some (.cells (pre ++ (mid ++ post)).toArray t fr) → pre.length = o → mid.length = vs.length →
    (w.setCells b o vs).heap[b]? = some (.cells (pre ++ (vs ++ post)).toArray t fr)
  | [], o, w, pre, mid, post, h, _, hm => by
    obtain rfl : mid = [] := by simpa using hm
    exact h
  | v :: vs, o, w, pre, [], post, h, _, hm => by simp at hm
  | v :: vs, o, w, pre, m :: mid, post, h, hp, hm => by
    have h1 : (w.setCell ⟨b, o, none⟩ v).heap[b]? = some (.cells ((pre ++ [v]) ++ (mid ++ post)).toArray t fr) := by
      rw [Joins.block_setCell h v]
      congr 2
      apply Array.ext'
      simp [hp.symm]
    have := setCells_block vs (o := o + 1) h1 (by simp [hp]) (by simpa using hm)
    rw [World.setCells, this]
    simp
theorem setCells_other {b c : Nat} (hne : c ≠ b) : ∀ (vs : List Value) (o : Nat) (w : World), (w.setCells b o vs).heap[c]? = w.heap[c]?
  | [], _, _ => rfl
  | v :: vs, o, w => by
    rw [World.setCells, setCells_other hne vs (o + 1) _, Below.heap_setCell _ _ _ _ hne]
theorem size_setCells (b : Nat) : ∀ (vs : List Value) (o : Nat) (w : World), (w.setCells b o vs).heap.size = w.heap.size
  | [], _, _ => rfl
  | v :: vs, o, w => by rw [World.setCells, size_setCells b vs (o + 1) _]; simp [World.setCell]
theorem below_setCells' {B : Nat} {a : World} (b : Nat) (hb : B ≤ b) : ∀ (vs : List Value) (o : Nat) {w : World}, Below B a w → Below B a (w.setCells b o vs)
  | [], _, _, h => h
  | v :: r, o, _, h => below_setCells' b hb r (o + 1) (h.setCell (p := ⟨b, o, none⟩) hb v)

/-- Block b of w holds the hash F. -/
def HashAt (w : World) (b : Nat) (F : List Int) : Prop := w.heap[b]? = some (.cells (hc F).toArray 36 (0, 0))
theorem HashAt.new (w : World) (F : List Int) : HashAt (w.alloc (.cells (hc F).toArray 36)) w.heap.size F := heap_alloc_last w _
theorem HashAt.row {w : World} {b : Nat} {F : List Int} (h : HashAt w b F) (hF : F.length = 32) : rowOf w b 0 32 = hc F := by
  rw [rowOf_block h]
  have : (hc F).length = 32 := by rw [hc_len, hF]
  simp [List.take_of_length_le (Nat.le_of_eq this)]
theorem HashAt.lt {w : World} {b : Nat} {F : List Int} (h : HashAt w b F) : b < w.heap.size := (Array.getElem?_eq_some_iff.1 h).1
theorem HashAt.on {w w1 : World} {b : Nat} {F : List Int} (h : HashAt w b F) (hb : Below w.heap.size w w1) : HashAt w1 b F := by
  have := h.lt
  unfold HashAt
  rw [hb.block _ this]; exact h
theorem HashAt.alloc {w : World} {b : Nat} {F : List Int} (h : HashAt w b F) (o : Obj) : HashAt (w.alloc o) b F := by
  unfold HashAt
  rw [Below.heap_alloc _ _ _ h.lt]; exact h

/-! ### A composite's cells -/
theorem list_fold_put (o : Nat) : ∀ (xs : List Value) (k : Nat) (pre mid post : List Value), pre.length = o + k → mid.length = xs.length →
    (xs.zipIdx k).foldl (fun (cs : Array Value) (p : Value × Nat) => cs.setIfInBounds (o + p.2) p.1) (pre ++ (mid ++ post)).toArray = (pre ++ (xs ++ post)).toArray
  | [], k, pre, mid, post, _, hm => by
    obtain rfl : mid = [] := by simpa using hm
    simp
  | x :: xs, k, pre, m :: mid, post, hp, hm => by
    have ih := list_fold_put o xs (k + 1) (pre ++ [x]) mid post (by simp; omega) (by simpa using hm)
    simp only [List.zipIdx_cons, List.foldl_cons]
    have e : (pre ++ (m :: mid ++ post)).toArray.setIfInBounds (o + k) x = (pre ++ [x] ++ (mid ++ post)).toArray := by
      apply Array.ext'
      simp [hp.symm]
    rw [e, ih]
    simp
  | x :: xs, k, pre, [], post, _, hm => by simp at hm

theorem fold_put (o n : Nat) (xs pre mid post : List Value) (hp : pre.length = o) (hm : mid.length = n) (hx : xs.length = n) :
    xs.toArray.zipIdx.foldl (fun (cs : Array Value) (p : Value × Nat) => cs.setIfInBounds (o + p.2) p.1) (pre ++ (mid ++ post)).toArray = (pre ++ (xs ++ post)).toArray := by
  have := list_fold_put o xs 0 pre mid post (by omega) (by omega)
  simpa using this
end Go.Proofs.YtebeacejlkiglaaDoor
