/-
  Lists of slices of bytes; the bytes of blobs. Copies out of a string.
-/
import Derived.Test.YtjgfjmkfcippcaaDoorCopy
import Derived.Lib.BufferWrite
import Derived.OwnWalk
namespace Go.Proofs.YtjgfjmkfcippcaaDoor
set_option maxRecDepth 100000
open Go.RowKit

/-! ### Lists of slices -/
/-- The slice v holds slices that read as these, none of them in a block of S. -/
def RdL (w : World) (v : Value) (L : List (List Int)) (S : List Nat) : Prop := ∃ q c, v = .slice q L.length c ∧ (L = [] ∨ ∃ b off, q = some ⟨b, off, none⟩ ∧ b ∉ S ∧
  ∀ i, i < L.length → ∃ u, w.cell? ⟨b, off + i, none⟩ = some u ∧ Rd w u (L.getD i []) ∧ (L.getD i [] ≠ [] → ∀ k, u.ownBlock = some k → k ∉ S))
theorem RdL.chg {w w' : World} {v : Value} {L : List (List Int)} {S : List Nat} (h : RdL w v L S) (hc : Chg w w' S) : RdL w' v L S := by
  obtain ⟨q, c, rfl, hq | ⟨b, off, rfl, hb, hx⟩⟩ := h
  · exact ⟨q, c, rfl, .inl hq⟩
  · refine ⟨_, c, rfl, .inr ⟨b, off, rfl, hb, fun i hi => ?_⟩⟩
    obtain ⟨u, h1, h2, h3⟩ := hx i hi
    have hl := lt_of_cell h1
    exact ⟨u, by rw [World.cell?_of_block (w := w) (hc.block b hl hb)]; exact h1, h2.chg hc (fun hn k hk _ => h3 hn k hk), h3⟩
theorem RdL.at {w : World} {q : Option Addr} {n c : Nat} {L : List (List Int)} {S : List Nat} (h : RdL w (.slice q n c) L S) {i : Nat} (hi : i < L.length) :
    ∃ b off r m k, n = L.length ∧ q = some ⟨b, off, none⟩ ∧ b ∉ S ∧ w.cell? ⟨b, off + i, none⟩ = some (.slice r m k) ∧ m = (L.getD i []).length ∧ Rd w (.slice r m k) (L.getD i []) ∧ (L.getD i [] ≠ [] → ∀ x, (Value.slice r m k).ownBlock = some x → x ∉ S) := by
  obtain ⟨q', c', e, rfl | ⟨b, off, rfl, hb, hx⟩⟩ := h
  · simp at hi
  · obtain ⟨u, h1, h2, h3⟩ := hx i hi
    obtain ⟨r, k, rfl⟩ := h2.len
    simp only [Value.slice.injEq] at e
    exact ⟨b, off, r, _, k, e.2.1, e.1, hb, h1, rfl, h2, h3⟩

/-- The bytes of blobs. -/
def blobs (L : List (List Int)) : List Int := L.flatMap fun b => be8 b.length ++ b
theorem blobs_take {L : List (List Int)} {i : Nat} (hi : i < L.length) : blobs (L.take (i + 1)) = blobs (L.take i) ++ be8 (L.getD i []).length ++ L.getD i [] := by
  have e : L.take (i + 1) = L.take i ++ [L.getD i []] := by
    rw [List.take_add_one]
    simp [List.getD, hi]
  rw [e, blobs, List.flatMap_append]
  simp [blobs]
theorem blobs_le (L : List (List Int)) (i : Nat) : (blobs (L.take i)).length ≤ (blobs L).length := by
  have e : blobs L = blobs (L.take i) ++ blobs (L.drop i) := by
    conv => lhs; rw [← List.take_append_drop i L]
    rw [blobs, List.flatMap_append]; rfl
  rw [e]; simp
theorem blobs_len {L : List (List Int)} {i : Nat} (hi : i < L.length) : (blobs (L.take (i + 1))).length = (blobs (L.take i)).length + 8 + (L.getD i []).length := by
  rw [blobs_take hi]; simp; omega
theorem blobs_many : ∀ L : List (List Int), L.length ≤ (blobs L).length
  | [] => by simp
  | b :: L => by have := blobs_many L; simp [blobs] at this ⊢; omega

/-- A string's bytes, as numbers. -/
def sn (s : ByteArray) : List Int := s.data.toList.map fun c => (c.toNat : Int)
theorem sn_len (s : ByteArray) : (sn s).length = s.size := by
  simp only [sn, List.length_map, Array.length_toList]
  rfl
theorem sn_bytes (s : ByteArray) : Bytes (sn s) := by
  intro x hx
  obtain ⟨c, _, rfl⟩ := List.mem_map.1 hx
  have := c.toNat_lt
  omega
theorem sn_inj {s t : ByteArray} (h : sn s = sn t) : s = t := by
  have := congrArg strOfNums h
  unfold sn at this
  rw [show ∀ u : ByteArray, strOfNums (u.data.toList.map fun c => (c.toNat : Int)) = u from fun u => by
    apply ByteArray.ext
    apply Array.ext'
    show (u.data.toList.map fun c => (c.toNat : Int)).map (fun n => UInt8.ofNat n.toNat) = u.data.toList
    rw [List.map_map]
    conv => rhs; rw [← List.map_id u.data.toList]
    apply List.map_congr_left
    intro c _
    simp] at this
  rw [show ∀ u : ByteArray, strOfNums (u.data.toList.map fun c => (c.toNat : Int)) = u from fun u => by
    apply ByteArray.ext
    apply Array.ext'
    show (u.data.toList.map fun c => (c.toNat : Int)).map (fun n => UInt8.ofNat n.toNat) = u.data.toList
    rw [List.map_map]
    conv => rhs; rw [← List.map_id u.data.toList]
    apply List.map_congr_left
    intro c _
    simp] at this
  exact this

theorem wpList_copy_str {P : Program} {w : World} {ops : Array Oper} {rest : List Oper} {o : Oper} {a : Act} {Q : Exit → Act → World → Prop} (hgd : o.guard = none) (d s : Operand) (dT sT : TypeId)
    (ho : o.op = .call { callee := .builtin .copy, args := #[d, s], argTypes := #[dT, sT] }) (elem : TypeId) (hu : P.underlying dT = some (.slice elem)) (hsz : (P.info? elem).map (·.size) = some 1)
    (dp : Option Addr) (dLen dCap : Nat) (t : ByteArray) (hd : a.eval d = .slice dp dLen dCap) (hs : a.eval s = .string t)
    {g N : Nat} {T : TypeId} {f : Nat → Int} (hg : RwK .u8 w g N T f) (off : Nat) (hle : t.size ≤ dLen) (hpos : 0 < t.size → dp = some ⟨g, off, none⟩) (hfit : off + t.size ≤ N)
    (h : ∀ w', RwK .u8 w' g N T (cpf f off (sn t)) → Chg w w' [g] → wpList P ops Q rest (a.put o.dst (goInt t.size)) w') :
    wpList P ops Q (o :: rest) a w := by
  have hl := sn_len t
  by_cases h0 : t.size = 0
  · have e : sn t = [] := List.eq_nil_of_length_eq_zero (by omega)
    refine wpList_plain hgd fun K hK => ?_
    have hrun := Lib.run_copy_empty_string (P := P) w dT sT o.type elem dp dLen dCap t hu (by rw [hsz]; rfl) h0
    unfold Oper.wp
    simp [execOp, ho, resolve, invoke, builtin, hd, hs, hrun, Result.andThen]
    refine hK _ _ ?_
    have := h w (by rw [e, cpf_nil]; exact hg) (Chg.refl _ _)
    rw [h0] at this
    exact this
  · obtain rfl := hpos (by omega)
    obtain ⟨cs, h1, h2, h3⟩ := hg
    refine wpList_plain hgd fun K hK => ?_
    have hrun := Lib.run_copy_row_string (P := P) w dT sT o.type elem g off dLen dCap t cs T hu hsz h1 hle (by omega)
    unfold Oper.wp
    simp [execOp, ho, resolve, invoke, builtin, hd, hs, hrun, Result.andThen]
    refine hK _ _ ?_
    have eb : Lib.byteCells t.data.toList = (sn t).map (Value.int .u8) := by simp [Lib.byteCells, sn]
    rw [eb]
    refine h _ ⟨_, setRow_heap w g _ _ T _ h1, ?_, ?_⟩ ⟨rfl, rfl, rfl, by simp, fun j hj hn => ?_⟩
    · have : cs.toList.length = N := by simpa using h2
      simp; omega
    · intro i hi
      have hc : cs.toList.length = N := by simpa using h2
      have h3' : cs.toList[i]? = some (.int .u8 (f i)) := by simpa using h3 i hi
      rw [List.getElem?_toArray]
      by_cases hlo : i < off
      · rw [List.getElem?_append_left (by simp; omega), List.getElem?_take, if_pos hlo, h3', cpf_out (Or.inl hlo)]
      · rw [List.getElem?_append_right (by simp; omega)]
        have e1 : (cs.toList.take off).length = off := by simp; omega
        rw [e1]
        by_cases hin : i < off + (sn t).length
        · rw [List.getElem?_append_left (by simp; omega), cpf_in (by omega) hin]
          simp only [List.getElem?_map]
          have : i - off < (sn t).length := by omega
          simp [List.getD, this]
        · rw [List.getElem?_append_right (by simp; omega), List.getElem?_drop, cpf_out (Or.inr (by omega)), ← h3']
          congr 1
          simp; omega
    · have hne : g ≠ j := fun e => hn (by simp [e])
      show (w.heap.modify g _)[j]? = _
      rw [Array.getElem?_modify, if_neg hne]

/-- A row out of make. -/
theorem rw_of_made {w : World} {e : TypeId} {g n : Nat} {k : IntKind} (h : w.ownsRow 0 e 1 (.slice (some ⟨g, 0, none⟩) n n) n (madeCells #[.int k 0] n).toList) : RwK k w g n e (fun _ => 0) := by
  rcases h.2 with ⟨h0, _⟩ | ⟨g', cap, cur, h1, _, hg, hnc, hcm, hcs, htake⟩
  · simp at h0
  · simp only [Value.slice.injEq, Option.some.injEq, Addr.mk.injEq, true_and, and_true] at h1
    obtain ⟨rfl, rfl⟩ := h1
    refine ⟨cur, hg, by simpa using hcs, fun i hi => ?_⟩
    have hl : cur.toList.length = n := by simpa using hcs
    have := congrArg (·[i]?) htake
    simp only [Nat.mul_one] at this
    rw [List.take_of_length_le (by omega)] at this
    rw [← Array.getElem?_toList, this]
    simp [madeCells, hi, Nat.mod_one]
end Go.Proofs.YtjgfjmkfcippcaaDoor
