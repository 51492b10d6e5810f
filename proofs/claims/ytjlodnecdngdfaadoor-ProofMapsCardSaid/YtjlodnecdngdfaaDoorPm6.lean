/-
  What is read within some blocks (a footprint): bytes, rows of any length; rows of one's own that are appended to.; SHA-256 over naturals, quick for the kernel, and that it is the digest.; The way up from a leaf, alone in a sparse tree: plain, and over naturals, so that the kernel reckons it.; Sparse trees, plain: what stands where, a key put in, a key taken out.
-/
import Derived.Test.YtjlodnecdngdfaaDoorPm1
import Derived.Test.YtjlodnecdngdfaaDoorPm2
import Derived.Test.YtjlodnecdngdfaaDoorPm5
namespace Go.Proofs.YtjlodnecdngdfaaDoor
set_option maxRecDepth 100000
open Go.RowKit

abbrev Fp := Nat → Prop
/-- The blocks of F are the same in both worlds. -/
def Agr (F : Fp) (w w' : World) : Prop := ∀ g, F g → g < w.heap.size → w'.heap[g]? = w.heap[g]?
theorem Agr.below {F : Fp} {w w' : World} (h : Below w.heap.size w w') : Agr F w w' := fun g _ hg => h.block g hg
theorem Agr.chg {F : Fp} {w w' : World} {K : List Nat} (h : Chg w w' K) (hF : ∀ g, F g → g ∉ K) : Agr F w w' := fun g hf hg => h.block g hg (hF g hf)
/-- A way of reading a value out of a row of cells, that hangs on the blocks of F alone. -/
structure FpOk {α : Type} (P : World → Fp → α → List Value → Prop) : Prop where
  mono : ∀ {w F G x r}, P w F x r → (∀ g, F g → G g) → P w G x r
  agr : ∀ {w w' F x r}, P w F x r → Agr F w w' → P w' F x r
  lt : ∀ {w F x r}, P w F x r → P w (fun g => F g ∧ g < w.heap.size) x r
theorem FpOk.on {α : Type} {P : World → Fp → α → List Value → Prop} (k : FpOk P) {w w' : World} {F : Fp} {x : α} {r : List Value} (h : P w F x r) (hb : Below w.heap.size w w') : P w' F x r := k.agr h (Agr.below hb)

/-! ### Bytes -/
def RdF (w : World) (F : Fp) (v : Value) (xs : List Int) : Prop := Rd w v xs ∧ (xs ≠ [] → ∀ g, v.ownBlock = some g → F g)
theorem RdF.rd {w : World} {F : Fp} {v : Value} {xs : List Int} (h : RdF w F v xs) : Rd w v xs := h.1
theorem RdF.mono {w : World} {F G : Fp} {v : Value} {xs : List Int} (h : RdF w F v xs) (hG : ∀ g, F g → G g) : RdF w G v xs := ⟨h.1, fun hn g hg => hG g (h.2 hn g hg)⟩
theorem RdF.agr {w w' : World} {F : Fp} {v : Value} {xs : List Int} (h : RdF w F v xs) (ha : Agr F w w') : RdF w' F v xs := by
  refine ⟨?_, h.2⟩
  obtain ⟨q, c, rfl, hq | ⟨b, off, rfl, hx⟩⟩ := h.1
  · exact ⟨q, c, rfl, .inl hq⟩
  · refine ⟨_, c, rfl, ?_⟩
    by_cases hn : xs = []
    · exact .inl hn
    · refine .inr ⟨b, off, rfl, fun i hi => ?_⟩
      have hb := lt_of_cell (hx i hi)
      rw [World.cell?_of_block (w := w) (ha b (h.2 hn b rfl) hb)]
      exact hx i hi
theorem RdF.lt {w : World} {F : Fp} {v : Value} {xs : List Int} (h : RdF w F v xs) : RdF w (fun g => F g ∧ g < w.heap.size) v xs := ⟨h.1, fun hn g hg => ⟨h.2 hn g hg, h.1.lt hn hg⟩⟩
theorem RdF.on {w w' : World} {F : Fp} {v : Value} {xs : List Int} (h : RdF w F v xs) (hb : Below w.heap.size w w') : RdF w' F v xs := h.agr (Agr.below hb)
/-- What was there reads within what was there. -/
theorem Rd.old {w : World} {v : Value} {xs : List Int} (h : Rd w v xs) : RdF w (fun g => g < w.heap.size) v xs := ⟨h, fun hn _ hg => h.lt hn hg⟩
/-- A cell that holds a slice of bytes. -/
def PBs (w : World) (F : Fp) (xs : List Int) (r : List Value) : Prop := ∃ q c, r = [.slice q xs.length c] ∧ RdF w F (.slice q xs.length c) xs
theorem PBs_ok : FpOk PBs where
  mono := fun ⟨q, c, e, h⟩ hG => ⟨q, c, e, h.mono hG⟩
  agr := fun ⟨q, c, e, h⟩ ha => ⟨q, c, e, h.agr ha⟩
  lt := fun ⟨q, c, e, h⟩ => ⟨q, c, e, h.lt⟩

/-! ### Rows -/
section
variable {α : Type} {P : World → Fp → α → List Value → Prop} {d : α} {n : Nat}
/-- A slice's rows of n cells each. -/
def RwF (n : Nat) (d : α) (P : World → Fp → α → List Value → Prop) (w : World) (F : Fp) (q : Option Addr) (L : List α) : Prop := L = [] ∨ ∃ b off, q = some ⟨b, off, none⟩ ∧ F b ∧ ∀ i, i < L.length → ∃ r, r.length = n ∧ rowOf w b (off + i * n) n = r ∧ P w F (L.getD i d) r
theorem rowOf_lt {w : World} {b o n : Nat} {r : List Value} (hn : 0 < n) (hr : r.length = n) (h : rowOf w b o n = r) : b < w.heap.size := by
  unfold rowOf at h
  cases e : w.heap[b]? with
  | none => rw [e] at h; rw [← h] at hr; simp at hr; omega
  | some x => exact (Array.getElem?_eq_some_iff.1 e).1
theorem rowOf_agr {w w' : World} {b o n : Nat} (h : w'.heap[b]? = w.heap[b]?) : rowOf w' b o n = rowOf w b o n := by unfold rowOf; rw [h]
theorem RwF.mono (k : FpOk P) {w : World} {F G : Fp} {q : Option Addr} {L : List α} (h : RwF n d P w F q L) (hG : ∀ g, F g → G g) : RwF n d P w G q L := by
  rcases h with h | ⟨b, off, e, hb, hx⟩
  · exact .inl h
  · refine .inr ⟨b, off, e, hG b hb, fun i hi => ?_⟩
    obtain ⟨r, h1, h2, h3⟩ := hx i hi
    exact ⟨r, h1, h2, k.mono h3 hG⟩
theorem RwF.agr (k : FpOk P) (hn : 0 < n) {w w' : World} {F : Fp} {q : Option Addr} {L : List α} (h : RwF n d P w F q L) (ha : Agr F w w') : RwF n d P w' F q L := by
  rcases h with h | ⟨b, off, e, hb, hx⟩
  · exact .inl h
  · refine .inr ⟨b, off, e, hb, fun i hi => ?_⟩
    obtain ⟨r, h1, h2, h3⟩ := hx i hi
    exact ⟨r, h1, by rw [rowOf_agr (ha b hb (rowOf_lt hn h1 h2))]; exact h2, k.agr h3 ha⟩
theorem RwF.lt (k : FpOk P) (hn : 0 < n) {w : World} {F : Fp} {q : Option Addr} {L : List α} (h : RwF n d P w F q L) : RwF n d P w (fun g => F g ∧ g < w.heap.size) q L := by
  by_cases h0 : L = []
  · exact .inl h0
  · obtain ⟨b, off, e, hb, hx⟩ := h.resolve_left h0
    refine .inr ⟨b, off, e, ⟨hb, ?_⟩, fun i hi => ?_⟩
    · obtain ⟨r, h1, h2, _⟩ := hx 0 (List.length_pos_iff.2 h0)
      exact rowOf_lt hn h1 h2
    · obtain ⟨r, h1, h2, h3⟩ := hx i hi
      exact ⟨r, h1, h2, k.lt h3⟩
theorem RwF.on (k : FpOk P) (hn : 0 < n) {w w' : World} {F : Fp} {q : Option Addr} {L : List α} (h : RwF n d P w F q L) (hb : Below w.heap.size w w') : RwF n d P w' F q L := h.agr k hn (Agr.below hb)
theorem RwF.nil (w : World) (F : Fp) (q : Option Addr) : RwF n d P w F q [] := .inl rfl
/-- The row at a place. -/
theorem RwF.get {w : World} {F : Fp} {q : Option Addr} {L : List α} (h : RwF n d P w F q L) {i : Nat} (hi : i < L.length) : ∃ b off r, q = some ⟨b, off, none⟩ ∧ F b ∧ r.length = n ∧ rowOf w b (off + i * n) n = r ∧ P w F (L.getD i d) r := by
  have h0 : L ≠ [] := fun e => by rw [e] at hi; simp at hi
  obtain ⟨b, off, e, hb, hx⟩ := h.resolve_left h0
  obtain ⟨r, h1, h2, h3⟩ := hx i hi
  exact ⟨b, off, r, e, hb, h1, h2, h3⟩
/-- A cell that holds such a slice. -/
def PSl (n : Nat) (d : α) (P : World → Fp → α → List Value → Prop) (w : World) (F : Fp) (L : List α) (r : List Value) : Prop := ∃ q c, r = [.slice q L.length c] ∧ RwF n d P w F q L
theorem PSl_ok (k : FpOk P) (hn : 0 < n) : FpOk (PSl n d P) where
  mono := fun ⟨q, c, e, h⟩ hG => ⟨q, c, e, h.mono k hG⟩
  agr := fun ⟨q, c, e, h⟩ ha => ⟨q, c, e, h.agr k hn ha⟩
  lt := fun ⟨q, c, e, h⟩ => ⟨q, c, e, h.lt k hn⟩

/-! ### Rows of one's own -/
/-- The rows that a call has laid by now: all read within F, and none in the rows' own block. -/
structure OwF (n : Nat) (d : α) (P : World → Fp → α → List Value → Prop) (F : Fp) (w W : World) (T : TypeId) (v : Value) (L : List α) (done : List Value) : Prop where
  own : W.ownsRow 0 T n v L.length done
  each : ∀ i, i < L.length → ∃ r, r.length = n ∧ (done.drop (i * n)).take n = r ∧ P W (fun g => F g ∧ v.ownBlock ≠ some g) (L.getD i d) r
  fresh : ∀ g, v.ownBlock = some g → w.heap.size ≤ g
  below : Below w.heap.size w W
variable {F : Fp} {w W W' : World} {T : TypeId} {v : Value} {L : List α} {done : List Value}
theorem OwF.start (hb : Below w.heap.size w W) : OwF n d P F w W T (.slice none 0 0) [] [] := ⟨World.ownsRow_nil W 0 T n, fun i hi => by simp at hi, by simp [Value.ownBlock], hb⟩
theorem OwF.on (k : FpOk P) (h : OwF n d P F w W T v L done) (hb : Below W.heap.size W W') : OwF n d P F w W' T v L done :=
  ⟨own_on h.own hb, fun i hi => by
    obtain ⟨r, h1, h2, h3⟩ := h.each i hi
    exact ⟨r, h1, h2, k.on h3 hb⟩, h.fresh, h.below.trans (hb.mono h.below.size)⟩
theorem OwF.len (h : OwF n d P F w W T v L done) : done.length = L.length * n := h.own.1
theorem OwF.slice (h : OwF n d P F w W T v L done) : ∃ q c, v = .slice q L.length c := own_slice h.own
theorem OwF.rows (k : FpOk P) {q : Option Addr} {m c : Nat} (h : OwF n d P F w W T (.slice q m c) L done) : L = [] ∨ ∃ b off, q = some ⟨b, off, none⟩ ∧ (Value.slice q m c).ownBlock = some b ∧ ∀ i, i < L.length → ∃ r, r.length = n ∧ rowOf W b (off + i * n) n = r ∧ P W (fun g => F g ∧ (Value.slice q m c).ownBlock ≠ some g) (L.getD i d) r := by
  have _ := k
  rcases h.own.2 with ⟨e, h0⟩ | ⟨g, cap, cur, e, _, hg, hnc, hcm, hcs', htake⟩
  · exact .inl (List.eq_nil_of_length_eq_zero h0)
  · simp only [Value.slice.injEq] at e
    obtain ⟨rfl, rfl, rfl⟩ := e
    refine .inr ⟨g, 0, rfl, rfl, fun j hj => ?_⟩
    obtain ⟨r, h1, h2, h3⟩ := h.each j hj
    refine ⟨r, h1, ?_, h3⟩
    have hl := h.len
    have hc2 : cur = (done ++ cur.toList.drop (L.length * n)).toArray := by
      apply Array.ext'
      show cur.toList = done ++ cur.toList.drop (L.length * n)
      rw [← htake, List.take_append_drop]
    rw [hc2] at hg
    rw [rowOf_block hg, Nat.zero_add, ← h2]
    have h5 : j * n + n ≤ L.length * n := by rw [← Nat.succ_mul]; exact Nat.mul_le_mul_right n hj
    have e : ((done ++ cur.toList.drop (L.length * n)).drop (j * n)).take n = (done.drop (j * n)).take n := by
      rw [List.drop_append_of_le_length (by omega), List.take_append_of_le_length (by rw [List.length_drop]; omega)]
    rw [← e]
    simp [List.take_drop]
theorem OwF.rd (k : FpOk P) {q : Option Addr} {m c : Nat} (h : OwF n d P F w W T (.slice q m c) L done) (hF : ∀ g, w.heap.size ≤ g → F g) : RwF n d P W F q L := by
  rcases h.own.2 with ⟨e, h0⟩ | ⟨g, cap, cur, e, _, hg, hnc, hcm, hcs', htake⟩
  · exact .inl (List.eq_nil_of_length_eq_zero h0)
  · simp only [Value.slice.injEq] at e
    obtain ⟨rfl, rfl, rfl⟩ := e
    refine .inr ⟨g, 0, rfl, hF g (h.fresh g rfl), fun j hj => ?_⟩
    obtain ⟨r, h1, h2, h3⟩ := h.each j hj
    refine ⟨r, h1, ?_, k.mono h3 (fun _ h => h.1)⟩
    have hl := h.len
    have hc2 : cur = (done ++ cur.toList.drop (L.length * n)).toArray := by
      apply Array.ext'
      show cur.toList = done ++ cur.toList.drop (L.length * n)
      rw [← htake, List.take_append_drop]
    rw [hc2] at hg
    rw [rowOf_block hg, Nat.zero_add, ← h2]
    have h5 : j * n + n ≤ L.length * n := by rw [← Nat.succ_mul]; exact Nat.mul_le_mul_right n hj
    have e : ((done ++ cur.toList.drop (L.length * n)).drop (j * n)).take n = (done.drop (j * n)).take n := by
      rw [List.drop_append_of_le_length (by omega), List.take_append_of_le_length (by rw [List.length_drop]; omega)]
    rw [← e]
    simp [List.take_drop]
theorem OwF.chg (k : FpOk P) {K : List Nat} (h : OwF n d P F w W T v L done) (hc : Chg W W' K) (hF : ∀ g, F g → g ∉ K) (hv : ∀ g, v.ownBlock = some g → g ∉ K) (hK : ∀ x, x ∈ K → w.heap.size ≤ x) : OwF n d P F w W' T v L done :=
  ⟨own_keep h.own (fun g hg => hc.block g (own_lt h.own hg) (hv g hg)), fun i hi => by
    obtain ⟨r, h1, h2, h3⟩ := h.each i hi
    exact ⟨r, h1, h2, k.agr h3 (Agr.chg hc (fun g hg => hF g hg.1))⟩, h.fresh, h.below.trans (hc.toBelow h.below.size hK)⟩
/-- One more row. -/
theorem OwF.grow (k : FpOk P) {x : α} {r : List Value} {q : Option Addr} {c : Nat} (h : OwF n d P F w W T v L done) (hr : r.length = n) (hp : P W (fun g => F g ∧ v.ownBlock ≠ some g) x r)
    (own : W'.ownsRow 0 T n (.slice q (L.length + 1) c) (L.length + 1) (done ++ r)) (grow : W.grownBy W' v.ownBlock) (fr : (Value.slice q (L.length + 1) c).ownBlock = v.ownBlock ∨ (Value.slice q (L.length + 1) c).ownBlock = some W.heap.size) :
    OwF n d P F w W' T (.slice q (L.length + 1) c) (L ++ [x]) (done ++ r) := by
  have hl := h.len
  have key : ∀ {y : α} {s : List Value}, P W (fun g => F g ∧ v.ownBlock ≠ some g) y s → P W' (fun g => F g ∧ (Value.slice q (L.length + 1) c).ownBlock ≠ some g) y s := fun {y s} hy => by
    have h1 := k.agr (k.lt hy) (w' := W') (fun g hg hlt => grow.block g hlt (fun e => hg.1.2 e.symm))
    refine k.mono h1 (fun g hg => ⟨hg.1.1, fun e => ?_⟩)
    rcases fr with e2 | e2
    · rw [e2] at e; exact hg.1.2 e
    · rw [e2] at e
      have : W.heap.size = g := Option.some.inj e
      omega
  refine ⟨?_, fun i hi => ?_, fun g hg => ?_, ?_⟩
  · rw [List.length_append, List.length_singleton]; exact own
  · rw [List.length_append, List.length_singleton] at hi
    by_cases hil : i < L.length
    · obtain ⟨s, h1, h2, h3⟩ := h.each i hil
      have eg : (L ++ [x]).getD i d = L.getD i d := by simp [List.getD, List.getElem?_append_left hil]
      rw [eg]
      have h5 : i * n + n ≤ L.length * n := by rw [← Nat.succ_mul]; exact Nat.mul_le_mul_right n hil
      refine ⟨s, h1, ?_, key h3⟩
      rw [List.drop_append_of_le_length (by omega), List.take_append_of_le_length (by rw [List.length_drop]; omega)]
      exact h2
    · obtain rfl : i = L.length := by omega
      have eg : (L ++ [x]).getD L.length d = x := by simp [List.getD]
      rw [eg]
      refine ⟨r, hr, ?_, key hp⟩
      rw [← hl, List.drop_left, List.take_of_length_le (by omega)]
  · rcases fr with e | e
    · rw [e] at hg; exact h.fresh g hg
    · rw [e] at hg
      have := h.below.size
      have : W.heap.size = g := Option.some.inj hg
      omega
  · exact h.below.grown grow h.below.size (fun g hg => h.fresh g hg)
/-- What is read outside one's own row is so behind an append. -/
theorem FpOk.grown (k : FpOk P) {G : Fp} {v' : Value} {y : α} {s : List Value} (hy : P W (fun g => G g ∧ v.ownBlock ≠ some g) y s) (grow : W.grownBy W' v.ownBlock) (fr : v'.ownBlock = v.ownBlock ∨ v'.ownBlock = some W.heap.size) : P W' (fun g => G g ∧ v'.ownBlock ≠ some g) y s := by
  have h1 := k.agr (k.lt hy) (w' := W') (fun g hg hlt => grow.block g hlt (fun e => hg.1.2 e.symm))
  refine k.mono h1 (fun g hg => ⟨hg.1.1, fun e => ?_⟩)
  rcases fr with e2 | e2
  · rw [e2] at e; exact hg.1.2 e
  · rw [e2] at e
    have : W.heap.size = g := Option.some.inj e
    omega
theorem RwF.grown (k : FpOk P) (hn : 0 < n) {G : Fp} {v' : Value} {q : Option Addr} {M : List α} (hy : RwF n d P W (fun g => G g ∧ v.ownBlock ≠ some g) q M) (grow : W.grownBy W' v.ownBlock) (fr : v'.ownBlock = v.ownBlock ∨ v'.ownBlock = some W.heap.size) : RwF n d P W' (fun g => G g ∧ v'.ownBlock ≠ some g) q M := by
  obtain ⟨q', c', e, h⟩ := (PSl_ok (d := d) k hn).grown (y := M) (s := [.slice q M.length 0]) ⟨q, 0, rfl, hy⟩ grow fr
  simp only [List.cons.injEq, Value.slice.injEq, and_true] at e
  rw [e.1]
  exact h
/-- What lies elsewhere stays when one's own row grows. -/
theorem OwF.agr {G : Fp} (h : OwF n d P F w W T v L done) (grow : W.grownBy W' v.ownBlock) (hG : ∀ g, G g → v.ownBlock ≠ some g) : Agr G W W' := by
  have _ := h.own
  exact fun g hg hlt => grow.block g hlt (fun e => hG g hg e.symm)
end
/-- A literal slice of one row, as what is appended. -/
theorem src_any {P : Program} {tx e' T : TypeId} {n : Nat} {w : World} {R : List Value} (hk : P.underlying tx = some (.slice e')) (hR : R.length = n) (h1 : ∀ u ∈ R, u.oneCell' = true) : Src P n tx (.slice (some ⟨w.heap.size, 0, none⟩) 1 1) 1 R (w.alloc (.cells R.toArray T)) := by
  refine Src.ofSlice _ hk _ _ _ _ (by rw [hR, Nat.one_mul]) (fun j u hu => ?_) h1
  rw [addr_add, Joins.cell_of_block (heap_alloc_new w (.cells R.toArray T)), Nat.zero_add]
  simpa using hu
end Go.Proofs.YtjlodnecdngdfaaDoor
namespace Go.Proofs.YtjlodnecdngdfaaDoor
open Go.RowKit
set_option maxRecDepth 100000

/-! ### The numbers -/
theorem wrap_u32n (n : Int) : IntKind.u32.wrap n = n % 4294967296 := by simp [IntKind.wrap, IntKind.bits, IntKind.signed]
theorem bv32 (a : Nat) (ha : a < 4294967296) : (BitVec.ofInt 32 (a : Int)).toNat = a := by
  rw [BitVec.ofInt_natCast, BitVec.toNat_ofNat]; exact Nat.mod_eq_of_lt (by omega)
theorem xorN (a b : Nat) (ha : a < 4294967296) (hb : b < 4294967296) : bits .xor .u32 (a : Int) (b : Int) = ((Nat.xor a b : Nat) : Int) ∧ Nat.xor a b < 4294967296 := by
  have hx : a ^^^ b < 2 ^ 32 := Nat.xor_lt_two_pow (by omega) (by omega)
  refine ⟨?_, by exact hx⟩
  show IntKind.u32.wrap ((BitVec.ofInt 32 (a : Int) ^^^ BitVec.ofInt 32 (b : Int)).toNat : Int) = ((a ^^^ b : Nat) : Int)
  rw [BitVec.toNat_xor, bv32 a ha, bv32 b hb, wrap_u32n]
  omega
theorem orN (a b : Nat) (ha : a < 4294967296) (hb : b < 4294967296) : bits .or .u32 (a : Int) (b : Int) = ((Nat.lor a b : Nat) : Int) ∧ Nat.lor a b < 4294967296 := by
  have hx : a ||| b < 2 ^ 32 := Nat.or_lt_two_pow (by omega) (by omega)
  refine ⟨?_, by exact hx⟩
  show IntKind.u32.wrap ((BitVec.ofInt 32 (a : Int) ||| BitVec.ofInt 32 (b : Int)).toNat : Int) = ((a ||| b : Nat) : Int)
  rw [BitVec.toNat_or, bv32 a ha, bv32 b hb, wrap_u32n]
  omega
theorem andN (a b : Nat) (ha : a < 4294967296) (hb : b < 4294967296) : bits .and .u32 (a : Int) (b : Int) = ((Nat.land a b : Nat) : Int) ∧ Nat.land a b < 4294967296 := by
  have hx : a &&& b < 2 ^ 32 := Nat.and_lt_two_pow _ (by omega)
  refine ⟨?_, by exact hx⟩
  show IntKind.u32.wrap ((BitVec.ofInt 32 (a : Int) &&& BitVec.ofInt 32 (b : Int)).toNat : Int) = ((a &&& b : Nat) : Int)
  rw [BitVec.toNat_and, bv32 a ha, bv32 b hb, wrap_u32n]
  omega
def rotN (c d x : Nat) : Nat := Nat.lor (Nat.mod (Nat.mul x c) 4294967296) (Nat.div x d)
theorem rk_N {k : Int} {s : Nat} (c d : Nat) (hs : rsh k = s) (hc : 2 ^ s = c) (hd : 2 ^ (32 - s) = d) (x : Nat) (hx : x < 4294967296) : rk k (x : Int) = ((rotN c d x : Nat) : Int) ∧ rotN c d x < 4294967296 := by
  have h1 : Nat.mod (Nat.mul x c) 4294967296 < 4294967296 := Nat.mod_lt _ (by decide)
  have h2 : Nat.div x d < 4294967296 := Nat.lt_of_le_of_lt (Nat.div_le_self x d) hx
  have h := orN _ _ h1 h2
  refine ⟨?_, h.2⟩
  have e1 : ((x : Int) * 2 ^ s % 4294967296) = ((Nat.mod (Nat.mul x c) 4294967296 : Nat) : Int) := by
    show _ = ((x * c % 4294967296 : Nat) : Int)
    subst hc
    rw [Int.natCast_emod, Int.natCast_mul, Int.natCast_pow]
    rfl
  have e2 : ((x : Int) / 2 ^ (32 - s)) = ((Nat.div x d : Nat) : Int) := by
    show _ = ((x / d : Nat) : Int)
    subst hd
    rw [Int.natCast_ediv, Int.natCast_pow]
    rfl
  unfold rk
  rw [hs, e1, e2]
  exact h.1
def wdN (a b c d : Nat) : Nat := Nat.lor (Nat.lor (Nat.lor (Nat.mul a 16777216) (Nat.mul b 65536)) (Nat.mul c 256)) d
theorem wd_N {B : Nat → Int} {i : Nat} {a b c d : Nat} (ha : a < 256) (hb : b < 256) (hc : c < 256) (hd : d < 256) (h0 : B (4 * i) = a) (h1 : B (4 * i + 1) = b) (h2 : B (4 * i + 2) = c) (h3 : B (4 * i + 3) = d) : wd B i = ((wdN a b c d : Nat) : Int) ∧ wdN a b c d < 4294967296 := by
  have e1 := orN (a * 16777216) (b * 65536) (by omega) (by omega)
  have e2 := orN _ (c * 256) e1.2 (by omega)
  have e3 := orN _ d e2.2 (by omega)
  refine ⟨?_, e3.2⟩
  unfold wd
  rw [h0, h1, h2, h3]
  rw [show ((a : Int) * 16777216) = ((a * 16777216 : Nat) : Int) by omega, show ((b : Int) * 65536) = ((b * 65536 : Nat) : Int) by omega, show ((c : Int) * 256) = ((c * 256 : Nat) : Int) by omega]
  rw [e1.1, e2.1, e3.1]
  rfl
def sg0N (x : Nat) : Nat := Nat.xor (Nat.xor (rotN 33554432 128 x) (rotN 16384 262144 x)) (Nat.div x 8)
def sg1N (x : Nat) : Nat := Nat.xor (Nat.xor (rotN 32768 131072 x) (rotN 8192 524288 x)) (Nat.div x 1024)
def faN (x : Nat) : Nat := Nat.xor (Nat.xor (rotN 1073741824 4 x) (rotN 524288 8192 x)) (rotN 1024 4194304 x)
def feN (x : Nat) : Nat := Nat.xor (Nat.xor (rotN 67108864 64 x) (rotN 2097152 2048 x)) (rotN 128 33554432 x)
def fchN (e f g : Nat) : Nat := Nat.xor (Nat.land e f) (Nat.land (Nat.xor 4294967295 e) g)
def fmjN (a b c : Nat) : Nat := Nat.xor (Nat.xor (Nat.land a b) (Nat.land a c)) (Nat.land b c)
theorem sg0_N (x : Nat) (hx : x < 4294967296) : sg0 x = ((sg0N x : Nat) : Int) ∧ sg0N x < 4294967296 := by
  have h1 := rk_N (k := -7) (s := 25) 33554432 128 (by decide) (by decide) (by decide) x hx
  have h2 := rk_N (k := -18) (s := 14) 16384 262144 (by decide) (by decide) (by decide) x hx
  have h3 : x / 8 < 4294967296 := by omega
  have e1 := xorN _ _ h1.2 h2.2
  have e2 := xorN _ _ e1.2 h3
  refine ⟨?_, e2.2⟩
  unfold sg0
  rw [h1.1, h2.1, e1.1, show ((x : Int) / 8) = ((x / 8 : Nat) : Int) by omega, e2.1]
  rfl
theorem sg1_N (x : Nat) (hx : x < 4294967296) : sg1 x = ((sg1N x : Nat) : Int) ∧ sg1N x < 4294967296 := by
  have h1 := rk_N (k := -17) (s := 15) 32768 131072 (by decide) (by decide) (by decide) x hx
  have h2 := rk_N (k := -19) (s := 13) 8192 524288 (by decide) (by decide) (by decide) x hx
  have h3 : x / 1024 < 4294967296 := by omega
  have e1 := xorN _ _ h1.2 h2.2
  have e2 := xorN _ _ e1.2 h3
  refine ⟨?_, e2.2⟩
  unfold sg1
  rw [h1.1, h2.1, e1.1, show ((x : Int) / 1024) = ((x / 1024 : Nat) : Int) by omega, e2.1]
  rfl
theorem fa_N (x : Nat) (hx : x < 4294967296) : fa x = ((faN x : Nat) : Int) ∧ faN x < 4294967296 := by
  have h1 := rk_N (k := -2) (s := 30) 1073741824 4 (by decide) (by decide) (by decide) x hx
  have h2 := rk_N (k := -13) (s := 19) 524288 8192 (by decide) (by decide) (by decide) x hx
  have h3 := rk_N (k := -22) (s := 10) 1024 4194304 (by decide) (by decide) (by decide) x hx
  have e1 := xorN _ _ h1.2 h2.2
  have e2 := xorN _ _ e1.2 h3.2
  refine ⟨?_, e2.2⟩
  unfold fa
  rw [h1.1, h2.1, e1.1, h3.1, e2.1]
  rfl
theorem fe_N (x : Nat) (hx : x < 4294967296) : fe x = ((feN x : Nat) : Int) ∧ feN x < 4294967296 := by
  have h1 := rk_N (k := -6) (s := 26) 67108864 64 (by decide) (by decide) (by decide) x hx
  have h2 := rk_N (k := -11) (s := 21) 2097152 2048 (by decide) (by decide) (by decide) x hx
  have h3 := rk_N (k := -25) (s := 7) 128 33554432 (by decide) (by decide) (by decide) x hx
  have e1 := xorN _ _ h1.2 h2.2
  have e2 := xorN _ _ e1.2 h3.2
  refine ⟨?_, e2.2⟩
  unfold fe
  rw [h1.1, h2.1, e1.1, h3.1, e2.1]
  rfl
theorem fch_N (e f g : Nat) (he : e < 4294967296) (hf : f < 4294967296) (hg : g < 4294967296) : fch e f g = ((fchN e f g : Nat) : Int) ∧ fchN e f g < 4294967296 := by
  have h1 := andN e f he hf
  have h2 := xorN 4294967295 e (by decide) he
  have h3 := andN _ g h2.2 hg
  have h4 := xorN _ _ h1.2 h3.2
  refine ⟨?_, h4.2⟩
  unfold fch notI
  rw [show (if IntKind.u32.signed = true then -1 else IntKind.u32.max) = ((4294967295 : Nat) : Int) by decide, h1.1, h2.1, h3.1, h4.1]
  rfl
theorem fmj_N (a b c : Nat) (ha : a < 4294967296) (hb : b < 4294967296) (hc : c < 4294967296) : fmj a b c = ((fmjN a b c : Nat) : Int) ∧ fmjN a b c < 4294967296 := by
  have h1 := andN a b ha hb
  have h2 := andN a c ha hc
  have h3 := andN b c hb hc
  have h4 := xorN _ _ h1.2 h2.2
  have h5 := xorN _ _ h4.2 h3.2
  refine ⟨?_, h5.2⟩
  unfold fmj
  rw [h1.1, h2.1, h4.1, h3.1, h5.1]
  rfl
def pN (x y : Nat) : Nat := Nat.mod (Nat.add x y) 4294967296
theorem p_N (x y : Nat) : p32 x y = ((pN x y : Nat) : Int) ∧ pN x y < 4294967296 := by
  refine ⟨?_, Nat.mod_lt _ (by decide)⟩
  show _ = (((x + y) % 4294967296 : Nat) : Int)
  unfold p32
  omega

/-! ### The state -/
structure SN where
  a : Nat
  b : Nat
  c : Nat
  d : Nat
  e : Nat
  f : Nat
  g : Nat
  h : Nat
def SN.to (s : SN) : St8 := ⟨s.a, s.b, s.c, s.d, s.e, s.f, s.g, s.h⟩
structure SN.Ok (s : SN) : Prop where
  a : s.a < 4294967296
  b : s.b < 4294967296
  c : s.c < 4294967296
  d : s.d < 4294967296
  e : s.e < 4294967296
  f : s.f < 4294967296
  g : s.g < 4294967296
  h : s.h < 4294967296
def SN.u1 (s : SN) (k w : Nat) : Nat := Nat.mod (Nat.add (Nat.add (Nat.add (Nat.add s.h (feN s.e)) (fchN s.e s.f s.g)) k) w) 4294967296
def SN.u2 (s : SN) : Nat := Nat.mod (Nat.add (faN s.a) (fmjN s.a s.b s.c)) 4294967296
def SN.rnd (s : SN) (k w : Nat) : SN := ⟨pN (s.u1 k w) s.u2, s.a, s.b, s.c, pN s.d (s.u1 k w), s.e, s.f, s.g⟩
theorem SN.rnd_to {s : SN} (h : s.Ok) (k w : Nat) : s.to.rnd k w = (s.rnd k w).to ∧ (s.rnd k w).Ok := by
  have e1 := fe_N s.e h.e
  have e2 := fch_N s.e s.f s.g h.e h.f h.g
  have e3 := fa_N s.a h.a
  have e4 := fmj_N s.a s.b s.c h.a h.b h.c
  have u1 : s.to.u1 k w % 4294967296 = ((s.u1 k w : Nat) : Int) := by
    show (((s.h : Int) + fe s.e + fch s.e s.f s.g + k + w) % 4294967296) = (((s.h + feN s.e + fchN s.e s.f s.g + k + w) % 4294967296 : Nat) : Int)
    rw [e1.1, e2.1]
    omega
  have u2 : s.to.u2 % 4294967296 = ((s.u2 : Nat) : Int) := by
    show ((fa s.a + fmj s.a s.b s.c) % 4294967296) = (((faN s.a + fmjN s.a s.b s.c) % 4294967296 : Nat) : Int)
    rw [e3.1, e4.1]
    omega
  refine ⟨?_, (p_N _ _).2, h.a, h.b, h.c, (p_N _ _).2, h.e, h.f, h.g⟩
  unfold St8.rnd
  rw [u1, u2]
  show (⟨p32 (s.u1 k w : Nat) (s.u2 : Nat), s.a, s.b, s.c, p32 (s.d : Nat) (s.u1 k w : Nat), s.e, s.f, s.g⟩ : St8) = _
  rw [(p_N _ _).1, (p_N _ _).1]
  rfl
def SN.run (s : SN) : List Nat → List Nat → SN
  | k :: ks, w :: ws => (s.rnd k w).run ks ws
  | _, _ => s
theorem SN.run_snoc (k w : Nat) : ∀ (ks ws : List Nat) (s : SN), ks.length = ws.length → s.run (ks ++ [k]) (ws ++ [w]) = (s.run ks ws).rnd k w
  | [], [], s, _ => rfl
  | _ :: ks, _ :: ws, s, h => SN.run_snoc k w ks ws _ (by simpa using h)
  | [], _ :: _, _, h => by simp at h
  | _ :: _, [], _, h => by simp at h
def SN.add (s t : SN) : SN := ⟨pN s.a t.a, pN s.b t.b, pN s.c t.c, pN s.d t.d, pN s.e t.e, pN s.f t.f, pN s.g t.g, pN s.h t.h⟩
def nxtN (l : List Nat) : Nat := Nat.mod (Nat.add (Nat.add (Nat.add (l.getD 15 0) (sg0N (l.getD 14 0))) (l.getD 6 0)) (sg1N (l.getD 1 0))) 4294967296
theorem nxtN_lt (l : List Nat) : nxtN l < 4294967296 := Nat.mod_lt _ (by decide)
theorem nxtN_eq (l : List Nat) : nxtN l = (l.getD 15 0 + sg0N (l.getD 14 0) + l.getD 6 0 + sg1N (l.getD 1 0)) % 4294967296 := rfl
def growN : Nat → List Nat → List Nat
  | 0, l => l
  | n + 1, l => growN n (nxtN l :: l)
def rootsN : List Nat := [1116352408, 1899447441, 3049323471, 3921009573, 961987163, 1508970993, 2453635748, 2870763221, 3624381080, 310598401, 607225278, 1426881987, 1925078388, 2162078206, 2614888103, 3248222580, 3835390401, 4022224774, 264347078, 604807628, 770255983, 1249150122, 1555081692, 1996064986, 2554220882, 2821834349, 2952996808, 3210313671, 3336571891, 3584528711, 113926993, 338241895, 666307205, 773529912, 1294757372, 1396182291, 1695183700, 1986661051, 2177026350, 2456956037, 2730485921, 2820302411, 3259730800, 3345764771, 3516065817, 3600352804, 4094571909, 275423344, 430227734, 506948616, 659060556, 883997877, 958139571, 1322822218, 1537002063, 1747873779, 1955562222, 2024104815, 2227730452, 2361852424, 2428436474, 2756734187, 3204031479, 3329325298]
def SN.mix (s : SN) (ws : List Nat) : SN := s.add (s.run rootsN (growN 48 ws.reverse).reverse)
theorem rt_N {i : Nat} (hi : i < 64) : rt i = ((rootsN.getD i 0 : Nat) : Int) := by
  have e : rootsZ = rootsN.map (fun n : Nat => (n : Int)) := by rfl
  have hl : i < rootsN.length := hi
  unfold rt
  rw [e]
  simp [List.getD, hl]
/-- A row of words, the newest first. -/
def Sch (B : Nat → Int) (l : List Nat) : Prop := ∀ j, j < l.length → W B j = ((l.getD (l.length - 1 - j) 0 : Nat) : Int) ∧ l.getD (l.length - 1 - j) 0 < 4294967296
theorem Sch.grow {B : Nat → Int} {l : List Nat} (h : Sch B l) (h16 : 16 ≤ l.length) : Sch B (nxtN l :: l) := by
  intro j hj
  simp only [List.length_cons] at hj ⊢
  by_cases e : j = l.length
  · subst e
    have a := h (l.length - 16) (by omega)
    have b := h (l.length - 15) (by omega)
    have c := h (l.length - 7) (by omega)
    have d := h (l.length - 2) (by omega)
    rw [show l.length - 1 - (l.length - 16) = 15 by omega] at a
    rw [show l.length - 1 - (l.length - 15) = 14 by omega] at b
    rw [show l.length - 1 - (l.length - 7) = 6 by omega] at c
    rw [show l.length - 1 - (l.length - 2) = 1 by omega] at d
    rw [show l.length + 1 - 1 - l.length = 0 by omega, List.getD_cons_zero]
    refine ⟨?_, nxtN_lt l⟩
    rw [W_high B h16]
    unfold nxt
    rw [a.1, b.1, c.1, d.1, (sg0_N _ b.2).1, (sg1_N _ d.2).1, nxtN_eq]
    generalize l.getD 15 0 = x1
    generalize sg0N (l.getD 14 0) = x2
    generalize l.getD 6 0 = x3
    generalize sg1N (l.getD 1 0) = x4
    omega
  · have a := h j (by omega)
    rw [show l.length + 1 - 1 - j = (l.length - 1 - j) + 1 by omega, List.getD_cons_succ]
    exact a
theorem growN_len : ∀ n (l : List Nat), (growN n l).length = n + l.length
  | 0, l => by simp [growN]
  | n + 1, l => by rw [growN, growN_len n]; simp; omega
theorem Sch.grows {B : Nat → Int} : ∀ n {l : List Nat}, Sch B l → 16 ≤ l.length → Sch B (growN n l)
  | 0, _, h, _ => h
  | n + 1, _, h, h16 => Sch.grows n (h.grow h16) (by simp; omega)
theorem getD_reverse {l : List Nat} {j : Nat} (hj : j < l.length) : l.reverse.getD j 0 = l.getD (l.length - 1 - j) 0 := by
  simp only [List.getD_eq_getElem?_getD]
  rw [List.getElem?_reverse hj]
theorem SN.rounds_to {B : Nat → Int} {ws : List Nat} (hl : ws.length = 64) (hw : ∀ j, j < 64 → W B j = ((ws.getD j 0 : Nat) : Int)) {s : SN} (h : s.Ok) : ∀ n, n ≤ 64 → s.to.rounds B n = (s.run (rootsN.take n) (ws.take n)).to ∧ (s.run (rootsN.take n) (ws.take n)).Ok
  | 0, _ => by
    have e : s.run (rootsN.take 0) (ws.take 0) = s := by simp [SN.run]
    rw [e]; exact ⟨rfl, h⟩
  | n + 1, hn => by
    obtain ⟨h1, h2⟩ := SN.rounds_to hl hw h n (by omega)
    have e1 : rootsN.take (n + 1) = rootsN.take n ++ [rootsN.getD n 0] := by
      have hn' : n < rootsN.length := by show n < 64; omega
      rw [List.take_succ_eq_append_getElem hn']; simp [List.getD, hn']
    have e2 : ws.take (n + 1) = ws.take n ++ [ws.getD n 0] := by
      have hn' : n < ws.length := by omega
      rw [List.take_succ_eq_append_getElem hn']; simp [List.getD, hn']
    rw [e1, e2, SN.run_snoc _ _ _ _ _ (by have : rootsN.length = 64 := rfl; simp [hl, this]; try omega)]
    have h3 := SN.rnd_to h2 (rootsN.getD n 0) (ws.getD n 0)
    refine ⟨?_, h3.2⟩
    rw [← h3.1, St8.rounds, h1, rt_N (by omega), hw n (by omega)]
theorem SN.add_to (s t : SN) : s.to.add t.to = (s.add t).to ∧ (s.add t).Ok := by
  refine ⟨?_, (p_N _ _).2, (p_N _ _).2, (p_N _ _).2, (p_N _ _).2, (p_N _ _).2, (p_N _ _).2, (p_N _ _).2, (p_N _ _).2⟩
  show (⟨p32 (s.a : Nat) (t.a : Nat), p32 (s.b : Nat) (t.b : Nat), p32 (s.c : Nat) (t.c : Nat), p32 (s.d : Nat) (t.d : Nat), p32 (s.e : Nat) (t.e : Nat), p32 (s.f : Nat) (t.f : Nat), p32 (s.g : Nat) (t.g : Nat), p32 (s.h : Nat) (t.h : Nat)⟩ : St8) = _
  simp only [(p_N _ _).1]
  rfl
theorem SN.mix_to {B : Nat → Int} {ws : List Nat} (hl : ws.length = 16) (hw : ∀ j, j < 16 → wd B j = ((ws.getD j 0 : Nat) : Int) ∧ ws.getD j 0 < 4294967296) {s : SN} (h : s.Ok) : s.to.mix B = (s.mix ws).to ∧ (s.mix ws).Ok := by
  have h0 : Sch B ws.reverse := by
    intro j hj
    simp only [List.length_reverse] at hj ⊢
    have : ws.reverse.getD (ws.length - 1 - j) 0 = ws.getD j 0 := by
      rw [getD_reverse (by omega)]; congr 1; omega
    rw [this, W_low B (by omega)]
    exact hw j (by omega)
  have h1 := h0.grows 48 (by simp [hl])
  have hlen : (growN 48 ws.reverse).length = 64 := by rw [growN_len]; simp [hl]
  have h2 := SN.rounds_to (B := B) (ws := (growN 48 ws.reverse).reverse) (by simp [hlen]) (fun j hj => by rw [getD_reverse (by omega)]; exact (h1 j (by omega)).1) h 64 (by omega)
  rw [List.take_of_length_le (by show 64 ≤ 64; omega), List.take_of_length_le (by simp [hlen])] at h2
  unfold St8.mix
  rw [h2.1]
  exact SN.add_to _ _

/-! ### The digest -/
def wordsN : List Nat → List Nat
  | a :: b :: c :: d :: r => wdN a b c d :: wordsN r
  | _ => []
def ivN : SN := ⟨1779033703, 3144134277, 1013904242, 2773480762, 1359893119, 2600822924, 528734635, 1541459225⟩
theorem ivN_ok : ivN.Ok := by constructor <;> (simp only [ivN]; omega)
theorem ivN_to : ivN.to = iv := by simp only [ivN, SN.to, iv]; congr 1
def be4N (n : Nat) : List Nat := [Nat.mod (Nat.div n 16777216) 256, Nat.mod (Nat.div n 65536) 256, Nat.mod (Nat.div n 256) 256, Nat.mod n 256]
def be8N (n : Nat) : List Nat := [Nat.mod (Nat.div n 72057594037927936) 256, Nat.mod (Nat.div n 281474976710656) 256, Nat.mod (Nat.div n 1099511627776) 256, Nat.mod (Nat.div n 4294967296) 256, Nat.mod (Nat.div n 16777216) 256, Nat.mod (Nat.div n 65536) 256, Nat.mod (Nat.div n 256) 256, Nat.mod n 256]
def SN.out (s : SN) : List Nat := be4N s.a ++ be4N s.b ++ be4N s.c ++ be4N s.d ++ be4N s.e ++ be4N s.f ++ be4N s.g ++ be4N s.h
def castL (l : List Nat) : List Int := l.map fun n : Nat => (n : Int)
theorem castL_app (l m : List Nat) : castL (l ++ m) = castL l ++ castL m := List.map_append
theorem castL_len (l : List Nat) : (castL l).length = l.length := List.length_map _
theorem castL_get (l : List Nat) (j : Nat) : (castL l).getD j 0 = ((l.getD j 0 : Nat) : Int) := by
  by_cases h : j < l.length
  · simp [castL, List.getD, h]
  · simp [castL, List.getD, h]
theorem be4_N (n : Nat) : be4 n = castL (be4N n) := by
  have e0 : ((Nat.mod (Nat.div n 16777216) 256 : Nat) : Int) = (n : Int) / 16777216 % 256 := by
    show ((n / 16777216 % 256 : Nat) : Int) = _
    omega
  have e1 : ((Nat.mod (Nat.div n 65536) 256 : Nat) : Int) = (n : Int) / 65536 % 256 := by
    show ((n / 65536 % 256 : Nat) : Int) = _
    omega
  have e2 : ((Nat.mod (Nat.div n 256) 256 : Nat) : Int) = (n : Int) / 256 % 256 := by
    show ((n / 256 % 256 : Nat) : Int) = _
    omega
  have e3 : ((Nat.mod n 256 : Nat) : Int) = (n : Int) % 256 := by
    show ((n % 256 : Nat) : Int) = _
    omega
  simp only [be4, be4N, castL, List.map_cons, List.map_nil, e0, e1, e2, e3]
theorem be8_N (n : Nat) : be8 n = castL (be8N n) := by
  have e0 : ((Nat.mod (Nat.div n 72057594037927936) 256 : Nat) : Int) = (n : Int) / 72057594037927936 % 256 := by
    show ((n / 72057594037927936 % 256 : Nat) : Int) = _
    omega
  have e1 : ((Nat.mod (Nat.div n 281474976710656) 256 : Nat) : Int) = (n : Int) / 281474976710656 % 256 := by
    show ((n / 281474976710656 % 256 : Nat) : Int) = _
    omega
  have e2 : ((Nat.mod (Nat.div n 1099511627776) 256 : Nat) : Int) = (n : Int) / 1099511627776 % 256 := by
    show ((n / 1099511627776 % 256 : Nat) : Int) = _
    omega
  have e3 : ((Nat.mod (Nat.div n 4294967296) 256 : Nat) : Int) = (n : Int) / 4294967296 % 256 := by
    show ((n / 4294967296 % 256 : Nat) : Int) = _
    omega
  have e4 : ((Nat.mod (Nat.div n 16777216) 256 : Nat) : Int) = (n : Int) / 16777216 % 256 := by
    show ((n / 16777216 % 256 : Nat) : Int) = _
    omega
  have e5 : ((Nat.mod (Nat.div n 65536) 256 : Nat) : Int) = (n : Int) / 65536 % 256 := by
    show ((n / 65536 % 256 : Nat) : Int) = _
    omega
  have e6 : ((Nat.mod (Nat.div n 256) 256 : Nat) : Int) = (n : Int) / 256 % 256 := by
    show ((n / 256 % 256 : Nat) : Int) = _
    omega
  have e7 : ((Nat.mod n 256 : Nat) : Int) = (n : Int) % 256 := by
    show ((n % 256 : Nat) : Int) = _
    omega
  simp only [be8, be8N, castL, List.map_cons, List.map_nil, e0, e1, e2, e3, e4, e5, e6, e7]
theorem SN.out_to (s : SN) : s.to.out = castL s.out := by
  unfold SN.out
  simp only [castL_app, ← be4_N]
  rfl
def ByN (l : List Nat) : Prop := ∀ x ∈ l, x < 256
theorem ByN.get {l : List Nat} (h : ByN l) (j : Nat) : l.getD j 0 < 256 := by
  by_cases hj : j < l.length
  · have : l.getD j 0 = l[j] := by simp [List.getD, hj]
    rw [this]; exact h _ (List.getElem_mem hj)
  · have : l.getD j 0 = 0 := by simp [List.getD, hj]
    rw [this]; omega
theorem wordsN_cons (a b c d : Nat) (r : List Nat) : wordsN (a :: b :: c :: d :: r) = wdN a b c d :: wordsN r := by rw [wordsN]
theorem wordsN_get : ∀ (n : Nat) (l : List Nat), l.length = 4 * n → ∀ i, i < n → (wordsN l).getD i 0 = wdN (l.getD (4 * i) 0) (l.getD (4 * i + 1) 0) (l.getD (4 * i + 2) 0) (l.getD (4 * i + 3) 0)
  | 0, _, _, i, hi => by omega
  | n + 1, l, hl, i, hi => by
    obtain ⟨a, b, c, d, r, rfl⟩ : ∃ a b c d r, l = a :: b :: c :: d :: r := by
      match l, hl with
      | a :: b :: c :: d :: r, _ => exact ⟨a, b, c, d, r, rfl⟩
      | [], h => simp at h
      | [_], h => simp at h; omega
      | [_, _], h => simp at h; omega
      | [_, _, _], h => simp at h; omega
    rw [wordsN_cons]
    rcases i with _ | i
    · simp only [List.getD_cons_zero, Nat.mul_zero, Nat.zero_add]
      rw [show (3 : Nat) = 0 + 1 + 1 + 1 by omega, show (2 : Nat) = 0 + 1 + 1 by omega, show (1 : Nat) = 0 + 1 by omega]
      simp only [List.getD_cons_succ, List.getD_cons_zero]
    · have h := wordsN_get n r (by simp at hl; omega) i (by omega)
      rw [show 4 * (i + 1) + 3 = (4 * i + 3) + 1 + 1 + 1 + 1 by omega, show 4 * (i + 1) + 2 = (4 * i + 2) + 1 + 1 + 1 + 1 by omega, show 4 * (i + 1) + 1 = (4 * i + 1) + 1 + 1 + 1 + 1 by omega, show 4 * (i + 1) = 4 * i + 1 + 1 + 1 + 1 by omega]
      simp only [List.getD_cons_succ]
      exact h
theorem wordsN_len : ∀ (n : Nat) (l : List Nat), l.length = 4 * n → (wordsN l).length = n
  | 0, l, h => by
    obtain rfl : l = [] := List.length_eq_zero_iff.1 (by omega)
    simp [wordsN]
  | n + 1, l, hl => by
    obtain ⟨a, b, c, d, r, rfl⟩ : ∃ a b c d r, l = a :: b :: c :: d :: r := by
      match l, hl with
      | a :: b :: c :: d :: r, _ => exact ⟨a, b, c, d, r, rfl⟩
      | [], h => simp at h
      | [_], h => simp at h; omega
      | [_, _], h => simp at h; omega
      | [_, _, _], h => simp at h; omega
    rw [wordsN_cons, List.length_cons, wordsN_len n r (by simp at hl; omega)]
def padN (xs : List Nat) : List Nat := xs ++ (128 :: (List.replicate (64 * nbk xs.length - xs.length - 9) 0 ++ be8N (8 * xs.length)))
theorem nbk_fits (n : Nat) : n + 9 ≤ 64 * nbk n := by unfold nbk; split <;> omega
theorem padN_len (xs : List Nat) : (padN xs).length = 64 * nbk xs.length := by
  have := nbk_fits xs.length
  simp [padN, be8N]; omega
theorem padN_get (xs : List Nat) {j : Nat} (hj : j < 64 * nbk xs.length) : padF (castL xs) j = (((padN xs).getD j 0 : Nat) : Int) := by
  have hf := nbk_fits xs.length
  unfold padF
  rw [castL_len, castL_get]
  simp only [padN, List.getD_eq_getElem?_getD]
  by_cases h1 : j < xs.length
  · rw [if_pos h1, List.getElem?_append_left h1]
  · rw [if_neg h1, List.getElem?_append_right (by omega)]
    by_cases h2 : j = xs.length
    · subst h2; simp
    · rw [if_neg h2]
      obtain ⟨m, hm⟩ : ∃ m, j - xs.length = m + 1 := ⟨j - xs.length - 1, by omega⟩
      rw [hm, List.getElem?_cons_succ]
      by_cases h3 : j + 8 < 64 * nbk xs.length
      · rw [if_pos h3, List.getElem?_append_left (by simp; omega)]
        rw [List.getElem?_replicate, if_pos (by omega)]
        rfl
      · rw [if_neg h3, List.getElem?_append_right (by simp; omega), List.length_replicate]
        rw [show (8 * (xs.length : Int)) = ((8 * xs.length : Nat) : Int) by omega, be8_N]
        rw [show j + 8 - 64 * nbk xs.length = m - (64 * nbk xs.length - xs.length - 9) by omega]
        have := castL_get (be8N (8 * xs.length)) (m - (64 * nbk xs.length - xs.length - 9))
        simpa only [List.getD_eq_getElem?_getD] using this
theorem padN_by {xs : List Nat} (h : ByN xs) : ByN (padN xs) := by
  intro x hx
  simp only [padN, List.mem_append, List.mem_cons, List.mem_replicate] at hx
  rcases hx with h1 | rfl | ⟨_, rfl⟩ | h1
  · exact h x h1
  · omega
  · omega
  · simp only [be8N, List.mem_cons, List.not_mem_nil, or_false] at h1
    rcases h1 with rfl | rfl | rfl | rfl | rfl | rfl | rfl | rfl <;> exact Nat.mod_lt _ (by decide)
def goN : Nat → SN → List Nat → SN
  | 0, s, _ => s
  | n + 1, s, ws => goN n (s.mix (ws.take 16)) (ws.drop 16)
def shaN (xs : List Nat) : List Nat := (goN (nbk xs.length) ivN (wordsN (padN xs))).out
theorem goN_to {xs : List Nat} (h : ByN xs) : ∀ (n i : Nat) (s : SN), i + n = nbk xs.length → s.Ok → s.to = shaSt (castL xs) i → (goN n s ((wordsN (padN xs)).drop (16 * i))).to = shaSt (castL xs) (i + n)
  | 0, i, s, _, _, hs => hs
  | n + 1, i, s, hn, ho, hs => by
    have hl := padN_len xs
    have hwl := wordsN_len (16 * nbk xs.length) (padN xs) (by omega)
    have hm := SN.mix_to (B := blkF (castL xs) i) (ws := ((wordsN (padN xs)).drop (16 * i)).take 16) (by simp [hwl]; omega) (fun j hj => by
      have e : (((wordsN (padN xs)).drop (16 * i)).take 16).getD j 0 = (wordsN (padN xs)).getD (16 * i + j) 0 := by
        simp only [List.getD_eq_getElem?_getD]
        rw [List.getElem?_take_of_lt hj, List.getElem?_drop]
      rw [e, wordsN_get (16 * nbk xs.length) (padN xs) (by omega) _ (by omega)]
      have hb := (padN_by h).get
      refine wd_N (hb _) (hb _) (hb _) (hb _) ?_ ?_ ?_ ?_
      all_goals
        unfold blkF
        rw [padN_get xs (by omega)]
        congr 2
        omega) ho
    have := goN_to h n (i + 1) _ (by omega) hm.2 (by rw [← hm.1, hs]; rfl)
    rw [show i + (n + 1) = i + 1 + n by omega, ← this]
    show (goN n _ (((wordsN (padN xs)).drop (16 * i)).drop 16)).to = _
    rw [List.drop_drop, show 16 * i + 16 = 16 * (i + 1) by omega]
/-- The digest of bytes, over naturals. -/
theorem sha_N {xs : List Nat} (h : ByN xs) : sha (castL xs) = castL (shaN xs) := by
  unfold sha shaN
  rw [← SN.out_to, castL_len]
  have := goN_to h (nbk xs.length) 0 ivN (by omega) ivN_ok ivN_to
  rw [Nat.zero_add] at this
  rw [← this]
  rfl
end Go.Proofs.YtjlodnecdngdfaaDoor
namespace Go.Proofs.YtjlodnecdngdfaaDoor
open Go.RowKit
set_option maxRecDepth 100000

/-- Bit i of a hash, the highest one first. -/
def bitI (K : List Int) (i : Nat) : Int := K.getD (i / 8) 0 / 2 ^ (7 - i % 8) % 2
/-- One level up, from level i + 1 to level i, with nothing beside. -/
def stp (K : List Int) (i : Nat) (h : List Int) : List Int := if bitI K i = 0 then abH h zero32 else abH zero32 h
/-- k levels up from the level f. -/
def upH (K : List Int) (f : Nat) (h : List Int) : Nat → List Int
  | 0 => h
  | k + 1 => stp K (f - 1 - k) (upH K f h k)
theorem stp_len (K : List Int) (i : Nat) (h : List Int) : (stp K i h).length = 32 := by unfold stp; split <;> exact abH_len _ _
theorem stp_bytes (K : List Int) (i : Nat) (h : List Int) : Bytes (stp K i h) := by unfold stp; split <;> exact abH_bytes _ _
theorem upH_len (K : List Int) (f : Nat) {h : List Int} (hh : h.length = 32) : ∀ k, (upH K f h k).length = 32
  | 0 => hh
  | _ + 1 => stp_len _ _ _
theorem upH_bytes (K : List Int) (f : Nat) {h : List Int} (hh : Bytes h) : ∀ k, Bytes (upH K f h k)
  | 0 => hh
  | _ + 1 => stp_bytes _ _ _
theorem stp_zero (K : List Int) (i : Nat) : stp K i zero32 = zero32 := by unfold stp; split <;> exact abH_zero
theorem upH_zero (K : List Int) (f : Nat) : ∀ k, upH K f zero32 k = zero32
  | 0 => rfl
  | k + 1 => by rw [upH, upH_zero K f k, stp_zero]
def upI (K : List Int) (f : Nat) : Nat → Nat → List Int → List Int
  | _, 0, h => h
  | k, n + 1, h => upI K f (k + 1) n (stp K (f - 1 - k) h)
theorem upH_add (K : List Int) (f : Nat) (h : List Int) : ∀ n k, upH K f h (k + n) = upI K f k n (upH K f h k)
  | 0, _ => rfl
  | n + 1, k => by
    rw [show k + (n + 1) = (k + 1) + n by omega, upH_add K f h n (k + 1)]
    rfl

/-! ### Over naturals -/
def z32N : List Nat := [0, 0, 0, 0, 0, 0, 0, 0, 0, 0, 0, 0, 0, 0, 0, 0, 0, 0, 0, 0, 0, 0, 0, 0, 0, 0, 0, 0, 0, 0, 0, 0]
theorem z32N_to : castL z32N = zero32 := by rfl
theorem z32N_by : ByN z32N := by
  intro x hx
  simp only [z32N, List.mem_cons, List.not_mem_nil, or_false, or_self] at hx
  omega
theorem castL_inj : ∀ {a b : List Nat}, castL a = castL b → a = b
  | [], [], _ => rfl
  | [], _ :: _, h => by simp [castL] at h
  | _ :: _, [], h => by simp [castL] at h
  | x :: a, y :: b, h => by
    simp only [castL, List.map_cons, List.cons.injEq] at h
    rw [castL_inj (a := a) (b := b) h.2, show x = y by omega]
def eqN : List Nat → List Nat → Bool
  | [], [] => true
  | a :: l, b :: m => cond (Nat.beq a b) (eqN l m) false
  | _, _ => false
theorem eqN_iff : ∀ {a b : List Nat}, eqN a b = true ↔ a = b
  | [], [] => by simp [eqN]
  | [], _ :: _ => by simp [eqN]
  | _ :: _, [] => by simp [eqN]
  | x :: a, y :: b => by
    have ih := eqN_iff (a := a) (b := b)
    by_cases e : x = y
    · subst e
      simp [eqN, ih]
    · have : Nat.beq x y = false := by
        rw [Bool.eq_false_iff]
        exact fun h => e (Nat.eq_of_beq_eq_true h)
      simp [eqN, this, e]
def frmN (t a b : List Nat) : List Nat := (t.length :: t) ++ ((be8N a.length ++ a) ++ (be8N b.length ++ b))
theorem frmN_to {s : ByteArray} {t : List Nat} (ht : sn s = castL t) (a b : List Nat) : frm (sn s) [castL a, castL b] = castL (frmN t a b) := by
  rw [ht]
  unfold frm frmN
  simp only [castL_app, castL_len, blobs, List.flatMap_cons, List.flatMap_nil, List.append_nil, be8_N]
  rfl
theorem be8N_by (n : Nat) : ByN (be8N n) := by
  intro x hx
  simp only [be8N, List.mem_cons, List.not_mem_nil, or_false] at hx
  rcases hx with rfl | rfl | rfl | rfl | rfl | rfl | rfl | rfl <;> exact Nat.mod_lt _ (by decide)
theorem ByN.app {a b : List Nat} (ha : ByN a) (hb : ByN b) : ByN (a ++ b) := by
  intro x hx
  rcases List.mem_append.1 hx with h | h
  · exact ha x h
  · exact hb x h
theorem frmN_by {t a b : List Nat} (ht : ByN t) (h255 : t.length < 256) (ha : ByN a) (hb : ByN b) : ByN (frmN t a b) := by
  refine ByN.app ?_ (((be8N_by _).app ha).app ((be8N_by _).app hb))
  intro x hx
  rcases List.mem_cons.1 hx with rfl | h
  · exact h255
  · exact ht x h
theorem be4N_by (n : Nat) : ByN (be4N n) := by
  intro x hx
  simp only [be4N, List.mem_cons, List.not_mem_nil, or_false] at hx
  rcases hx with rfl | rfl | rfl | rfl <;> exact Nat.mod_lt _ (by decide)
theorem shaN_by (xs : List Nat) : ByN (shaN xs) :=
  (((((((be4N_by _).app (be4N_by _)).app (be4N_by _)).app (be4N_by _)).app (be4N_by _)).app (be4N_by _)).app (be4N_by _)).app (be4N_by _)
def leafT : List Nat := [108, 101, 97, 102]
def pairT : List Nat := [112, 97, 105, 114]
theorem leafT_by : ByN leafT := by
  intro x hx
  simp only [leafT, List.mem_cons, List.not_mem_nil, or_false] at hx
  omega
theorem pairT_by : ByN pairT := by
  intro x hx
  simp only [pairT, List.mem_cons, List.not_mem_nil, or_false] at hx
  omega
def lfN (k v : List Nat) : List Nat := cond (eqN v z32N) z32N (shaN (frmN leafT k v))
def abN (a b : List Nat) : List Nat := cond (and (eqN a z32N) (eqN b z32N)) z32N (shaN (frmN pairT a b))
theorem eq_z32 (v : List Nat) : castL v = zero32 ↔ eqN v z32N = true := by
  rw [eqN_iff, ← z32N_to]
  exact ⟨castL_inj, fun h => by rw [h]⟩
theorem lfN_to {k v : List Nat} (hk : ByN k) (hv : ByN v) : lfH (castL k) (castL v) = castL (lfN k v) := by
  unfold lfH lfN
  by_cases h : eqN v z32N = true
  · rw [if_pos ((eq_z32 v).2 h), h]; exact z32N_to.symm
  · rw [if_neg (fun e => h ((eq_z32 v).1 e)), Bool.eq_false_iff.2 h, frmN_to (t := leafT) leaf_sn, sha_N (frmN_by leafT_by (by decide) hk hv)]
    rfl
theorem abN_to {a b : List Nat} (ha : ByN a) (hb : ByN b) : abH (castL a) (castL b) = castL (abN a b) := by
  unfold abH abN
  by_cases h : (and (eqN a z32N) (eqN b z32N)) = true
  · rw [h]
    rw [Bool.and_eq_true] at h
    rw [if_pos ⟨(eq_z32 a).2 h.1, (eq_z32 b).2 h.2⟩]
    exact z32N_to.symm
  · rw [if_neg (fun e => h (by rw [(eq_z32 a).1 e.1, (eq_z32 b).1 e.2]; rfl)), Bool.eq_false_iff.2 h, frmN_to (t := pairT) pair_sn, sha_N (frmN_by pairT_by (by decide) ha hb)]
    rfl
theorem abN_by (a b : List Nat) : ByN (abN a b) := by
  unfold abN
  cases and (eqN a z32N) (eqN b z32N)
  · exact shaN_by _
  · exact z32N_by
theorem lfN_by (k v : List Nat) : ByN (lfN k v) := by
  unfold lfN
  cases eqN v z32N
  · exact shaN_by _
  · exact z32N_by
def bitN (K : List Nat) (i : Nat) : Nat := Nat.mod (Nat.div (K.getD (i / 8) 0) (2 ^ (7 - i % 8))) 2
theorem bitN_to (K : List Nat) (i : Nat) : bitI (castL K) i = ((bitN K i : Nat) : Int) := by
  unfold bitI bitN
  rw [castL_get]
  show _ = ((K.getD (i / 8) 0 / 2 ^ (7 - i % 8) % 2 : Nat) : Int)
  rw [Int.natCast_emod, Int.natCast_ediv, Int.natCast_pow]
  rfl
def stpN (K : List Nat) (i : Nat) (h : List Nat) : List Nat := cond (Nat.beq (bitN K i) 0) (abN h z32N) (abN z32N h)
theorem stpN_to (K : List Nat) (i : Nat) {h : List Nat} (hh : ByN h) : stp (castL K) i (castL h) = castL (stpN K i h) := by
  unfold stp stpN
  rw [bitN_to, ← z32N_to, abN_to hh z32N_by, abN_to z32N_by hh]
  by_cases e : bitN K i = 0
  · rw [e]; rfl
  · rw [if_neg (by omega)]
    have : Nat.beq (bitN K i) 0 = false := by
      rw [Bool.eq_false_iff]
      exact fun h => e (Nat.eq_of_beq_eq_true h)
    rw [this]; rfl
theorem stpN_by (K : List Nat) (i : Nat) (h : List Nat) : ByN (stpN K i h) := by
  unfold stpN
  cases Nat.beq (bitN K i) 0 <;> exact abN_by _ _
def upN (K : List Nat) (f : Nat) : Nat → Nat → List Nat → List Nat
  | _, 0, h => h
  | k, n + 1, h => upN K f (k + 1) n (stpN K (f - 1 - k) h)
theorem upN_to (K : List Nat) (f : Nat) : ∀ n k {h : List Nat}, ByN h → upI (castL K) f k n (castL h) = castL (upN K f k n h) ∧ ByN (upN K f k n h)
  | 0, _, _, hh => ⟨rfl, hh⟩
  | n + 1, k, h, hh => by
    unfold upI upN
    rw [stpN_to K _ hh]
    exact upN_to K f n (k + 1) (stpN_by _ _ _)
/-- A further piece of the way, as the kernel reckoned it. -/
theorem up_more {K : List Nat} {f k n : Nat} {h : List Int} {a b : List Nat} (ha : upH (castL K) f h k = castL a ∧ ByN a) (hab : eqN (upN K f k n a) b = true) : upH (castL K) f h (k + n) = castL b ∧ ByN b := by
  have e := upN_to K f n k ha.2
  rw [eqN_iff.1 hab] at e
  exact ⟨by rw [upH_add, ha.1, e.1], e.2⟩
def k1N : List Nat := [1, 0, 0, 0, 0, 0, 0, 0, 0, 0, 0, 0, 0, 0, 0, 0, 0, 0, 0, 0, 0, 0, 0, 0, 0, 0, 0, 0, 0, 0, 0, 0]
def v2N : List Nat := [2, 0, 0, 0, 0, 0, 0, 0, 0, 0, 0, 0, 0, 0, 0, 0, 0, 0, 0, 0, 0, 0, 0, 0, 0, 0, 0, 0, 0, 0, 0, 0]
def rd0 : List Nat := [230, 229, 92, 170, 123, 30, 238, 46, 54, 112, 202, 237, 174, 145, 20, 36, 240, 231, 216, 209, 220, 222, 27, 30, 46, 86, 205, 164, 113, 153, 172, 249]
def rd1 : List Nat := [25, 239, 0, 162, 44, 12, 174, 186, 71, 4, 88, 74, 127, 17, 37, 124, 110, 106, 19, 44, 226, 245, 18, 86, 94, 205, 3, 254, 156, 235, 103, 85]
def rd2 : List Nat := [79, 138, 132, 187, 24, 192, 188, 176, 200, 111, 35, 115, 179, 123, 252, 173, 33, 69, 153, 138, 19, 239, 240, 12, 222, 137, 131, 83, 124, 70, 128, 26]
def rd3 : List Nat := [242, 253, 175, 213, 110, 4, 112, 42, 14, 132, 126, 125, 4, 63, 105, 63, 137, 132, 112, 177, 3, 195, 167, 43, 250, 121, 193, 164, 16, 218, 20, 66]
def rd4 : List Nat := [220, 194, 78, 75, 148, 177, 166, 211, 154, 192, 235, 99, 6, 145, 66, 198, 20, 7, 199, 101, 242, 165, 227, 74, 125, 50, 55, 27, 244, 188, 77, 158]
def rd5 : List Nat := [224, 140, 102, 57, 29, 138, 0, 136, 57, 138, 9, 80, 221, 188, 21, 83, 220, 37, 251, 255, 222, 77, 145, 237, 152, 188, 175, 208, 218, 166, 131, 35]
def rd6 : List Nat := [171, 41, 97, 128, 56, 191, 27, 76, 135, 61, 79, 43, 218, 129, 23, 239, 131, 11, 154, 186, 123, 52, 168, 157, 92, 208, 131, 20, 221, 200, 2, 182]
def rd7 : List Nat := [161, 139, 172, 96, 181, 146, 222, 124, 240, 218, 152, 141, 3, 150, 246, 28, 40, 37, 16, 10, 74, 165, 10, 21, 14, 162, 213, 79, 3, 114, 6, 190]
def rd8 : List Nat := [50, 144, 104, 165, 232, 128, 45, 255, 172, 234, 206, 52, 44, 79, 63, 187, 189, 36, 154, 37, 48, 174, 143, 96, 88, 13, 211, 147, 239, 73, 51, 205]
def rd9 : List Nat := [200, 58, 224, 59, 246, 176, 91, 181, 231, 71, 168, 191, 237, 241, 224, 196, 236, 209, 149, 35, 123, 74, 126, 74, 62, 74, 85, 138, 74, 178, 184, 119]
def rd10 : List Nat := [203, 225, 59, 251, 99, 112, 64, 203, 8, 117, 54, 253, 66, 105, 185, 141, 16, 3, 194, 39, 23, 88, 29, 160, 133, 207, 219, 99, 194, 206, 30, 236]
def rd11 : List Nat := [16, 10, 32, 3, 66, 159, 156, 181, 148, 117, 216, 109, 123, 236, 58, 90, 17, 11, 40, 210, 71, 163, 178, 100, 100, 182, 188, 151, 196, 126, 59, 239]
def rd12 : List Nat := [140, 40, 206, 227, 231, 74, 243, 254, 34, 35, 161, 184, 138, 69, 12, 218, 61, 72, 59, 196, 17, 255, 48, 64, 153, 147, 157, 47, 175, 8, 243, 13]
def rd13 : List Nat := [163, 51, 108, 154, 145, 72, 165, 60, 54, 108, 8, 190, 146, 251, 240, 79, 95, 35, 97, 71, 154, 95, 36, 109, 143, 63, 127, 228, 33, 244, 49, 186]
def rd14 : List Nat := [219, 253, 121, 90, 114, 203, 1, 120, 192, 3, 32, 22, 37, 200, 27, 90, 114, 50, 45, 36, 125, 164, 164, 254, 145, 58, 141, 12, 150, 214, 170, 33]
def rd15 : List Nat := [84, 249, 136, 209, 37, 104, 173, 203, 38, 61, 115, 193, 75, 162, 131, 132, 72, 145, 91, 136, 113, 109, 187, 75, 118, 106, 34, 75, 52, 93, 217, 34]
def rd16 : List Nat := [20, 73, 153, 86, 233, 54, 200, 240, 135, 61, 7, 183, 141, 95, 132, 96, 207, 134, 57, 108, 234, 115, 154, 208, 32, 229, 153, 198, 182, 24, 59, 102]
end Go.Proofs.YtjlodnecdngdfaaDoor
namespace Go.Proofs.YtjlodnecdngdfaaDoor
open Go.RowKit
set_option maxRecDepth 100000

structure KyOk (k : List Int) : Prop where
  len : k.length = 32
  by_ : Bytes k
/-- Two keys have the same bits ahead of a place. -/
def AgreeB (f : Nat) (a b : List Int) : Prop := ∀ i, i < f → bitI a i = bitI b i
theorem AgreeB.refl (f : Nat) (a : List Int) : AgreeB f a a := fun _ _ => rfl
theorem AgreeB.symm {f : Nat} {a b : List Int} (h : AgreeB f a b) : AgreeB f b a := fun i hi => (h i hi).symm
theorem AgreeB.trans {f : Nat} {a b c : List Int} (h : AgreeB f a b) (k : AgreeB f b c) : AgreeB f a c := fun i hi => (h i hi).trans (k i hi)
theorem AgreeB.mono {f g : Nat} {a b : List Int} (h : AgreeB f a b) (hg : g ≤ f) : AgreeB g a b := fun i hi => h i (by omega)
theorem bit01 (K : List Int) (i : Nat) : bitI K i = 0 ∨ bitI K i = 1 := by unfold bitI; omega

/-! ### Keys are their bits -/
theorem byte_bits {x y : Int} (hx : 0 ≤ x ∧ x < 256) (hy : 0 ≤ y ∧ y < 256) (h : ∀ j, j < 8 → x / 2 ^ (7 - j) % 2 = y / 2 ^ (7 - j) % 2) : x = y := by
  have h0 : x / 128 % 2 = y / 128 % 2 := h 0 (by omega)
  have h1 : x / 64 % 2 = y / 64 % 2 := h 1 (by omega)
  have h2 : x / 32 % 2 = y / 32 % 2 := h 2 (by omega)
  have h3 : x / 16 % 2 = y / 16 % 2 := h 3 (by omega)
  have h4 : x / 8 % 2 = y / 8 % 2 := h 4 (by omega)
  have h5 : x / 4 % 2 = y / 4 % 2 := h 5 (by omega)
  have h6 : x / 2 % 2 = y / 2 % 2 := h 6 (by omega)
  have h7 : x / 1 % 2 = y / 1 % 2 := h 7 (by omega)
  omega
theorem key_eq {a b : List Int} (ha : KyOk a) (hb : KyOk b) (h : AgreeB 256 a b) : a = b := by
  apply List.ext_getElem (by rw [ha.len, hb.len])
  intro i h1 h2
  have hi : i < 32 := by have := ha.len; omega
  have ea : a[i] = a.getD i 0 := by simp [List.getD, h1]
  have eb : b[i] = b.getD i 0 := by simp [List.getD, h2]
  rw [ea, eb]
  refine byte_bits ?_ ?_ (fun j hj => ?_)
  · rw [← ea]; exact ha.by_ _ (List.getElem_mem h1)
  · rw [← eb]; exact hb.by_ _ (List.getElem_mem h2)
  · have := h (8 * i + j) (by omega)
    unfold bitI at this
    rw [show (8 * i + j) / 8 = i by omega, show (8 * i + j) % 8 = j by omega] at this
    exact this
/-- The first place where two keys part; 256 where they don't. -/
def difG (a b : List Int) : Nat → Nat → Nat
  | i, 0 => i
  | i, n + 1 => if bitI a i = bitI b i then difG a b (i + 1) n else i
def dif (a b : List Int) : Nat := difG a b 0 256
theorem difG_spec (a b : List Int) : ∀ (n i : Nat), i ≤ difG a b i n ∧ difG a b i n ≤ i + n ∧ (∀ j, i ≤ j → j < difG a b i n → bitI a j = bitI b j) ∧ (difG a b i n < i + n → bitI a (difG a b i n) ≠ bitI b (difG a b i n))
  | 0, i => ⟨Nat.le_refl _, Nat.le_refl _, fun j h1 h2 => by simp only [difG] at h2; omega, fun h => by simp only [difG] at h; omega⟩
  | n + 1, i => by
    unfold difG
    by_cases h : bitI a i = bitI b i
    · rw [if_pos h]
      obtain ⟨h1, h2, h3, h4⟩ := difG_spec a b n (i + 1)
      refine ⟨by omega, by omega, fun j hj hl => ?_, fun hl => h4 (by omega)⟩
      by_cases e : j = i
      · rw [e]; exact h
      · exact h3 j (by omega) hl
    · rw [if_neg h]
      exact ⟨Nat.le_refl _, by omega, fun j h1 h2 => by omega, fun _ => h⟩
theorem dif_le (a b : List Int) : dif a b ≤ 256 := by have := (difG_spec a b 256 0).2.1; unfold dif; omega
theorem dif_agree (a b : List Int) : AgreeB (dif a b) a b := fun i hi => (difG_spec a b 256 0).2.2.1 i (Nat.zero_le _) hi
theorem dif_ne {a b : List Int} (h : dif a b < 256) : bitI a (dif a b) ≠ bitI b (dif a b) := (difG_spec a b 256 0).2.2.2 (by unfold dif at h; omega)
theorem dif_of {a b : List Int} {f : Nat} (h : AgreeB f a b) (hf : f ≤ 256) : f ≤ dif a b := by
  rcases Nat.lt_or_ge (dif a b) f with h1 | h1
  · exact absurd (h _ h1) (dif_ne (by omega))
  · exact h1
theorem dif_is {a b : List Int} {f : Nat} (h : AgreeB f a b) (hf : f < 256) (hne : bitI a f ≠ bitI b f) : dif a b = f := by
  have h1 := dif_of h (Nat.le_of_lt hf)
  rcases Nat.lt_or_ge f (dif a b) with h2 | h2
  · exact absurd (dif_agree a b f h2) hne
  · omega

/-! ### Trees -/
inductive Tr where
  | lf (k : List Int) : Tr
  | nd (k : List Int) (f : Nat) (l r : Tr) : Tr
def Tr.key : Tr → List Int
  | .lf k => k
  | .nd k _ _ _ => k
def Tr.fork : Tr → Nat
  | .lf _ => 256
  | .nd _ f _ _ => f
def Tr.keys : Tr → List (List Int)
  | .lf k => [k]
  | .nd _ _ l r => l.keys ++ r.keys
def Tr.ok : Tr → Prop
  | .lf k => KyOk k
  | .nd k f l r => KyOk k ∧ f < 256 ∧ l.ok ∧ r.ok ∧ f < l.fork ∧ f < r.fork ∧ (∀ x ∈ l.keys, AgreeB f k x ∧ bitI x f = 0) ∧ (∀ x ∈ r.keys, AgreeB f k x ∧ bitI x f = 1)
theorem Tr.keys_ne : ∀ t : Tr, t.keys ≠ []
  | .lf k => by simp [Tr.keys]
  | .nd _ _ l r => by simp [Tr.keys, Tr.keys_ne l]
theorem Tr.ok.keyOk : ∀ {t : Tr}, t.ok → KyOk t.key
  | .lf _, h => h
  | .nd _ _ _ _, h => h.1
theorem Tr.ok.fork_le : ∀ {t : Tr}, t.ok → t.fork ≤ 256
  | .lf _, _ => Nat.le_refl _
  | .nd _ _ _ _, h => Nat.le_of_lt h.2.1
theorem Tr.ok.keysOk : ∀ {t : Tr}, t.ok → ∀ x ∈ t.keys, KyOk x
  | .lf k, h, x, hx => by
    obtain rfl : x = k := by simpa [Tr.keys] using hx
    exact h
  | .nd _ _ l r, h, x, hx => by
    rcases List.mem_append.1 hx with hx | hx
    · exact Tr.ok.keysOk h.2.2.1 x hx
    · exact Tr.ok.keysOk h.2.2.2.1 x hx
/-- All keys of a tree have its own key's bits ahead of its fork. -/
theorem Tr.ok.agree : ∀ {t : Tr}, t.ok → ∀ x ∈ t.keys, AgreeB t.fork t.key x
  | .lf k, _, x, hx => by
    obtain rfl : x = k := by simpa [Tr.keys] using hx
    exact AgreeB.refl _ _
  | .nd _ _ l r, h, x, hx => by
    rcases List.mem_append.1 hx with hx | hx
    · exact (h.2.2.2.2.2.2.1 x hx).1
    · exact (h.2.2.2.2.2.2.2 x hx).1
/-- A branch's own key. -/
theorem Tr.ok.lo {k : List Int} {f : Nat} {l r : Tr} (h : (Tr.nd k f l r).ok) : AgreeB f k l.key ∧ bitI l.key f = 0 := by
  obtain ⟨_, _, hl, _, fl, _, al, _⟩ := h
  obtain ⟨x, hx⟩ := List.exists_mem_of_ne_nil _ l.keys_ne
  have h1 := hl.agree x hx
  obtain ⟨h2, h3⟩ := al x hx
  exact ⟨h2.trans (h1.mono (Nat.le_of_lt fl)).symm, (h1 f fl).trans h3⟩
theorem Tr.ok.hi {k : List Int} {f : Nat} {l r : Tr} (h : (Tr.nd k f l r).ok) : AgreeB f k r.key ∧ bitI r.key f = 1 := by
  obtain ⟨_, _, _, hr, _, fr, _, ar⟩ := h
  obtain ⟨x, hx⟩ := List.exists_mem_of_ne_nil _ r.keys_ne
  have h1 := hr.agree x hx
  obtain ⟨h2, h3⟩ := ar x hx
  exact ⟨h2.trans (h1.mono (Nat.le_of_lt fr)).symm, (h1 f fr).trans h3⟩

/-! ### What stands where -/
def hereH (V : List Int → List Int) : Tr → List Int
  | .lf k => lfH k (V k)
  | .nd _ f l r => abH (upH l.key l.fork (hereH V l) (l.fork - (f + 1))) (upH r.key r.fork (hereH V r) (r.fork - (f + 1)))
def aboveH (V : List Int → List Int) (t : Tr) (lv : Nat) : List Int := upH t.key t.fork (hereH V t) (t.fork - lv)
theorem hereH_len (V : List Int → List Int) : ∀ t : Tr, (hereH V t).length = 32
  | .lf _ => lfH_len _ _
  | .nd _ _ _ _ => abH_len _ _
theorem hereH_bytes (V : List Int → List Int) : ∀ t : Tr, Bytes (hereH V t)
  | .lf _ => lfH_bytes _ _
  | .nd _ _ _ _ => abH_bytes _ _
theorem aboveH_len (V : List Int → List Int) (t : Tr) (lv : Nat) : (aboveH V t lv).length = 32 := upH_len _ _ (hereH_len V t) _
theorem aboveH_bytes (V : List Int → List Int) (t : Tr) (lv : Nat) : Bytes (aboveH V t lv) := upH_bytes _ _ (hereH_bytes V t) _
theorem hereH_congr {V W : List Int → List Int} : ∀ {t : Tr}, (∀ x ∈ t.keys, V x = W x) → hereH V t = hereH W t
  | .lf k, h => by unfold hereH; rw [h k (by simp [Tr.keys])]
  | .nd k f l r, h => by
    unfold hereH
    rw [hereH_congr (t := l) (fun x hx => h x (List.mem_append.2 (.inl hx))), hereH_congr (t := r) (fun x hx => h x (List.mem_append.2 (.inr hx)))]
theorem aboveH_congr {V W : List Int → List Int} {t : Tr} {lv : Nat} (h : ∀ x ∈ t.keys, V x = W x) : aboveH V t lv = aboveH W t lv := by
  unfold aboveH
  rw [hereH_congr h]

/-! ### A key put in -/
def Tr.ins (key : List Int) : Tr → Tr
  | .lf k => if dif key k < 256 then (if bitI key (dif key k) = 0 then .nd key (dif key k) (.lf key) (.lf k) else .nd key (dif key k) (.lf k) (.lf key)) else .lf k
  | .nd k f l r => if dif key k < f then (if bitI key (dif key k) = 0 then .nd key (dif key k) (.lf key) (.nd k f l r) else .nd key (dif key k) (.nd k f l r) (.lf key))
    else if bitI key f = 0 then .nd k f (l.ins key) r else .nd k f l (r.ins key)
theorem Tr.ins_keys (key : List Int) : ∀ {t : Tr}, t.ok → KyOk key → key ∉ t.keys → (t.ins key).keys.Perm (key :: t.keys)
  | .lf k, h, hk, hn => by
    have hd : dif key k < 256 := by
      rcases Nat.lt_or_ge (dif key k) 256 with h1 | h1
      · exact h1
      · exact absurd (key_eq hk h ((dif_agree key k).mono h1)) (by simpa [Tr.keys] using hn)
    unfold Tr.ins
    rw [if_pos hd]
    split
    · exact List.Perm.refl _
    · exact List.Perm.swap _ _ _
  | .nd k f l r, h, hk, hn => by
    have hnl : key ∉ l.keys := fun hx => hn (List.mem_append.2 (.inl hx))
    have hnr : key ∉ r.keys := fun hx => hn (List.mem_append.2 (.inr hx))
    unfold Tr.ins
    split
    · split
      · exact List.Perm.refl _
      · show (((Tr.nd k f l r).keys ++ [key])).Perm _
        exact List.perm_append_comm
    · split
      · show ((l.ins key).keys ++ r.keys).Perm (key :: (l.keys ++ r.keys))
        exact (Tr.ins_keys key h.2.2.1 hk hnl).append_right _
      · show (l.keys ++ (r.ins key).keys).Perm (key :: (l.keys ++ r.keys))
        exact ((Tr.ins_keys key h.2.2.2.1 hk hnr).append_left _).trans List.perm_middle
theorem Tr.ins_fork_lt {key : List Int} {f : Nat} : ∀ {t : Tr}, t.ok → f < t.fork → AgreeB f key t.key → bitI key f = bitI t.key f → f < 256 → f < (t.ins key).fork
  | .lf k, _, _, ha, hb, hf => by
    unfold Tr.ins
    split
    · have : f + 1 ≤ dif key k := dif_of (fun i hi => by
        by_cases e : i = f
        · rw [e]; exact hb
        · exact ha i (by omega)) (by omega)
      split <;> (show f < dif key k; omega)
    · exact hf
  | .nd k g l r, _, hg, ha, hb, hf => by
    unfold Tr.ins
    have : f + 1 ≤ dif key k := dif_of (fun i hi => by
      by_cases e : i = f
      · rw [e]; exact hb
      · exact ha i (by omega)) (by omega)
    split
    · split <;> (show f < dif key k; omega)
    · split <;> exact hg
theorem Tr.ins_ok (key : List Int) : ∀ {t : Tr}, t.ok → KyOk key → key ∉ t.keys → (t.ins key).ok
  | .lf k, h, hk, hn => by
    have hd : dif key k < 256 := by
      rcases Nat.lt_or_ge (dif key k) 256 with h1 | h1
      · exact h1
      · exact absurd (key_eq hk h ((dif_agree key k).mono h1)) (by simpa [Tr.keys] using hn)
    have hne := dif_ne hd
    have ha := dif_agree key k
    unfold Tr.ins
    rw [if_pos hd]
    rcases bit01 key (dif key k) with e | e <;> rcases bit01 k (dif key k) with e2 | e2 <;> (try (rw [e, e2] at hne; exact absurd rfl hne))
    · rw [if_pos e]
      refine ⟨hk, hd, hk, h, hd, hd, fun x hx => ?_, fun x hx => ?_⟩
      · obtain rfl : x = key := by simpa [Tr.keys] using hx
        exact ⟨AgreeB.refl _ _, e⟩
      · obtain rfl : x = k := by simpa [Tr.keys] using hx
        exact ⟨ha, e2⟩
    · rw [if_neg (by rw [e]; decide)]
      refine ⟨hk, hd, h, hk, hd, hd, fun x hx => ?_, fun x hx => ?_⟩
      · obtain rfl : x = k := by simpa [Tr.keys] using hx
        exact ⟨ha, e2⟩
      · obtain rfl : x = key := by simpa [Tr.keys] using hx
        exact ⟨AgreeB.refl _ _, e⟩
  | .nd k f l r, h, hk, hn => by
    have hnl : key ∉ l.keys := fun hx => hn (List.mem_append.2 (.inl hx))
    have hnr : key ∉ r.keys := fun hx => hn (List.mem_append.2 (.inr hx))
    have ha := dif_agree key k
    unfold Tr.ins
    by_cases hd : dif key k < f
    · rw [if_pos hd]
      have hd2 : dif key k < 256 := Nat.lt_trans hd h.2.1
      have hne := dif_ne hd2
      have hx : ∀ x ∈ (Tr.nd k f l r).keys, AgreeB (dif key k) key x ∧ bitI x (dif key k) = bitI k (dif key k) := fun x hx => by
        have h1 := h.agree x hx
        exact ⟨ha.trans (h1.mono (Nat.le_of_lt hd)), (h1 _ hd).symm⟩
      rcases bit01 key (dif key k) with e | e <;> rcases bit01 k (dif key k) with e2 | e2 <;> (try (rw [e, e2] at hne; exact absurd rfl hne))
      · rw [if_pos e]
        refine ⟨hk, hd2, hk, h, hd2, hd, fun x hx => ?_, fun x hx2 => ?_⟩
        · obtain rfl : x = key := by simpa [Tr.keys] using hx
          exact ⟨AgreeB.refl _ _, e⟩
        · obtain ⟨h1, h2⟩ := hx x hx2
          exact ⟨h1, h2.trans e2⟩
      · rw [if_neg (by rw [e]; decide)]
        refine ⟨hk, hd2, h, hk, hd, hd2, fun x hx2 => ?_, fun x hx => ?_⟩
        · obtain ⟨h1, h2⟩ := hx x hx2
          exact ⟨h1, h2.trans e2⟩
        · obtain rfl : x = key := by simpa [Tr.keys] using hx
          exact ⟨AgreeB.refl _ _, e⟩
    · rw [if_neg hd]
      have hak : AgreeB f k key := (ha.mono (by omega)).symm
      obtain ⟨l1, l2⟩ := h.lo
      obtain ⟨r1, r2⟩ := h.hi
      obtain ⟨a1, a2, a3, a4, a5, a6, a7, a8⟩ := h
      rcases bit01 key f with e | e
      · rw [if_pos e]
        refine ⟨a1, a2, Tr.ins_ok key a3 hk hnl, a4, Tr.ins_fork_lt a3 a5 (hak.symm.trans l1) (by rw [e, l2]) a2, a6, fun x hx => ?_, a8⟩
        rcases List.mem_cons.1 ((Tr.ins_keys key a3 hk hnl).mem_iff.1 hx) with rfl | hx
        · exact ⟨hak, e⟩
        · exact a7 x hx
      · rw [if_neg (by rw [e]; decide)]
        refine ⟨a1, a2, a3, Tr.ins_ok key a4 hk hnr, a5, Tr.ins_fork_lt a4 a6 (hak.symm.trans r1) (by rw [e, r2]) a2, a7, fun x hx => ?_⟩
        rcases List.mem_cons.1 ((Tr.ins_keys key a4 hk hnr).mem_iff.1 hx) with rfl | hx
        · exact ⟨hak, e⟩
        · exact a8 x hx
/-! ### A key taken out -/
def Tr.del (key : List Int) : Tr → Option Tr
  | .lf _ => none
  | .nd _ f l r => if bitI key f = 0 then (match l.del key with | none => some r | some l' => some (.nd l'.key f l' r)) else (match r.del key with | none => some l | some r' => some (.nd r'.key f l r'))
def keysO : Option Tr → List (List Int)
  | none => []
  | some t => t.keys
end Go.Proofs.YtjlodnecdngdfaaDoor
