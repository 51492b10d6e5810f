/-
  What is read within some blocks (a footprint): bytes, rows of any length; rows of one's own that are appended to.
-/
import Derived.Test.YtamkmeigcmpkjaaHash
import Derived.Test.YtamkmeigcmpkjaaOwnR
namespace Go.Proofs.Ytamkmeigcmpkjaa
set_option maxRecDepth 100000
open Go.RowKit

abbrev Fp := Nat → Prop
/-- The blocks of F are the same in both worlds. -/
def Agr (F : Fp) (w w' : World) : Prop := ∀ g, F g → g < w.heap.size → w'.heap[g]? = w.heap[g]?
theorem Agr.below {F : Fp} {w w' : World} (h : Below w.heap.size w w') : Agr F w w' := fun g _ hg => h.block g hg
theorem Agr.chg {F : Fp} {w w' : World} {K : List Nat} (h : Chg w w' K) (hF : ∀ g, F g → g ∉ K) : Agr F w w' := fun g hf hg => h.block g hg (hF g hf)
/-- A way of reading a value out of a row of cells, that hangs on the blocks of F alone. -/
structure FpOk {α : Type} (P : World → Fp → α → List Value → Prop) : Prop where
  mono : ∀ {w F G x r}, P w F x r → (∀ g, F g → G g) → P w G x r
  agr : ∀ {w w' F x r}, P w F x r → Agr F w w' → P w' F x r
  lt : ∀ {w F x r}, P w F x r → P w (fun g => F g ∧ g < w.heap.size) x r
theorem FpOk.on {α : Type} {P : World → Fp → α → List Value → Prop} (k : FpOk P) {w w' : World} {F : Fp} {x : α} {r : List Value} (h : P w F x r) (hb : Below w.heap.size w w') : P w' F x r := k.agr h (Agr.below hb)

/-! ### Bytes -/
def RdF (w : World) (F : Fp) (v : Value) (xs : List Int) : Prop := Rd w v xs ∧ (xs ≠ [] → ∀ g, v.ownBlock = some g → F g)
theorem RdF.rd {w : World} {F : Fp} {v : Value} {xs : List Int} (h : RdF w F v xs) : Rd w v xs := h.1
theorem RdF.mono {w : World} {F G : Fp} {v : Value} {xs : List Int} (h : RdF w F v xs) (hG : ∀ g, F g → G g) : RdF w G v xs := ⟨h.1, fun hn g hg => hG g (h.2 hn g hg)⟩
theorem RdF.agr {w w' : World} {F : Fp} {v : Value} {xs : List Int} (h : RdF w F v xs) (ha : Agr F w w') : RdF w' F v xs := by
  refine ⟨?_, h.2⟩
  obtain ⟨q, c, rfl, hq | ⟨b, off, rfl, hx⟩⟩ := h.1
  · exact ⟨q, c, rfl, .inl hq⟩
  · refine ⟨_, c, rfl, ?_⟩
    by_cases hn : xs = []
    · exact .inl hn
    · refine .inr ⟨b, off, rfl, fun i hi => ?_⟩
      have hb := lt_of_cell (hx i hi)
      rw [World.cell?_of_block (w := w) (ha b (h.2 hn b rfl) hb)]
      exact hx i hi
theorem RdF.lt {w : World} {F : Fp} {v : Value} {xs : List Int} (h : RdF w F v xs) : RdF w (fun g => F g ∧ g < w.heap.size) v xs := ⟨h.1, fun hn g hg => ⟨h.2 hn g hg, h.1.lt hn hg⟩⟩
theorem RdF.on {w w' : World} {F : Fp} {v : Value} {xs : List Int} (h : RdF w F v xs) (hb : Below w.heap.size w w') : RdF w' F v xs := h.agr (Agr.below hb)
/-- What was there reads within what was there. -/
theorem Rd.old {w : World} {v : Value} {xs : List Int} (h : Rd w v xs) : RdF w (fun g => g < w.heap.size) v xs := ⟨h, fun hn _ hg => h.lt hn hg⟩
/-- A cell that holds a slice of bytes. -/
def PBs (w : World) (F : Fp) (xs : List Int) (r : List Value) : Prop := ∃ q c, r = [.slice q xs.length c] ∧ RdF w F (.slice q xs.length c) xs
theorem PBs_ok : FpOk PBs where
  mono := fun ⟨q, c, e, h⟩ hG => ⟨q, c, e, h.mono hG⟩
  agr := fun ⟨q, c, e, h⟩ ha => ⟨q, c, e, h.agr ha⟩
  lt := fun ⟨q, c, e, h⟩ => ⟨q, c, e, h.lt⟩

/-! ### Rows -/
section
variable {α : Type} {P : World → Fp → α → List Value → Prop} {d : α} {n : Nat}
/-- A slice's rows of n cells each. -/
def RwF (n : Nat) (d : α) (P : World → Fp → α → List Value → Prop) (w : World) (F : Fp) (q : Option Addr) (L : List α) : Prop := L = [] ∨ ∃ b off, q = some ⟨b, off, none⟩ ∧ F b ∧ ∀ i, i < L.length → ∃ r, r.length = n ∧ rowOf w b (off + i * n) n = r ∧ P w F (L.getD i d) r
theorem rowOf_lt {w : World} {b o n : Nat} {r : List Value} (hn : 0 < n) (hr : r.length = n) (h : rowOf w b o n = r) : b < w.heap.size := by
  unfold rowOf at h
  cases e : w.heap[b]? with
  | none => rw [e] at h; rw [← h] at hr; simp at hr; omega
  | some x => exact (Array.getElem?_eq_some_iff.1 e).1
theorem rowOf_agr {w w' : World} {b o n : Nat} (h : w'.heap[b]? = w.heap[b]?) : rowOf w' b o n = rowOf w b o n := by unfold rowOf; rw [h]
theorem RwF.mono (k : FpOk P) {w : World} {F G : Fp} {q : Option Addr} {L : List α} (h : RwF n d P w F q L) (hG : ∀ g, F g → G g) : RwF n d P w G q L := by
  rcases h with h | ⟨b, off, e, hb, hx⟩
  · exact .inl h
  · refine .inr ⟨b, off, e, hG b hb, fun i hi => ?_⟩
    obtain ⟨r, h1, h2, h3⟩ := hx i hi
    exact ⟨r, h1, h2, k.mono h3 hG⟩
theorem RwF.agr (k : FpOk P) (hn : 0 < n) {w w' : World} {F : Fp} {q : Option Addr} {L : List α} (h : RwF n d P w F q L) (ha : Agr F w w') : RwF n d P w' F q L := by
  rcases h with h | ⟨b, off, e, hb, hx⟩
  · exact .inl h
  · refine .inr ⟨b, off, e, hb, fun i hi => ?_⟩
    obtain ⟨r, h1, h2, h3⟩ := hx i hi
    exact ⟨r, h1, by rw [rowOf_agr (ha b hb (rowOf_lt hn h1 h2))]; exact h2, k.agr h3 ha⟩
theorem RwF.lt (k : FpOk P) (hn : 0 < n) {w : World} {F : Fp} {q : Option Addr} {L : List α} (h : RwF n d P w F q L) : RwF n d P w (fun g => F g ∧ g < w.heap.size) q L := by
  by_cases h0 : L = []
  · exact .inl h0
  · obtain ⟨b, off, e, hb, hx⟩ := h.resolve_left h0
    refine .inr ⟨b, off, e, ⟨hb, ?_⟩, fun i hi => ?_⟩
    · obtain ⟨r, h1, h2, _⟩ := hx 0 (List.length_pos_iff.2 h0)
      exact rowOf_lt hn h1 h2
    · obtain ⟨r, h1, h2, h3⟩ := hx i hi
      exact ⟨r, h1, h2, k.lt h3⟩
theorem RwF.on (k : FpOk P) (hn : 0 < n) {w w' : World} {F : Fp} {q : Option Addr} {L : List α} (h : RwF n d P w F q L) (hb : Below w.heap.size w w') : RwF n d P w' F q L := h.agr k hn (Agr.below hb)
theorem RwF.nil (w : World) (F : Fp) (q : Option Addr) : RwF n d P w F q [] := .inl rfl
/-- The row at a place. -/
theorem RwF.get {w : World} {F : Fp} {q : Option Addr} {L : List α} (h : RwF n d P w F q L) {i : Nat} (hi : i < L.length) : ∃ b off r, q = some ⟨b, off, none⟩ ∧ F b ∧ r.length = n ∧ rowOf w b (off + i * n) n = r ∧ P w F (L.getD i d) r := by
  have h0 : L ≠ [] := fun e => by rw [e] at hi; simp at hi
  obtain ⟨b, off, e, hb, hx⟩ := h.resolve_left h0
  obtain ⟨r, h1, h2, h3⟩ := hx i hi
  exact ⟨b, off, r, e, hb, h1, h2, h3⟩
/-- A cell that holds such a slice. -/
def PSl (n : Nat) (d : α) (P : World → Fp → α → List Value → Prop) (w : World) (F : Fp) (L : List α) (r : List Value) : Prop := ∃ q c, r = [.slice q L.length c] ∧ RwF n d P w F q L
theorem PSl_ok (k : FpOk P) (hn : 0 < n) : FpOk (PSl n d P) where
  mono := fun ⟨q, c, e, h⟩ hG => ⟨q, c, e, h.mono k hG⟩
  agr := fun ⟨q, c, e, h⟩ ha => ⟨q, c, e, h.agr k hn ha⟩
  lt := fun ⟨q, c, e, h⟩ => ⟨q, c, e, h.lt k hn⟩

/-! ### Rows of one's own -/
/-- The rows that a call has laid by now: all read within F, and none in the rows' own block. -/
structure OwF (n : Nat) (d : α) (P : World → Fp → α → List Value → Prop) (F : Fp) (w W : World) (T : TypeId) (v : Value) (L : List α) (done : List Value) : Prop where
  own : W.ownsRow 0 T n v L.length done
  each : ∀ i, i < L.length → ∃ r, r.length = n ∧ (done.drop (i * n)).take n = r ∧ P W (fun g => F g ∧ v.ownBlock ≠ some g) (L.getD i d) r
  fresh : ∀ g, v.ownBlock = some g → w.heap.size ≤ g
  below : Below w.heap.size w W
variable {F : Fp} {w W W' : World} {T : TypeId} {v : Value} {L : List α} {done : List Value}
theorem OwF.start (hb : Below w.heap.size w W) : OwF n d P F w W T (.slice none 0 0) [] [] := ⟨World.ownsRow_nil W 0 T n, fun i hi => by simp at hi, by simp [Value.ownBlock], hb⟩
theorem OwF.on (k : FpOk P) (h : OwF n d P F w W T v L done) (hb : Below W.heap.size W W') : OwF n d P F w W' T v L done :=
  ⟨own_on h.own hb, fun i hi => by
    obtain ⟨r, h1, h2, h3⟩ := h.each i hi
    exact ⟨r, h1, h2, k.on h3 hb⟩, h.fresh, h.below.trans (hb.mono h.below.size)⟩
theorem OwF.len (h : OwF n d P F w W T v L done) : done.length = L.length * n := h.own.1
theorem OwF.slice (h : OwF n d P F w W T v L done) : ∃ q c, v = .slice q L.length c := own_slice h.own
theorem OwF.rows (k : FpOk P) {q : Option Addr} {m c : Nat} (h : OwF n d P F w W T (.slice q m c) L done) : L = [] ∨ ∃ b off, q = some ⟨b, off, none⟩ ∧ (Value.slice q m c).ownBlock = some b ∧ ∀ i, i < L.length → ∃ r, r.length = n ∧ rowOf W b (off + i * n) n = r ∧ P W (fun g => F g ∧ (Value.slice q m c).ownBlock ≠ some g) (L.getD i d) r := by
  have _ := k
  rcases h.own.2 with ⟨e, h0⟩ | ⟨g, cap, cur, e, _, hg, hnc, hcm, hcs', htake⟩
  · exact .inl (List.eq_nil_of_length_eq_zero h0)
  · simp only [Value.slice.injEq] at e
    obtain ⟨rfl, rfl, rfl⟩ := e
    refine .inr ⟨g, 0, rfl, rfl, fun j hj => ?_⟩
    obtain ⟨r, h1, h2, h3⟩ := h.each j hj
    refine ⟨r, h1, ?_, h3⟩
    have hl := h.len
    have hc2 : cur = (done ++ cur.toList.drop (L.length * n)).toArray := by
      apply Array.ext'
      show cur.toList = done ++ cur.toList.drop (L.length * n)
      rw [← htake, List.take_append_drop]
    rw [hc2] at hg
    rw [rowOf_block hg, Nat.zero_add, ← h2]
    have h5 : j * n + n ≤ L.length * n := by rw [← Nat.succ_mul]; exact Nat.mul_le_mul_right n hj
    have e : ((done ++ cur.toList.drop (L.length * n)).drop (j * n)).take n = (done.drop (j * n)).take n := by
      rw [List.drop_append_of_le_length (by omega), List.take_append_of_le_length (by rw [List.length_drop]; omega)]
    rw [← e]
    simp [List.take_drop]
theorem OwF.rd (k : FpOk P) {q : Option Addr} {m c : Nat} (h : OwF n d P F w W T (.slice q m c) L done) (hF : ∀ g, w.heap.size ≤ g → F g) : RwF n d P W F q L := by
  rcases h.own.2 with ⟨e, h0⟩ | ⟨g, cap, cur, e, _, hg, hnc, hcm, hcs', htake⟩
  · exact .inl (List.eq_nil_of_length_eq_zero h0)
  · simp only [Value.slice.injEq] at e
    obtain ⟨rfl, rfl, rfl⟩ := e
    refine .inr ⟨g, 0, rfl, hF g (h.fresh g rfl), fun j hj => ?_⟩
    obtain ⟨r, h1, h2, h3⟩ := h.each j hj
    refine ⟨r, h1, ?_, k.mono h3 (fun _ h => h.1)⟩
    have hl := h.len
    have hc2 : cur = (done ++ cur.toList.drop (L.length * n)).toArray := by
      apply Array.ext'
      show cur.toList = done ++ cur.toList.drop (L.length * n)
      rw [← htake, List.take_append_drop]
    rw [hc2] at hg
    rw [rowOf_block hg, Nat.zero_add, ← h2]
    have h5 : j * n + n ≤ L.length * n := by rw [← Nat.succ_mul]; exact Nat.mul_le_mul_right n hj
    have e : ((done ++ cur.toList.drop (L.length * n)).drop (j * n)).take n = (done.drop (j * n)).take n := by
      rw [List.drop_append_of_le_length (by omega), List.take_append_of_le_length (by rw [List.length_drop]; omega)]
    rw [← e]
    simp [List.take_drop]
theorem OwF.rd2 (k : FpOk P) {q : Option Addr} {m c : Nat} (h : OwF n d P F w W T (.slice q m c) L done) (hF : ∀ g, (Value.slice q m c).ownBlock = some g → F g) : RwF n d P W F q L := by
  rcases OwF.rows k h with h0 | ⟨b, off, e, hb, hx⟩
  · exact .inl h0
  · refine .inr ⟨b, off, e, hF b hb, fun i hi => ?_⟩
    obtain ⟨r, h1, h2, h3⟩ := hx i hi
    exact ⟨r, h1, h2, k.mono h3 (fun _ h => h.1)⟩
theorem OwF.chg (k : FpOk P) {K : List Nat} (h : OwF n d P F w W T v L done) (hc : Chg W W' K) (hF : ∀ g, F g → g ∉ K) (hv : ∀ g, v.ownBlock = some g → g ∉ K) (hK : ∀ x, x ∈ K → w.heap.size ≤ x) : OwF n d P F w W' T v L done :=
  ⟨own_keep h.own (fun g hg => hc.block g (own_lt h.own hg) (hv g hg)), fun i hi => by
    obtain ⟨r, h1, h2, h3⟩ := h.each i hi
    exact ⟨r, h1, h2, k.agr h3 (Agr.chg hc (fun g hg => hF g hg.1))⟩, h.fresh, h.below.trans (hc.toBelow h.below.size hK)⟩
/-- One more row. -/
theorem OwF.grow (k : FpOk P) {x : α} {r : List Value} {q : Option Addr} {c : Nat} (h : OwF n d P F w W T v L done) (hr : r.length = n) (hp : P W (fun g => F g ∧ v.ownBlock ≠ some g) x r)
    (own : W'.ownsRow 0 T n (.slice q (L.length + 1) c) (L.length + 1) (done ++ r)) (grow : W.grownBy W' v.ownBlock) (fr : (Value.slice q (L.length + 1) c).ownBlock = v.ownBlock ∨ (Value.slice q (L.length + 1) c).ownBlock = some W.heap.size) :
    OwF n d P F w W' T (.slice q (L.length + 1) c) (L ++ [x]) (done ++ r) := by
  have hl := h.len
  have key : ∀ {y : α} {s : List Value}, P W (fun g => F g ∧ v.ownBlock ≠ some g) y s → P W' (fun g => F g ∧ (Value.slice q (L.length + 1) c).ownBlock ≠ some g) y s := fun {y s} hy => by
    have h1 := k.agr (k.lt hy) (w' := W') (fun g hg hlt => grow.block g hlt (fun e => hg.1.2 e.symm))
    refine k.mono h1 (fun g hg => ⟨hg.1.1, fun e => ?_⟩)
    rcases fr with e2 | e2
    · rw [e2] at e; exact hg.1.2 e
    · rw [e2] at e
      have : W.heap.size = g := Option.some.inj e
      omega
  refine ⟨?_, fun i hi => ?_, fun g hg => ?_, ?_⟩
  · rw [List.length_append, List.length_singleton]; exact own
  · rw [List.length_append, List.length_singleton] at hi
    by_cases hil : i < L.length
    · obtain ⟨s, h1, h2, h3⟩ := h.each i hil
      have eg : (L ++ [x]).getD i d = L.getD i d := by simp [List.getD, List.getElem?_append_left hil]
      rw [eg]
      have h5 : i * n + n ≤ L.length * n := by rw [← Nat.succ_mul]; exact Nat.mul_le_mul_right n hil
      refine ⟨s, h1, ?_, key h3⟩
      rw [List.drop_append_of_le_length (by omega), List.take_append_of_le_length (by rw [List.length_drop]; omega)]
      exact h2
    · obtain rfl : i = L.length := by omega
      have eg : (L ++ [x]).getD L.length d = x := by simp [List.getD]
      rw [eg]
      refine ⟨r, hr, ?_, key hp⟩
      rw [← hl, List.drop_left, List.take_of_length_le (by omega)]
  · rcases fr with e | e
    · rw [e] at hg; exact h.fresh g hg
    · rw [e] at hg
      have := h.below.size
      have : W.heap.size = g := Option.some.inj hg
      omega
  · exact h.below.grown grow h.below.size (fun g hg => h.fresh g hg)
/-- What is read outside one's own row is so behind an append. -/
theorem FpOk.grown (k : FpOk P) {G : Fp} {v' : Value} {y : α} {s : List Value} (hy : P W (fun g => G g ∧ v.ownBlock ≠ some g) y s) (grow : W.grownBy W' v.ownBlock) (fr : v'.ownBlock = v.ownBlock ∨ v'.ownBlock = some W.heap.size) : P W' (fun g => G g ∧ v'.ownBlock ≠ some g) y s := by
  have h1 := k.agr (k.lt hy) (w' := W') (fun g hg hlt => grow.block g hlt (fun e => hg.1.2 e.symm))
  refine k.mono h1 (fun g hg => ⟨hg.1.1, fun e => ?_⟩)
  rcases fr with e2 | e2
  · rw [e2] at e; exact hg.1.2 e
  · rw [e2] at e
    have : W.heap.size = g := Option.some.inj e
    omega
theorem RwF.grown (k : FpOk P) (hn : 0 < n) {G : Fp} {v' : Value} {q : Option Addr} {M : List α} (hy : RwF n d P W (fun g => G g ∧ v.ownBlock ≠ some g) q M) (grow : W.grownBy W' v.ownBlock) (fr : v'.ownBlock = v.ownBlock ∨ v'.ownBlock = some W.heap.size) : RwF n d P W' (fun g => G g ∧ v'.ownBlock ≠ some g) q M := by
  obtain ⟨q', c', e, h⟩ := (PSl_ok (d := d) k hn).grown (y := M) (s := [.slice q M.length 0]) ⟨q, 0, rfl, hy⟩ grow fr
  simp only [List.cons.injEq, Value.slice.injEq, and_true] at e
  rw [e.1]
  exact h
/-- What lies elsewhere stays when one's own row grows. -/
theorem OwF.agr {G : Fp} (h : OwF n d P F w W T v L done) (grow : W.grownBy W' v.ownBlock) (hG : ∀ g, G g → v.ownBlock ≠ some g) : Agr G W W' := by
  have _ := h.own
  exact fun g hg hlt => grow.block g hlt (fun e => hG g hg e.symm)
end
/-- A literal slice of one row, as what is appended. -/
theorem src_any {P : Program} {tx e' T : TypeId} {n : Nat} {w : World} {R : List Value} (hk : P.underlying tx = some (.slice e')) (hR : R.length = n) (h1 : ∀ u ∈ R, u.oneCell' = true) : Src P n tx (.slice (some ⟨w.heap.size, 0, none⟩) 1 1) 1 R (w.alloc (.cells R.toArray T)) := by
  refine Src.ofSlice _ hk _ _ _ _ (by rw [hR, Nat.one_mul]) (fun j u hu => ?_) h1
  rw [addr_add, Joins.cell_of_block (heap_alloc_new w (.cells R.toArray T)), Nat.zero_add]
  simpa using hu
end Go.Proofs.Ytamkmeigcmpkjaa
