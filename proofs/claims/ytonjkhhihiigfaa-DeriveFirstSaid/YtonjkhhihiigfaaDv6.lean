/-
  What is read within some blocks (a footprint): bytes, rows of any length; rows of one's own that are appended to.; The frame of every law's proof: a call that answers true, and of what there was turns nothing, is what the row asks.; A slice of bytes, as a law's argument.; A hash as a law's argument.; A struct's fields, as a law's argument holds them.; A message, and bytes, as a law's arguments.
-/
import Derived.Test.YtonjkhhihiigfaaRows
import Derived.WalkKit
import Derived.ProofKit
import Derived.OpenShut
import Derived.Lib.SmallJoins
import Derived.Deep.Slices
import Derived.Deep.Grids
import Derived.SizedLaws
import Derived.Test.YtonjkhhihiigfaaDv1
import Derived.Test.YtonjkhhihiigfaaDv3
import Derived.Test.YtonjkhhihiigfaaDv5
namespace Go.Proofs.Ytonjkhhihiigfaa
set_option maxRecDepth 100000
open Go.RowKit

abbrev Fp := Nat → Prop
/-- The blocks of F are the same in both worlds. -/
def Agr (F : Fp) (w w' : World) : Prop := ∀ g, F g → g < w.heap.size → w'.heap[g]? = w.heap[g]?
theorem Agr.below {F : Fp} {w w' : World} (h : Below w.heap.size w w') : Agr F w w' := fun g _ hg => h.block g hg
theorem Agr.chg {F : Fp} {w w' : World} {K : List Nat} (h : Chg w w' K) (hF : ∀ g, F g → g ∉ K) : Agr F w w' := fun g hf hg => h.block g hg (hF g hf)
/-- A way of reading a value out of a row of cells, that hangs on the blocks of F alone. -/
structure FpOk {α : Type} (P : World → Fp → α → List Value → Prop) : Prop where
  mono : ∀ {w F G x r}, P w F x r → (∀ g, F g → G g) → P w G x r
  agr : ∀ {w w' F x r}, P w F x r → Agr F w w' → P w' F x r
  lt : ∀ {w F x r}, P w F x r → P w (fun g => F g ∧ g < w.heap.size) x r
theorem FpOk.on {α : Type} {P : World → Fp → α → List Value → Prop} (k : FpOk P) {w w' : World} {F : Fp} {x : α} {r : List Value} (h : P w F x r) (hb : Below w.heap.size w w') : P w' F x r := k.agr h (Agr.below hb)

/-! ### Bytes -/
def RdF (w : World) (F : Fp) (v : Value) (xs : List Int) : Prop := Rd w v xs ∧ (xs ≠ [] → ∀ g, v.ownBlock = some g → F g)
theorem RdF.rd {w : World} {F : Fp} {v : Value} {xs : List Int} (h : RdF w F v xs) : Rd w v xs := h.1
theorem RdF.mono {w : World} {F G : Fp} {v : Value} {xs : List Int} (h : RdF w F v xs) (hG : ∀ g, F g → G g) : RdF w G v xs := ⟨h.1, fun hn g hg => hG g (h.2 hn g hg)⟩
theorem RdF.agr {w w' : World} {F : Fp} {v : Value} {xs : List Int} (h : RdF w F v xs) (ha : Agr F w w') : RdF w' F v xs := by
  refine ⟨?_, h.2⟩
  obtain ⟨q, c, rfl, hq | ⟨b, off, rfl, hx⟩⟩ := h.1
  · exact ⟨q, c, rfl, .inl hq⟩
  · refine ⟨_, c, rfl, ?_⟩
    by_cases hn : xs = []
    · exact .inl hn
    · refine .inr ⟨b, off, rfl, fun i hi => ?_⟩
      have hb := lt_of_cell (hx i hi)
      rw [World.cell?_of_block (w := w) (ha b (h.2 hn b rfl) hb)]
      exact hx i hi
theorem RdF.lt {w : World} {F : Fp} {v : Value} {xs : List Int} (h : RdF w F v xs) : RdF w (fun g => F g ∧ g < w.heap.size) v xs := ⟨h.1, fun hn g hg => ⟨h.2 hn g hg, h.1.lt hn hg⟩⟩
theorem RdF.on {w w' : World} {F : Fp} {v : Value} {xs : List Int} (h : RdF w F v xs) (hb : Below w.heap.size w w') : RdF w' F v xs := h.agr (Agr.below hb)
/-- What was there reads within what was there. -/
theorem Rd.old {w : World} {v : Value} {xs : List Int} (h : Rd w v xs) : RdF w (fun g => g < w.heap.size) v xs := ⟨h, fun hn _ hg => h.lt hn hg⟩
theorem BuS.fp {w w' : World} {v : Value} {xs : List Int} (h : BuS w w' v xs) : RdF w' (fun g => w.heap.size ≤ g) v xs := ⟨h.rd, fun _ g hg => h.fresh g hg⟩
/-- A cell that holds a slice of bytes. -/
def PBs (w : World) (F : Fp) (xs : List Int) (r : List Value) : Prop := ∃ q c, r = [.slice q xs.length c] ∧ RdF w F (.slice q xs.length c) xs
theorem PBs_ok : FpOk PBs where
  mono := fun ⟨q, c, e, h⟩ hG => ⟨q, c, e, h.mono hG⟩
  agr := fun ⟨q, c, e, h⟩ ha => ⟨q, c, e, h.agr ha⟩
  lt := fun ⟨q, c, e, h⟩ => ⟨q, c, e, h.lt⟩
/-- A message's nine cells. -/
def PMg (w : World) (F : Fp) (m : Mg) (r : List Value) : Prop := ∃ q k, r = mgRow m q m.data.length k ∧ RdF w F (.slice q m.data.length k) m.data
theorem PMg_ok : FpOk PMg where
  mono := fun ⟨q, c, e, h⟩ hG => ⟨q, c, e, h.mono hG⟩
  agr := fun ⟨q, c, e, h⟩ ha => ⟨q, c, e, h.agr ha⟩
  lt := fun ⟨q, c, e, h⟩ => ⟨q, c, e, h.lt⟩

/-! ### Rows -/
section
variable {α : Type} {P : World → Fp → α → List Value → Prop} {d : α} {n : Nat}
/-- A slice's rows of n cells each. -/
def RwF (n : Nat) (d : α) (P : World → Fp → α → List Value → Prop) (w : World) (F : Fp) (q : Option Addr) (L : List α) : Prop := L = [] ∨ ∃ b off, q = some ⟨b, off, none⟩ ∧ F b ∧ ∀ i, i < L.length → ∃ r, r.length = n ∧ rowOf w b (off + i * n) n = r ∧ P w F (L.getD i d) r
theorem rowOf_lt {w : World} {b o n : Nat} {r : List Value} (hn : 0 < n) (hr : r.length = n) (h : rowOf w b o n = r) : b < w.heap.size := by
  unfold rowOf at h
  cases e : w.heap[b]? with
  | none => rw [e] at h; rw [← h] at hr; simp at hr; omega
  | some x => exact (Array.getElem?_eq_some_iff.1 e).1
theorem rowOf_agr {w w' : World} {b o n : Nat} (h : w'.heap[b]? = w.heap[b]?) : rowOf w' b o n = rowOf w b o n := by unfold rowOf; rw [h]
theorem RwF.mono (k : FpOk P) {w : World} {F G : Fp} {q : Option Addr} {L : List α} (h : RwF n d P w F q L) (hG : ∀ g, F g → G g) : RwF n d P w G q L := by
  rcases h with h | ⟨b, off, e, hb, hx⟩
  · exact .inl h
  · refine .inr ⟨b, off, e, hG b hb, fun i hi => ?_⟩
    obtain ⟨r, h1, h2, h3⟩ := hx i hi
    exact ⟨r, h1, h2, k.mono h3 hG⟩
theorem RwF.agr (k : FpOk P) (hn : 0 < n) {w w' : World} {F : Fp} {q : Option Addr} {L : List α} (h : RwF n d P w F q L) (ha : Agr F w w') : RwF n d P w' F q L := by
  rcases h with h | ⟨b, off, e, hb, hx⟩
  · exact .inl h
  · refine .inr ⟨b, off, e, hb, fun i hi => ?_⟩
    obtain ⟨r, h1, h2, h3⟩ := hx i hi
    exact ⟨r, h1, by rw [rowOf_agr (ha b hb (rowOf_lt hn h1 h2))]; exact h2, k.agr h3 ha⟩
theorem RwF.lt (k : FpOk P) (hn : 0 < n) {w : World} {F : Fp} {q : Option Addr} {L : List α} (h : RwF n d P w F q L) : RwF n d P w (fun g => F g ∧ g < w.heap.size) q L := by
  by_cases h0 : L = []
  · exact .inl h0
  · obtain ⟨b, off, e, hb, hx⟩ := h.resolve_left h0
    refine .inr ⟨b, off, e, ⟨hb, ?_⟩, fun i hi => ?_⟩
    · obtain ⟨r, h1, h2, _⟩ := hx 0 (List.length_pos_iff.2 h0)
      exact rowOf_lt hn h1 h2
    · obtain ⟨r, h1, h2, h3⟩ := hx i hi
      exact ⟨r, h1, h2, k.lt h3⟩
theorem RwF.on (k : FpOk P) (hn : 0 < n) {w w' : World} {F : Fp} {q : Option Addr} {L : List α} (h : RwF n d P w F q L) (hb : Below w.heap.size w w') : RwF n d P w' F q L := h.agr k hn (Agr.below hb)
theorem RwF.nil (w : World) (F : Fp) (q : Option Addr) : RwF n d P w F q [] := .inl rfl
/-- The row at a place. -/
theorem RwF.get {w : World} {F : Fp} {q : Option Addr} {L : List α} (h : RwF n d P w F q L) {i : Nat} (hi : i < L.length) : ∃ b off r, q = some ⟨b, off, none⟩ ∧ F b ∧ r.length = n ∧ rowOf w b (off + i * n) n = r ∧ P w F (L.getD i d) r := by
  have h0 : L ≠ [] := fun e => by rw [e] at hi; simp at hi
  obtain ⟨b, off, e, hb, hx⟩ := h.resolve_left h0
  obtain ⟨r, h1, h2, h3⟩ := hx i hi
  exact ⟨b, off, r, e, hb, h1, h2, h3⟩
/-- A cell that holds such a slice. -/
def PSl (n : Nat) (d : α) (P : World → Fp → α → List Value → Prop) (w : World) (F : Fp) (L : List α) (r : List Value) : Prop := ∃ q c, r = [.slice q L.length c] ∧ RwF n d P w F q L
theorem PSl_ok (k : FpOk P) (hn : 0 < n) : FpOk (PSl n d P) where
  mono := fun ⟨q, c, e, h⟩ hG => ⟨q, c, e, h.mono k hG⟩
  agr := fun ⟨q, c, e, h⟩ ha => ⟨q, c, e, h.agr k hn ha⟩
  lt := fun ⟨q, c, e, h⟩ => ⟨q, c, e, h.lt k hn⟩

/-! ### Rows of one's own -/
/-- The rows that a call has laid by now: all read within F, and none in the rows' own block. -/
structure OwF (n : Nat) (d : α) (P : World → Fp → α → List Value → Prop) (F : Fp) (w W : World) (T : TypeId) (v : Value) (L : List α) (done : List Value) : Prop where
  own : W.ownsRow 0 T n v L.length done
  each : ∀ i, i < L.length → ∃ r, r.length = n ∧ (done.drop (i * n)).take n = r ∧ P W (fun g => F g ∧ v.ownBlock ≠ some g) (L.getD i d) r
  fresh : ∀ g, v.ownBlock = some g → w.heap.size ≤ g
  below : Below w.heap.size w W
variable {F : Fp} {w W W' : World} {T : TypeId} {v : Value} {L : List α} {done : List Value}
theorem OwF.start (hb : Below w.heap.size w W) : OwF n d P F w W T (.slice none 0 0) [] [] := ⟨World.ownsRow_nil W 0 T n, fun i hi => by simp at hi, by simp [Value.ownBlock], hb⟩
theorem OwF.on (k : FpOk P) (h : OwF n d P F w W T v L done) (hb : Below W.heap.size W W') : OwF n d P F w W' T v L done :=
  ⟨own_on h.own hb, fun i hi => by
    obtain ⟨r, h1, h2, h3⟩ := h.each i hi
    exact ⟨r, h1, h2, k.on h3 hb⟩, h.fresh, h.below.trans (hb.mono h.below.size)⟩
theorem OwF.len (h : OwF n d P F w W T v L done) : done.length = L.length * n := h.own.1
theorem OwF.slice (h : OwF n d P F w W T v L done) : ∃ q c, v = .slice q L.length c := own_slice h.own
theorem OwF.rows (k : FpOk P) {q : Option Addr} {m c : Nat} (h : OwF n d P F w W T (.slice q m c) L done) : L = [] ∨ ∃ b off, q = some ⟨b, off, none⟩ ∧ (Value.slice q m c).ownBlock = some b ∧ ∀ i, i < L.length → ∃ r, r.length = n ∧ rowOf W b (off + i * n) n = r ∧ P W (fun g => F g ∧ (Value.slice q m c).ownBlock ≠ some g) (L.getD i d) r := by
  have _ := k
  rcases h.own.2 with ⟨e, h0⟩ | ⟨g, cap, cur, e, _, hg, hnc, hcm, hcs', htake⟩
  · exact .inl (List.eq_nil_of_length_eq_zero h0)
  · simp only [Value.slice.injEq] at e
    obtain ⟨rfl, rfl, rfl⟩ := e
    refine .inr ⟨g, 0, rfl, rfl, fun j hj => ?_⟩
    obtain ⟨r, h1, h2, h3⟩ := h.each j hj
    refine ⟨r, h1, ?_, h3⟩
    have hl := h.len
    have hc2 : cur = (done ++ cur.toList.drop (L.length * n)).toArray := by
      apply Array.ext'
      show cur.toList = done ++ cur.toList.drop (L.length * n)
      rw [← htake, List.take_append_drop]
    rw [hc2] at hg
    rw [rowOf_block hg, Nat.zero_add, ← h2]
    have h5 : j * n + n ≤ L.length * n := by rw [← Nat.succ_mul]; exact Nat.mul_le_mul_right n hj
    have e : ((done ++ cur.toList.drop (L.length * n)).drop (j * n)).take n = (done.drop (j * n)).take n := by
      rw [List.drop_append_of_le_length (by omega), List.take_append_of_le_length (by rw [List.length_drop]; omega)]
    rw [← e]
    simp [List.take_drop]
theorem OwF.rd (k : FpOk P) {q : Option Addr} {m c : Nat} (h : OwF n d P F w W T (.slice q m c) L done) (hF : ∀ g, w.heap.size ≤ g → F g) : RwF n d P W F q L := by
  rcases h.own.2 with ⟨e, h0⟩ | ⟨g, cap, cur, e, _, hg, hnc, hcm, hcs', htake⟩
  · exact .inl (List.eq_nil_of_length_eq_zero h0)
  · simp only [Value.slice.injEq] at e
    obtain ⟨rfl, rfl, rfl⟩ := e
    refine .inr ⟨g, 0, rfl, hF g (h.fresh g rfl), fun j hj => ?_⟩
    obtain ⟨r, h1, h2, h3⟩ := h.each j hj
    refine ⟨r, h1, ?_, k.mono h3 (fun _ h => h.1)⟩
    have hl := h.len
    have hc2 : cur = (done ++ cur.toList.drop (L.length * n)).toArray := by
      apply Array.ext'
      show cur.toList = done ++ cur.toList.drop (L.length * n)
      rw [← htake, List.take_append_drop]
    rw [hc2] at hg
    rw [rowOf_block hg, Nat.zero_add, ← h2]
    have h5 : j * n + n ≤ L.length * n := by rw [← Nat.succ_mul]; exact Nat.mul_le_mul_right n hj
    have e : ((done ++ cur.toList.drop (L.length * n)).drop (j * n)).take n = (done.drop (j * n)).take n := by
      rw [List.drop_append_of_le_length (by omega), List.take_append_of_le_length (by rw [List.length_drop]; omega)]
    rw [← e]
    simp [List.take_drop]
theorem OwF.rd2 (k : FpOk P) {q : Option Addr} {m c : Nat} (h : OwF n d P F w W T (.slice q m c) L done) (hF : ∀ g, (Value.slice q m c).ownBlock = some g → F g) : RwF n d P W F q L := by
  rcases OwF.rows k h with h0 | ⟨b, off, e, hb, hx⟩
  · exact .inl h0
  · refine .inr ⟨b, off, e, hF b hb, fun i hi => ?_⟩
    obtain ⟨r, h1, h2, h3⟩ := hx i hi
    exact ⟨r, h1, h2, k.mono h3 (fun _ h => h.1)⟩
theorem OwF.chg (k : FpOk P) {K : List Nat} (h : OwF n d P F w W T v L done) (hc : Chg W W' K) (hF : ∀ g, F g → g ∉ K) (hv : ∀ g, v.ownBlock = some g → g ∉ K) (hK : ∀ x, x ∈ K → w.heap.size ≤ x) : OwF n d P F w W' T v L done :=
  ⟨own_keep h.own (fun g hg => hc.block g (own_lt h.own hg) (hv g hg)), fun i hi => by
    obtain ⟨r, h1, h2, h3⟩ := h.each i hi
    exact ⟨r, h1, h2, k.agr h3 (Agr.chg hc (fun g hg => hF g hg.1))⟩, h.fresh, h.below.trans (hc.toBelow h.below.size hK)⟩
/-- One more row. -/
theorem OwF.grow (k : FpOk P) {x : α} {r : List Value} {q : Option Addr} {c : Nat} (h : OwF n d P F w W T v L done) (hr : r.length = n) (hp : P W (fun g => F g ∧ v.ownBlock ≠ some g) x r)
    (own : W'.ownsRow 0 T n (.slice q (L.length + 1) c) (L.length + 1) (done ++ r)) (grow : W.grownBy W' v.ownBlock) (fr : (Value.slice q (L.length + 1) c).ownBlock = v.ownBlock ∨ (Value.slice q (L.length + 1) c).ownBlock = some W.heap.size) :
    OwF n d P F w W' T (.slice q (L.length + 1) c) (L ++ [x]) (done ++ r) := by
  have hl := h.len
  have key : ∀ {y : α} {s : List Value}, P W (fun g => F g ∧ v.ownBlock ≠ some g) y s → P W' (fun g => F g ∧ (Value.slice q (L.length + 1) c).ownBlock ≠ some g) y s := fun {y s} hy => by
    have h1 := k.agr (k.lt hy) (w' := W') (fun g hg hlt => grow.block g hlt (fun e => hg.1.2 e.symm))
    refine k.mono h1 (fun g hg => ⟨hg.1.1, fun e => ?_⟩)
    rcases fr with e2 | e2
    · rw [e2] at e; exact hg.1.2 e
    · rw [e2] at e
      have : W.heap.size = g := Option.some.inj e
      omega
  refine ⟨?_, fun i hi => ?_, fun g hg => ?_, ?_⟩
  · rw [List.length_append, List.length_singleton]; exact own
  · rw [List.length_append, List.length_singleton] at hi
    by_cases hil : i < L.length
    · obtain ⟨s, h1, h2, h3⟩ := h.each i hil
      have eg : (L ++ [x]).getD i d = L.getD i d := by simp [List.getD, List.getElem?_append_left hil]
      rw [eg]
      have h5 : i * n + n ≤ L.length * n := by rw [← Nat.succ_mul]; exact Nat.mul_le_mul_right n hil
      refine ⟨s, h1, ?_, key h3⟩
      rw [List.drop_append_of_le_length (by omega), List.take_append_of_le_length (by rw [List.length_drop]; omega)]
      exact h2
    · obtain rfl : i = L.length := by omega
      have eg : (L ++ [x]).getD L.length d = x := by simp [List.getD]
      rw [eg]
      refine ⟨r, hr, ?_, key hp⟩
      rw [← hl, List.drop_left, List.take_of_length_le (by omega)]
  · rcases fr with e | e
    · rw [e] at hg; exact h.fresh g hg
    · rw [e] at hg
      have := h.below.size
      have : W.heap.size = g := Option.some.inj hg
      omega
  · exact h.below.grown grow h.below.size (fun g hg => h.fresh g hg)
/-- What is read outside one's own row is so behind an append. -/
theorem FpOk.grown (k : FpOk P) {G : Fp} {v' : Value} {y : α} {s : List Value} (hy : P W (fun g => G g ∧ v.ownBlock ≠ some g) y s) (grow : W.grownBy W' v.ownBlock) (fr : v'.ownBlock = v.ownBlock ∨ v'.ownBlock = some W.heap.size) : P W' (fun g => G g ∧ v'.ownBlock ≠ some g) y s := by
  have h1 := k.agr (k.lt hy) (w' := W') (fun g hg hlt => grow.block g hlt (fun e => hg.1.2 e.symm))
  refine k.mono h1 (fun g hg => ⟨hg.1.1, fun e => ?_⟩)
  rcases fr with e2 | e2
  · rw [e2] at e; exact hg.1.2 e
  · rw [e2] at e
    have : W.heap.size = g := Option.some.inj e
    omega
theorem RwF.grown (k : FpOk P) (hn : 0 < n) {G : Fp} {v' : Value} {q : Option Addr} {M : List α} (hy : RwF n d P W (fun g => G g ∧ v.ownBlock ≠ some g) q M) (grow : W.grownBy W' v.ownBlock) (fr : v'.ownBlock = v.ownBlock ∨ v'.ownBlock = some W.heap.size) : RwF n d P W' (fun g => G g ∧ v'.ownBlock ≠ some g) q M := by
  obtain ⟨q', c', e, h⟩ := (PSl_ok (d := d) k hn).grown (y := M) (s := [.slice q M.length 0]) ⟨q, 0, rfl, hy⟩ grow fr
  simp only [List.cons.injEq, Value.slice.injEq, and_true] at e
  rw [e.1]
  exact h
/-- What lies elsewhere stays when one's own row grows. -/
theorem OwF.agr {G : Fp} (h : OwF n d P F w W T v L done) (grow : W.grownBy W' v.ownBlock) (hG : ∀ g, G g → v.ownBlock ≠ some g) : Agr G W W' := by
  have _ := h.own
  exact fun g hg hlt => grow.block g hlt (fun e => hG g hg e.symm)
end
/-- A literal slice of one row, as what is appended. -/
theorem src_any {P : Program} {tx e' T : TypeId} {n : Nat} {w : World} {R : List Value} (hk : P.underlying tx = some (.slice e')) (hR : R.length = n) (h1 : ∀ u ∈ R, u.oneCell' = true) : Src P n tx (.slice (some ⟨w.heap.size, 0, none⟩) 1 1) 1 R (w.alloc (.cells R.toArray T)) := by
  refine Src.ofSlice _ hk _ _ _ _ (by rw [hR, Nat.one_mul]) (fun j u hu => ?_) h1
  rw [addr_add, Joins.cell_of_block (heap_alloc_new w (.cells R.toArray T)), Nat.zero_add]
  simpa using hu
end Go.Proofs.Ytonjkhhihiigfaa
namespace Go.Proofs.Ytonjkhhihiigfaa
open Go.ChangeShapes Go.WideShapes Go.ChangeAt Go.RowKit

theorem Try.ownNone : ownKnob Try.prog.godebug = none := by kernel_rfl
theorem Try.laidOutTrue : laidOutB Try.prog = true := by kernel_rfl

section
variable {H : Type} {enc : TypeId × Value → H} {P : Program}

theorem post_of_below {f : Func} {s : ChangeSpec} {apart fresh handsOn again : Bool} {W W' : World} {args : Array Value} {v : Value} {ds gs : List (DataW H)} {before pa pv : List MemPlace}
    (hW : DataW.Whole enc P f.params.toList s.vars apart W args.toList ds gs before)
    (hres : ∀ (b : Nat) (sp : Nat → Bool) (hd : Bool), DataW.TrodAll enc P W' b sp hd f.resultTypes.toList (v.resultList f.resultTypes.size) (s.fn H (ds ++ gs)).results [])
    (hargs : ∀ sp : Nat → Bool, (∀ p ∈ before, sp p.block = true) → DataW.TrodAll enc P W' 0 sp true f.params.toList args.toList (s.fn H (ds ++ gs)).args pa)
    (hvars : ∀ sp : Nat → Bool, (∀ p ∈ before, sp p.block = true) → DataW.TrodVars enc P W' sp s.vars (s.fn H (ds ++ gs)).vars pv)
    (hps : before = pa ++ pv) (hb : Below W.heap.size W W')
    (hok : ∀ (j : Nat) (t : TypeId) (r : Value), f.resultTypes[j]? = some t → (v.resultList f.resultTypes.size)[j]? = some r → Value.okWide P W' .any 0 t r) :
    s.post enc P f apart fresh handsOn again W args v W' := by
  have hlt : ∀ p ∈ before, p.block < W.heap.size := fun p hp => hW.lt p hp
  have hold : ∀ p ∈ before, (fun b => decide (b < W.heap.size)) p.block = true := fun p hp => by simpa using hlt p hp
  refine ⟨ds, gs, before, [], pa, pv, hW, hres _ _ _, hargs _ hold, hvars _ hold, World.keptBut_mono (fun p hp => ⟨hp, ?_⟩) (hb.frame (· ∈ before)), fun _ => ?_⟩
  · rw [hps, List.mem_append] at hp
    exact Or.inr hp
  · obtain ⟨_, _, _, _, _, hz, hn⟩ := hW
    refine ⟨hok, _, _, ([] ++ pa) ++ pv, ⟨[] ++ pa, pv, trodAll_append (hargs _ (fun _ _ => rfl)) (hres _ _ _), hvars _ (fun _ _ => rfl), rfl, ?_, ?_⟩, ?_⟩
    · intro b off hp
      have hin : MemPlace.cell b off ∈ before := by rw [hps]; simpa using hp
      rw [hb.frozen (hlt _ hin)]
      exact hz b off hin
    · intro ha
      have := hn ha
      rw [hps] at this
      simpa using this
    · intro p hp _
      rw [hps]
      simpa using hp

theorem trodAll_stays (hl : laidOutB P = true) {W W' : World} {sp' : Nat → Bool} : ∀ (ts : List TypeId) (_ : ts.all (fun t => P.readableRec t && decide (t < P.types.size)) = true) {vs : List Value} {ds : List (DataW H)} {ps : List MemPlace}
    (_ : DataW.TrodAll enc P W 0 (fun _ => true) true ts vs ds ps) (_ : ∀ p ∈ ps, W.sameAt W' p) (_ : ∀ p ∈ ps, sp' p.block = true), DataW.TrodAll enc P W' 0 sp' true ts vs ds ps
  | [], _, vs, ds, ps, h, _, _ => by
    obtain ⟨rfl, rfl, rfl⟩ := trodAll_nil h
    exact trodAll_mk0
  | t :: ts, hr, vs, ds, ps, h, hsame, hs => by
    obtain ⟨v, vs', d, ds', p, q, rfl, rfl, rfl, h1, h2⟩ := trodAll_cons h
    simp only [List.all_cons, Bool.and_eq_true, decide_eq_true_eq] at hr
    exact trodAll_cons_mk (WideElems.Trod_stays hl hr.1.1 hr.1.2 h1 (fun x hx => hsame x (by simp [hx])) (fun x hx => hs x (by simp [hx])))
      (trodAll_stays hl ts hr.2 h2 (fun x hx => hsame x (by simp [hx])) (fun x hx => hs x (by simp [hx])))

/-- A LAW's END: it answers true, and of what there was nothing has turned. -/
theorem law_post {f : Func} {s : ChangeSpec} {tb : TypeId} {W W' : World} {args : Array Value} {ds gs : List (DataW H)} {before : List MemPlace} (hl : laidOutB P = true)
    (hW : DataW.Whole enc P f.params.toList s.vars false W args.toList ds gs before) (hvars : s.vars = []) (hpar : f.params.toList.all (fun t => P.readableRec t && decide (t < P.types.size)) = true)
    (hrt : f.resultTypes = #[tb]) (htb : P.underlying tb = some .bool) (hres : (s.fn H ds).results = [.lit (.bool true)]) (hargs : (s.fn H ds).args = ds) (hvs : (s.fn H ds).vars = [])
    (hb : Below W.heap.size W W') : s.post enc P f false true false false W args (.bool true) W' := by
  have hW' := hW
  have hlt : ∀ p ∈ before, p.block < W.heap.size := fun p hp => hW.lt p hp
  obtain ⟨p, q, hA, hV, rfl, hfz, hnd⟩ := hW
  rw [hvars] at hV
  obtain ⟨rfl, rfl⟩ := trodVars_none hV
  refine post_of_below (pa := p) (pv := []) hW' ?_ ?_ ?_ rfl hb ?_
  · intro b sp hd
    rw [List.append_nil, hres, hrt]
    exact trodAll_mk1 (shut_bool htb true)
  · intro sp hsp
    rw [List.append_nil, hargs]
    exact trodAll_stays hl _ hpar hA (fun x hx => hb.same (hlt x (by simp [hx]))) (fun x hx => hsp x (by simp [hx]))
  · intro sp hsp
    rw [List.append_nil, hvs, hvars]
    rfl
  · exact ok_one hrt rfl (okWide_bool_mk htb true)
end
end Go.Proofs.Ytonjkhhihiigfaa
namespace Go.Proofs.Ytonjkhhihiigfaa
set_option maxRecDepth 100000
open Go.ChangeShapes Go.WideShapes Go.ChangeAt Go.RowKit Go.Deep

theorem u8_bounds {x : Int} (h : (Lit.int .u8 x).wf = true) : 0 ≤ x ∧ x < 256 := by
  have : 0 ≤ x ∧ x ≤ 255 := by simpa [Lit.wf, IntKind.min, IntKind.max, IntKind.signed, IntKind.bits] using h
  omega

section
variable {H : Type} {enc : TypeId × Value → H} {w : World} {base : Nat} {held : Bool}
theorem open_bytes {r : Reach} {b0 : Nat} {v : Value} {d : DataW H} {p : List MemPlace} (hv : Value.okWide Try.prog w r b0 50 v) (h : DataW.Trod enc Try.prog w base (fun _ => true) held 50 v d p) :
    ∃ xs : List Int, Rd w v xs ∧ Bytes xs ∧ xs.length ≤ maxLen := by
  obtain ⟨a0, len, cap, rfl⟩ := okWide_slice Try.underlying50 hv
  obtain ⟨fuel, hf⟩ := h
  rcases open_ints Try.underlying50 Try.underlying5 (by kernel_rfl) hf with ⟨h0, _⟩ | ⟨a, len', cap', zs, hcs, _, hl, hm, hz, _, hx, hwf⟩
  · simp [Value.cells] at h0
    obtain ⟨rfl, rfl, rfl⟩ := h0
    exact ⟨[], Rd.nil w, (by unfold Bytes; simp), Nat.zero_le _⟩
  · simp [Value.cells] at hcs
    obtain ⟨e1, e2, e3⟩ := hcs
    subst e1 e2 e3
    simp only [if_true] at hz
    refine ⟨zs.take len, ?_, fun x hx' => u8_bounds (hwf x (List.mem_of_mem_take hx')), by simp; omega⟩
    have hl2 : (zs.take len).length = len := by simp; omega
    by_cases h0 : len = 0
    · subst h0
      exact ⟨some a, _, by rw [hl2], .inl (by simp)⟩
    · obtain ⟨b, o, sp⟩ := a
      have hsp : sp = none := by
        have := hx 0 (by omega)
        simpa [Addr.add] using World.cell?_spot this
      subst hsp
      refine ⟨_, _, by rw [hl2], .inr ⟨b, o, rfl, fun i hi => ?_⟩⟩
      have h := hx i (by omega)
      rw [addr_add] at h
      rw [h]
      simp [List.getD, show i < len by omega]
end
end Go.Proofs.Ytonjkhhihiigfaa
namespace Go.Proofs.Ytonjkhhihiigfaa
set_option maxRecDepth 100000
open Go.ChangeShapes Go.WideShapes Go.ChangeAt Go.RowKit

theorem mapM_mem {α β : Type} {f : α → Option β} : ∀ {L : List α} {xs : List β}, L.mapM f = some xs → ∀ i ∈ L, ∃ y, f i = some y
  | [], _, _, i, hi => by simp at hi
  | a :: L, xs, h, i, hi => by
    rw [List.mapM_cons] at h
    simp only [bind, Option.bind_eq_some_iff, pure, Option.some.injEq] at h
    obtain ⟨y, hy, ys, hys, _⟩ := h
    rcases List.mem_cons.1 hi with rfl | hi
    · exact ⟨y, hy⟩
    · exact mapM_mem hys i hi

section
variable {H : Type} {enc : TypeId × Value → H} {P : Program} {w : World} {base : Nat} {spare : Nat → Bool} {held : Bool}

theorem trod_hash {t e : TypeId} {fuel : Nat} {cs : List Value} {x : DataW H × List MemPlace} (ht : P.underlying t = some (.array 32 e)) (he : P.underlying e = some (.int .u8)) (hC : P.cellsOf t = 32) (h1 : P.cellsOf e = 1)
    (h : DataW.trod enc P w base spare held fuel t cs = some x) : ∃ F : List Int, F.length = 32 ∧ cs = hc F := by
  cases fuel with
  | zero => simp [DataW.trod] at h
  | succ m =>
    rw [DataW.trod_step] at h
    unfold DataW.trodStep at h
    simp only [ht, h1, hC, Nat.mul_one] at h
    split at h
    · rename_i hl
      simp only [Option.map_eq_some_iff] at h
      obtain ⟨ys, hy, _⟩ := h
      refine ⟨cs.map fun v => match v with | .int _ q => q | _ => 0, by simp [hl], ?_⟩
      apply List.ext_getElem?
      intro i
      by_cases hi : i < 32
      · obtain ⟨y, hy⟩ := mapM_mem hy i (by simp [hi])
        obtain ⟨a, ea, _, _⟩ := DataW.trod_int he hy
        have e0 : cs[i]? = some (.int .u8 a) := by
          have := congrArg (fun l => l[0]?) ea
          simpa [List.getElem?_take, List.getElem?_drop] using this
        simp [hc, e0]
      · rw [List.getElem?_eq_none (by omega), List.getElem?_eq_none (by simp [hc]; omega)]
    · simp at h

end
end Go.Proofs.Ytonjkhhihiigfaa
namespace Go.Proofs.Ytonjkhhihiigfaa
set_option maxRecDepth 100000
open Go.ChangeShapes Go.WideShapes Go.ChangeAt Go.RowKit

section
variable {H : Type} {enc : TypeId × Value → H} {P : Program} {w : World} {base : Nat} {spare : Nat → Bool} {held : Bool}

theorem trod_fields {t : TypeId} {fs : Array Field} {fuel n : Nat} {cs : List Value} {x : DataW H × List MemPlace} (ht : P.underlying t = some (.struct fs)) (hC : P.cellsOf t = n) (h : DataW.trod enc P w base spare held fuel t cs = some x) :
    cs.length = n ∧ ∃ m, ∀ f ∈ fs.toList, ∃ y, DataW.trod enc P w base spare held m f.type ((cs.drop f.offset).take (P.cellsOf f.type)) = some y := by
  cases fuel with
  | zero => simp [DataW.trod] at h
  | succ m =>
    rw [DataW.trod_step] at h
    unfold DataW.trodStep at h
    simp only [ht, hC] at h
    split at h
    · rename_i hl
      simp only [Option.map_eq_some_iff] at h
      obtain ⟨ys, hy, _⟩ := h
      exact ⟨hl, m, mapM_mem hy⟩
    · simp at h
theorem trod_sl {t e : TypeId} {fuel : Nat} {cs : List Value} {x : DataW H × List MemPlace} (ht : P.underlying t = some (.slice e)) (h : DataW.trod enc P w base spare held fuel t cs = some x) :
    ∃ q n c, cs = [.slice q n c] ∧ n ≤ maxLen := by
  rcases Deep.open_slice ht h with ⟨rfl, _⟩ | ⟨a, len, cap, m, n, D, Pl, rfl, hb, hl, hm, _⟩
  · exact ⟨_, _, _, rfl, Nat.zero_le _⟩
  · exact ⟨_, _, _, rfl, Nat.le_trans hl hm⟩
theorem one_at {cs : List Value} {i : Nat} {v : Value} (h : (cs.drop i).take 1 = [v]) : cs[i]? = some v := by
  have := congrArg (fun l => l[0]?) h
  simpa [List.getElem?_take, List.getElem?_drop] using this
end
end Go.Proofs.Ytonjkhhihiigfaa
namespace Go.Proofs.Ytonjkhhihiigfaa
set_option maxRecDepth 100000
open Go.ChangeShapes Go.WideShapes Go.ChangeAt Go.RowKit Go.Deep

section
variable {H : Type} {enc : TypeId × Value → H} {P : Program} {w : World} {base : Nat} {held : Bool}

theorem trod_struct {t : TypeId} {fs : Array Field} {fuel n : Nat} {cs : List Value} {x : DataW H × List MemPlace} (ht : P.underlying t = some (.struct fs)) (hC : P.cellsOf t = n) (h : DataW.trod enc P w base (fun _ => true) held fuel t cs = some x) :
    cs.length = n ∧ ∃ m, ∃ ys : List (DataW H × List MemPlace), x.1 = .agg (ys.map (·.1)) ∧
      ∀ (i : Nat) f, fs.toList[i]? = some f → ∃ y, ys[i]? = some y ∧ DataW.trod enc P w base (fun _ => true) held m f.type ((cs.drop f.offset).take (P.cellsOf f.type)) = some y := by
  cases fuel with
  | zero => simp [DataW.trod] at h
  | succ m =>
    rw [DataW.trod_step] at h
    unfold DataW.trodStep at h
    simp only [ht, hC] at h
    split at h
    · rename_i hl
      simp only [Option.map_eq_some_iff] at h
      obtain ⟨ys, hy, hx⟩ := h
      refine ⟨hl, m, ys, by rw [← hx], fun i f hf => ?_⟩
      have h1 := mapM_some_get hy i f hf
      obtain ⟨y, hyy⟩ := mapM_mem hy f (List.mem_of_getElem? hf)
      exact ⟨y, by rw [← h1]; exact hyy, hyy⟩
    · simp at h
theorem weights_mem_all {e : TypeId} : ∀ {el : List (DataW H)} {d : DataW H}, d ∈ el → ∀ n ∈ d.weights P e, n ∈ DataW.weightsAll P e el
  | [], d, hd, _, _ => by cases hd
  | c :: el, d, hd, n, hn => by
    rw [DataW.weightsAll]
    rcases List.mem_cons.1 hd with rfl | hd
    · exact List.mem_append.2 (.inl hn)
    · exact List.mem_append.2 (.inr (weights_mem_all hd n hn))
theorem weights_struct {t : TypeId} {fs : Array Field} (ht : P.underlying t = some (.struct fs)) {parts : List (DataW H)} (h : ∀ n ∈ (DataW.agg parts).weights P t, n ≤ reachBytes) {j : Nat} {f : Field} {d : DataW H} (hf : fs.toList[j]? = some f) (hd : parts[j]? = some d) :
    ∀ n ∈ d.weights P f.type, n ≤ reachBytes := by
  intro n hn
  refine h n ?_
  rw [DataW.weights, ht]
  exact DataW.weights_mem_each (by rw [List.getElem?_map, hf]; rfl) hd n hn
theorem weights_slice {t e : TypeId} (ht : P.underlying t = some (.slice e)) {el sp : List (DataW H)} (h : ∀ n ∈ (DataW.slice el sp).weights P t, n ≤ reachBytes) : el.length * P.bytesOf e ≤ reachBytes ∧ ∀ d ∈ el, ∀ n ∈ d.weights P e, n ≤ reachBytes := by
  rw [DataW.weights, ht] at h
  simp only at h
  refine ⟨Nat.le_trans (Nat.mul_le_mul_right _ (Nat.le_add_right _ sp.length)) (h _ (List.mem_cons_self ..)), fun d hd n hn => h n ?_⟩
  exact List.mem_cons.2 (.inr (List.mem_append.2 (.inl (weights_mem_all hd n hn))))
end

section
variable {H : Type} {enc : TypeId × Value → H} {P : Program} {w : World} {base : Nat} {held : Bool}
theorem trod_arrI {t e : TypeId} {n : Nat} {kd : IntKind} {fuel : Nat} {cs : List Value} {x : DataW H × List MemPlace} (ht : P.underlying t = some (.array n e)) (he : P.underlying e = some (.int kd)) (hC : P.cellsOf t = n) (h1 : P.cellsOf e = 1)
    (h : DataW.trod enc P w base (fun _ => true) held fuel t cs = some x) : cs.length = n ∧ ∀ i, i < n → ∃ a, cs[i]? = some (.int kd a) ∧ (Lit.int kd a).wf = true := by
  cases fuel with
  | zero => simp [DataW.trod] at h
  | succ m =>
    rw [DataW.trod_step] at h
    unfold DataW.trodStep at h
    simp only [ht, h1, hC, Nat.mul_one] at h
    split at h
    · rename_i hl
      simp only [Option.map_eq_some_iff] at h
      obtain ⟨ys, hy, _⟩ := h
      refine ⟨hl, fun i hi => ?_⟩
      obtain ⟨y, hy⟩ := mapM_mem hy i (by simp; omega)
      obtain ⟨a, ea, _, hw⟩ := DataW.trod_int he hy
      have := congrArg (fun l => l[0]?) ea
      have e2 : cs[i]? = some (.int kd a) := by simpa [List.getElem?_take, List.getElem?_drop] using this
      exact ⟨a, e2, hw⟩
    · simp at h
theorem u64_bd {x : Int} (hx : (Lit.int .u64 x).wf = true) : 0 ≤ x ∧ x < 18446744073709551616 := by
  have : 0 ≤ x ∧ x ≤ 18446744073709551615 := by simpa [Lit.wf, IntKind.min, IntKind.max, IntKind.signed, IntKind.bits] using hx
  omega
theorem trod_u64B {t : TypeId} {fuel : Nat} {cs : List Value} {i : Nat} {x : DataW H × List MemPlace} (ht : P.underlying t = some (.int .u64)) (h : DataW.trod enc P w base (fun _ => true) held fuel t ((cs.drop i).take 1) = some x) : ∃ a, cs[i]? = some (.int .u64 a) ∧ 0 ≤ a ∧ a < 18446744073709551616 := by
  obtain ⟨a, e, _, hw⟩ := DataW.trod_int ht h
  exact ⟨a, one_at e, u64_bd hw⟩
end
section
variable {H : Type} {enc : TypeId × Value → H} {w : World} {base : Nat} {held : Bool}
theorem trod_bytes {fuel : Nat} {cs : List Value} {y : DataW H × List MemPlace} (h : DataW.trod enc Try.prog w base (fun _ => true) held fuel 50 cs = some y) :
    ∃ v xs, cs = [v] ∧ Rd w v xs ∧ Bytes xs ∧ (xs = [] ∨ ∃ el sp, y.1 = .slice el sp ∧ el.length = xs.length) := by
  rcases Deep.open_slice Try.underlying50 h with ⟨rfl, _⟩ | ⟨a, len, cap, m, n, D, Pl, rfl, hb, hl, hm, hmm, hy, hx⟩
  · exact ⟨_, [], rfl, Rd.nil w, (by unfold Bytes; simp), .inl rfl⟩
  · rcases open_ints Try.underlying50 Try.underlying5 (by kernel_rfl) h with ⟨h0, _⟩ | ⟨a', len', cap', zs, hcs, _, hl', hm', hz, _, hx', hwf⟩
    · simp at h0
    · simp only [List.cons.injEq, Value.slice.injEq, Option.some.injEq, and_true] at hcs
      obtain ⟨rfl, rfl, rfl⟩ := hcs
      simp only [if_true] at hz
      have hl2 : (zs.take len).length = len := by simp; omega
      refine ⟨_, zs.take len, rfl, ?_, fun x hx' => u8_bounds (hwf x (List.mem_of_mem_take hx')), .inr ⟨_, _, by rw [hy], by simp; omega⟩⟩
      by_cases h0 : len = 0
      · subst h0
        exact ⟨some a, _, by rw [hl2], .inl (by simp)⟩
      · obtain ⟨b, o, sp⟩ := a
        have hsp : sp = none := by
          have := hx' 0 (by omega)
          simpa [Addr.add] using World.cell?_spot this
        subst hsp
        refine ⟨_, _, by rw [hl2], .inr ⟨b, o, rfl, fun i hi => ?_⟩⟩
        have h := hx' i (by omega)
        rw [addr_add] at h
        rw [h]
        simp [List.getD, show i < len by omega]
theorem reach46 : reachBytes ≤ 140737488355000 := by decide
theorem open_bytesS {r : Reach} {b0 : Nat} {v : Value} {d : DataW H} {p : List MemPlace} (hv : Value.okWide Try.prog w r b0 50 v) (h : DataW.Trod enc Try.prog w base (fun _ => true) held 50 v d p)
    (hs : ∀ n ∈ d.weights Try.prog 50, n ≤ reachBytes) : ∃ xs : List Int, Rd w v xs ∧ Bytes xs ∧ xs.length ≤ 140737488355000 := by
  have hr := reach46
  obtain ⟨xs, rx, bx, lx⟩ := open_bytes hv h
  obtain ⟨fuel, hf⟩ := h
  obtain ⟨v', xs', e, r', _, z⟩ := trod_bytes hf
  obtain ⟨q, c, rfl⟩ := rx.len
  obtain ⟨q', c', rfl⟩ := r'.len
  simp only [Value.cells, List.cons.injEq, Value.slice.injEq, and_true] at e
  refine ⟨xs, rx, bx, ?_⟩
  rcases z with rfl | ⟨el, sp, z1, z2⟩
  · have h5 : xs.length = ([] : List Int).length := e.2.1
    rw [h5]
    simp
  · simp only at z1
    rw [z1] at hs
    have h4 := (weights_slice Try.underlying50 hs).1
    rw [show Try.prog.bytesOf 5 = 1 by kernel_rfl, z2] at h4
    omega
theorem open_mg {r : Reach} {b0 : Nat} {v : Value} {d : DataW H} {p : List MemPlace} (hv : Value.okWide Try.prog w r b0 62 v) (h : DataW.Trod enc Try.prog w base (fun _ => true) held 62 v d p)
    (hs : ∀ n ∈ d.weights Try.prog 62, n ≤ reachBytes) : ∃ m q k, v = .agg (mgRow m q m.data.length k).toArray ∧ Rd w (.slice q m.data.length k) m.data ∧ m.ok ∧ m.data.length ≤ 140737488355000 := by
  have hr := reach46
  obtain ⟨arr, rfl, _, _⟩ : ∃ cs, v = .agg cs ∧ cs.size = Try.prog.cellsOf 62 ∧ Row.okWide Try.prog w r b0 62 cs := by
    simpa [Value.okWide, Try.underlying62] using hv
  obtain ⟨fuel, hf⟩ := h
  obtain ⟨hl, mm, ys, hx, hfld⟩ := trod_struct Try.underlying62 (n := 9) (by kernel_rfl) hf
  simp only at hx
  subst hx
  have c1 : Try.prog.cellsOf 47 = 1 := by kernel_rfl
  have c4 : Try.prog.cellsOf 49 = 4 := by kernel_rfl
  have cb : Try.prog.cellsOf 50 = 1 := by kernel_rfl
  obtain ⟨y0, g0, t0⟩ := hfld 0 _ rfl
  obtain ⟨y1, g1, t1⟩ := hfld 1 _ rfl
  obtain ⟨y2, g2, t2⟩ := hfld 2 _ rfl
  obtain ⟨y3, g3, t3⟩ := hfld 3 _ rfl
  obtain ⟨y4, g4, t4⟩ := hfld 4 _ rfl
  obtain ⟨y5, g5, t5⟩ := hfld 5 _ rfl
  dsimp only at t0 t1 t2 t3 t4 t5
  rw [c1] at t0 t1 t2 t4
  rw [c4] at t3
  rw [cb] at t5
  have m5 := weights_struct Try.underlying62 hs (j := 5) rfl (show (ys.map (·.1))[5]? = some y5.1 by rw [List.getElem?_map, g5]; rfl)
  dsimp only at m5
  obtain ⟨a0, e0, h0⟩ := trod_u64B Try.underlying47 t0
  obtain ⟨a1, e1, h1⟩ := trod_u64B Try.underlying47 t1
  obtain ⟨a2, e2, h2⟩ := trod_u64B Try.underlying47 t2
  obtain ⟨a4, e4, h4⟩ := trod_u64B Try.underlying47 t4
  obtain ⟨l3, h3⟩ := trod_arrI Try.underlying49 Try.underlying47 c4 c1 t3
  obtain ⟨b0, f0, w0⟩ := h3 0 (by omega)
  obtain ⟨b1, f1, w1⟩ := h3 1 (by omega)
  obtain ⟨b2, f2, w2⟩ := h3 2 (by omega)
  obtain ⟨b3, f3, w3⟩ := h3 3 (by omega)
  obtain ⟨v5, xs, e5, r5, bx, z5⟩ := trod_bytes t5
  obtain ⟨q, k, rfl⟩ := r5.len
  have s5 : xs.length ≤ 140737488355000 := by
    rcases z5 with z | ⟨el, sp, z1, z2⟩
    · rw [z]; simp
    · rw [z1] at m5
      have := (weights_slice Try.underlying50 m5).1
      rw [show Try.prog.bytesOf 5 = 1 by kernel_rfl, z2] at this
      omega
  obtain ⟨cs, hcs⟩ : ∃ cs, (Value.agg arr).cells.toList = cs := ⟨_, rfl⟩
  have ha : arr = cs.toArray := by rw [← hcs]; simp [Value.cells]
  rw [hcs] at hl e0 e1 e2 e4 f0 f1 f2 f3 e5
  have dg : ∀ {x : Int}, (Lit.int .u64 x).wf = true → Dg x := fun hx => by
    have := u64_bd hx
    unfold Dg B; omega
  have sub : ∀ {i : Nat} {u : Value}, i < 4 → ((cs.drop 3).take 4)[i]? = some u → cs[3 + i]? = some u := fun hi h => by
    rw [List.getElem?_take, if_pos hi, List.getElem?_drop] at h
    exact h
  have e8 : cs[8]? = some (.slice q xs.length k) := one_at e5
  refine ⟨⟨a0, a1, a2, ⟨b0, b1, b2, b3⟩, a4, xs⟩, q, k, ?_, r5, ⟨h0, h1, h2, ⟨dg w0, dg w1, dg w2, dg w3⟩, h4, bx⟩, s5⟩
  rw [ha]
  congr 2
  apply List.ext_getElem?
  intro i
  have hi : i = 0 ∨ i = 1 ∨ i = 2 ∨ i = 3 ∨ i = 4 ∨ i = 5 ∨ i = 6 ∨ i = 7 ∨ i = 8 ∨ 9 ≤ i := by omega
  rcases hi with rfl | rfl | rfl | rfl | rfl | rfl | rfl | rfl | rfl | hi
  · rw [e0]; rfl
  · rw [e1]; rfl
  · rw [e2]; rfl
  · rw [sub (i := 0) (by omega) f0]; rfl
  · rw [sub (i := 1) (by omega) f1]; rfl
  · rw [sub (i := 2) (by omega) f2]; rfl
  · rw [sub (i := 3) (by omega) f3]; rfl
  · rw [e4]; rfl
  · rw [e8]; rfl
  · rw [List.getElem?_eq_none (by omega), List.getElem?_eq_none (by rw [mgRow_len]; omega)]
end
end Go.Proofs.Ytonjkhhihiigfaa
