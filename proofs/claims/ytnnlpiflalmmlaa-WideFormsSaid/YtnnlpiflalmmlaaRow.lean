/-
  A row of 64-bit numbers in memory, by an index function; sums of 32-bit digits, plain. For the document's own product.
-/
import Derived.Test.YtnnlpiflalmmlaaRef
namespace Go.Proofs.Ytnnlpiflalmmlaa
open Go.RowKit

/-- Block b holds n numbers. -/
def Rw (w : World) (b n : Nat) (T : TypeId) (f : Nat → Int) : Prop := ∃ cs : Array Value, w.heap[b]? = some (.cells cs T (0, 0)) ∧ cs.size = n ∧ ∀ i, i < n → cs[i]? = some (.int .u64 (f i))
def upd (f : Nat → Int) (k : Nat) (v : Int) : Nat → Int := fun i => if i = k then v else f i
theorem upd_same (f : Nat → Int) (k : Nat) (v : Int) : upd f k v k = v := by simp [upd]
theorem upd_ne (f : Nat → Int) {k i : Nat} (v : Int) (h : i ≠ k) : upd f k v i = f i := by simp [upd, h]

section
variable {w w1 : World} {b n : Nat} {T : TypeId} {f : Nat → Int}
theorem Rw.lt (h : Rw w b n T f) : b < w.heap.size := by
  obtain ⟨cs, hb, _⟩ := h
  exact lt_of_block hb
theorem Rw.cell (h : Rw w b n T f) (i : Nat) (hi : i < n) : w.cell? ⟨b, i, none⟩ = some (.int .u64 (f i)) := by
  obtain ⟨cs, hb, _, hx⟩ := h
  rw [Joins.cell_of_block hb]; exact hx i hi
theorem Rw.free (h : Rw w b n T f) (i : Nat) : w.frozen? ⟨b, i, none⟩ = false := by
  obtain ⟨cs, hb, _, hx⟩ := h
  exact Joins.unfrozen_of_block hb i
theorem Rw.on (h : Rw w b n T f) (hb : Below w.heap.size w w1) : Rw w1 b n T f := by
  have := h.lt
  obtain ⟨cs, h1, h2⟩ := h
  exact ⟨cs, by rw [hb.block _ this]; exact h1, h2⟩
theorem Rw.alloc (h : Rw w b n T f) (o : Obj) : Rw (w.alloc o) b n T f := by
  have l := h.lt
  obtain ⟨cs, h1, h2⟩ := h
  exact ⟨cs, by rw [Below.heap_alloc _ _ _ l]; exact h1, h2⟩
theorem Rw.drew (h : Rw w b n T f) : Rw w.drew b n T f := h
theorem Rw.other (h : Rw w b n T f) {a : Addr} (ha : b ≠ a.block) (v : Value) : Rw (w.setCell a v) b n T f := by
  obtain ⟨cs, h1, h2⟩ := h
  exact ⟨cs, by rw [Below.heap_setCell _ _ _ _ ha]; exact h1, h2⟩
theorem Rw.store (h : Rw w b n T f) {k : Nat} (hk : k < n) (v : Int) : Rw (w.setCell ⟨b, k, none⟩ (.int .u64 v)) b n T (upd f k v) := by
  obtain ⟨cs, h1, h2, h3⟩ := h
  refine ⟨cs.setIfInBounds k (.int .u64 v), Joins.block_setCell h1 _, by simp [h2], fun i hi => ?_⟩
  by_cases e : k = i
  · subst e; rw [Array.getElem?_setIfInBounds_self_of_lt (by omega), upd_same]
  · rw [Array.getElem?_setIfInBounds_ne e, upd_ne _ _ (fun h => e h.symm)]; exact h3 i hi
theorem Rw.new (w : World) (n : Nat) (T : TypeId) : Rw (w.alloc (.cells (Array.replicate n (.int .u64 0)) T)) w.heap.size n T fun _ => 0 :=
  ⟨_, heap_new _ _, by simp, fun i hi => by simp [hi]⟩
theorem Rw.same {g : Nat → Int} (h : Rw w b n T f) (e : ∀ i, i < n → f i = g i) : Rw w b n T g := by
  obtain ⟨cs, h1, h2, h3⟩ := h
  exact ⟨cs, h1, h2, fun i hi => by rw [← e i hi]; exact h3 i hi⟩
end

/-- The number of n digits to the base of 2^32. -/
def Sm (f : Nat → Int) : Nat → Int
  | 0 => 0
  | n + 1 => Sm f n + f n * 4294967296 ^ n

theorem p32 (n : Nat) : (0 : Int) < 4294967296 ^ n := Int.pow_pos (by omega)
theorem Sm_cong {f g : Nat → Int} : ∀ n, (∀ i, i < n → f i = g i) → Sm f n = Sm g n
  | 0, _ => rfl
  | n + 1, h => by rw [Sm, Sm, Sm_cong n (fun i hi => h i (by omega)), h n (by omega)]
theorem Sm_upd (f : Nat → Int) (k : Nat) (v : Int) : ∀ n, Sm (upd f k v) n = Sm f n + if k < n then (v - f k) * 4294967296 ^ k else 0
  | 0 => by simp [Sm]
  | n + 1 => by
    rw [Sm, Sm, Sm_upd f k v n]
    by_cases e : n = k
    · subst e
      rw [upd_same, if_neg (by omega), if_pos (by omega), Int.sub_mul]
      omega
    · rw [upd_ne _ _ e]
      by_cases h : k < n
      · rw [if_pos h, if_pos (by omega)]; omega
      · rw [if_neg h, if_neg (by omega)]; omega
theorem Sm_bd {f : Nat → Int} : ∀ n, (∀ i, i < n → Hf (f i)) → 0 ≤ Sm f n ∧ Sm f n < 4294967296 ^ n
  | 0, _ => by simp [Sm]
  | n + 1, h => by
    obtain ⟨a, b⟩ := Sm_bd n (fun i hi => h i (by omega))
    obtain ⟨c, d⟩ := h n (by omega)
    have p := p32 n
    have e := Int.mul_nonneg c (Int.le_of_lt p)
    have g : f n * 4294967296 ^ n ≤ 4294967295 * 4294967296 ^ n := Int.mul_le_mul_of_nonneg_right (by omega) (Int.le_of_lt p)
    rw [Sm, Int.pow_succ]
    omega
/-- n digits, and those above. -/
theorem Sm_split (f : Nat → Int) (n : Nat) : ∀ m, Sm f (n + m) = Sm f n + 4294967296 ^ n * Sm (fun i => f (n + i)) m
  | 0 => by simp [Sm]
  | m + 1 => by
    rw [show n + (m + 1) = n + m + 1 by omega, Sm, Sm_split f n m, Sm, Int.mul_add, Int.pow_add]
    have e : f (n + m) * (4294967296 ^ n * 4294967296 ^ m) = 4294967296 ^ n * (f (n + m) * 4294967296 ^ m) := by
      rw [← Int.mul_assoc, Int.mul_comm (f (n + m)), Int.mul_assoc]
    rw [e]; omega
theorem Sm_zero {f : Nat → Int} : ∀ n, (∀ i, i < n → f i = 0) → Sm f n = 0
  | 0, _ => rfl
  | n + 1, h => by rw [Sm, Sm_zero n (fun i hi => h i (by omega)), h n (by omega)]; omega
theorem Sm_pos {f : Nat → Int} : ∀ n, (∀ i, i < n → Hf (f i)) → (k : Nat) → k < n → f k ≠ 0 → 1 ≤ Sm f n
  | 0, _, k, hk, _ => by omega
  | n + 1, h, k, hk, hne => by
    have p := p32 n
    obtain ⟨c, _⟩ := h n (by omega)
    have nn := (Sm_bd n (fun i hi => h i (by omega))).1
    have e := Int.mul_nonneg c (Int.le_of_lt p)
    rw [Sm]
    by_cases e' : k = n
    · subst e'
      have : 1 * 4294967296 ^ k ≤ f k * 4294967296 ^ k := Int.mul_le_mul_of_nonneg_right (by omega) (Int.le_of_lt p)
      omega
    · have := Sm_pos n (fun i hi => h i (by omega)) k (by omega) hne
      omega

/-- What stands in the product's row within round i, at place k, with the carry c. -/
structure Acc (X Y O : Nat → Int) (i k : Nat) (c : Int) : Prop where
  o : ∀ j, j < 16 → Hf (O j)
  z : ∀ j, i + 8 ≤ j → j < 16 → O j = 0
  hc : Hf c
  s : Sm O 16 + c * 4294967296 ^ (i + k) = Sm X i * Sm Y 8 + X i * 4294967296 ^ i * Sm Y k

theorem Acc.fit {X Y O : Nat → Int} {i k : Nat} {c : Int} (h : Acc X Y O i k c) (hx : Hf (X i)) (hy : Hf (Y k)) (hi : i < 8) (hk : k < 8) : 0 ≤ c + O (i + k) + X i * Y k ∧ c + O (i + k) + X i * Y k < 18446744073709551616 ∧ 0 ≤ X i * Y k ∧ X i * Y k < 18446744073709551616 ∧ 0 ≤ c + O (i + k) ∧ c + O (i + k) < 18446744073709551616 := by
  obtain ⟨c0, c1⟩ := h.hc
  obtain ⟨o0, o1⟩ := h.o (i + k) (by omega)
  obtain ⟨x0, x1⟩ := hx
  obtain ⟨y0, y1⟩ := hy
  have a := Int.mul_nonneg x0 y0
  have b : X i * Y k ≤ 4294967295 * 4294967295 := Int.mul_le_mul (by omega) (by omega) y0 (by omega)
  omega
theorem Acc.step {X Y O : Nat → Int} {i k : Nat} {c t : Int} (h : Acc X Y O i k c) (hx : Hf (X i)) (hy : Hf (Y k)) (hi : i < 8) (hk : k < 8) (ht : t = c + O (i + k) + X i * Y k) :
    Acc X Y (upd O (i + k) (t % 4294967296)) i (k + 1) (t / 4294967296) := by
  have f := h.fit hx hy hi hk
  rw [← ht] at f
  have s := h.s
  refine ⟨fun j hj => ?_, fun j h1 h2 => ?_, ⟨by omega, by omega⟩, ?_⟩
  · by_cases e : j = i + k
    · subst e; rw [upd_same]; unfold Hf; omega
    · rw [upd_ne _ _ e]; exact h.o j hj
  · rw [upd_ne _ _ (by omega)]; exact h.z j h1 h2
  · rw [Sm_upd, if_pos (by omega), show i + (k + 1) = i + k + 1 by omega, Int.pow_succ, show Sm Y (k + 1) = Sm Y k + Y k * 4294967296 ^ k from rfl]
    have e : t = t % 4294967296 + 4294967296 * (t / 4294967296) := by omega
    have p : (4294967296 : Int) ^ (i + k) = 4294967296 ^ i * 4294967296 ^ k := Int.pow_add _ _ _
    generalize t % 4294967296 = r at *
    generalize t / 4294967296 = q at *
    generalize Sm O 16 = S at *
    generalize Sm X i * Sm Y 8 = U at *
    generalize Sm Y k = y at *
    generalize (4294967296 : Int) ^ i = P at *
    generalize (4294967296 : Int) ^ k = Q at *
    rw [p] at s ⊢
    generalize O (i + k) = o at *
    generalize X i = x at *
    generalize Y k = yk at *
    have g : q * (P * Q * 4294967296) + r * (P * Q) = t * (P * Q) := by rw [e]; grind
    have g2 : t * (P * Q) = c * (P * Q) + o * (P * Q) + x * P * (yk * Q) := by rw [ht]; grind
    have g3 : x * P * (y + yk * Q) = x * P * y + x * P * (yk * Q) := Int.mul_add _ _ _
    have g4 : (r - o) * (P * Q) = r * (P * Q) - o * (P * Q) := Int.sub_mul _ _ _
    rw [g3, g4]
    omega
theorem Acc.fin {X Y O : Nat → Int} {i : Nat} {c : Int} (h : Acc X Y O i 8 c) (hi : i < 8) : Acc X Y (upd O (i + 8) c) (i + 1) 0 0 := by
  have s := h.s
  have z := h.z (i + 8) (by omega) (by omega)
  refine ⟨fun j hj => ?_, fun j h1 h2 => ?_, ⟨by omega, by omega⟩, ?_⟩
  · by_cases e : j = i + 8
    · subst e; rw [upd_same]; exact h.hc
    · rw [upd_ne _ _ e]; exact h.o j hj
  · rw [upd_ne _ _ (by omega)]; exact h.z j (by omega) h2
  · rw [Sm_upd, if_pos (by omega), z, show Sm X (i + 1) = Sm X i + X i * 4294967296 ^ i from rfl, show Sm Y 0 = 0 from rfl]
    rw [Int.add_mul, Int.zero_mul, Int.mul_zero, Int.sub_zero, Int.add_zero, Int.add_zero]
    exact s
theorem Acc.start (X Y : Nat → Int) : Acc X Y (fun _ => 0) 0 0 0 := by
  refine ⟨fun _ _ => ⟨by omega, by omega⟩, fun _ _ _ => rfl, ⟨by omega, by omega⟩, ?_⟩
  rw [Sm_zero 16 (fun _ _ => rfl)]
  simp [Sm]
end Go.Proofs.Ytnnlpiflalmmlaa
