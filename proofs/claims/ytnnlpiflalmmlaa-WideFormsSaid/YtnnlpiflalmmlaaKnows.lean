/-
  The walk of basculelaw01.knows.
-/
import Derived.Test.YtnnlpiflalmmlaaPrint2
import Derived.Test.YtnnlpiflalmmlaaMul
namespace Go.Proofs.Ytnnlpiflalmmlaa
open Go.RowKit

theorem div_zero_lt {N : Int} {a : Nat} (h : N / 10 ^ a = 0) : N < 10 ^ a := by
  rcases Int.lt_or_le N (10 ^ a) with k | k
  · exact k
  · have := (Int.le_ediv_iff_mul_le (pow_pos10 a)).2 (show 1 * 10 ^ a ≤ N by omega)
    omega

theorem Len10_unique {N : Int} {L K : Nat} (hN : 0 ≤ N) (h : Len10 N L) (k : Len10 N K) : L = K := by
  have mono : ∀ a b : Nat, a ≤ b → N / 10 ^ a = 0 → N / 10 ^ b = 0 := by
    intro a b hab h0
    have p := pow10_le hab
    have q := div_zero_lt h0
    exact Int.ediv_eq_zero_of_lt hN (by omega)
  obtain ⟨h1, h2, h3⟩ := h
  obtain ⟨k1, k2, k3⟩ := k
  rcases Nat.lt_trichotomy L K with c | c | c
  · rcases k3 with e | e
    · omega
    · exact absurd (mono L (K - 1) (by omega) h2) e
  · exact c
  · rcases h3 with e | e
    · omega
    · exact absurd (mono K (L - 1) (by omega) k2) e

theorem dg120 : Len10 120 3 := ⟨by omega, by decide, Or.inr (by decide)⟩

theorem Print120 (w : World) : Calls Try.prog 28 #[.agg #[.int .u64 120, .int .u64 0, .int .u64 0, .int .u64 0]] w fun e w' => e = .returned (.string ⟨#[49, 50, 48]⟩) ∧ Below w.heap.size w w' := by
  have hd : D4 120 0 0 0 := by unfold D4 Dg B; omega
  refine (Print_any hd w).mono fun e w' ⟨⟨L, hL, he⟩, hb⟩ => ⟨?_, hb⟩
  have e1 : V 120 0 0 0 = 120 := by unfold V; simp
  rw [e1] at hL he
  obtain rfl := Len10_unique (by omega) hL dg120
  rw [he]
  congr 2

theorem mulK1 (w : World) : Calls Try.prog 18 #[.agg #[.int .u64 0, .int .u64 0, .int .u64 1, .int .u64 0], .agg #[.int .u64 0, .int .u64 9223372036854775808, .int .u64 0, .int .u64 0]] w
    fun e w' => e = .returned (.tuple #[.agg #[.int .u64 0, .int .u64 0, .int .u64 0, .int .u64 9223372036854775808], .int .i64 0]) ∧ Below w.heap.size w w' := by
  have h1 : D4 0 0 1 0 := by unfold D4 Dg B; omega
  have h2 : D4 0 9223372036854775808 0 0 := by unfold D4 Dg B; omega
  have h3 : D4 0 0 0 9223372036854775808 := by unfold D4 Dg B; omega
  have e : V 0 0 1 0 * V 0 9223372036854775808 0 0 = V 0 0 0 9223372036854775808 := by unfold V B; decide
  refine (Mul_any h1 h2 w).mono ?_
  rintro e w' ⟨r0, r1, r2, r3, c, rfl, ⟨hd, hc⟩, hb⟩
  rw [e] at hc
  have u := V_hi h3
  rcases hc with ⟨_, rfl, hv⟩ | ⟨hm, _⟩
  · obtain ⟨rfl, rfl, rfl, rfl⟩ := V_inj hd h3 hv
    exact ⟨rfl, hb⟩
  · omega

theorem mulK2 (w : World) : Calls Try.prog 18 #[.agg #[.int .u64 0, .int .u64 0, .int .u64 1, .int .u64 0], .agg #[.int .u64 0, .int .u64 0, .int .u64 1, .int .u64 0]] w
    fun e w' => e = .returned (.tuple #[.agg #[.int .u64 0, .int .u64 0, .int .u64 0, .int .u64 0], .int .i64 30]) ∧ Below w.heap.size w w' := by
  have h1 : D4 0 0 1 0 := by unfold D4 Dg B; omega
  have e : V 0 0 1 0 * V 0 0 1 0 = M := by unfold V M B; decide
  refine (Mul_any h1 h1 w).mono ?_
  rintro e w' ⟨r0, r1, r2, r3, c, rfl, ⟨hd, hc⟩, hb⟩
  rw [e] at hc
  rcases hc with ⟨hm, _⟩ | ⟨_, rfl, hv⟩
  · omega
  · obtain ⟨rfl, rfl, rfl, rfl⟩ := V_zero hd hv
    exact ⟨rfl, hb⟩

/-- A call that makes memory, behind what was made. -/
theorem bthen {B : Nat} {a w w' : World} (h : Below B a w) (k : Below w.heap.size w w') (hB : B ≤ w.heap.size) : Below B a w' := h.trans (k.mono hB)

set_option maxHeartbeats 2000000 in
theorem knows_any (w : World) : Calls Try.prog 17 #[] w fun e w' => e = .returned (.bool true) ∧ Below w.heap.size w w' := by
  have heq := @eq4_true 0 0 0 9223372036854775808
  go_enter Try.func17, Try.ntmps17
  go_wp2_with fail
  refine (mulK1 _).mono ?_
  rintro e w1 ⟨rfl, hb1⟩
  have z1 := hb1.size
  have Hb1 := Lib.hid hb1
  clear hb1
  go_wp2_with fail
  refine (mulK2 _).mono ?_
  rintro e w2 ⟨rfl, hb2⟩
  have Hb2 := Lib.hid (bthen (Below.alloc Hb1.out z1 _) hb2 (by simp; omega))
  have z2 : w1.heap.size < w2.heap.size := by have := hb2.size; simp at this; omega
  obtain ⟨hcl, hfz⟩ := bcell hb2
  clear hb2
  go_wp2_with fail
  refine (num_any _ _).mono ?_
  rintro e w3 ⟨rfl, rfl⟩
  go_wp2_with fail
  refine (num_any _ _).mono ?_
  rintro e w3 ⟨rfl, rfl⟩
  go_wp2_with fail
  refine (Of_any _ _).mono ?_
  rintro e w3 ⟨rfl, hb3⟩
  have Hb3 := Lib.hid (bthen (Below.alloc Hb2.out (by omega) _) hb3 (by simp; omega))
  have z3 : w2.heap.size < w3.heap.size := by have := hb3.size; simp at this; omega
  clear hb3
  go_wp2_with fail
  refine (Print120 _).mono ?_
  rintro e w4 ⟨rfl, hb4⟩
  have Hb4 := Lib.hid (bthen Hb3.out hb4 (by omega))
  clear hb4
  go_wp2_with fail
  go_ret
  exact ⟨rfl, Hb4.out⟩
end Go.Proofs.Ytnnlpiflalmmlaa
