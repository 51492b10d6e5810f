/-
  The walk of package basculeref01: Mul.
-/
import Derived.Test.YtnnlpiflalmmlaaRefC
import Derived.Test.YtnnlpiflalmmlaaRow
namespace Go.Proofs.Ytnnlpiflalmmlaa
open Go.RowKit

def f8 (x0 x1 x2 x3 x4 x5 x6 x7 : Int) (i : Nat) : Int := [x0, x1, x2, x3, x4, x5, x6, x7].getD i 0
theorem At8.row {w : World} {b : Nat} {x0 x1 x2 x3 x4 x5 x6 x7 : Int} (h : At8 w b x0 x1 x2 x3 x4 x5 x6 x7) : Rw w b 8 52 (f8 x0 x1 x2 x3 x4 x5 x6 x7) := by
  refine ⟨_, h, rfl, fun i hi => ?_⟩
  have e : i = 0 ∨ i = 1 ∨ i = 2 ∨ i = 3 ∨ i = 4 ∨ i = 5 ∨ i = 6 ∨ i = 7 := by omega
  rcases e with rfl | rfl | rfl | rfl | rfl | rfl | rfl | rfl <;> rfl
theorem D8.row {x0 x1 x2 x3 x4 x5 x6 x7 : Int} (h : D8 x0 x1 x2 x3 x4 x5 x6 x7) (i : Nat) (hi : i < 8) : Hf (f8 x0 x1 x2 x3 x4 x5 x6 x7 i) := by
  obtain ⟨h0, h1, h2, h3, h4, h5, h6, h7⟩ := h
  have e : i = 0 ∨ i = 1 ∨ i = 2 ∨ i = 3 ∨ i = 4 ∨ i = 5 ∨ i = 6 ∨ i = 7 := by omega
  rcases e with rfl | rfl | rfl | rfl | rfl | rfl | rfl | rfl <;> assumption
theorem Sm_f8 (x0 x1 x2 x3 x4 x5 x6 x7 : Int) : Sm (f8 x0 x1 x2 x3 x4 x5 x6 x7) 8 = V8 x0 x1 x2 x3 x4 x5 x6 x7 := by
  simp only [Sm, f8, List.getD_cons_zero, List.getD_cons_succ]
  unfold V8 B
  omega
theorem zero16 (w : World) : (zeroValue 59).run Try.prog w = .ok (.agg (Array.replicate 16 (.int .u64 0))) w := by kernel_rfl

/-- What stands in memory. -/
structure MSt (w wr : World) (bx b_ bo : Nat) (X Y O : Nat → Int) (i k : Nat) (c : Int) : Prop where
  below : Below w.heap.size w wr
  R : At4 wr (w.heap.size + 1 + 1) 0 0 0 0
  rx : Rw wr bx 8 52 X
  ry : Rw wr b_ 8 52 Y
  ro : Rw wr bo 16 59 O
  l1 : w.heap.size + 1 + 1 < bx
  l2 : bx < b_
  l3 : b_ < bo
  dx : ∀ i, i < 8 → Hf (X i)
  dy : ∀ i, i < 8 → Hf (Y i)
  acc : Acc X Y O i k c

theorem MSt.step {w wr : World} {bx b_ bo : Nat} {X Y O : Nat → Int} {i k : Nat} {c : Int} (h : MSt w wr bx b_ bo X Y O i k c) (hi : i < 8) (hk : k < 8) :
    MSt w (wr.drew.setCell ⟨bo, i + k, none⟩ (.int .u64 ((c + O (i + k) + X i * Y k) % 4294967296))) bx b_ bo X Y (upd O (i + k) ((c + O (i + k) + X i * Y k) % 4294967296)) i (k + 1) ((c + O (i + k) + X i * Y k) / 4294967296) := by
  have l1 := h.l1
  have l2 := h.l2
  have l3 := h.l3
  exact ⟨(h.below.drew).setCell (by simp; omega) _, (h.R.drew).other (by simp; omega) _, (h.rx.drew).other (by simp; omega) _, (h.ry.drew).other (by simp; omega) _, (h.ro.drew).store (by omega) _, l1, l2, l3, h.dx, h.dy, h.acc.step (h.dx i hi) (h.dy k hk) hi hk rfl⟩
theorem MSt.fin {w wr : World} {bx b_ bo : Nat} {X Y O : Nat → Int} {i : Nat} {c : Int} (h : MSt w wr bx b_ bo X Y O i 8 c) (hi : i < 8) :
    MSt w (wr.setCell ⟨bo, i + 8, none⟩ (.int .u64 c)) bx b_ bo X Y (upd O (i + 8) c) (i + 1) 0 0 := by
  have l1 := h.l1
  have l2 := h.l2
  have l3 := h.l3
  exact ⟨h.below.setCell (by simp; omega) _, h.R.other (by simp; omega) _, h.rx.other (by simp; omega) _, h.ry.other (by simp; omega) _, h.ro.store (by omega) _, l1, l2, l3, h.dx, h.dy, h.acc.fin hi⟩

/-- What stands in memory while the lower half is taken. -/
structure LSt (w wr : World) (bo bl : Nat) (O L : Nat → Int) (i : Nat) : Prop where
  below : Below w.heap.size w wr
  R : At4 wr (w.heap.size + 1 + 1) 0 0 0 0
  ro : Rw wr bo 16 59 O
  rl : Rw wr bl 8 52 L
  l1 : w.heap.size + 1 + 1 < bo
  l2 : bo < bl
  hL : ∀ j, j < i → L j = O j
  hz : ∀ j, j < i → O (8 + j) = 0

theorem LSt.step {w wr : World} {bo bl : Nat} {O L : Nat → Int} {i : Nat} (h : LSt w wr bo bl O L i) (hi : i < 8) (hz : O (i + 8) = 0) :
    LSt w (wr.setCell ⟨bl, i, none⟩ (.int .u64 (O i))) bo bl O (upd L i (O i)) (i + 1) := by
  have l1 := h.l1
  have l2 := h.l2
  refine ⟨h.below.setCell (by simp; omega) _, h.R.other (by simp; omega) _, h.ro.other (by simp; omega) _, h.rl.store hi _, l1, l2, fun j hj => ?_, fun j hj => ?_⟩
  · by_cases e : j = i
    · subst e; rw [upd_same]
    · rw [upd_ne _ _ e]; exact h.hL j (by omega)
  · by_cases e : j = i
    · subst e; rw [Nat.add_comm]; exact hz
    · exact h.hz j (by omega)
theorem Sm8 (L : Nat → Int) : Sm L 8 = V8 (L 0) (L 1) (L 2) (L 3) (L 4) (L 5) (L 6) (L 7) := by
  simp only [Sm]
  unfold V8 B
  omega
theorem Sm_all {X Y O : Nat → Int} (h : Acc X Y O 8 0 0) : Sm O 16 = Sm X 8 * Sm Y 8 := by
  have s := h.s
  rw [show Sm Y 0 = 0 from rfl, Int.zero_mul, Int.mul_zero, Int.add_zero, Int.add_zero] at s
  exact s
theorem Sm_over {O : Nat → Int} (h : ∀ j, j < 16 → Hf (O j)) {i : Nat} (hi : i < 8) (hne : O (i + 8) ≠ 0) : M ≤ Sm O 16 := by
  have s := Sm_split O 8 8
  have a := (Sm_bd (f := O) 8 (fun j hj => h j (by omega))).1
  have b := Sm_pos (f := fun j => O (8 + j)) 8 (fun j hj => h (8 + j) (by omega)) i hi (by rw [Nat.add_comm]; exact hne)
  have e : (4294967296 : Int) ^ 8 = M := by unfold M B; decide
  rw [show 8 + 8 = 16 from rfl, e] at s
  have m : M * 1 ≤ M * Sm (fun j => O (8 + j)) 8 := Int.mul_le_mul_of_nonneg_left b (by unfold M B; decide)
  omega
theorem Sm_low {O L : Nat → Int} (h : ∀ j, j < 16 → Hf (O j)) (hz : ∀ j, j < 8 → O (8 + j) = 0) (hL : ∀ j, j < 8 → L j = O j) : Sm O 16 = Sm L 8 ∧ Sm O 16 < M := by
  have s := Sm_split O 8 8
  have b := (Sm_bd (f := O) 8 (fun j hj => h j (by omega))).2
  have e : (4294967296 : Int) ^ 8 = M := by unfold M B; decide
  rw [show 8 + 8 = 16 from rfl, Sm_zero (f := fun j => O (8 + j)) 8 hz, Int.mul_zero, Int.add_zero] at s
  rw [e] at b
  rw [s, Sm_cong 8 hL]
  exact ⟨rfl, b⟩

set_option maxHeartbeats 4000000 in
theorem refMul_any {a0 a1 a2 a3 b0 b1 b2 b3 : Int} (ha : D4 a0 a1 a2 a3) (hb : D4 b0 b1 b2 b3) (w : World) :
    Calls Try.prog 19 #[.agg #[.int .u64 a0, .int .u64 a1, .int .u64 a2, .int .u64 a3], .agg #[.int .u64 b0, .int .u64 b1, .int .u64 b2, .int .u64 b3]] w
      (NumP w fun r0 r1 r2 r3 c => D4 r0 r1 r2 r3 ∧ ((V a0 a1 a2 a3 * V b0 b1 b2 b3 < M ∧ c = 0 ∧ V r0 r1 r2 r3 = V a0 a1 a2 a3 * V b0 b1 b2 b3) ∨ (M ≤ V a0 a1 a2 a3 * V b0 b1 b2 b3 ∧ c = 30 ∧ V r0 r1 r2 r3 = 0))) := by
  have hz := zero16
  have hz8 := zero8
  have kx := halves_any ha
  have ky := halves_any hb
  clear ha hb
  go_enter Try.func19, Try.ntmps19
  go_wp2_with fail
  refine (kx _).mono ?_
  rintro e w1 ⟨x0, x1, x2, x3, x4, x5, x6, x7, rfl, dx, vx, hb1⟩
  have W1 := Lib.hid (bthen (show Below w.heap.size w (((w.alloc (.cells #[.int .u64 a0, .int .u64 a1, .int .u64 a2, .int .u64 a3] 24)).alloc (.cells #[.int .u64 b0, .int .u64 b1, .int .u64 b2, .int .u64 b3] 24)).alloc (.cells #[.int .u64 0, .int .u64 0, .int .u64 0, .int .u64 0] 24)) by repeat (first | with_reducible exact Below.refl _ _ | with_reducible refine Below.alloc ?_ (by simp; try omega) _)) hb1 (by simp; try omega))
  have HBx : Hid (At4 w1 (w.heap.size + 1) b0 b1 b2 b3) := (show At4 (((w.alloc (.cells #[.int .u64 a0, .int .u64 a1, .int .u64 a2, .int .u64 a3] 24)).alloc (.cells #[.int .u64 b0, .int .u64 b1, .int .u64 b2, .int .u64 b3] 24)).alloc (.cells #[.int .u64 0, .int .u64 0, .int .u64 0, .int .u64 0] 24)) (w.heap.size + 1) b0 b1 b2 b3 by simpa using (At4.new (w.alloc (.cells #[.int .u64 a0, .int .u64 a1, .int .u64 a2, .int .u64 a3] 24)) b0 b1 b2 b3).alloc (.cells #[.int .u64 0, .int .u64 0, .int .u64 0, .int .u64 0] 24)).on hb1
  have HO1 : Hid (At4 w1 (w.heap.size + 1 + 1) 0 0 0 0) := (show At4 (((w.alloc (.cells #[.int .u64 a0, .int .u64 a1, .int .u64 a2, .int .u64 a3] 24)).alloc (.cells #[.int .u64 b0, .int .u64 b1, .int .u64 b2, .int .u64 b3] 24)).alloc (.cells #[.int .u64 0, .int .u64 0, .int .u64 0, .int .u64 0] 24)) (w.heap.size + 1 + 1) 0 0 0 0 by simpa using At4.new ((w.alloc (.cells #[.int .u64 a0, .int .u64 a1, .int .u64 a2, .int .u64 a3] 24)).alloc (.cells #[.int .u64 b0, .int .u64 b1, .int .u64 b2, .int .u64 b3] 24)) 0 0 0 0).on hb1
  have Dx := Lib.hid dx
  have Vx := Lib.hid vx
  clear dx vx hb1 kx
  obtain ⟨cb0, cb1, cb2, cb3⟩ := HBx.out.cell
  have zb := HBx.out.lt
  go_wp2_with fail
  refine (ky _).mono ?_
  rintro e w2 ⟨y0, y1, y2, y3, y4, y5, y6, y7, rfl, dy, vy, hb2⟩
  have W2 := Lib.hid (bthen (Below.alloc W1.out (by have := W1.out.size; omega) _) hb2 (by have := W1.out.size; simp; omega))
  have HO2 := Lib.hid ((HO1.out.alloc _).on hb2)
  have HX2 := Lib.hid ((At8.new w1 x0 x1 x2 x3 x4 x5 x6 x7).on hb2)
  have Dy := Lib.hid dy
  have Vy := Lib.hid vy
  have hne := Lib.hid (show w.heap.size + 1 + 1 < w1.heap.size from HO1.out.lt)
  clear dy vy hb2 ky cb0 cb1 cb2 cb3 zb HBx HO1
  have hm0 : Hid (MSt w ((w2.alloc (.cells #[.int .u64 y0, .int .u64 y1, .int .u64 y2, .int .u64 y3, .int .u64 y4, .int .u64 y5, .int .u64 y6, .int .u64 y7] 52)).alloc (.cells (Array.replicate 16 (.int .u64 0)) 59)) w1.heap.size w2.heap.size (w2.heap.size + 1) (f8 x0 x1 x2 x3 x4 x5 x6 x7) (f8 y0 y1 y2 y3 y4 y5 y6 y7) (fun _ => 0) 0 0 0) := Lib.hid ⟨by
      have := W2.out.size
      exact (W2.out.alloc (by omega) _).alloc (by simp; omega) _, (HO2.out.alloc _).alloc _, ((HX2.out.alloc _).alloc _).row, ((At8.new w2 y0 y1 y2 y3 y4 y5 y6 y7).alloc _).row, by simpa using Rw.new (w2.alloc (.cells #[.int .u64 y0, .int .u64 y1, .int .u64 y2, .int .u64 y3, .int .u64 y4, .int .u64 y5, .int .u64 y6, .int .u64 y7] 52)) 16 59, hne.out, HX2.out.lt, by omega, Dx.out.row, Dy.out.row, Acc.start _ _⟩
  go_wp2_with fail
  clear HO2 HX2 W1 W2 hz
  generalize hX : f8 x0 x1 x2 x3 x4 x5 x6 x7 = X at hm0
  generalize hY : f8 y0 y1 y2 y3 y4 y5 y6 y7 = Y at hm0
  have HX := Lib.hid hX
  have HY := Lib.hid hY
  clear hX hY
  go_loopw [9] (fun iv wr => ∃ (i : Nat) (O : Nat → Int), iv = .int .i64 i ∧ i ≤ 8 ∧ Hid (MSt w wr w1.heap.size w2.heap.size (w2.heap.size + 1) X Y O i 0 0)) (fun iv _ => 8 - (intOf iv).toNat)
  case atStart => exact ⟨0, _, rfl, by omega, hm0⟩
  case round =>
    clear hm0
    obtain ⟨i, O, rfl, hi, hm⟩ := hrel
    by_cases hlt : i < 8
    · go_wp2_with fail
      obtain ⟨wo, rfl⟩ : ∃ wo : World, wo = wr := ⟨_, rfl⟩
      go_loopw [10, 11] (fun cv kv wr => ∃ (k : Nat) (c : Int) (O : Nat → Int), cv = .int .u64 c ∧ kv = .int .i64 k ∧ k ≤ 8 ∧ Hid (MSt w wr w1.heap.size w2.heap.size (w2.heap.size + 1) X Y O i k c)) (fun _ kv _ => 8 - (intOf kv).toNat)
      case atStart => exact ⟨0, 0, O, rfl, rfl, by omega, hm⟩
      case round =>
        clear hm
        obtain ⟨k, c, P, rfl, rfl, hk, hn⟩ := hrel
        by_cases hl : k < 8
        · have hN := Lib.hid (hn.out.step hlt hl)
          have hfit := hn.out.acc.fit (hn.out.dx i hlt) (hn.out.dy k hl) hlt hl
          have cx := hn.out.rx.cell i hlt
          have cy := hn.out.ry.cell k hl
          have co := hn.out.ro.cell (i + k) (by omega)
          have fo := hn.out.ro.free (i + k)
          generalize X i = x at hN hfit cx
          generalize Y k = y at hN hfit cy
          generalize P (i + k) = o at hN hfit co
          obtain ⟨g0, g1, g2, g3, g4, g5⟩ := hfit
          go_wp2_with fail
          go_region
          go_wp2_with fail
          go_roundw
          case rel => exact ⟨k + 1, _, _, rfl, by go_num, by omega, hN⟩
          case measure => simp [intOf]; omega
        · obtain rfl : k = 8 := by omega
          have hN := Lib.hid (hn.out.fin hlt)
          have co := hn.out.ro.cell (i + 8) (by omega)
          have fo := hn.out.ro.free (i + 8)
          generalize P (i + 8) = o at co
          go_wp2_with fail
          go_roundw
          case rel => exact ⟨i + 1, _, by go_num, by omega, hN⟩
          case measure => simp [intOf]; omega
    · obtain rfl : i = 8 := by omega
      have hA := Lib.hid hm.out.acc
      have hl0 : Hid (LSt w (wr.alloc (.cells #[.int .u64 0, .int .u64 0, .int .u64 0, .int .u64 0, .int .u64 0, .int .u64 0, .int .u64 0, .int .u64 0] 52)) (w2.heap.size + 1) wr.heap.size O (fun _ => 0) 0) := Lib.hid ⟨hm.out.below.alloc (by have := hm.out.below.size; omega) _, hm.out.R.alloc _, hm.out.ro.alloc _, by exact Rw.new wr 8 52, by have := hm.out.l1; have := hm.out.l2; have := hm.out.l3; omega, hm.out.ro.lt, fun j hj => by omega, fun j hj => by omega⟩
      clear hm
      go_wp2_with fail
      obtain ⟨wo, hwo⟩ : ∃ wo : World, wo = wr := ⟨_, rfl⟩
      obtain ⟨bl, hbl⟩ : ∃ bl : Nat, wr.heap.size = bl := ⟨_, rfl⟩
      rw [hbl] at hl0 ⊢
      have Hbl := Lib.hid hbl
      clear hbl hwo
      go_loopw [13] (fun iv wr => ∃ (i : Nat) (L : Nat → Int), iv = .int .i64 i ∧ i ≤ 8 ∧ Hid (LSt w wr (w2.heap.size + 1) bl O L i)) (fun iv _ => 8 - (intOf iv).toNat)
      case atStart => exact ⟨0, _, rfl, by omega, hl0⟩
      case round =>
        clear hl0
        obtain ⟨i, L, rfl, hi, hq⟩ := hrel
        by_cases hlt : i < 8
        · have c1 := hq.out.ro.cell i (by omega)
          have c2 := hq.out.ro.cell (i + 8) (by omega)
          have c3 := hq.out.rl.cell i hlt
          have f3 := hq.out.rl.free i
          have hne : ¬ w2.heap.size + 1 = bl := by have := hq.out.l2; omega
          have hne' : ¬ bl = w2.heap.size + 1 := by omega
          by_cases hz : O (i + 8) = 0
          · have hN := Lib.hid (hq.out.step hlt hz)
            rw [hz] at c2
            clear hz
            go_wp2_with fail
            go_roundw
            case rel => exact ⟨i + 1, _, by go_num, by omega, hN⟩
            case measure => simp [intOf]; omega
          · have hov := Lib.hid (Sm_over hA.out.o hlt hz)
            have hb1 : (O (i + 8) == 0) = false := by simpa using hz
            have hb2 : (O (i + 8) != 0) = true := by simpa using hz
            generalize O (i + 8) = o at c2 hb1 hb2
            clear hz
            obtain ⟨r0, r1, r2, r3⟩ := hq.out.R.cell
            obtain ⟨s0, s1, s2, s3⟩ := hq.out.R.free
            have hn3 : ¬ w.heap.size + 1 + 1 = bl := by have := hq.out.l2; have := hq.out.l1; omega
            have hn4 : ¬ bl = w.heap.size + 1 + 1 := by omega
            go_wp2_with fail
            try rw [Exit.noGoto_ret]
            refine bodyPost_ret (v := .tuple #[.agg #[.int .u64 0, .int .u64 0, .int .u64 0, .int .u64 0], .int .i64 30]) (by simp [results, Try.results19, go_sem, r0, r1, r2, r3]) rfl
              ⟨0, 0, 0, 0, 30, rfl, ⟨D4_zero, Or.inr ⟨?_, rfl, by unfold V; simp⟩⟩, ?_⟩
            · rw [← Vx.out, ← Vy.out, ← Sm_f8, ← Sm_f8, HX.out, HY.out, ← Sm_all hA.out]; exact hov.out
            · have hq' := hq.out.below
              have l1 := hq.out.l1
              have l2 := hq.out.l2
              repeat (first | with_reducible exact hq' | with_reducible refine Below.setCell ?_ (by simp; try omega) _)
        · obtain rfl : i = 8 := by omega
          have elow := Lib.hid (Sm_low hA.out.o hq.out.hz hq.out.hL)
          have dz := Lib.hid (show D8 (L 0) (L 1) (L 2) (L 3) (L 4) (L 5) (L 6) (L 7) from by
            have g : ∀ j, j < 8 → Hf (L j) := fun j hj => by rw [hq.out.hL j hj]; exact hA.out.o j (by omega)
            exact ⟨g 0 (by omega), g 1 (by omega), g 2 (by omega), g 3 (by omega), g 4 (by omega), g 5 (by omega), g 6 (by omega), g 7 (by omega)⟩)
          have c0 := hq.out.rl.cell 0 (by omega)
          have c1 := hq.out.rl.cell 1 (by omega)
          have c2 := hq.out.rl.cell 2 (by omega)
          have c3 := hq.out.rl.cell 3 (by omega)
          have c4 := hq.out.rl.cell 4 (by omega)
          have c5 := hq.out.rl.cell 5 (by omega)
          have c6 := hq.out.rl.cell 6 (by omega)
          have c7 := hq.out.rl.cell 7 (by omega)
          go_wp2_with fail
          refine (whole_any dz.out _).mono ?_
          rintro e w5 ⟨r0, r1, r2, r3, rfl, ⟨dr, vr⟩, hb5⟩
          have HO5 := Lib.hid (hq.out.R.on hb5)
          have W5 := Lib.hid (bthen hq.out.below hb5 (by have := hq.out.below.size; omega))
          have Vr := Lib.hid vr
          clear c0 c1 c2 c3 c4 c5 c6 c7 hb5 vr
          obtain ⟨co0, co1, co2, co3⟩ := HO5.out.cell
          obtain ⟨fo0, fo1, fo2, fo3⟩ := HO5.out.free
          go_wp2_with fail
          refine bodyPost_ret (v := .tuple #[.agg #[.int .u64 r0, .int .u64 r1, .int .u64 r2, .int .u64 r3], .int .i64 0]) (by simp [results, Try.results19, go_sem, co0, co1, co2, co3]) rfl
            ⟨r0, r1, r2, r3, 0, rfl, ⟨dr, Or.inl ⟨?_, rfl, ?_⟩⟩, ?_⟩
          · rw [← Vx.out, ← Vy.out, ← Sm_f8, ← Sm_f8, HX.out, HY.out, ← Sm_all hA.out]; exact elow.out.2
          · rw [Vr.out, ← Sm8, ← elow.out.1]; rw [← Vx.out, ← Vy.out, ← Sm_f8, ← Sm_f8, HX.out, HY.out, ← Sm_all hA.out]
          · repeat (first | with_reducible exact W5.out | with_reducible refine Below.setCell ?_ (by simp; try omega) _)
end Go.Proofs.Ytnnlpiflalmmlaa
