/-
  WideParts returns true for every three numbers, and leaves its arguments: a product with a sum is the sum of both products where all fit.
-/
import Derived.Test.YtgfdadcbendmbaaKnows
import Derived.Test.YtgfdadcbendmbaaFrame
namespace Go.Proofs.Ytgfdadcbendmbaa
open Go.ChangeShapes Go.WideShapes Go.ChangeAt Go.RowKit

section
variable {H : Type} {enc : TypeId × Value → H} {P : Program} {w : World} {base : Nat} {spare : Nat → Bool} {held : Bool}
/-- An array of four 64-bit numbers, by value. -/
theorem open_wide {t e : TypeId} {r : Reach} {b0 : Nat} {v : Value} {d : DataW H} {p : List MemPlace} (ht : P.underlying t = some (.array 4 e)) (he : P.underlying e = some (.int .u64)) (hC : P.cellsOf t = 4) (hc : P.cellsOf e = 1)
    (hv : Value.okWide P w r b0 t v) (h : DataW.Trod enc P w base spare held t v d p) : ∃ a0 a1 a2 a3 : Int, v = .agg #[.int .u64 a0, .int .u64 a1, .int .u64 a2, .int .u64 a3] ∧ D4 a0 a1 a2 a3 := by
  obtain ⟨cs, rfl, hsz, _⟩ : ∃ cs, v = .agg cs ∧ cs.size = P.cellsOf t ∧ Row.okWide P w r b0 t cs := by
    simpa [Value.okWide, ht] using hv
  rw [hC] at hsz
  obtain ⟨c0, c1, c2, c3, rfl⟩ := Joins.array4 hsz
  obtain ⟨fuel, hf⟩ := h
  obtain ⟨y0, y1, y2, y3, m, hx, hy0, hy1, hy2, hy3⟩ := trod_array4 ht hc hf
  obtain ⟨x0, e0, rfl, w0⟩ := DataW.trod_int he hy0
  obtain ⟨x1, e1, rfl, w1⟩ := DataW.trod_int he hy1
  obtain ⟨x2, e2, rfl, w2⟩ := DataW.trod_int he hy2
  obtain ⟨x3, e3, rfl, w3⟩ := DataW.trod_int he hy3
  simp at e0 e1 e2 e3
  subst e0 e1 e2 e3
  have bd : ∀ x : Int, (Lit.int .u64 x).wf = true → Dg x := by
    intro x hx
    have : 0 ≤ x ∧ x ≤ 18446744073709551615 := by simpa [Lit.wf, IntKind.min, IntKind.max, IntKind.signed, IntKind.bits] using hx
    unfold Dg B; omega
  exact ⟨_, _, _, _, rfl, bd _ w0, bd _ w1, bd _ w2, bd _ w3⟩
end
theorem Try.wide4Cells : Try.prog.cellsOf 24 = 4 := by kernel_rfl

set_option maxHeartbeats 2000000 in
theorem Parts_walk {a0 a1 a2 a3 b0 b1 b2 b3 c0 c1 c2 c3 : Int} (ha : D4 a0 a1 a2 a3) (hb : D4 b0 b1 b2 b3) (hc : D4 c0 c1 c2 c3) (w : World) :
    Calls Try.prog 9 #[.agg #[.int .u64 a0, .int .u64 a1, .int .u64 a2, .int .u64 a3], .agg #[.int .u64 b0, .int .u64 b1, .int .u64 b2, .int .u64 b3], .agg #[.int .u64 c0, .int .u64 c1, .int .u64 c2, .int .u64 c3]] w
      fun e w' => e = .returned (.bool true) ∧ Below w.heap.size w w' := by
  have k1 := Add_any hb hc
  have k2 := Mul_any ha hb
  have k3 := Mul_any ha hc
  go_enter Try.func9, Try.ntmps9
  go_wp2_with fail
  refine (k1 _).mono ?_
  rintro e w1 ⟨s0, s1, s2, s3, es, rfl, ⟨ds, hs⟩, hb1⟩
  have Hb1 := Lib.hid (bthen (Below.alloc (Below.alloc (Below.alloc (Below.refl _ w) (Nat.le_refl _) _) (by simp) _) (by simp; omega) _) hb1 (by simp; omega))
  have Hs := Lib.hid hs
  obtain ⟨hcl, hfz⟩ := bcell hb1
  have z1 : w.heap.size + 1 + 1 < w1.heap.size := by have := hb1.size; simp at this; omega
  have y1 : w.heap.size + 1 < w1.heap.size := by omega
  have x1 : w.heap.size < w1.heap.size := by omega
  clear hb1 hs k1
  go_wp2_with fail
  refine (k2 _).mono ?_
  rintro e w2 ⟨p0, p1, p2, p3, ep, rfl, ⟨dp, hp⟩, hb2⟩
  have Hb2 := Lib.hid (bthen (Below.alloc Hb1.out (by omega) _) hb2 (by simp; omega))
  have Hp := Lib.hid hp
  obtain ⟨hcl2, hfz2⟩ := bcell hb2
  have v2 : w1.heap.size < w2.heap.size := by have := hb2.size; simp at this; omega
  have z2 : w.heap.size + 1 + 1 < w2.heap.size := by omega
  have y2 : w.heap.size + 1 < w2.heap.size := by omega
  have x2 : w.heap.size < w2.heap.size := by omega
  clear hb2 hp k2
  go_wp2_with fail
  refine (k3 _).mono ?_
  rintro e w3 ⟨q0, q1, q2, q3, eq, rfl, ⟨dq, hq⟩, hb3⟩
  have Hb3 := Lib.hid (bthen (Below.alloc Hb2.out (by omega) _) hb3 (by simp; omega))
  have Hq := Lib.hid hq
  obtain ⟨hcl3, hfz3⟩ := bcell hb3
  have u3 : w2.heap.size < w3.heap.size := by have := hb3.size; simp at this; omega
  have v3 : w1.heap.size < w3.heap.size := by omega
  have z3 : w.heap.size + 1 + 1 < w3.heap.size := by omega
  have y3 : w.heap.size + 1 < w3.heap.size := by omega
  have x3 : w.heap.size < w3.heap.size := by omega
  clear hb3 hq k3
  go_wp2_with fail
  refine (num_any _ _).mono ?_
  rintro e w4 ⟨rfl, rfl⟩
  by_cases g1 : es = 0
  · subst g1
    go_wp2_with fail
    refine (num_any _ _).mono ?_
    rintro e w4 ⟨rfl, rfl⟩
    by_cases g2 : ep = 0
    · subst g2
      go_wp2_with fail
      refine (num_any _ _).mono ?_
      rintro e w4 ⟨rfl, rfl⟩
      by_cases g3 : eq = 0
      · subst g3
        have k4 := Mul_any ha ds
        have k5 := Add_any dp dq
        go_wp2_with fail
        refine (k4 _).mono ?_
        rintro e w4 ⟨x0, x1, x2, x3, ex, rfl, ⟨dx, hx⟩, hb4⟩
        have Hb4 := Lib.hid (bthen (Below.alloc Hb3.out (by omega) _) hb4 (by simp; omega))
        have Hx := Lib.hid hx
        obtain ⟨hcl4, hfz4⟩ := bcell hb4
        have t4 : w3.heap.size < w4.heap.size := by have := hb4.size; simp at this; omega
        have u4 : w2.heap.size < w4.heap.size := by omega
        have v4 : w1.heap.size < w4.heap.size := by omega
        clear hb4 hx k4
        go_wp2_with fail
        refine (k5 _).mono ?_
        rintro e w5 ⟨r0, r1, r2, r3, er, rfl, ⟨dr, hr⟩, hb5⟩
        have Hb5 := Lib.hid (bthen (Below.alloc Hb4.out (by omega) _) hb5 (by simp; omega))
        obtain ⟨hcl5, hfz5⟩ := bcell hb5
        have s5 : w4.heap.size < w5.heap.size := by have := hb5.size; simp at this; omega
        clear hb5 k5
        have same : V x0 x1 x2 x3 = V r0 r1 r2 r3 ∧ ex = er := by
          have es := Hs.out
          have ep := Hp.out
          have eq := Hq.out
          have ex := Hx.out
          simp only [true_and] at es ep eq
          have e1 : V s0 s1 s2 s3 = V b0 b1 b2 b3 + V c0 c1 c2 c3 := by omega
          have e2 : V p0 p1 p2 p3 = V a0 a1 a2 a3 * V b0 b1 b2 b3 := by omega
          have e3 : V q0 q1 q2 q3 = V a0 a1 a2 a3 * V c0 c1 c2 c3 := by omega
          have e4 : V a0 a1 a2 a3 * V s0 s1 s2 s3 = V p0 p1 p2 p3 + V q0 q1 q2 q3 := by rw [e1, e2, e3, Int.mul_add]
          rw [e4] at ex
          omega
        obtain ⟨sv, rfl⟩ := same
        obtain ⟨rfl, rfl, rfl, rfl⟩ := V_inj dx dr sv
        have heq := @eq4_true x0 x1 x2 x3
        clear hr sv
        go_wp2_with fail
        refine (num_any _ _).mono ?_
        rintro e w6 ⟨rfl, rfl⟩
        go_wp2_with fail
        refine (num_any _ _).mono ?_
        rintro e w6 ⟨rfl, rfl⟩
        go_wp2_with fail
        refine (knows_any _).mono ?_
        rintro e w6 ⟨rfl, hb6⟩
        have Hb6 := Lib.hid (bthen (Below.alloc Hb5.out (by omega) _) hb6 (by simp; omega))
        clear hb6
        go_wp2_with fail
        go_ret
        exact ⟨rfl, Hb6.out⟩
      · go_wp2_with fail
        refine (knows_any _).mono ?_
        rintro e w5 ⟨rfl, hb5⟩
        have Hb5 := Lib.hid (bthen (Below.alloc Hb3.out (by omega) _) hb5 (by simp; omega))
        clear hb5
        go_wp2_with fail
        go_ret
        exact ⟨rfl, Hb5.out⟩
    · go_wp2_with fail
      refine (knows_any _).mono ?_
      rintro e w5 ⟨rfl, hb5⟩
      have Hb5 := Lib.hid (bthen (Below.alloc Hb3.out (by omega) _) hb5 (by simp; omega))
      clear hb5
      go_wp2_with fail
      go_ret
      exact ⟨rfl, Hb5.out⟩
  · go_wp2_with fail
    refine (knows_any _).mono ?_
    rintro e w5 ⟨rfl, hb5⟩
    have Hb5 := Lib.hid (bthen (Below.alloc Hb3.out (by omega) _) hb5 (by simp; omega))
    clear hb5
    go_wp2_with fail
    go_ret
    exact ⟨rfl, Hb5.out⟩

set_option maxRecDepth 100000 in
theorem WideParts_lifted (os : Os) (started : os.Started) (H : Type) (enc : TypeId × Value → H) :
    ReturnsInHanded {} Try.checked os 9 .any (Rows.widePartsSpec.pre6 enc Try.prog Try.f9 Rows.widePartsRow.domain false) (Rows.widePartsSpec.post enc Try.prog Try.f9 false true false false) := by
  refine returnsInHanded_of_change (C := Try.checked) Try.ownNone started (by kernel_rfl) Try.func9
    (ChangeSpec.witness6 (enc := enc) (C := Try.checked) false ⟨#[], #[.agg #[.int .u64 0, .int .u64 0, .int .u64 0, .int .u64 0], .agg #[.int .u64 0, .int .u64 0, .int .u64 0, .int .u64 0], .agg #[.int .u64 0, .int .u64 0, .int .u64 0, .int .u64 0]], []⟩ 8 (by kernel_rfl) (by kernel_rfl) (by kernel_rfl) (by kernel_rfl)) ?_
  intro W base args ds gs before hval0 hW hcnd _
  have hval : ∀ (j : Nat) t v, Try.f9.params[j]? = some t → args[j]? = some v → Value.okWide Try.prog W .any base t v := hval0
  have hW' := hW
  obtain ⟨p, q, hA0, hV, rfl, hfz, hnd⟩ := hW
  have hA : DataW.TrodAll enc Try.prog W 0 (fun _ => true) true Try.f9.params.toList args.toList ds p := hA0
  rw [Try.params9] at hA hval
  obtain ⟨v0, v1, v2, d0, d1, d2, p0, p1, p2, rfl, rfl, rfl, h0, h1, h2⟩ := trodAll_three hA
  obtain ⟨a0, a1, a2, a3, rfl, ha⟩ := open_wide Try.underlying24 Try.underlying22 Try.wide4Cells Try.wideCells (hval 0 24 v0 rfl rfl) h0
  obtain ⟨b0, b1, b2, b3, rfl, hb⟩ := open_wide Try.underlying24 Try.underlying22 Try.wide4Cells Try.wideCells (hval 1 24 v1 rfl rfl) h1
  obtain ⟨c0, c1, c2, c3, rfl, hc⟩ := open_wide Try.underlying24 Try.underlying22 Try.wide4Cells Try.wideCells (hval 2 24 v2 rfl rfl) h2
  refine (Parts_walk ha hb hc W).mono fun e W' ⟨he, hw⟩ => ?_
  subst he
  exact ⟨_, rfl, law_post (tb := 4) Try.laidOutTrue hW' rfl (by kernel_rfl) (by kernel_rfl) Try.underlying4 rfl rfl rfl hw⟩

theorem WideParts_holds : Rows.WidePartsSaid :=
  OpenClaim.holds_of_wide 9 Try.f9 rfl rfl rfl rfl rfl rfl rfl ⟨rfl, rfl, rfl, rfl, rfl⟩ rfl rfl rfl rfl rfl (by kernel_rfl) Try.func9 (by kernel_rfl)
    (of_decide_eq_true (by kernel_rfl)) (by unfold Func.isWrapper; rw [if_neg (of_decide_eq_false (by kernel_rfl))]; exact ⟨rfl, rfl⟩)
    (fun os started H enc _ => WideParts_lifted os started H enc)
end Go.Proofs.Ytgfdadcbendmbaa
