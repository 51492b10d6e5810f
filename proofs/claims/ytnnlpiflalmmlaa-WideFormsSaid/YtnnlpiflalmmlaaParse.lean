/-
  The walk of package wide: Parse.
-/
import Derived.Test.YtnnlpiflalmmlaaDec
import Derived.Deep.RegionWith
import Derived.Deep.CutRange
namespace Go.Proofs.Ytnnlpiflalmmlaa
open Go.RowKit

/-- The number that the first k signs tell. -/
def dv (s : ByteArray) : Nat → Int
  | 0 => 0
  | k + 1 => dv s k * 10 + (chr s k - 48)

theorem dv_lo {s : ByteArray} (h : Dec s) : ∀ k, k ≤ s.size → 0 ≤ dv s k
  | 0, _ => by simp [dv]
  | k + 1, hk => by
    have := dv_lo h k (by omega)
    have := (h.2.2.2 k (by omega)).1
    rw [dv]; omega
theorem dv_up {s : ByteArray} (h : Dec s) (k : Nat) (hk : k < s.size) : dv s k * 10 ≤ dv s (k + 1) := by
  have := (h.2.2.2 k hk).1
  rw [dv]; omega
theorem dv_mono {s : ByteArray} (h : Dec s) (k : Nat) : ∀ j, k + j ≤ s.size → dv s k ≤ dv s (k + j)
  | 0, _ => by simp
  | j + 1, hj => by
    have a := dv_mono h k j (by omega)
    have b := dv_up h (k + j) (by omega)
    have c := dv_lo h (k + j) (by omega)
    rw [show k + (j + 1) = k + j + 1 by omega]; omega

/-- What stands in memory: k signs are read. -/
structure PaSt (w wr : World) (s : ByteArray) (k : Nat) (a0 a1 a2 a3 : Int) : Prop where
  below : Below w.heap.size w wr
  R : At4 wr w.heap.size 0 0 0 0
  A : At4 wr (w.heap.size + 1) a0 a1 a2 a3
  d : D4 a0 a1 a2 a3
  v : V a0 a1 a2 a3 = dv s k

theorem D4_ten : D4 10 0 0 0 := by unfold D4 Dg B; omega
theorem V_one (c : Int) : V c 0 0 0 = c := by unfold V; omega
theorem D4_one {c : Int} (h0 : 0 ≤ c) (h1 : c < 256) : D4 c 0 0 0 := by unfold D4 Dg B; omega

/-- What a Parse tells. -/
def ParseP (s : ByteArray) (r0 r1 r2 r3 c : Int) : Prop :=
  D4 r0 r1 r2 r3 ∧ ((Dec s ∧ dv s s.size < M ∧ c = 0 ∧ V r0 r1 r2 r3 = dv s s.size) ∨ (V r0 r1 r2 r3 = 0 ∧ ((¬ Dec s ∧ c = 21) ∨ (Dec s ∧ M ≤ dv s s.size ∧ c = 30))))

/-- What stands in memory behind the product. -/
structure PaMid (w wx : World) (a0 a1 a2 a3 : Int) (nb : Nat) (p0 p1 p2 p3 c : Int) : Prop where
  below : Below w.heap.size w wx
  R : At4 wx w.heap.size 0 0 0 0
  A : At4 wx (w.heap.size + 1) a0 a1 a2 a3
  N : At4 wx nb p0 p1 p2 p3
  lt : w.heap.size + 1 < nb
  m : D4 p0 p1 p2 p3 ∧ ((V a0 a1 a2 a3 * V 10 0 0 0 < M ∧ c = 0 ∧ V p0 p1 p2 p3 = V a0 a1 a2 a3 * V 10 0 0 0) ∨ (M ≤ V a0 a1 a2 a3 * V 10 0 0 0 ∧ c = 30 ∧ V p0 p1 p2 p3 = 0))

/-- What stands in memory behind the sum. -/
structure PaSum (w wx : World) (p0 p1 p2 p3 d q0 q1 q2 q3 c : Int) : Prop where
  below : Below w.heap.size w wx
  R : At4 wx w.heap.size 0 0 0 0
  A : At4 wx (w.heap.size + 1) q0 q1 q2 q3
  m : D4 q0 q1 q2 q3 ∧ ((V p0 p1 p2 p3 + V d 0 0 0 < M ∧ c = 0 ∧ V q0 q1 q2 q3 = V p0 p1 p2 p3 + V d 0 0 0) ∨ (M ≤ V p0 p1 p2 p3 + V d 0 0 0 ∧ c = 30 ∧ V q0 q1 q2 q3 = 0))

theorem below_all {n : Nat} {w w1 : World} (h : Below n w w1) {b : Nat} (hb : n ≤ b) (y0 y1 y2 y3 : Value) : Below n w ((((w1.setCell ⟨b, 0, none⟩ y0).setCell ⟨b, 1, none⟩ y1).setCell ⟨b, 2, none⟩ y2).setCell ⟨b, 3, none⟩ y3) :=
  (((h.setCell hb _).setCell hb _).setCell hb _).setCell hb _

set_option maxHeartbeats 4000000 in
theorem Parse_any (s : ByteArray) (hs : s.size ≤ maxLen) (w : World) :
    Calls Try.prog 24 #[.string s] w (NumP w (ParseP s)) := by
  have hdec := decimal_any s hs
  unfold maxLen at hs
  have hst := Lib.hid (PaSt.mk (s := s) (k := 0) (a0 := 0) (a1 := 0) (a2 := 0) (a3 := 0) (w := w) (wr := (w.alloc (.cells #[.int .u64 0, .int .u64 0, .int .u64 0, .int .u64 0] 24)).alloc (.cells #[.int .u64 0, .int .u64 0, .int .u64 0, .int .u64 0] 24)) (by repeat (first | with_reducible exact Below.refl _ _ | with_reducible refine Below.alloc ?_ (by simp; try omega) _)) ((At4.new w 0 0 0 0).alloc _) (by simpa using At4.new (w.alloc (.cells #[.int .u64 0, .int .u64 0, .int .u64 0, .int .u64 0] 24)) 0 0 0 0) D4_zero (by simp [V, dv]))
  go_enter Try.func24, Try.ntmps24
  go_wp2_with fail
  refine (hdec _).mono ?_
  rintro e w1 ⟨hr, rfl⟩
  rcases hr with ⟨rfl, hD⟩ | ⟨rfl, hD⟩
  · have HD := Lib.hid hD
    clear hD hdec
    go_wp2_with fail
    go_loopw [14] (fun iv wr => ∃ (k : Nat) (a0 a1 a2 a3 : Int), iv = .int .i64 k ∧ k ≤ s.size ∧ Hid (PaSt w wr s k a0 a1 a2 a3)) (fun iv _ => s.size - (intOf iv).toNat)
    case atStart => exact ⟨0, 0, 0, 0, 0, rfl, by omega, hst⟩
    case round =>
      clear hst
      obtain ⟨k, a0, a1, a2, a3, rfl, hk, hB⟩ := hrel
      by_cases hlt : k < s.size
      · go_upto_region 7 with fail
        go_cut [6, 7, 14] from 14 to 42 (fun s6 s7 s14 wx => ∃ (nb : Nat) (p0 p1 p2 p3 c : Int), s14 = .int .i64 k ∧ s6 = .pointer (some ⟨nb, 0, none⟩) ∧ s7 = .int .i64 c ∧ Hid (PaMid w wx a0 a1 a2 a3 nb p0 p1 p2 p3 c))
        case first =>
          obtain ⟨ca0, ca1, ca2, ca3⟩ := hB.out.A.cell
          have z1 := hB.out.A.lt
          go_region_with (first
            | (go_at_call 15; refine (Of_any _ _).mono ?_; rintro e w1 ⟨rfl, hb1⟩; (try (have hz1 : w.heap.size + 1 < w1.heap.size := by (have := hb1.size; (try simp at this); omega))); (try (have hq1 : wr.heap.size < w1.heap.size := by (have := hb1.size; (try simp at this); omega))); (have HA1 : At4 w1 (w.heap.size + 1) a0 a1 a2 a3 := by (first | exact hB.out.A.drew.on hb1 | exact (hB.out.A.drew.alloc _).on hb1)); obtain ⟨da0, da1, da2, da3⟩ := HA1.cell; have GA1 := Lib.hid HA1; clear HA1; (have HR1 : Hid (At4 w1 w.heap.size 0 0 0 0) := by (first | exact Lib.hid (hB.out.R.drew.on hb1) | exact Lib.hid ((hB.out.R.drew.alloc _).on hb1))); (have HB1 : Hid (Below w.heap.size w w1) := by (first | exact Lib.hid (hB.out.below.drew.trans (hb1.mono (by simp; omega))) | exact Lib.hid ((hB.out.below.drew.alloc (by simp; omega) _).trans (hb1.mono (by simp; omega))))); (try (have HN1 : Hid (At4 w1 wr.heap.size 0 0 0 0) := by (exact Lib.hid ((At4.new wr.drew 0 0 0 0).on hb1)))); have GB1 := Lib.hid hb1; clear hb1)
            | (go_at_call 18; refine (Mul_any hB.out.d D4_ten _).mono ?_; rintro e w2 ⟨p0, p1, p2, p3, c, rfl, hM, hb2⟩; have HM := Lib.hid hM; clear hM; (try (have hz2 : w.heap.size + 1 < w2.heap.size := by (have := hb2.size; (try simp at this); omega))); (try (have hq2 : wr.heap.size < w2.heap.size := by (have := hb2.size; (try simp at this); omega))); (try (have hq3 : w1.heap.size < w2.heap.size := by (have := hb2.size; (try simp at this); omega))); (have HA2 : Hid (At4 w2 (w.heap.size + 1) a0 a1 a2 a3) := by (first | exact Lib.hid (GA1.out.on hb2) | exact Lib.hid ((GA1.out.alloc _).on hb2))); (have HR2 : Hid (At4 w2 w.heap.size 0 0 0 0) := by (first | exact Lib.hid (HR1.out.on hb2) | exact Lib.hid ((HR1.out.alloc _).on hb2))); (have HB2 : Hid (Below w.heap.size w w2) := by (first | exact Lib.hid (HB1.out.trans (hb2.mono (by omega))) | exact Lib.hid ((HB1.out.alloc (by omega) _).trans (hb2.mono (by simp; omega))))); (try ((have HN2 : Hid (At4 w2 wr.heap.size 0 0 0 0) := by (exact Lib.hid (HN1.out.on hb2))); obtain ⟨na0, na1, na2, na3⟩ := HN2.out.cell; obtain ⟨nf0, nf1, nf2, nf3⟩ := HN2.out.free)); (try ((have HN2 : Hid (At4 w2 w1.heap.size 0 0 0 0) := by (exact Lib.hid ((At4.new w1 0 0 0 0).on hb2))); obtain ⟨na0, na1, na2, na3⟩ := HN2.out.cell; obtain ⟨nf0, nf1, nf2, nf3⟩ := HN2.out.free)); have GB2 := Lib.hid hb2; clear hb2))
          all_goals
            go_wp2_with fail
            go_meet
            refine ⟨_, _, _, _, _, _, rfl, rfl, rfl, Lib.hid ⟨?_, ?_, ?_, ?_, ?_, HM.out⟩⟩
            · first | with_reducible exact Below.alloc HB2.out (by omega) _ | with_reducible exact below_all HB2.out (by omega) _ _ _ _
            · first | with_reducible exact At4.alloc HR2.out _ | with_reducible exact At4.otherAll HR2.out (by omega) _ _ _ _
            · first | with_reducible exact At4.alloc HA2.out _ | with_reducible exact At4.otherAll HA2.out (by omega) _ _ _ _
            · first | with_reducible exact At4.new w2 _ _ _ _ | with_reducible exact At4.setAll HN2.out _ _ _ _
            · omega
        case rest =>
          obtain ⟨nb, p0, p1, p2, p3, c, rfl, rfl, rfl, hP⟩ := hcut
          have hc : c = 0 ∨ c = 30 := by rcases hP.out.m.2 with h | h <;> omega
          rcases hc with rfl | rfl
          · go_upto_region 10 with fail
            go_cut [7, 14] from 14 to 42 (fun s7 s14 wx => ∃ (q0 q1 q2 q3 c : Int), s14 = .int .i64 k ∧ s7 = .int .i64 c ∧ Hid (PaSum w wx p0 p1 p2 p3 (chr s k - 48) q0 q1 q2 q3 c))
            case first =>
              have e := chr_at s k hlt
              have hch := HD.out.2.2.2 k hlt
              rw [← e] at hch
              have He := Lib.hid e
              clear e
              obtain ⟨h48, h57⟩ := hch
              have dd := Lib.hid (D4_one (c := (s[k].toNat : Int) - 48) (by omega) (by omega))
              have hu : IntKind.u8.wrap ((s[k].toNat : Int) - 48) = (s[k].toNat : Int) - 48 := by rw [IntKind.wrap_u8]; omega
              have hv : IntKind.u64.wrap ((s[k].toNat : Int) - 48) = (s[k].toNat : Int) - 48 := by rw [IntKind.wrap_u64]; omega
              obtain ⟨cp0, cp1, cp2, cp3⟩ := hP.out.N.cell
              obtain ⟨ca0, ca1, ca2, ca3⟩ := hP.out.A.cell
              obtain ⟨fa0, fa1, fa2, fa3⟩ := hP.out.A.free
              have zw := hP.out.A.lt
              have zn := hP.out.N.lt
              clear h48 h57
              go_region_with (first
                | (go_at_call 15; refine (Of_any _ _).mono ?_; rintro e w1 ⟨rfl, hb1⟩; (have HN1 : Hid (At4 w1 nb p0 p1 p2 p3) := Lib.hid (hP.out.N.drew.on hb1)); obtain ⟨da0, da1, da2, da3⟩ := HN1.out.cell; (have HA1 : Hid (At4 w1 (w.heap.size + 1) a0 a1 a2 a3) := Lib.hid (hP.out.A.drew.on hb1)); (have HR1 : Hid (At4 w1 w.heap.size 0 0 0 0) := Lib.hid (hP.out.R.drew.on hb1)); (have HB1 : Hid (Below w.heap.size w w1) := Lib.hid (hP.out.below.drew.trans (hb1.mono (by simp; omega)))); have hz1 := HA1.out.lt; have GB1 := Lib.hid hb1; clear hb1)
                | (go_at_call 6; refine (Add_any hP.out.m.1 dd.out _).mono ?_; rintro e w2 ⟨q0, q1, q2, q3, c, rfl, hM, hb2⟩; have HM := Lib.hid hM; clear hM; (have HA2 : Hid (At4 w2 (w.heap.size + 1) a0 a1 a2 a3) := Lib.hid (HA1.out.on hb2)); obtain ⟨na0, na1, na2, na3⟩ := HA2.out.cell; obtain ⟨nf0, nf1, nf2, nf3⟩ := HA2.out.free; (have HR2 : Hid (At4 w2 w.heap.size 0 0 0 0) := Lib.hid (HR1.out.on hb2)); (have HB2 : Hid (Below w.heap.size w w2) := Lib.hid (HB1.out.trans (hb2.mono (by omega)))); have GB2 := Lib.hid hb2; clear hb2))
              all_goals
                go_wp2_with fail
                go_meet
                refine ⟨q0, q1, q2, q3, c, rfl, rfl, Lib.hid ⟨?_, ?_, ?_, ?_⟩⟩
                · with_reducible exact below_all HB2.out (by omega) _ _ _ _
                · with_reducible exact At4.otherAll HR2.out (by omega) _ _ _ _
                · with_reducible exact At4.setAll HA2.out _ _ _ _
                · have h := HM.out
                  rw [He.out] at h
                  exact h
            case rest =>
              obtain ⟨q0, q1, q2, q3, c, rfl, rfl, hQ⟩ := hcut
              have hv : Hid (V p0 p1 p2 p3 + V (chr s k - 48) 0 0 0 = dv s (k + 1)) := Lib.hid (by
                have h := hP.out.m.2
                have v := hB.out.v
                rw [V_one, v] at h
                rw [V_one, dv]
                omega)
              have hc : c = 0 ∨ c = 30 := by rcases hQ.out.m.2 with h | h <;> omega
              rcases hc with rfl | rfl
              · have hN : Hid (PaSt w wc s (k + 1) q0 q1 q2 q3) := Lib.hid ⟨hQ.out.below, hQ.out.R, hQ.out.A, hQ.out.m.1, by
                  have h := hQ.out.m.2
                  rw [hv.out] at h
                  omega⟩
                go_wp2_with fail
                go_roundw
                case rel => exact ⟨k + 1, q0, q1, q2, q3, by go_num, by omega, hN⟩
                case measure => simp [intOf]; omega
              · have Hov : Hid (ParseP s 0 0 0 0 30) := Lib.hid ⟨D4_zero, Or.inr ⟨by simp [V], Or.inr ⟨HD.out, by
                  have h := hQ.out.m.2
                  rw [hv.out] at h
                  have mo := dv_mono HD.out (k + 1) (s.size - (k + 1)) (by omega)
                  rw [show k + 1 + (s.size - (k + 1)) = s.size by omega] at mo
                  omega, rfl⟩⟩⟩
                obtain ⟨cr0, cr1, cr2, cr3⟩ := hQ.out.R.cell
                obtain ⟨fr0, fr1, fr2, fr3⟩ := hQ.out.R.free
                go_wp2_with fail
                try rw [Exit.noGoto_ret]
                refine bodyPost_ret (v := .tuple #[.agg #[.int .u64 0, .int .u64 0, .int .u64 0, .int .u64 0], .int .i64 30]) (by simp [results, Try.results24, go_sem, cr0, cr1, cr2, cr3]) rfl ⟨_, _, _, _, _, rfl, Hov.out, ?_⟩
                exact below_all hQ.out.below (by omega) _ _ _ _
          · have Hov : Hid (ParseP s 0 0 0 0 30) := Lib.hid ⟨D4_zero, Or.inr ⟨by simp [V], Or.inr ⟨HD.out, by
              have h := hP.out.m.2
              have v := hB.out.v
              have up := dv_up HD.out k hlt
              have mo := dv_mono HD.out (k + 1) (s.size - (k + 1)) (by omega)
              rw [show k + 1 + (s.size - (k + 1)) = s.size by omega] at mo
              rw [V_one, v] at h
              omega, rfl⟩⟩⟩
            obtain ⟨cr0, cr1, cr2, cr3⟩ := hP.out.R.cell
            obtain ⟨fr0, fr1, fr2, fr3⟩ := hP.out.R.free
            go_wp2_with fail
            try rw [Exit.noGoto_ret]
            refine bodyPost_ret (v := .tuple #[.agg #[.int .u64 0, .int .u64 0, .int .u64 0, .int .u64 0], .int .i64 30]) (by simp [results, Try.results24, go_sem, cr0, cr1, cr2, cr3]) rfl ⟨_, _, _, _, _, rfl, Hov.out, ?_⟩
            exact below_all hP.out.below (by omega) _ _ _ _
      · obtain rfl : k = s.size := by omega
        have Hok : Hid (ParseP s a0 a1 a2 a3 0) := Lib.hid ⟨hB.out.d, Or.inl ⟨HD.out, by have := V_hi hB.out.d; rw [hB.out.v] at this; exact this, rfl, hB.out.v⟩⟩
        obtain ⟨ca0, ca1, ca2, ca3⟩ := hB.out.A.cell
        obtain ⟨cr0, cr1, cr2, cr3⟩ := hB.out.R.cell
        obtain ⟨fr0, fr1, fr2, fr3⟩ := hB.out.R.free
        go_wp2_with fail
        refine bodyPost_ret (v := .tuple #[.agg #[.int .u64 a0, .int .u64 a1, .int .u64 a2, .int .u64 a3], .int .i64 0]) (by simp [results, Try.results24, go_sem, cr0, cr1, cr2, cr3]) rfl ⟨_, _, _, _, _, rfl, Hok.out, ?_⟩
        exact below_all hB.out.below (by omega) _ _ _ _
  · have Hno : Hid (ParseP s 0 0 0 0 21) := Lib.hid ⟨D4_zero, Or.inr ⟨by simp [V], Or.inl ⟨hD, rfl⟩⟩⟩
    clear hD hdec hst
    go_wp2_with fail
    refine bodyPost_ret (v := .tuple #[.agg #[.int .u64 0, .int .u64 0, .int .u64 0, .int .u64 0], .int .i64 21]) (by simp [results, Try.results24, go_sem]) rfl ⟨_, _, _, _, _, rfl, Hno.out, ?_⟩
    repeat (first | with_reducible exact Below.refl _ _ | with_reducible refine Below.setCell ?_ (by simp; try omega) _ | with_reducible refine Below.alloc ?_ (by simp; try omega) _)
end Go.Proofs.Ytnnlpiflalmmlaa
