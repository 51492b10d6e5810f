/-
  The walk of package wide: From, of bytes that lie anywhere.; The program's reader: numbers, wide ones and blobs, with errors.; The walk of digest.Sum.; Rows of bytes, read with their room; a hash's cells.; What a region's held predicate may become on the way: a stronger one.; The walks of basculeref02: eight, pad.; The walks of basculeref02: Frame.; SHA-256, plain: what the document's spelling and the program's have in common.; The walk of basculeref02.turn.; The walk of basculeref02.block.; The walks of basculeref02: Table, sum, Sum.; The walk of basculeref02.Sum.; Tagged, in the program and in the reference.; Bytes that a function builds; a number as bytes, as the document writes it.
-/
import Derived.Laws.Bits64b
import Derived.Test.YtonjkhhihiigfaaRows
import Derived.OrdersHeld
import Derived.Deep.RegionHeld3
import Derived.Laws.BitsAllLaws
import Derived.Test.YtonjkhhihiigfaaDv1
import Derived.Test.YtonjkhhihiigfaaDv2
import Derived.Test.YtonjkhhihiigfaaDv3
namespace Go.Proofs.Ytonjkhhihiigfaa
open Go.RowKit

def NumP (w : World) (R : Int → Int → Int → Int → Int → Prop) (e : Ending) (w' : World) : Prop :=
  ∃ r0 r1 r2 r3 c : Int, e = .returned (.tuple #[.agg #[.int .u64 r0, .int .u64 r1, .int .u64 r2, .int .u64 r3], .int .i64 c]) ∧ R r0 r1 r2 r3 c ∧ Below w.heap.size w w'
/-- m bytes from place o on, the lowest first. -/
def pd (f : Nat → Int) (o : Nat) : Nat → Int
  | 0 => 0
  | m + 1 => pd f o m + f (o + m) * 256 ^ m

/-- Whether all 32 are bytes. -/
def By (f : Nat → Int) : Prop := ∀ i, i < 32 → 0 ≤ f i ∧ f i < 256

theorem pd_bd {f : Nat → Int} (hf : By f) (o : Nat) : ∀ m, o + m ≤ 32 → 0 ≤ pd f o m ∧ pd f o m < 256 ^ m
  | 0, _ => by simp [pd]
  | m + 1, h => by
    obtain ⟨a, b⟩ := pd_bd hf o m (by omega)
    obtain ⟨c, d⟩ := hf (o + m) (by omega)
    have p : (0 : Int) < 256 ^ m := Int.pow_pos (by omega)
    have e := Int.mul_nonneg c (Int.le_of_lt p)
    have g : f (o + m) * 256 ^ m ≤ 255 * 256 ^ m := Int.mul_le_mul_of_nonneg_right (by omega) (Int.le_of_lt p)
    rw [pd, Int.pow_succ]
    omega

/-- What stands in memory: k bytes are read. -/
structure FSt (w wr : World) (f : Nat → Int) (k : Nat) : Prop where
  below : Below w.heap.size w wr
  R : At4 wr w.heap.size 0 0 0 0
  A : At4 wr (w.heap.size + 1) (pd f 0 (min k 8)) (pd f 8 (min (k - 8) 8)) (pd f 16 (min (k - 16) 8)) (pd f 24 (min (k - 24) 8))


theorem or_put {x c : Int} {m : Nat} (hx : 0 ≤ x ∧ x < 256 ^ m) (hc : 0 ≤ c ∧ c < 256) (hm : m < 8) :
    bits .or .u64 x (IntKind.u64.wrap (IntKind.u64.wrap c * 2 ^ (m * 8))) = x + c * 256 ^ m := by
  have e : (256 : Int) ^ m = 2 ^ (m * 8) := by rw [pow256, Nat.mul_comm]
  rw [e] at hx ⊢
  obtain ⟨X, rfl⟩ : ∃ X : Nat, x = X := ⟨x.toNat, by omega⟩
  obtain ⟨C, rfl⟩ : ∃ C : Nat, c = C := ⟨c.toNat, by omega⟩
  have p56 : 2 ^ (m * 8) ≤ 2 ^ 56 := Nat.pow_le_pow_right (by omega) (by omega)
  have hX : X < 2 ^ (m * 8) := by
    have := hx.2
    rw [show ((2 : Int) ^ (m * 8)) = ((2 ^ (m * 8) : Nat) : Int) by norm_cast] at this
    exact Int.ofNat_lt.1 this
  have hCm : C * 2 ^ (m * 8) ≤ 255 * 2 ^ 56 := Nat.mul_le_mul (by omega) p56
  have w1 : IntKind.u64.wrap (C : Int) = (C : Int) := by rw [IntKind.wrap_u64]; omega
  have w2 : IntKind.u64.wrap ((C : Int) * 2 ^ (m * 8)) = ((C * 2 ^ (m * 8) : Nat) : Int) := by
    rw [show ((C : Int) * 2 ^ (m * 8)) = ((C * 2 ^ (m * 8) : Nat) : Int) by push_cast; rfl, IntKind.wrap_u64]
    omega
  rw [w1, w2, bits_or_u64_nat _ _ (by omega) (by omega)]
  have := Nat.two_pow_add_eq_or_of_lt hX C
  rw [Nat.or_comm, Nat.mul_comm C, ← this]
  push_cast
  rw [Int.add_comm, Int.mul_comm]

theorem FSt.store0 {w wr : World} {f : Nat → Int} {m : Nat} (h : FSt w wr f m) (hm : m < 8) {v : Int} (hv : v = pd f 0 m + f m * 256 ^ m) : FSt w (wr.setCell ⟨w.heap.size + 1, 0, none⟩ (.int .u64 v)).drew f (m + 1) := by
  subst hv
  refine ⟨(h.below.setCell (by simp) _).drew, (h.R.other (by simp) _).drew, ?_⟩
  have e := (h.A.set0 (pd f 0 m + f m * 256 ^ m)).drew
  rw [show min (m + 1) 8 = m + 1 by omega, show m + 1 - 8 = 0 by omega, show m + 1 - 16 = 0 by omega, show m + 1 - 24 = 0 by omega, pd, Nat.zero_add]
  rw [show m - 8 = 0 by omega, show m - 16 = 0 by omega, show m - 24 = 0 by omega] at e
  exact e
theorem FSt.store1 {w wr : World} {f : Nat → Int} {m : Nat} (h : FSt w wr f (8 + m)) (hm : m < 8) {v : Int} (hv : v = pd f 8 m + f (8 + m) * 256 ^ m) : FSt w (wr.setCell ⟨w.heap.size + 1, 1, none⟩ (.int .u64 v)).drew f (8 + m + 1) := by
  subst hv
  refine ⟨(h.below.setCell (by simp) _).drew, (h.R.other (by simp) _).drew, ?_⟩
  have e := (h.A.set1 (pd f 8 m + f (8 + m) * 256 ^ m)).drew
  rw [show min (8 + m + 1) 8 = 8 by omega, show min (8 + m + 1 - 8) 8 = m + 1 by omega, show 8 + m + 1 - 16 = 0 by omega, show 8 + m + 1 - 24 = 0 by omega, show pd f 8 (m + 1) = pd f 8 m + f (8 + m) * 256 ^ m from rfl]
  rw [show min (8 + m) 8 = 8 by omega, show 8 + m - 16 = 0 by omega, show 8 + m - 24 = 0 by omega] at e
  exact e
theorem FSt.store2 {w wr : World} {f : Nat → Int} {m : Nat} (h : FSt w wr f (16 + m)) (hm : m < 8) {v : Int} (hv : v = pd f 16 m + f (16 + m) * 256 ^ m) : FSt w (wr.setCell ⟨w.heap.size + 1, 2, none⟩ (.int .u64 v)).drew f (16 + m + 1) := by
  subst hv
  refine ⟨(h.below.setCell (by simp) _).drew, (h.R.other (by simp) _).drew, ?_⟩
  have e := (h.A.set2 (pd f 16 m + f (16 + m) * 256 ^ m)).drew
  rw [show min (16 + m + 1) 8 = 8 by omega, show min (16 + m + 1 - 8) 8 = 8 by omega, show min (16 + m + 1 - 16) 8 = m + 1 by omega, show 16 + m + 1 - 24 = 0 by omega, show pd f 16 (m + 1) = pd f 16 m + f (16 + m) * 256 ^ m from rfl]
  rw [show min (16 + m) 8 = 8 by omega, show min (16 + m - 8) 8 = 8 by omega, show 16 + m - 24 = 0 by omega] at e
  exact e
theorem FSt.store3 {w wr : World} {f : Nat → Int} {m : Nat} (h : FSt w wr f (24 + m)) (hm : m < 8) {v : Int} (hv : v = pd f 24 m + f (24 + m) * 256 ^ m) : FSt w (wr.setCell ⟨w.heap.size + 1, 3, none⟩ (.int .u64 v)).drew f (24 + m + 1) := by
  subst hv
  refine ⟨(h.below.setCell (by simp) _).drew, (h.R.other (by simp) _).drew, ?_⟩
  have e := (h.A.set3 (pd f 24 m + f (24 + m) * 256 ^ m)).drew
  rw [show min (24 + m + 1) 8 = 8 by omega, show min (24 + m + 1 - 8) 8 = 8 by omega, show min (24 + m + 1 - 16) 8 = 8 by omega, show min (24 + m + 1 - 24) 8 = m + 1 by omega, show pd f 24 (m + 1) = pd f 24 m + f (24 + m) * 256 ^ m from rfl]
  rw [show min (24 + m) 8 = 8 by omega, show min (24 + m - 8) 8 = 8 by omega, show min (24 + m - 16) 8 = 8 by omega] at e
  exact e

set_option maxHeartbeats 2000000 in
theorem From_any {f : Nat → Int} (hf : By f) (w : World) (b off cap : Nat) (hb : b < w.heap.size) (hc : ∀ i, i < 32 → w.cell? ⟨b, off + i, none⟩ = some (.int .u8 (f (31 - i)))) :
    Calls Try.prog 99 #[.slice (some ⟨b, off, none⟩) 32 cap] w
      (NumP w fun r0 r1 r2 r3 c => c = 0 ∧ r0 = pd f 0 8 ∧ r1 = pd f 8 8 ∧ r2 = pd f 16 8 ∧ r3 = pd f 24 8) := by
  have hst : Hid (FSt w ((w.alloc (.cells #[.int .u64 0, .int .u64 0, .int .u64 0, .int .u64 0] 49)).alloc (.cells #[.int .u64 0, .int .u64 0, .int .u64 0, .int .u64 0] 49)) f 0) := Lib.hid ⟨by repeat (first | with_reducible exact Below.refl _ _ | with_reducible refine Below.alloc ?_ (by simp; try omega) _), (At4.new w 0 0 0 0).alloc _, by simpa [pd] using At4.new (w.alloc (.cells #[.int .u64 0, .int .u64 0, .int .u64 0, .int .u64 0] 49)) 0 0 0 0⟩
  have HF := Lib.hid hf
  have HC := Lib.hid hc
  clear hc hf
  go_enter Try.func99, Try.ntmps99
  go_wp2_with fail
  go_loopw [10] (fun iv wr => ∃ k : Nat, iv = .int .i64 k ∧ k ≤ 32 ∧ Hid (FSt w wr f k)) (fun iv _ => 32 - (intOf iv).toNat)
  case atStart => exact ⟨0, rfl, by omega, hst⟩
  case round =>
    clear hst
    obtain ⟨k, rfl, hk, hB⟩ := hrel
    by_cases hlt : k < 32
    · obtain ⟨ca0, ca1, ca2, ca3⟩ := hB.out.A.cell
      obtain ⟨fa0, fa1, fa2, fa3⟩ := hB.out.A.free
      have hcb : wr.cell? ⟨b, off + (31 - k), none⟩ = some (.int .u8 (f k)) := by
        have := HC.out (31 - k) (by omega)
        rw [hB.out.below.cell (by simpa using hb), this, show 31 - (31 - k) = k by omega]
      have hj : k / 8 = 0 ∨ k / 8 = 1 ∨ k / 8 = 2 ∨ k / 8 = 3 := by omega
      obtain ⟨m, hm, hm8⟩ : ∃ m, k % 8 = m ∧ m < 8 := ⟨k % 8, rfl, by omega⟩
      rcases hj with hj | hj | hj | hj
      · have hd : (k : Int) / 8 = 0 := by omega
        have hr : (k : Int) % 8 = (m : Int) := by omega
        rw [show min k 8 = m by omega] at ca0
        have HN := Lib.hid (show FSt w (wr.setCell ⟨w.heap.size + 1, 0, none⟩ (.int .u64 (pd f 0 m + f k * 256 ^ m))).drew f (k + 1) from by
          obtain rfl : k = m := by omega
          exact hB.out.store0 hm8 rfl)
        have hor := or_put (pd_bd HF.out 0 m (by omega)) (HF.out k (by omega)) hm8
        clear hj hm
        go_wp2_with fail
        go_region
        go_wp2_with fail
        go_roundw
        case rel => exact ⟨k + 1, by go_num, by omega, HN⟩
        case measure => simp [intOf]; omega
      · have hd : (k : Int) / 8 = 1 := by omega
        have hr : (k : Int) % 8 = (m : Int) := by omega
        rw [show min (k - 8) 8 = m by omega] at ca1
        have HN := Lib.hid (show FSt w (wr.setCell ⟨w.heap.size + 1, 1, none⟩ (.int .u64 (pd f 8 m + f k * 256 ^ m))).drew f (k + 1) from by
          obtain rfl : k = 8 + m := by omega
          exact hB.out.store1 hm8 rfl)
        have hor := or_put (pd_bd HF.out 8 m (by omega)) (HF.out k (by omega)) hm8
        clear hj hm
        go_wp2_with fail
        go_region
        go_wp2_with fail
        go_roundw
        case rel => exact ⟨k + 1, by go_num, by omega, HN⟩
        case measure => simp [intOf]; omega
      · have hd : (k : Int) / 8 = 2 := by omega
        have hr : (k : Int) % 8 = (m : Int) := by omega
        rw [show min (k - 16) 8 = m by omega] at ca2
        have HN := Lib.hid (show FSt w (wr.setCell ⟨w.heap.size + 1, 2, none⟩ (.int .u64 (pd f 16 m + f k * 256 ^ m))).drew f (k + 1) from by
          obtain rfl : k = 16 + m := by omega
          exact hB.out.store2 hm8 rfl)
        have hor := or_put (pd_bd HF.out 16 m (by omega)) (HF.out k (by omega)) hm8
        clear hj hm
        go_wp2_with fail
        go_region
        go_wp2_with fail
        go_roundw
        case rel => exact ⟨k + 1, by go_num, by omega, HN⟩
        case measure => simp [intOf]; omega
      · have hd : (k : Int) / 8 = 3 := by omega
        have hr : (k : Int) % 8 = (m : Int) := by omega
        rw [show min (k - 24) 8 = m by omega] at ca3
        have HN := Lib.hid (show FSt w (wr.setCell ⟨w.heap.size + 1, 3, none⟩ (.int .u64 (pd f 24 m + f k * 256 ^ m))).drew f (k + 1) from by
          obtain rfl : k = 24 + m := by omega
          exact hB.out.store3 hm8 rfl)
        have hor := or_put (pd_bd HF.out 24 m (by omega)) (HF.out k (by omega)) hm8
        clear hj hm
        go_wp2_with fail
        go_region
        go_wp2_with fail
        go_roundw
        case rel => exact ⟨k + 1, by go_num, by omega, HN⟩
        case measure => simp [intOf]; omega
    · obtain rfl : k = 32 := by omega
      have HA : At4 wr (w.heap.size + 1) (pd f 0 8) (pd f 8 8) (pd f 16 8) (pd f 24 8) := by simpa using hB.out.A
      obtain ⟨c0, c1, c2, c3⟩ := HA.cell
      obtain ⟨r0, r1, r2, r3⟩ := hB.out.R.cell
      obtain ⟨f0, f1, f2, f3⟩ := hB.out.R.free
      go_wp2_with fail
      refine bodyPost_ret (v := .tuple #[.agg #[.int .u64 (pd f 0 8), .int .u64 (pd f 8 8), .int .u64 (pd f 16 8), .int .u64 (pd f 24 8)], .int .i64 0]) (by simp [results, Try.results99, go_sem, r0, r1, r2, r3]) rfl ⟨_, _, _, _, 0, rfl, ⟨rfl, rfl, rfl, rfl, rfl⟩, ?_⟩
      have hb' := hB.out.below
      repeat (first | with_reducible exact hb' | with_reducible refine Below.setCell ?_ (by simp; try omega) _)

theorem by_div (N : Int) (o m : Nat) : by_ (N / 256 ^ o) m = by_ N (o + m) := by
  unfold by_
  rw [Int.ediv_ediv_of_nonneg (Int.le_of_lt (Int.pow_pos (by omega))), ← Int.pow_add]
theorem pd_by (N : Int) (o : Nat) : ∀ m, pd (by_ N) o m = N / 256 ^ o % 256 ^ m
  | 0 => by simp [pd, Int.emod_one]
  | m + 1 => by rw [pd, pd_by N o m, mod_succ, by_div]; omega
theorem By_by (N : Int) : By (by_ N) := fun i _ => by_lo N i
theorem bys_at (N : Int) (i : Nat) (hi : i < 32) : (bys N 32).getD i 0 = by_ N (31 - i) := by simp [bys, List.getD, hi]
theorem pd_V {a0 a1 a2 a3 : Int} (h : D4 a0 a1 a2 a3) : pd (by_ (V a0 a1 a2 a3)) 0 8 = a0 ∧ pd (by_ (V a0 a1 a2 a3)) 8 8 = a1 ∧ pd (by_ (V a0 a1 a2 a3)) 16 8 = a2 ∧ pd (by_ (V a0 a1 a2 a3)) 24 8 = a3 := by
  rw [pd_by, pd_by, pd_by, pd_by]
  unfold D4 Dg at h
  unfold V B at *
  have e0 : (256 : Int) ^ 0 = 1 := by decide
  have e8 : (256 : Int) ^ 8 = 18446744073709551616 := by decide
  have e16 : (256 : Int) ^ 16 = 340282366920938463463374607431768211456 := by decide
  have e24 : (256 : Int) ^ 24 = 6277101735386680763835789423207666416102355444464034512896 := by decide
  rw [e0, e8, e16, e24]
  omega
end Go.Proofs.Ytonjkhhihiigfaa
namespace Go.Proofs.Ytonjkhhihiigfaa
set_option maxRecDepth 100000
open Go.RowKit

theorem size_setCell (w : World) (a : Addr) (v : Value) : (w.setCell a v).heap.size = w.heap.size := by simp [World.setCell]
set_option maxHeartbeats 1000000 in
theorem RUint_ok {w : World} {p : Nat} {v : Value} {xs : List Int} {pos : Nat} (h : RrV w p v xs pos) (hx : Bytes xs) (hf : pos + 8 ≤ xs.length) {z : Int} (hz : num ((xs.drop pos).take 8) = z) :
    Calls Try.prog 91 #[.pointer (some ⟨p, 0, none⟩)] w fun e w' => e = .returned (.int .u64 z) ∧ RrV w' p v xs (pos + 8) ∧ Chg w w' [p] := by
  have H := Lib.hid h
  have HX := Lib.hid hx
  have hlen := h.len
  clear h hx
  go_enter Try.func91, Try.ntmps91
  go_wp2_with fail
  refine (ready_ok H.out).mono ?_
  rintro e w1 ⟨rfl, rfl⟩
  go_wp2_with fail
  refine (lookUint_ok H.out HX.out hf).mono ?_
  rintro e w1 ⟨m, rfl, rfl⟩
  rw [hz]
  clear hz
  have H1 := Lib.hid (H.out.drewN m)
  obtain ⟨-, -, c2, -, f2, -⟩ := H1.out.cells
  have HP : Hid (RrV ((w.drewN m).setCell ⟨p, 2, none⟩ (.int .i64 ((pos : Int) + 8))) p v xs (pos + 8)) := by
    have := H1.out.pass (q := pos + 8) hf
    rw [show ((pos + 8 : Nat) : Int) = (pos : Int) + 8 by push_cast; rfl] at this
    exact this
  have HC : Hid (Chg w ((w.drewN m).setCell ⟨p, 2, none⟩ (.int .i64 ((pos : Int) + 8))) [p]) :=
    (show Chg w (w.drewN m) [p] from ⟨rfl, rfl, rfl, Nat.le_refl _, fun _ _ _ => rfl⟩).setCell (.inl (by simp)) _
  go_wp2_with fail
  go_ret
  exact ⟨rfl, HP.out, HC.out⟩

set_option maxHeartbeats 2000000 in
theorem RWide_ok {w : World} {p : Nat} {v : Value} {xs : List Int} {pos : Nat} (h : RrV w p v xs pos) {x : W4} (hd4 : D4 x.a x.b x.c x.d) (hf : pos + 32 ≤ xs.length) (hy : (xs.drop pos).take 32 = x.bytes) :
    Calls Try.prog 96 #[.pointer (some ⟨p, 0, none⟩)] w fun e w' => e = .returned (.agg #[.int .u64 x.a, .int .u64 x.b, .int .u64 x.c, .int .u64 x.d]) ∧ RrV w' p v xs (pos + 32) ∧ Chg w w' [p] := by
  have hb0 : Below w.heap.size w (w.alloc (.cells #[.int .u64 0, .int .u64 0, .int .u64 0, .int .u64 0] 49)) := (Below.refl _ _).alloc (Nat.le_refl _) _
  have B0 := Lib.hid hb0
  have R0 := Lib.hid (heap_alloc_new w (.cells #[.int .u64 0, .int .u64 0, .int .u64 0, .int .u64 0] 49))
  have H := Lib.hid (h.on hb0)
  have hpl := h.lt
  have hlen := h.len
  have HV : Hid (∀ g, v.ownBlock = some g → g < w.heap.size) := fun g hg => own_lt h.own hg
  have HG : Hid (∀ i, i < 32 → xs.getD (pos + i) 0 = by_ (V x.a x.b x.c x.d) (31 - i)) := fun i hi => by
    have e1 : ((xs.drop pos).take 32).getD i 0 = xs.getD (pos + i) 0 := by simp [List.getD, hi]
    rw [← e1, hy]
    unfold W4.bytes
    rw [bys_at _ i hi]
  have HD := Lib.hid hd4
  clear h hy hb0 hd4
  go_enter Try.func96, Try.ntmps96
  go_wp2_with fail
  refine (ready_ok H.out).mono ?_
  rintro e w1 ⟨rfl, rfl⟩
  generalize hW0 : w.alloc (.cells #[.int .u64 0, .int .u64 0, .int .u64 0, .int .u64 0] 49) = W0 at *
  have hs0 : W0.heap.size = w.heap.size + 1 := by rw [← hW0]; simp
  clear hW0
  go_wp2_with fail
  refine (look_ok H.out (n := 32) (by omega) hf).mono ?_
  rintro e w2 ⟨b, off, c, m, rfl, hvb, hc8, hcell, rfl⟩
  have H1 := Lib.hid (H.out.drewN m)
  obtain ⟨-, -, c2, -, f2, -⟩ := H1.out.cells
  have hbp : b ≠ p := fun e => H.out.ne (by rw [hvb, e])
  have HP : Hid (RrV ((W0.drewN m).setCell ⟨p, 2, none⟩ (.int .i64 ((pos : Int) + 32))) p v xs (pos + 32)) := by
    have := H1.out.pass (q := pos + 32) hf
    rw [show ((pos + 32 : Nat) : Int) = (pos : Int) + 32 by push_cast; rfl] at this
    exact this
  have HC : Hid (Chg w ((W0.drewN m).setCell ⟨p, 2, none⟩ (.int .i64 ((pos : Int) + 32))) [p]) :=
    ((Chg.below B0.out (Nat.le_refl _) [p]).trans (show Chg W0 (W0.drewN m) [p] from ⟨rfl, rfl, rfl, Nat.le_refl _, fun _ _ _ => rfl⟩) (fun x hx _ => hx)).setCell (.inl (by simp)) _
  have HCe : Hid (∀ i, i < 32 → ((W0.drewN m).setCell ⟨p, 2, none⟩ (.int .i64 ((pos : Int) + 32))).cell? ⟨b, off + i, none⟩ = some (.int .u8 (by_ (V x.a x.b x.c x.d) (31 - i)))) := fun i hi => by
    rw [World.cell?_of_block (w := W0.drewN m) (Below.heap_setCell _ _ _ _ hbp), ← HG.out i hi]
    exact hcell i hi
  have R1 : Hid (((W0.drewN m).setCell ⟨p, 2, none⟩ (.int .i64 ((pos : Int) + 32))).heap[w.heap.size]? = some (.cells #[.int .u64 0, .int .u64 0, .int .u64 0, .int .u64 0] 49 (0, 0))) := by
    show _ = _
    rw [Below.heap_setCell _ _ _ _ (by show w.heap.size ≠ p; omega)]; exact R0.out
  have hblt : b < ((W0.drewN m).setCell ⟨p, 2, none⟩ (.int .i64 ((pos : Int) + 32))).heap.size := lt_of_cell (HCe.out 0 (by omega))
  clear hcell H1 H B0 R0 HG hvb
  go_wp2_with fail
  generalize (W0.drewN m).setCell ⟨p, 2, none⟩ (.int .i64 ((pos : Int) + 32)) = W at *
  refine (From_any (By_by (V x.a x.b x.c x.d)) W b off c hblt HCe.out).mono ?_
  rintro e w3 ⟨_, _, _, _, _, rfl, ⟨rfl, rfl, rfl, rfl, rfl⟩, hb3⟩
  obtain ⟨e0, e1, e2, e3⟩ := pd_V HD.out
  rw [e0, e1, e2, e3]
  have R3 := R1.out
  rw [← hb3.block _ (lt_of_block R3)] at R3
  have HP3 := Lib.hid (HP.out.on hb3)
  have HC3 := Lib.hid (HC.out.trans (Chg.below hb3 (Nat.le_refl _) [p]) (fun x hx _ => hx))
  have hlt3 := lt_of_block R3
  have c0 : w3.cell? ⟨w.heap.size, 0, none⟩ = some (.int .u64 0) := Joins.cell_of_block R3 0
  have c1 : w3.cell? ⟨w.heap.size, 1, none⟩ = some (.int .u64 0) := Joins.cell_of_block R3 1
  have c2 : w3.cell? ⟨w.heap.size, 2, none⟩ = some (.int .u64 0) := Joins.cell_of_block R3 2
  have c3 : w3.cell? ⟨w.heap.size, 3, none⟩ = some (.int .u64 0) := Joins.cell_of_block R3 3
  have f0 := Joins.unfrozen_of_block R3 0
  have f1 := Joins.unfrozen_of_block R3 1
  have f2' := Joins.unfrozen_of_block R3 2
  have f3 := Joins.unfrozen_of_block R3 3
  have hne : w.heap.size ≠ w3.heap.size := by omega
  have hpn : p ≠ w.heap.size := by omega
  clear e0 e1 e2 e3 HP HC R1 HCe hb3 R3
  go_wp2_with fail
  have X1 : Chg w3 (((((w3.setCell ⟨w.heap.size, 0, none⟩ (.int .u64 x.a)).setCell ⟨w.heap.size, 1, none⟩ (.int .u64 x.b)).setCell ⟨w.heap.size, 2, none⟩ (.int .u64 x.c)).setCell ⟨w.heap.size, 3, none⟩ (.int .u64 x.d)).alloc (.cells #[.int .u64 x.a, .int .u64 x.b, .int .u64 x.c, .int .u64 x.d] 49)) [w.heap.size] :=
    (((((Chg.refl w3 [w.heap.size]).setCell (p := ⟨w.heap.size, 0, none⟩) (.inl (by simp)) _).setCell (p := ⟨w.heap.size, 1, none⟩) (.inl (by simp)) _).setCell (p := ⟨w.heap.size, 2, none⟩) (.inl (by simp)) _).setCell (p := ⟨w.heap.size, 3, none⟩) (.inl (by simp)) _).trans (Chg.below ((Below.refl _ _).alloc (Nat.le_refl _) _) (Nat.le_refl _) [w.heap.size]) (fun x hx _ => hx)
  have hsz : ((((w3.setCell ⟨w.heap.size, 0, none⟩ (.int .u64 x.a)).setCell ⟨w.heap.size, 1, none⟩ (.int .u64 x.b)).setCell ⟨w.heap.size, 2, none⟩ (.int .u64 x.c)).setCell ⟨w.heap.size, 3, none⟩ (.int .u64 x.d)).heap.size = w3.heap.size := by simp only [size_setCell]
  refine bodyPost_ret (v := .agg #[.int .u64 x.a, .int .u64 x.b, .int .u64 x.c, .int .u64 x.d]) (by simp [results, Try.results96, go_sem, c0, c1, c2, c3, hlt3, hsz]) rfl ⟨rfl, HP3.out.chg X1 (by simpa using hpn) (fun g hg hm => by have := HV.out g hg; simp at hm; omega), HC3.out.trans X1 (fun y hy hl => by simp at hy; omega)⟩

/-- The reader behind a Blob, and what was read. -/
def BlobP (w : World) (p : Nat) (v : Value) (xs : List Int) (pos : Nat) (ys : List Int) (e : Ending) (w' : World) : Prop :=
  ∃ q c, e = .returned (.slice q ys.length c) ∧ w'.ownsRow 0 5 1 (.slice q ys.length c) ys.length (bc ys) ∧ RrV w' p v xs (pos + 8 + ys.length) ∧ Chg w w' [p] ∧ ∀ k, (Value.slice q ys.length c).ownBlock = some k → w.heap.size ≤ k

set_option maxHeartbeats 2000000 in
theorem RBlob_ok {w : World} {p : Nat} {v : Value} {xs : List Int} {pos : Nat} (h : RrV w p v xs pos) (hx : Bytes xs) {ys rest : List Int} (hd : xs.drop pos = be8 ys.length ++ ys ++ rest) (hy : ys.length ≤ 65536) :
    Calls Try.prog 97 #[.pointer (some ⟨p, 0, none⟩)] w (BlobP w p v xs pos ys) := by
  obtain ⟨i0, hi, hz0, hz1, hz2⟩ := info_parts Try.infoU8
  have H := Lib.hid h
  have HX := Lib.hid hx
  have hlen := h.len
  have hdl : xs.length - pos = 8 + ys.length + rest.length := by
    have := congrArg List.length hd
    simp at this; omega
  have hpos := h.le
  have hfit : pos + (8 + ys.length) ≤ xs.length := by omega
  have hnum : Hid (num ((xs.drop pos).take 8) = (ys.length : Int)) := by
    show _ = _
    rw [hd, List.append_assoc, List.take_left' (by simp), num_be8 (by omega) (by omega)]
  have HY : Hid (∀ i, i < ys.length → xs.getD (pos + 8 + i) 0 = ys.getD i 0) := fun i hi => by
    have e : xs.getD (pos + 8 + i) 0 = (xs.drop pos).getD (8 + i) 0 := by simp [List.getD, Nat.add_assoc]
    rw [e, hd, List.append_assoc]
    have e2 : (be8 (ys.length : Int) ++ (ys ++ rest))[8 + i]? = ys[i]? := by
      rw [List.getElem?_append_right (by simp), be8_len, Nat.add_sub_cancel_left, List.getElem?_append_left hi]
    simp only [List.getD, e2]
  clear hdl hd h hx
  replace hi := Lib.hid hi
  replace hz0 := Lib.hid hz0
  replace hz1 := Lib.hid hz1
  replace hz2 := Lib.hid hz2
  go_enter Try.func97, Try.ntmps97
  go_wp2_with fail
  refine (ready_ok H.out).mono ?_
  rintro e w1 ⟨rfl, rfl⟩
  go_wp2_with fail
  refine (lookUint_ok H.out HX.out (by omega)).mono ?_
  rintro e w1 ⟨m, rfl, rfl⟩
  rw [hnum.out]
  have H1 := Lib.hid (show RrV (w.drewN m) p v xs pos from ⟨H.out.blk, H.out.own, H.out.le, H.out.len⟩)
  go_wp2_with fail
  rw [show (8 + (ys.length : Int)) = ((8 + ys.length : Nat) : Int) from by push_cast; rfl]
  refine (look_ok H1.out (n := 8 + ys.length) (by omega) hfit).mono ?_
  rintro e w2 ⟨b, off, c, m2, rfl, hvb, hc8, hcell, rfl⟩
  have hbp : b ≠ p := fun e => H.out.ne (by rw [hvb, e])
  have HW := Lib.hid (show RrV ((w.drewN m).drewN m2) p v xs pos from ⟨H.out.blk, H.out.own, H.out.le, H.out.len⟩)
  have HCh := Lib.hid (show Chg w ((w.drewN m).drewN m2) [p] from ⟨rfl, rfl, rfl, Nat.le_refl _, fun _ _ _ => rfl⟩)
  have HC : Hid (∀ i, i < ys.length → ((w.drewN m).drewN m2).cell? ⟨b, off + 8 + i, none⟩ = some (.int .u8 (ys.getD i 0))) := fun i hi => by
    have := hcell (8 + i) (by omega)
    rw [← Nat.add_assoc, ← Nat.add_assoc, HY.out i hi] at this
    exact this
  clear hcell H1 hnum HY hvb
  generalize (w.drewN m).drewN m2 = W at HW HCh HC ⊢
  obtain ⟨-, -, c2, -, f2, -⟩ := HW.out.cells
  have hp := HW.out.lt
  by_cases hcc : c = 8
  · obtain rfl : c = 8 := hcc
    obtain rfl : ys = [] := List.eq_nil_of_length_eq_zero (by omega)
    have HP : Hid (RrV (W.setCell ⟨p, 2, none⟩ (.int .i64 ((pos : Int) + 8))) p v xs (pos + 8 + 0)) := by
      have := HW.out.pass (q := pos + 8 + 0) (by simp only [List.length_nil] at hfit; omega)
      rw [show ((pos + 8 + 0 : Nat) : Int) = (pos : Int) + 8 by simp] at this
      exact this
    have HPc := Lib.hid (HCh.out.setCell (p := ⟨p, 2, none⟩) (.inl (by simp)) (.int .i64 ((pos : Int) + 8)))
    have HS : Hid (Rd (W.setCell ⟨p, 2, none⟩ (.int .i64 ((pos : Int) + 8))) (.slice (some ⟨b, off, none⟩) 0 0) []) := ⟨_, _, rfl, .inr ⟨b, _, rfl, fun i hi => by
      simp at hi⟩⟩
    have hsz : (W.setCell ⟨p, 2, none⟩ (.int .i64 ((pos : Int) + 8))).heap.size = W.heap.size := by simp [World.setCell]
    replace hsz := Lib.hid hsz
    have hcs := HCh.out.size
    go_wp2_with (at_builtin; refine wpList_append_row rfl _ _ rfl Try.underlying50 hi.out hz0.out hz1.out hz2.out rfl (World.ownsRow_nil _ 0 _ 1) (Rd.src (P := Try.prog) (xs := []) Try.underlying50 HS.out) ?b1 ?b2 ?_)
    case b1 => (try simp only [List.length_nil]); unfold maxLen; omega
    case b2 => (try simp only [List.length_nil]); omega
    intro q2 k2 w2 own2 grow2 fr2
    try simp only [Nat.zero_add, List.nil_append] at own2
    try simp only [Nat.zero_add, List.nil_append] at fr2
    try simp only [Nat.zero_add]
    have H2 := Lib.hid own2
    have HB := Lib.hid ((Below.refl (W.setCell ⟨p, 2, none⟩ (.int .i64 ((pos : Int) + 8))).heap.size _).grown grow2 (Nat.le_refl _) (by intro k hk; simp [Value.ownBlock] at hk))
    have HF : Hid (∀ k, (Value.slice q2 0 k2).ownBlock = some k → w.heap.size ≤ k) := fun k hk => by
      rcases fr2 with e | e
      · rw [show (Value.slice q2 0 k2).ownBlock = none from e] at hk; simp at hk
      · rw [show (Value.slice q2 0 k2).ownBlock = some _ from e] at hk
        have := hsz.out
        simp at hk
        omega
    clear own2 grow2 fr2 c2 f2
    go_wp2_with fail
    go_ret
    exact ⟨_, _, rfl, H2.out, HP.out.on HB.out, HPc.out.trans (Chg.below HB.out (Nat.le_refl _) []) (fun _ h => by cases h), HF.out⟩
  · have hlt : ¬ (8 = c) := fun e => hcc e.symm
    have HP : Hid (RrV (W.setCell ⟨p, 2, none⟩ (.int .i64 ((pos : Int) + (8 + (ys.length : Int))))) p v xs (pos + 8 + ys.length)) := by
      have := HW.out.pass (q := pos + 8 + ys.length) (by omega)
      rw [show ((pos + 8 + ys.length : Nat) : Int) = (pos : Int) + (8 + (ys.length : Int)) by push_cast; omega] at this
      exact this
    have HPc := Lib.hid (HCh.out.setCell (p := ⟨p, 2, none⟩) (.inl (by simp)) (.int .i64 ((pos : Int) + (8 + (ys.length : Int)))))
    have HS : Hid (Rd (W.setCell ⟨p, 2, none⟩ (.int .i64 ((pos : Int) + (8 + (ys.length : Int))))) (.slice (some ⟨b, off + 8, none⟩) ys.length (c - 8)) ys) := ⟨_, _, rfl, .inr ⟨b, _, rfl, fun i hi => by
      rw [World.cell?_of_block (w := W) (Below.heap_setCell _ _ _ _ hbp)]; exact HC.out i hi⟩⟩
    have hsz : (W.setCell ⟨p, 2, none⟩ (.int .i64 ((pos : Int) + (8 + (ys.length : Int))))).heap.size = W.heap.size := by simp [World.setCell]
    replace hsz := Lib.hid hsz
    have hcs := HCh.out.size
    go_wp2_with (at_builtin; refine wpList_append_row rfl _ _ rfl Try.underlying50 hi.out hz0.out hz1.out hz2.out rfl (World.ownsRow_nil _ 0 _ 1) (Rd.src (P := Try.prog) (xs := ys) Try.underlying50 HS.out) ?b1x ?b2x ?_)
    case b1x => (try simp only [List.length_nil]); unfold maxLen; omega
    case b2x => (try simp only [List.length_nil]); omega
    intro q2 k2 w2 own2 grow2 fr2
    try simp only [Nat.zero_add, List.nil_append] at own2
    try simp only [Nat.zero_add, List.nil_append] at fr2
    try simp only [Nat.zero_add]
    have H2 := Lib.hid own2
    have HB := Lib.hid ((Below.refl (W.setCell ⟨p, 2, none⟩ (.int .i64 ((pos : Int) + (8 + (ys.length : Int))))).heap.size _).grown grow2 (Nat.le_refl _) (by intro k hk; simp [Value.ownBlock] at hk))
    have HF : Hid (∀ k, (Value.slice q2 ys.length k2).ownBlock = some k → w.heap.size ≤ k) := fun k hk => by
      rcases fr2 with e | e
      · rw [show (Value.slice q2 ys.length k2).ownBlock = none from e] at hk; simp at hk
      · rw [show (Value.slice q2 ys.length k2).ownBlock = some _ from e] at hk
        have := hsz.out
        simp at hk
        omega
    clear own2 grow2 fr2 c2 f2
    go_wp2_with fail
    go_ret
    exact ⟨_, _, rfl, H2.out, HP.out.on HB.out, HPc.out.trans (Chg.below HB.out (Nat.le_refl _) []) (fun _ h => by cases h), HF.out⟩

/-! ### With errors -/
theorem Uint_bad {w : World} {p : Nat} (h : RrF w p) :
    Calls Try.prog 91 #[.pointer (some ⟨p, 0, none⟩)] w fun e w' => e = .returned (.int .u64 0) ∧ RrF w' p ∧ Chg w w' [p] := by
  have H := Lib.hid h
  clear h
  go_enter Try.func91, Try.ntmps91
  go_wp2_with fail
  refine (ready_bad H.out).mono ?_
  rintro e w1 ⟨rfl, rfl⟩
  go_wp2_with fail
  go_ret
  exact ⟨rfl, H.out, Chg.refl _ _⟩
theorem Uint_end {w : World} {p : Nat} {v : Value} {xs : List Int} {pos : Nat} (h : RrV w p v xs pos) (hf : xs.length < pos + 8) :
    Calls Try.prog 91 #[.pointer (some ⟨p, 0, none⟩)] w fun e w' => e = .returned (.int .u64 0) ∧ RrF w' p ∧ Chg w w' [p] := by
  have H := Lib.hid h
  clear h
  go_enter Try.func91, Try.ntmps91
  go_wp2_with fail
  refine (ready_ok H.out).mono ?_
  rintro e w1 ⟨rfl, rfl⟩
  go_wp2_with fail
  refine (lookUint_bad H.out hf).mono ?_
  rintro e w1 ⟨rfl, hF, hC⟩
  have HF := Lib.hid hF
  have HC := Lib.hid hC
  clear hF hC
  go_wp2_with fail
  go_ret
  exact ⟨rfl, HF.out, HC.out⟩
theorem Blob_bad {w : World} {p : Nat} (h : RrF w p) :
    Calls Try.prog 97 #[.pointer (some ⟨p, 0, none⟩)] w fun e w' => e = .returned (.slice none 0 0) ∧ RrF w' p ∧ Chg w w' [p] := by
  have H := Lib.hid h
  clear h
  go_enter Try.func97, Try.ntmps97
  go_wp2_with fail
  refine (ready_bad H.out).mono ?_
  rintro e w1 ⟨rfl, rfl⟩
  go_wp2_with fail
  go_ret
  exact ⟨rfl, H.out, Chg.refl _ _⟩
theorem Blob_end {w : World} {p : Nat} {v : Value} {xs : List Int} {pos : Nat} (h : RrV w p v xs pos) (hf : xs.length < pos + 8) :
    Calls Try.prog 97 #[.pointer (some ⟨p, 0, none⟩)] w fun e w' => e = .returned (.slice none 0 0) ∧ RrF w' p ∧ Chg w w' [p] := by
  have H := Lib.hid h
  clear h
  go_enter Try.func97, Try.ntmps97
  go_wp2_with fail
  refine (ready_ok H.out).mono ?_
  rintro e w1 ⟨rfl, rfl⟩
  go_wp2_with fail
  refine (lookUint_bad H.out hf).mono ?_
  rintro e w1 ⟨rfl, hF, hC⟩
  have HF := Lib.hid hF
  have HC := Lib.hid hC
  clear hF hC
  go_wp2_with fail
  go_ret
  exact ⟨rfl, HF.out, HC.out⟩
set_option maxHeartbeats 2000000 in
theorem Blob_big {w : World} {p : Nat} {v : Value} {xs : List Int} {pos : Nat} (h : RrV w p v xs pos) (hx : Bytes xs) (hf : pos + 8 ≤ xs.length) (hz : 65536 < num ((xs.drop pos).take 8)) :
    Calls Try.prog 97 #[.pointer (some ⟨p, 0, none⟩)] w fun e w' => e = .returned (.slice none 0 0) ∧ RrF w' p ∧ Chg w w' [p] := by
  have H := Lib.hid h
  have HX := Lib.hid hx
  clear h hx
  go_enter Try.func97, Try.ntmps97
  go_wp2_with fail
  refine (ready_ok H.out).mono ?_
  rintro e w1 ⟨rfl, rfl⟩
  go_wp2_with fail
  refine (lookUint_ok H.out HX.out hf).mono ?_
  rintro e w2 ⟨m, rfl, rfl⟩
  have H1 := Lib.hid (H.out.drewN m)
  have HF : Hid (RrF ((w.drewN m).setCell ⟨p, 3, none⟩ (.int .i64 21)) p) := H1.out.fail (by decide)
  have HC : Hid (Chg w ((w.drewN m).setCell ⟨p, 3, none⟩ (.int .i64 21)) [p]) := (show Chg w (w.drewN m) [p] from ⟨rfl, rfl, rfl, Nat.le_refl _, fun _ _ _ => rfl⟩).setCell (.inl (by simp)) _
  obtain ⟨-, -, -, c3, -, f3⟩ := H1.out.cells
  generalize num ((xs.drop pos).take 8) = z at *
  clear H H1
  go_wp2_with fail
  go_ret
  exact ⟨rfl, HF.out, HC.out⟩
set_option maxHeartbeats 2000000 in
theorem Blob_short {w : World} {p : Nat} {v : Value} {xs : List Int} {pos z : Nat} (h : RrV w p v xs pos) (hx : Bytes xs) (hf : pos + 8 ≤ xs.length) (hz : num ((xs.drop pos).take 8) = z) (hzm : z ≤ 65536) (hs : xs.length < pos + (8 + z)) :
    Calls Try.prog 97 #[.pointer (some ⟨p, 0, none⟩)] w fun e w' => e = .returned (.slice none 0 0) ∧ RrF w' p ∧ Chg w w' [p] := by
  have H := Lib.hid h
  have HX := Lib.hid hx
  have hzI : ¬ (65536 : Int) < (z : Int) := by omega
  clear h hx
  go_enter Try.func97, Try.ntmps97
  go_wp2_with fail
  refine (ready_ok H.out).mono ?_
  rintro e w1 ⟨rfl, rfl⟩
  go_wp2_with fail
  refine (lookUint_ok H.out HX.out hf).mono ?_
  rintro e w2 ⟨m, rfl, rfl⟩
  rw [hz]
  have H1 := Lib.hid (H.out.drewN m)
  go_wp2_with fail
  rw [show (8 + (z : Int)) = ((8 + z : Nat) : Int) from by push_cast; rfl]
  refine (look_bad H1.out (n := 8 + z) (by omega) hs).mono ?_
  rintro e w3 ⟨rfl, hF, hC⟩
  have HF := Lib.hid hF
  have HC : Hid (Chg w w3 [p]) := (show Chg w (w.drewN m) [p] from ⟨rfl, rfl, rfl, Nat.le_refl _, fun _ _ _ => rfl⟩).trans hC (fun x hx _ => hx)
  clear hF hC
  go_wp2_with fail
  go_ret
  exact ⟨rfl, HF.out, HC.out⟩
def wz : Array Value := #[.int .u64 0, .int .u64 0, .int .u64 0, .int .u64 0]
set_option maxHeartbeats 2000000 in
theorem Wide_bad {w : World} {p : Nat} (h : RrF w p) :
    Calls Try.prog 96 #[.pointer (some ⟨p, 0, none⟩)] w fun e w' => e = .returned (.agg #[.int .u64 0, .int .u64 0, .int .u64 0, .int .u64 0]) ∧ RrF w' p ∧ Chg w w' [p] := by
  have b0 : Below w.heap.size w (w.alloc (.cells #[.int .u64 0, .int .u64 0, .int .u64 0, .int .u64 0] 49)) := (Below.refl _ _).alloc (Nat.le_refl _) _
  have R0 := heap_alloc_new w (.cells #[.int .u64 0, .int .u64 0, .int .u64 0, .int .u64 0] 49)
  have H := Lib.hid (h.on b0)
  have hpl := h.lt
  have C0 : Hid (Chg w (w.alloc (.cells #[.int .u64 0, .int .u64 0, .int .u64 0, .int .u64 0] 49)) [p]) := Chg.below b0 (Nat.le_refl _) [p]
  clear h b0
  go_enter Try.func96, Try.ntmps96
  go_wp2_with fail
  generalize w.alloc (.cells #[.int .u64 0, .int .u64 0, .int .u64 0, .int .u64 0] 49) = W0 at *
  refine (ready_bad H.out).mono ?_
  rintro e w1 ⟨rfl, rfl⟩
  have c0 := (Joins.cell_of_block R0 0).trans (rfl : _ = some _)
  have c1 := (Joins.cell_of_block R0 1).trans (rfl : _ = some _)
  have c2 := (Joins.cell_of_block R0 2).trans (rfl : _ = some _)
  have c3 := (Joins.cell_of_block R0 3).trans (rfl : _ = some _)
  have f0 := Joins.unfrozen_of_block R0 0
  have f1 := Joins.unfrozen_of_block R0 1
  have f2 := Joins.unfrozen_of_block R0 2
  have f3 := Joins.unfrozen_of_block R0 3
  have cS : Chg W0 ((((W0.setCell ⟨w.heap.size, 0, none⟩ (.int .u64 0)).setCell ⟨w.heap.size, 1, none⟩ (.int .u64 0)).setCell ⟨w.heap.size, 2, none⟩ (.int .u64 0)).setCell ⟨w.heap.size, 3, none⟩ (.int .u64 0)) [w.heap.size] := ((((Chg.refl W0 [w.heap.size]).setCell (p := ⟨w.heap.size, 0, none⟩) (.inl (by simp)) _).setCell (p := ⟨w.heap.size, 1, none⟩) (.inl (by simp)) _).setCell (p := ⟨w.heap.size, 2, none⟩) (.inl (by simp)) _).setCell (p := ⟨w.heap.size, 3, none⟩) (.inl (by simp)) _
  have HF : Hid (RrF ((((W0.setCell ⟨w.heap.size, 0, none⟩ (.int .u64 0)).setCell ⟨w.heap.size, 1, none⟩ (.int .u64 0)).setCell ⟨w.heap.size, 2, none⟩ (.int .u64 0)).setCell ⟨w.heap.size, 3, none⟩ (.int .u64 0)) p) := by
    have hlt := H.out.lt
    obtain ⟨v, pos, f, h1, h2⟩ := H.out
    exact ⟨v, pos, f, h1, by rw [cS.block p hlt (by simp; omega)]; exact h2⟩
  have HC : Hid (Chg w ((((W0.setCell ⟨w.heap.size, 0, none⟩ (.int .u64 0)).setCell ⟨w.heap.size, 1, none⟩ (.int .u64 0)).setCell ⟨w.heap.size, 2, none⟩ (.int .u64 0)).setCell ⟨w.heap.size, 3, none⟩ (.int .u64 0)) [p]) := C0.out.trans cS (fun x hx hl => by simp at hx; omega)
  clear cS R0
  go_wp2_with fail
  refine bodyPost_ret (v := .agg #[.int .u64 0, .int .u64 0, .int .u64 0, .int .u64 0]) (by simp [results, Try.results96, go_sem, c0, c1, c2, c3]) rfl ⟨rfl, HF.out, HC.out⟩
set_option maxHeartbeats 2000000 in
theorem Wide_end {w : World} {p : Nat} {v : Value} {xs : List Int} {pos : Nat} (h : RrV w p v xs pos) (hf : xs.length < pos + 32) :
    Calls Try.prog 96 #[.pointer (some ⟨p, 0, none⟩)] w fun e w' => e = .returned (.agg #[.int .u64 0, .int .u64 0, .int .u64 0, .int .u64 0]) ∧ RrF w' p ∧ Chg w w' [p] := by
  have b0 : Below w.heap.size w (w.alloc (.cells #[.int .u64 0, .int .u64 0, .int .u64 0, .int .u64 0] 49)) := (Below.refl _ _).alloc (Nat.le_refl _) _
  have R9 := heap_alloc_new w (.cells #[.int .u64 0, .int .u64 0, .int .u64 0, .int .u64 0] 49)
  have H9 := Lib.hid (h.on b0)
  have hpl := h.lt
  have C9 : Hid (Chg w (w.alloc (.cells #[.int .u64 0, .int .u64 0, .int .u64 0, .int .u64 0] 49)) [p]) := Chg.below b0 (Nat.le_refl _) [p]
  clear h b0
  go_enter Try.func96, Try.ntmps96
  go_wp2_with fail
  generalize w.alloc (.cells #[.int .u64 0, .int .u64 0, .int .u64 0, .int .u64 0] 49) = w0 at *
  refine (ready_ok H9.out).mono ?_
  rintro e w1 ⟨rfl, rfl⟩
  go_wp2_with fail
  refine (look_bad H9.out (n := 32) (by omega) hf).mono ?_
  rintro e W0 ⟨rfl, hF, hC⟩
  have R0 : W0.heap[w.heap.size]? = some (.cells #[.int .u64 0, .int .u64 0, .int .u64 0, .int .u64 0] 49 (0, 0)) := by
    rw [hC.block _ (Array.getElem?_eq_some_iff.1 R9).1 (by simp; omega)]; exact R9
  have H := Lib.hid hF
  have C0 : Hid (Chg w W0 [p]) := C9.out.trans hC (fun x hx _ => hx)
  clear hF hC R9 H9 C9
  have c0 := (Joins.cell_of_block R0 0).trans (rfl : _ = some _)
  have c1 := (Joins.cell_of_block R0 1).trans (rfl : _ = some _)
  have c2 := (Joins.cell_of_block R0 2).trans (rfl : _ = some _)
  have c3 := (Joins.cell_of_block R0 3).trans (rfl : _ = some _)
  have f0 := Joins.unfrozen_of_block R0 0
  have f1 := Joins.unfrozen_of_block R0 1
  have f2 := Joins.unfrozen_of_block R0 2
  have f3 := Joins.unfrozen_of_block R0 3
  have cS : Chg W0 ((((W0.setCell ⟨w.heap.size, 0, none⟩ (.int .u64 0)).setCell ⟨w.heap.size, 1, none⟩ (.int .u64 0)).setCell ⟨w.heap.size, 2, none⟩ (.int .u64 0)).setCell ⟨w.heap.size, 3, none⟩ (.int .u64 0)) [w.heap.size] := ((((Chg.refl W0 [w.heap.size]).setCell (p := ⟨w.heap.size, 0, none⟩) (.inl (by simp)) _).setCell (p := ⟨w.heap.size, 1, none⟩) (.inl (by simp)) _).setCell (p := ⟨w.heap.size, 2, none⟩) (.inl (by simp)) _).setCell (p := ⟨w.heap.size, 3, none⟩) (.inl (by simp)) _
  have HF : Hid (RrF ((((W0.setCell ⟨w.heap.size, 0, none⟩ (.int .u64 0)).setCell ⟨w.heap.size, 1, none⟩ (.int .u64 0)).setCell ⟨w.heap.size, 2, none⟩ (.int .u64 0)).setCell ⟨w.heap.size, 3, none⟩ (.int .u64 0)) p) := by
    have hlt := H.out.lt
    obtain ⟨v, pos, f, h1, h2⟩ := H.out
    exact ⟨v, pos, f, h1, by rw [cS.block p hlt (by simp; omega)]; exact h2⟩
  have HC : Hid (Chg w ((((W0.setCell ⟨w.heap.size, 0, none⟩ (.int .u64 0)).setCell ⟨w.heap.size, 1, none⟩ (.int .u64 0)).setCell ⟨w.heap.size, 2, none⟩ (.int .u64 0)).setCell ⟨w.heap.size, 3, none⟩ (.int .u64 0)) [p]) := C0.out.trans cS (fun x hx hl => by simp at hx; omega)
  clear cS R0
  go_wp2_with fail
  refine bodyPost_ret (v := .agg #[.int .u64 0, .int .u64 0, .int .u64 0, .int .u64 0]) (by simp [results, Try.results96, go_sem, c0, c1, c2, c3]) rfl ⟨rfl, HF.out, HC.out⟩
end Go.Proofs.Ytonjkhhihiigfaa
namespace Go.Proofs.Ytonjkhhihiigfaa
open Go.RowKit
set_option maxRecDepth 100000

def msr : Value → Value → Nat
  | .slice _ n _, .bool true => n
  | .slice _ n _, _ => n + 1000
  | _, _ => 0

end Go.Proofs.Ytonjkhhihiigfaa
namespace Go.Proofs.Ytonjkhhihiigfaa
open Go.RowKit
set_option maxRecDepth 100000

theorem rdc_of_rw {w : World} {b : Nat} {T : TypeId} {xs : List Int} (h : RwK .u8 w b xs.length T (fun i => xs.getD i 0)) : RdC w (.slice (some ⟨b, 0, none⟩) xs.length xs.length) xs :=
  ⟨_, _, rfl, Nat.le_refl _, .inr ⟨b, 0, rfl, fun i hi => by rw [Nat.zero_add]; exact h.cell i hi⟩⟩
end Go.Proofs.Ytonjkhhihiigfaa
namespace Go.Proofs.Ytonjkhhihiigfaa

theorem wpAnyH_strong {P : Program} {md : Region.Mode} {ops : Array Oper} {Q : Exit → Act → World → Prop} {S S' : World → Prop} (hS : ∀ w, S' w → S w) : ∀ {fuel : Nat} {listed : Array Bool} {a : Act} {w : World}, wpAnyH P md ops Q S' fuel listed a w → wpAnyH P md ops Q S fuel listed a w
  | 0, _, _, _, h => h
  | _ + 1, _, _, _, h => ⟨h.1, fun i hi => wpOp_mono (fun _ _ h' => ⟨hS _ h'.1, wpAnyH_strong hS h'.2⟩) (h.2 i hi)⟩
end Go.Proofs.Ytonjkhhihiigfaa
namespace Go.Proofs.Ytonjkhhihiigfaa
open Go.RowKit
set_option maxRecDepth 100000

/-- How long the padded string is. -/
theorem padlen (L : Nat) : L + 9 + (64 - (L + 9) % 64) % 64 = 64 * nbk L := by
  unfold nbk
  split <;> omega

end Go.Proofs.Ytonjkhhihiigfaa
namespace Go.Proofs.Ytonjkhhihiigfaa
open Go.RowKit
set_option maxRecDepth 100000

theorem oldW {w W : World} (hb : Below w.heap.size w W) {p : Addr} {v : Value} (hc : w.cell? p = some v) : W.cell? p = some v := by
  rw [hb.cell (World.block_lt_of_cell? w p hc)]; exact hc
/-- A row that the call itself lays, and appends to. -/
structure FrS (w wr : World) (v : Value) (xs : List Int) (n : Nat) : Prop where
  own : wr.ownsRow 0 5 1 v n (bc xs)
  fresh : ∀ g, v.ownBlock = some g → w.heap.size ≤ g
  below : Below w.heap.size w wr
theorem FrS.len {w wr : World} {v : Value} {xs : List Int} {n : Nat} (h : FrS w wr v xs n) : xs.length = n := by have := h.own.1; simpa using this
theorem FrS.on {w wr w1 : World} {v : Value} {xs : List Int} {n : Nat} (h : FrS w wr v xs n) (hb : Below wr.heap.size wr w1) : FrS w w1 v xs n :=
  ⟨own_on h.own hb, h.fresh, h.below.trans (hb.mono h.below.size)⟩
theorem FrS.drew {w wr : World} {v : Value} {xs : List Int} {n : Nat} (h : FrS w wr v xs n) : FrS w wr.drew v xs n := h.on (Below.refl _ _).drew
theorem FrS.grow {w wr w2 : World} {v v' : Value} {xs ys : List Int} {n m : Nat} (h : FrS w wr v xs n) (own : w2.ownsRow 0 5 1 v' (n + m) (bc xs ++ bc ys)) (grow : wr.grownBy w2 v.ownBlock) (fr : v'.ownBlock = v.ownBlock ∨ v'.ownBlock = some wr.heap.size) : FrS w w2 v' (xs ++ ys) (n + m) := by
  refine ⟨by rw [bc_append]; exact own, fun g hg => ?_, h.below.grown grow h.below.size (fun k hk => h.fresh k hk)⟩
  rcases fr with e | e
  · rw [e] at hg; exact h.fresh g hg
  · rw [e] at hg; have := h.below.size; simp at hg; omega
theorem FrS.rd {w wr : World} {v : Value} {xs : List Int} {n : Nat} (h : FrS w wr v xs n) : Rd wr v xs := by
  have := h.len; subst this
  exact rd_of_row h.own
theorem sn_cells (s : ByteArray) : byteCells s = bc (sn s) := by simp [byteCells, bc, sn]
theorem src_str {P : Program} {w : World} {tx : TypeId} (hk : P.underlying tx = some .string) (t : ByteArray) : Src P 1 tx (.string t) t.size (bc (sn t)) w := by
  rw [← sn_cells]; exact Src.ofString w hk t

end Go.Proofs.Ytonjkhhihiigfaa
namespace Go.Proofs.Ytonjkhhihiigfaa
open Go.RowKit
set_option maxRecDepth 100000

def U32 (x : Int) : Prop := 0 ≤ x ∧ x < 4294967296
theorem U32.mod (x : Int) : U32 (x % 4294967296) := by unfold U32; omega
theorem wrap_u32_u (x : Int) : U32 (IntKind.u32.wrap x) := by rw [IntKind.wrap_u32]; exact U32.mod x
theorem or_U32 (a b : Int) : U32 (bits .or .u32 a b) := wrap_u32_u _
theorem xor_U32 (a b : Int) : U32 (bits .xor .u32 a b) := wrap_u32_u _
theorem and_U32 (a b : Int) : U32 (bits .and .u32 a b) := wrap_u32_u _
theorem rk_U32 (k x : Int) : U32 (rk k x) := or_U32 _ _

/-- What is joined has no bit in common: the sum. -/
theorem or_add {a b : Nat} {s : Nat} (hb : b < 2 ^ s) (ha : a * 2 ^ s < 4294967296) (hb32 : b < 4294967296) : bits .or .u32 ((a * 2 ^ s : Nat) : Int) (b : Int) = ((a * 2 ^ s + b : Nat) : Int) := by
  rw [u32_or _ _ (by omega) (by omega) (by omega) (by omega)]
  congr 1
  rw [Int.toNat_natCast, Int.toNat_natCast, ← Nat.shiftLeft_eq, Nat.shiftLeft_add_eq_or_of_lt hb]
theorem wd_sum {x0 x1 x2 x3 : Int} (h0 : 0 ≤ x0 ∧ x0 < 256) (h1 : 0 ≤ x1 ∧ x1 < 256) (h2 : 0 ≤ x2 ∧ x2 < 256) (h3 : 0 ≤ x3 ∧ x3 < 256) :
    bits .or .u32 (bits .or .u32 (bits .or .u32 (x0 * 16777216) (x1 * 65536)) (x2 * 256)) x3 = x0 * 16777216 + x1 * 65536 + x2 * 256 + x3 := by
  obtain ⟨y0, rfl⟩ := Int.eq_ofNat_of_zero_le h0.1
  obtain ⟨y1, rfl⟩ := Int.eq_ofNat_of_zero_le h1.1
  obtain ⟨y2, rfl⟩ := Int.eq_ofNat_of_zero_le h2.1
  obtain ⟨y3, rfl⟩ := Int.eq_ofNat_of_zero_le h3.1
  have e1 := or_add (a := y0) (b := y1 * 65536) (s := 24) (by omega) (by omega) (by omega)
  have e2 := or_add (a := y0 * 256 + y1) (b := y2 * 256) (s := 16) (by omega) (by omega) (by omega)
  have e3 := or_add (a := y0 * 65536 + y1 * 256 + y2) (b := y3) (s := 8) (by omega) (by omega) (by omega)
  rw [show ((y0 : Int) * 16777216) = ((y0 * 2 ^ 24 : Nat) : Int) by omega, show ((y1 : Int) * 65536) = ((y1 * 65536 : Nat) : Int) by omega, e1,
    show ((y0 * 2 ^ 24 + y1 * 65536 : Nat) : Int) = (((y0 * 256 + y1) * 2 ^ 16 : Nat) : Int) by omega, show ((y2 : Int) * 256) = ((y2 * 256 : Nat) : Int) by omega, e2,
    show (((y0 * 256 + y1) * 2 ^ 16 + y2 * 256 : Nat) : Int) = (((y0 * 65536 + y1 * 256 + y2) * 2 ^ 8 : Nat) : Int) by omega, e3]
  omega
/-- Turned to the right, as the document does it. -/
def tn (n : Nat) (x : Int) : Int := (x / 2 ^ n + x * 2 ^ (32 - n) % 4294967296) % 4294967296
theorem tn_rk {k : Int} {s n : Nat} (hk : rsh k = s) (hs : s + n = 32) (hs1 : 1 ≤ s) {x : Int} (hx : U32 x) : tn n x = rk k x := by
  obtain ⟨y, rfl⟩ := Int.eq_ofNat_of_zero_le hx.1
  have hy : y < 4294967296 := by have := hx.2; omega
  have e32 : 4294967296 = 2 ^ n * 2 ^ s := by rw [← Nat.pow_add, Nat.add_comm, hs]
  have hdiv : y / 2 ^ n < 2 ^ s := by
    rw [Nat.div_lt_iff_lt_mul (Nat.two_pow_pos n), Nat.mul_comm, ← e32]; exact hy
  have hm : y * 2 ^ s % 4294967296 = y % 2 ^ n * 2 ^ s := by rw [e32, Nat.mul_mod_mul_right]
  have hml : y % 2 ^ n * 2 ^ s < 4294967296 := by
    rw [e32]; exact Nat.mul_lt_mul_of_pos_right (Nat.mod_lt _ (Nat.two_pow_pos n)) (Nat.two_pow_pos s)
  have hs32 : 2 ^ s ≤ 4294967296 := by
    have : (2 : Nat) ^ s ≤ 2 ^ 32 := Nat.pow_le_pow_right (by omega) (by omega)
    simpa using this
  have e1 : ((y : Int) * 2 ^ s % 4294967296) = ((y % 2 ^ n * 2 ^ s : Nat) : Int) := by rw [← hm, Int.natCast_emod, Int.natCast_mul, Int.natCast_pow]; rfl
  have e2 : ((y : Int) / 2 ^ n) = ((y / 2 ^ n : Nat) : Int) := by rw [Int.natCast_ediv, Int.natCast_pow]; rfl
  have hn : 32 - s = n := by omega
  have hn2 : 32 - n = s := by omega
  unfold tn rk
  rw [hk, hn, hn2, e1, e2, or_add hdiv hml (by omega)]
  have : (y / 2 ^ n : Nat) + y % 2 ^ n * 2 ^ s < 4294967296 := by
    have h1 : y % 2 ^ n * 2 ^ s + 2 ^ s ≤ 4294967296 := by
      rw [e32, ← Nat.succ_mul]
      exact Nat.mul_le_mul_right _ (Nat.mod_lt _ (Nat.two_pow_pos n))
    omega
  generalize y / 2 ^ n = A at this ⊢
  generalize y % 2 ^ n * 2 ^ s = C at this ⊢
  omega
theorem tn7 {x : Int} (hx : U32 x) : tn 7 x = rk (-7) x := tn_rk (by decide) (s := 25) rfl (by omega) hx
theorem tn18 {x : Int} (hx : U32 x) : tn 18 x = rk (-18) x := tn_rk (by decide) (s := 14) rfl (by omega) hx
theorem tn17 {x : Int} (hx : U32 x) : tn 17 x = rk (-17) x := tn_rk (by decide) (s := 15) rfl (by omega) hx
theorem tn19 {x : Int} (hx : U32 x) : tn 19 x = rk (-19) x := tn_rk (by decide) (s := 13) rfl (by omega) hx
theorem tn6 {x : Int} (hx : U32 x) : tn 6 x = rk (-6) x := tn_rk (by decide) (s := 26) rfl (by omega) hx
theorem tn11 {x : Int} (hx : U32 x) : tn 11 x = rk (-11) x := tn_rk (by decide) (s := 21) rfl (by omega) hx
theorem tn25 {x : Int} (hx : U32 x) : tn 25 x = rk (-25) x := tn_rk (by decide) (s := 7) rfl (by omega) hx
theorem tn2 {x : Int} (hx : U32 x) : tn 2 x = rk (-2) x := tn_rk (by decide) (s := 30) rfl (by omega) hx
theorem tn13 {x : Int} (hx : U32 x) : tn 13 x = rk (-13) x := tn_rk (by decide) (s := 19) rfl (by omega) hx
theorem tn22 {x : Int} (hx : U32 x) : tn 22 x = rk (-22) x := tn_rk (by decide) (s := 10) rfl (by omega) hx
theorem notI_sub {x : Int} (hx : U32 x) : notI x = (4294967295 - x) % 4294967296 := by
  obtain ⟨y, rfl⟩ := Int.eq_ofNat_of_zero_le hx.1
  have hy : y < 4294967296 := by have := hx.2; omega
  show IntKind.u32.wrap ((BitVec.ofInt 32 4294967295 ^^^ BitVec.ofInt 32 (y : Int)).toNat : Int) = _
  rw [show BitVec.ofInt 32 4294967295 = BitVec.allOnes 32 by decide, BitVec.allOnes_xor, BitVec.toNat_not, BitVec.ofInt_natCast, BitVec.toNat_ofNat, IntKind.wrap_u32, Nat.mod_eq_of_lt (by omega : y < 2 ^ 32)]
  omega

structure St8.ok (s : St8) : Prop where
  a : U32 s.a
  b : U32 s.b
  c : U32 s.c
  d : U32 s.d
  e : U32 s.e
  f : U32 s.f
  g : U32 s.g
  h : U32 s.h
theorem St8.ok.rnd {s : St8} (h : s.ok) (k w : Int) : (s.rnd k w).ok := ⟨U32.mod _, h.a, h.b, h.c, U32.mod _, h.e, h.f, h.g⟩
theorem St8.ok.rounds {s : St8} (h : s.ok) (B : Nat → Int) : ∀ i, (s.rounds B i).ok
  | 0 => h
  | i + 1 => (St8.ok.rounds h B i).rnd _ _
theorem St8.mix_ok (s : St8) (B : Nat → Int) : (s.mix B).ok := ⟨U32.mod _, U32.mod _, U32.mod _, U32.mod _, U32.mod _, U32.mod _, U32.mod _, U32.mod _⟩
theorem iv_ok : iv.ok := ⟨⟨by decide, by decide⟩, ⟨by decide, by decide⟩, ⟨by decide, by decide⟩, ⟨by decide, by decide⟩, ⟨by decide, by decide⟩, ⟨by decide, by decide⟩, ⟨by decide, by decide⟩, ⟨by decide, by decide⟩⟩
theorem shaSt_ok (xs : List Int) : ∀ i, (shaSt xs i).ok
  | 0 => iv_ok
  | _ + 1 => St8.mix_ok _ _
theorem W_U32 (B : Nat → Int) (n : Nat) : U32 (W B n) := by
  by_cases h : n < 16
  · rw [W_low B h]; exact or_U32 _ _
  · rw [W_high B (by omega)]; exact U32.mod _
end Go.Proofs.Ytonjkhhihiigfaa
namespace Go.Proofs.Ytonjkhhihiigfaa
open Go.RowKit
set_option maxRecDepth 100000

def tnI (k : Int) (x : Int) : Int := tn k.toNat x
theorem tnI7 {x : Int} (hx : U32 x) : tnI 7 x = rk (-7) x := tn7 hx
theorem tnI18 {x : Int} (hx : U32 x) : tnI 18 x = rk (-18) x := tn18 hx
theorem tnI17 {x : Int} (hx : U32 x) : tnI 17 x = rk (-17) x := tn17 hx
theorem tnI19 {x : Int} (hx : U32 x) : tnI 19 x = rk (-19) x := tn19 hx
theorem tnI6 {x : Int} (hx : U32 x) : tnI 6 x = rk (-6) x := tn6 hx
theorem tnI11 {x : Int} (hx : U32 x) : tnI 11 x = rk (-11) x := tn11 hx
theorem tnI25 {x : Int} (hx : U32 x) : tnI 25 x = rk (-25) x := tn25 hx
theorem tnI2 {x : Int} (hx : U32 x) : tnI 2 x = rk (-2) x := tn2 hx
theorem tnI13 {x : Int} (hx : U32 x) : tnI 13 x = rk (-13) x := tn13 hx
theorem tnI22 {x : Int} (hx : U32 x) : tnI 22 x = rk (-22) x := tn22 hx
end Go.Proofs.Ytonjkhhihiigfaa
namespace Go.Proofs.Ytonjkhhihiigfaa
open Go.RowKit
set_option maxRecDepth 100000

end Go.Proofs.Ytonjkhhihiigfaa
namespace Go.Proofs.Ytonjkhhihiigfaa
open Go.RowKit
set_option maxRecDepth 100000

/-- Cells of words. -/
def uc (F : List Int) : List Value := F.map (Value.int .u32)
@[go_sem] theorem uc_len (F : List Int) : (uc F).length = F.length := by simp [uc]
@[go_sem] theorem rootsZ_len : rootsZ.length = 64 := by rfl
def zero64 : List Int := List.replicate 64 0
@[go_sem] theorem zero64_len : zero64.length = 64 := by rfl
@[go_sem ↓] theorem load64 (a : Addr) : loadCellsFrom a 0 64 #[] = rowLoad a 64 := rfl
theorem uc_one (F : List Int) : (uc F).toArray.all (·.oneCell') = true := by
  rw [Array.all_eq_true_iff_forall_mem]
  intro v hv
  simp [uc] at hv
  obtain ⟨x, _, rfl⟩ := hv
  rfl
@[go_sem] theorem run_storeCells_u32 {P : Program} (w : World) (b o : Nat) (F : List Int) (ht : w.there b o F.length) : (storeCells ⟨b, o, none⟩ (uc F) 0).run P w = .ok () (w.setCells b o (uc F)) := by
  have := run_storeCells_cells (P := P) b o (uc F) 0 w (fun j hj => by rw [uc_len] at hj; simpa using (ht j hj).1) (fun j hj => by rw [uc_len] at hj; simpa using (ht j hj).2) (fun v hv => (Array.all_eq_true_iff_forall_mem.1 (uc_one F)) v (by simpa using hv))
  simpa using this


theorem out_get (S : St8) {i : Nat} (h : i < 32) : S.out.getD i 0 = (be4 (S.lst.getD (i / 4) 0)).getD (i % 4) 0 := by
  have e : i = 0 ∨ i = 1 ∨ i = 2 ∨ i = 3 ∨ i = 4 ∨ i = 5 ∨ i = 6 ∨ i = 7 ∨ i = 8 ∨ i = 9 ∨ i = 10 ∨ i = 11 ∨ i = 12 ∨ i = 13 ∨ i = 14 ∨ i = 15 ∨ i = 16 ∨ i = 17 ∨ i = 18 ∨ i = 19 ∨ i = 20 ∨ i = 21 ∨ i = 22 ∨ i = 23 ∨ i = 24 ∨ i = 25 ∨ i = 26 ∨ i = 27 ∨ i = 28 ∨ i = 29 ∨ i = 30 ∨ i = 31 := by omega
  rcases e with rfl | rfl | rfl | rfl | rfl | rfl | rfl | rfl | rfl | rfl | rfl | rfl | rfl | rfl | rfl | rfl | rfl | rfl | rfl | rfl | rfl | rfl | rfl | rfl | rfl | rfl | rfl | rfl | rfl | rfl | rfl | rfl <;> rfl


end Go.Proofs.Ytonjkhhihiigfaa
namespace Go.Proofs.Ytonjkhhihiigfaa
open Go.RowKit
set_option maxRecDepth 100000

end Go.Proofs.Ytonjkhhihiigfaa
namespace Go.Proofs.Ytonjkhhihiigfaa
open Go.RowKit
set_option maxRecDepth 100000


end Go.Proofs.Ytonjkhhihiigfaa
namespace Go.Proofs.Ytonjkhhihiigfaa
set_option maxRecDepth 100000
open Go.RowKit

/-- A row of bytes that the call lays. -/
structure BuS (w wr : World) (v : Value) (xs : List Int) : Prop where
  own : wr.ownsRow 0 5 1 v xs.length (bc xs)
  fresh : ∀ g, v.ownBlock = some g → w.heap.size ≤ g
  below : Below w.heap.size w wr
theorem BuS.start (w : World) : BuS w w (.slice none 0 0) [] := ⟨World.ownsRow_nil w 0 _ 1, by simp [Value.ownBlock], Below.refl _ _⟩
theorem BuS.on {w wr w1 : World} {v : Value} {xs : List Int} (h : BuS w wr v xs) (hb : Below wr.heap.size wr w1) : BuS w w1 v xs :=
  ⟨own_on h.own hb, h.fresh, h.below.trans (hb.mono h.below.size)⟩
theorem BuS.grow {w wr w2 : World} {v v' : Value} {xs ys : List Int} {m : Nat} (h : BuS w wr v xs) (hm : ys.length = m) (own : w2.ownsRow 0 5 1 v' (xs.length + m) (bc xs ++ bc ys)) (grow : wr.grownBy w2 v.ownBlock) (fr : v'.ownBlock = v.ownBlock ∨ v'.ownBlock = some wr.heap.size) : BuS w w2 v' (xs ++ ys) := by
  subst hm
  refine ⟨by rw [List.length_append, bc_append]; exact own, fun g hg => ?_, h.below.grown grow h.below.size (fun k hk => h.fresh k hk)⟩
  rcases fr with e | e
  · rw [e] at hg; exact h.fresh g hg
  · rw [e] at hg; have := h.below.size; simp at hg; omega
theorem BuS.rd {w wr : World} {v : Value} {xs : List Int} (h : BuS w wr v xs) : Rd wr v xs := rd_of_row h.own
theorem BuS.of_eq {w wr : World} {v : Value} {xs ys : List Int} (h : BuS w wr v xs) (e : xs = ys) : BuS w wr v ys := e ▸ h
theorem one_rd {w : World} {x : Int} : Rd (w.alloc (.cells #[.int .u8 x] 5)) (.slice (some ⟨w.heap.size, 0, none⟩) 1 1) [x] :=
  ⟨_, 1, rfl, .inr ⟨w.heap.size, 0, rfl, fun j hj => by obtain rfl : j = 0 := (by simpa using hj); exact (Joins.cell_of_block (heap_alloc_new w _) 0).trans rfl⟩⟩


end Go.Proofs.Ytonjkhhihiigfaa
