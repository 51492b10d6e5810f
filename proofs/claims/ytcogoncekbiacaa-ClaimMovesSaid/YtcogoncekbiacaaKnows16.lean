/-
  The walk of basculelaw16.knows.
-/
import Derived.Test.YtcogoncekbiacaaOwn
import Derived.Test.YtcogoncekbiacaaChoose
import Derived.Test.YtcogoncekbiacaaRounds
namespace Go.Proofs.Ytcogoncekbiacaa
open Go.RowKit

def hsh (x : Int) : List Int := [x, 0, 0, 0, 0, 0, 0, 0, 0, 0, 0, 0, 0, 0, 0, 0, 0, 0, 0, 0, 0, 0, 0, 0, 0, 0, 0, 0, 0, 0, 0, 0]
@[go_sem] theorem hsh_len (x : Int) : (hsh x).length = 32 := by simp [hsh]
@[go_sem] theorem Try.run_hash1 (w : World) (x : Int) : (rowBuild 23 #[(0, .int .u8 x)]).run Try.prog w = .ok (.agg (hc (hsh x)).toArray) w := by
  unfold rowBuild; kernel_rfl

def k1 : Seg := ⟨0, 3, hsh 1, hsh 2, zero32, false⟩
def k2 : Seg := ⟨0, 3, hsh 1, hsh 2, hsh 3, true⟩
def k3 : Seg := ⟨1, 3, hsh 3, hsh 2, zero32, false⟩
theorem k1_ok : k1.ok := ⟨by decide, by decide, by decide, by decide, rfl, rfl, rfl⟩
theorem k2_ok : k2.ok := ⟨by decide, by decide, by decide, by decide, rfl, rfl, rfl⟩
theorem k3_ok : k3.ok := ⟨by decide, by decide, by decide, by decide, rfl, rfl, rfl⟩
theorem k1_is : Seg.opened 3 (hsh 1) (hsh 2) = (k1, 0) := rfl
theorem k2_is : k1.post (hsh 3) = (k2, 0) := rfl
theorem k3_is : k2.choose true = (k3, 0) := rfl
theorem k1_mid : k1.middle = 1 := rfl
theorem k3_right : k3.right = true := rfl
theorem r3 : Rn 3 2 := ⟨by omega, by decide, Or.inr (by decide)⟩

set_option maxHeartbeats 1000000 in
theorem knows_any (w : World) : Calls Try.prog 25 #[] w fun e w' => e = .returned (.bool true) ∧ Below w.heap.size w w' := by
  have ⟨f1, t1, m1⟩ : k1.f.length = 32 ∧ k1.t.length = 32 ∧ k1.m.length = 32 := ⟨rfl, rfl, rfl⟩
  have ⟨f2, t2, m2⟩ : k2.f.length = 32 ∧ k2.t.length = 32 ∧ k2.m.length = 32 := ⟨rfl, rfl, rfl⟩
  have ⟨f3, t3, m3⟩ : k3.f.length = 32 ∧ k3.t.length = 32 ∧ k3.m.length = 32 := ⟨rfl, rfl, rfl⟩
  go_enter Try.func25, Try.ntmps25
  go_wp2_with fail
  refine (Open_any (hsh_len 1) (hsh_len 2) _).mono ?_
  rintro e w1 ⟨rfl, hb1⟩
  rw [k1_is]
  have S1 := SegAt.new w1 26 k1
  have B1 : Below w.heap.size w (w1.alloc (.cells k1.row.toArray 26)) := hb1.alloc hb1.size _
  have cw1 := S1.whole k1_ok
  go_wp2_with fail
  refine (Post_any k1_ok (hsh_len 3) _).mono ?_
  rintro e w2 ⟨rfl, hb2⟩
  rw [k2_is]
  have S1 := (S1.on hb2).alloc (.cells k2.row.toArray 26)
  have B2 : Below w.heap.size w (w2.alloc (.cells k2.row.toArray 26)) := (B1.trans (hb2.mono (by have := B1.size; omega))).alloc (by have := B1.size; have := hb2.size; omega) _
  have S2 := SegAt.new w2 26 k2
  have cw2 := S2.whole k2_ok
  clear cw1 hb1 hb2 B1
  go_wp2_with fail
  refine (Choose_any k2_ok true _).mono ?_
  rintro e w3 ⟨rfl, hb3⟩
  rw [k3_is]
  have S1 := (S1.on hb3).alloc (.cells k3.row.toArray 26)
  have B3 : Below w.heap.size w (w3.alloc (.cells k3.row.toArray 26)) := (B2.trans (hb3.mono (by have := B2.size; omega))).alloc (by have := B2.size; have := hb3.size; omega) _
  have S3 := SegAt.new w3 26 k3
  have cw1 := S1.whole k1_ok
  clear cw2 S2 hb3 B2
  go_wp2_with fail
  refine (num_any _ _).mono ?_
  rintro e w4 ⟨rfl, rfl⟩
  go_wp2_with fail
  refine (num_any _ _).mono ?_
  rintro e w4 ⟨rfl, rfl⟩
  go_wp2_with fail
  refine (num_any _ _).mono ?_
  rintro e w4 ⟨rfl, rfl⟩
  go_wp2_with fail
  refine (Middle_any k1_ok _).mono ?_
  rintro e w4 ⟨rfl, hb4⟩
  rw [k1_mid]
  have S3 := S3.on hb4
  have B4 := B3.trans (hb4.mono (by have := B3.size; omega))
  clear cw1 S1 B3 hb4
  go_wp2_with fail
  refine (Rounds_any (by omega) (by omega) _).mono ?_
  rintro e w5 ⟨r, rfl, hr, rfl⟩
  obtain rfl := Rn_unique hr r3
  obtain ⟨c0, c1, -, cw, cf, -, -⟩ := S3.facts k3_ok
  rw [show k3.lo = 1 from rfl] at c0
  rw [show k3.hi = 3 from rfl] at c1
  rw [show k3.f = hsh 3 from rfl] at cf
  go_wp2_with fail
  refine (Right_any k3_ok _).mono ?_
  rintro e w6 ⟨rfl, hb6⟩
  rw [k3_right]
  have B6 := B4.trans (hb6.mono (by have := B4.size; omega))
  clear cw cf c0 c1 S3 B4 hb6
  go_wp2_with fail
  go_ret
  exact ⟨rfl, B6⟩
end Go.Proofs.Ytcogoncekbiacaa
