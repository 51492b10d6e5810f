/-
  The walk of basculelaw17.knows.
-/
import Derived.Test.YtkdhhdbgngegfaaGreatDoorGmEnd
namespace Go.Proofs.YtkdhhdbgngegfaaGreatDoor
set_option maxRecDepth 100000
open Go.RowKit

def hsh (x : Int) : List Int := [x, 0, 0, 0, 0, 0, 0, 0, 0, 0, 0, 0, 0, 0, 0, 0, 0, 0, 0, 0, 0, 0, 0, 0, 0, 0, 0, 0, 0, 0, 0, 0]
@[go_sem] theorem hsh_len (x : Int) : (hsh x).length = 32 := by simp [hsh]
@[go_sem] theorem Tryz.run_hash1 (w : World) (x : Int) : (rowBuild 23 #[(0, .int .u8 x)]).run Tryz.prog w = .ok (.agg (hc (hsh x)).toArray) w := by
  unfold rowBuild; kernel_rfl

def q1 : Gm := Gm.new 2 5 10 (hsh 1) (hsh 2)
def q2 : Gm := { q1 with wn := 1 }
theorem q1_ok : q1.ok := Gm.new_ok (hsh_len 1) (hsh_len 2) (by omega) (by omega) (by omega) (by omega) (by omega) (by omega)
theorem q2_ok : q2.ok := ⟨q1_ok.s, q1_ok.c0, q1_ok.c1, q1_ok.at_, by decide⟩
theorem q1_15 : q1.timeout 15 = (gm0, 50) := rfl
theorem q1_16 : q1.timeout 16 = (q2, 0) := rfl
theorem q1_turn : q1.turn = 0 := rfl

set_option maxHeartbeats 1000000 in
theorem knows_any (w : World) : Calls Tryz.prog 12 #[] w fun e w' => e = .returned (.bool true) ∧ Below w.heap.size w w' := by
  have hz : gm0.s.row.length = 99 := seg0_len
  have h1 : q1.s.row.length = 99 := q1_ok.s.len
  have h2 : q2.s.row.length = 99 := q2_ok.s.len
  go_enter Tryz.func12, Tryz.ntmps12
  go_wp2_with fail
  refine (New_ok (hsh_len 1) (hsh_len 2) (by omega) (by omega) (by omega) (by omega) (by omega) (by omega) _).mono ?_
  rintro e w1 ⟨rfl, hb1⟩
  rw [show Gm.new 2 5 10 (hsh 1) (hsh 2) = q1 from rfl]
  have G1 := GmAt.new w1 31 q1
  have B1 : Below w.heap.size w (w1.alloc (.cells q1.row.toArray 31)) := hb1.alloc hb1.size _
  have cw1 := G1.whole h1
  go_wp2_with fail
  refine (Timeout_any q1_ok _ _).mono ?_
  rintro e w2 ⟨rfl, hb2⟩
  rw [q1_15]
  have G1 := (G1.on hb2).alloc (.cells gm0.row.toArray 31)
  have B2 : Below w.heap.size w (w2.alloc (.cells gm0.row.toArray 31)) := (B1.trans (hb2.mono (by have := B1.size; omega))).alloc (by have := B1.size; have := hb2.size; omega) _
  have cw1 := G1.whole h1
  clear hb1 hb2 B1
  go_wp2_with fail
  refine (Timeout_any q1_ok _ _).mono ?_
  rintro e w3 ⟨rfl, hb3⟩
  rw [q1_16]
  have G1 := (G1.on hb3).alloc (.cells q2.row.toArray 31)
  have B3 : Below w.heap.size w (w3.alloc (.cells q2.row.toArray 31)) := (B2.trans (hb3.mono (by have := B2.size; omega))).alloc (by have := B2.size; have := hb3.size; omega) _
  have G2 := GmAt.new w3 31 q2
  have cw1 := G1.whole h1
  clear hb3 B2
  go_wp2_with fail
  refine (num_any _ _).mono ?_
  rintro e w4 ⟨rfl, rfl⟩
  go_wp2_with fail
  refine (num_any _ _).mono ?_
  rintro e w4 ⟨rfl, rfl⟩
  go_wp2_with fail
  refine (num_any _ _).mono ?_
  rintro e w4 ⟨rfl, rfl⟩
  go_wp2_with fail
  refine (Turn_any q1_ok _).mono ?_
  rintro e w5 ⟨rfl, hb5⟩
  rw [q1_turn]
  have G2 := G2.on hb5
  have B4 := B3.trans (hb5.mono (by have := B3.size; omega))
  obtain ⟨-, -, -, -, c102, -, -⟩ := G2.facts q2_ok.s
  rw [show q2.wn = 1 from rfl] at c102
  clear cw1 G1 B3 hb5
  go_wp2_with fail
  go_ret
  exact ⟨rfl, B4⟩
end Go.Proofs.YtkdhhdbgngegfaaGreatDoor
