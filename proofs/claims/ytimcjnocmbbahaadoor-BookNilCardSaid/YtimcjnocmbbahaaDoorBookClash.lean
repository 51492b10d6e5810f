/-
  basculelaw04.knows: two strings under one hash.
-/
import Derived.Test.YtimcjnocmbbahaaDoorBookSum
import Derived.Lib.ConvBytes
namespace Go.Proofs.YtimcjnocmbbahaaDoor
open Go.RowKit
set_option maxRecDepth 100000

theorem below_bw (w : World) (e : TypeId) (s : ByteArray) : Below w.heap.size w (Lib.bytesWorld w e s) :=
  ⟨rfl, rfl, rfl, by rw [Lib.bytesWorld_size]; omega, fun j hj => Lib.bytesWorld_at_old w e s j hj⟩
theorem rd_bw (w : World) (x : UInt8) (c : Nat) : Rd (Lib.bytesWorld w 5 ⟨#[x]⟩) (.slice (some ⟨w.heap.size, 0, none⟩) 1 c) [(x.toNat : Int)] :=
  ⟨_, c, rfl, .inr ⟨w.heap.size, 0, rfl, fun i hi => by
    obtain rfl : i = 0 := (by simpa using hi)
    have := Lib.bytesWorld_cell w 5 ⟨#[x]⟩ 0 (by simp [ByteArray.size])
    simpa using this⟩⟩
theorem two_bw (Y : World) (e : TypeId) (s t : ByteArray) : Below Y.heap.size Y (Lib.bytesWorld (Lib.bytesWorld Y.drew e s) e t) := by
  have a1 : Below Y.heap.size Y Y.drew := (Below.refl _ _).drew
  have a2 : Below Y.heap.size Y.drew (Lib.bytesWorld Y.drew e s) := below_bw Y.drew e s
  have a3 := below_bw (Lib.bytesWorld Y.drew e s) e t
  have h : Y.heap.size ≤ (Lib.bytesWorld Y.drew e s).heap.size := a2.size
  exact (a1.trans a2).trans (a3.mono h)
/-- The two strings. -/
def ClP (w : World) (e : Ending) (w' : World) : Prop := ∃ u v, e = .returned (.tuple #[u, v, .bool true]) ∧ Rd w' u [97] ∧ Rd w' v [98] ∧ Below w.heap.size w w'
set_option maxHeartbeats 2000000 in
theorem Clash_bk {w : World} {p S T : Nat} {q : Option Addr} {k : Nat} (h : BkS w p S T (S1 (.slice q 2 k)) 1 T2 2 dgA true) (ho : w.ownsRow 0 9 1 (.slice q 2 k) 2 [.string ⟨#[97]⟩, .string ⟨#[98]⟩]) :
    Calls Tryd.prog 12 #[.pointer (some ⟨p, 0, none⟩)] w (ClP w) := by
  obtain ⟨g, hq⟩ : ∃ g, q = some ⟨g, 0, none⟩ := by
    rcases ho.2 with ⟨_, h0⟩ | ⟨g, cap, cur, e, _⟩
    · omega
    · simp only [Value.slice.injEq] at e; exact ⟨g, e.1⟩
  subst hq
  obtain ⟨c0, c1, c34, ctw⟩ := h.cells
  have hlA := dgA_len
  have LH := look_h h.drew.ms
  have hoY := Lib.hid (own_on ho ((Below.refl w.heap.size w).drew))
  have BY : Hid (Below w.heap.size w w.drew) := (Below.refl _ _).drew
  clear ho
  go_enter Tryd.func12, Tryd.ntmps12
  go_wp2_with fail
  refine (made_bk h).mono ?_
  rintro e w1 ⟨rfl, hw1⟩
  obtain rfl := hw1.symm
  clear hw1
  go_wp2_with fail
  go_region
  clear c0 c1 c34 ctw LH h
  generalize w.drew = Y at *
  go_wp2_with fail
  have hc := hoY.out.cells (g := g) rfl
  have ca := hc 0 _ rfl
  have cb := hc 1 _ rfl
  rw [addr_add] at ca cb
  have hgl := lt_of_cell ca
  have hgl1 := lt_of_cell cb
  have ea : (Lib.bytesWorld Y.drew 5 ⟨#[97]⟩).cell? ⟨g, 0, none⟩ = _ := ((below_bw Y.drew 5 ⟨#[97]⟩).cell hgl).trans ca
  have eb : (Lib.bytesWorld Y.drew 5 ⟨#[97]⟩).cell? ⟨g, 1, none⟩ = _ := ((below_bw Y.drew 5 ⟨#[97]⟩).cell hgl1).trans cb
  have ea2 : (Lib.bytesWorld Y.drew 5 ⟨#[98]⟩).cell? ⟨g, 0, none⟩ = _ := ((below_bw Y.drew 5 ⟨#[98]⟩).cell hgl).trans ca
  have eb2 : (Lib.bytesWorld Y.drew 5 ⟨#[98]⟩).cell? ⟨g, 1, none⟩ = _ := ((below_bw Y.drew 5 ⟨#[98]⟩).cell hgl1).trans cb
  have FA : Hid (ClP w (.returned (.tuple #[.slice (some ⟨Y.drew.heap.size, 0, none⟩) 1 (grownCap Y.drew 1 0 5), .slice (some ⟨(Lib.bytesWorld Y.drew 5 ⟨#[97]⟩).heap.size, 0, none⟩) 1 (grownCap (Lib.bytesWorld Y.drew 5 ⟨#[97]⟩) 1 0 5), .bool true])) (Lib.bytesWorld (Lib.bytesWorld Y.drew 5 ⟨#[97]⟩) 5 ⟨#[98]⟩)) := by
    refine ⟨_, _, rfl, (rd_bw Y.drew 97 _).on (below_bw _ _ _), rd_bw _ 98 _, ?_⟩
    exact BY.out.trans ((two_bw Y _ _ _).mono BY.out.size)
  have FB : Hid (ClP w (.returned (.tuple #[.slice (some ⟨(Lib.bytesWorld Y.drew 5 ⟨#[98]⟩).heap.size, 0, none⟩) 1 (grownCap (Lib.bytesWorld Y.drew 5 ⟨#[98]⟩) 1 0 5), .slice (some ⟨Y.drew.heap.size, 0, none⟩) 1 (grownCap Y.drew 1 0 5), .bool true])) (Lib.bytesWorld (Lib.bytesWorld Y.drew 5 ⟨#[98]⟩) 5 ⟨#[97]⟩)) := by
    refine ⟨_, _, rfl, rd_bw _ 97 _, (rd_bw Y.drew 98 _).on (below_bw _ _ _), ?_⟩
    exact BY.out.trans ((two_bw Y _ _ _).mono BY.out.size)
  have V1 := Lib.run_convert_string_bytes (P := Tryd.prog) Y.drew 9 22 5 ⟨#[97]⟩ Tryd.underlying9 Tryd.underlying22 Tryd.underlying5
  have V2 := Lib.run_convert_string_bytes (P := Tryd.prog) Y.drew 9 22 5 ⟨#[98]⟩ Tryd.underlying9 Tryd.underlying22 Tryd.underlying5
  have V3 := Lib.run_convert_string_bytes (P := Tryd.prog) (Lib.bytesWorld Y.drew 5 ⟨#[97]⟩) 9 22 5 ⟨#[98]⟩ Tryd.underlying9 Tryd.underlying22 Tryd.underlying5
  have V4 := Lib.run_convert_string_bytes (P := Tryd.prog) (Lib.bytesWorld Y.drew 5 ⟨#[98]⟩) 9 22 5 ⟨#[97]⟩ Tryd.underlying9 Tryd.underlying22 Tryd.underlying5
  clear hc hoY
  go_region
  all_goals
    go_wp2_with fail
    first | exact bodyPost_ret (by simp [results, Tryd.results12, go_sem]) rfl FA.out | exact bodyPost_ret (by simp [results, Tryd.results12, go_sem]) rfl FB.out
end Go.Proofs.YtimcjnocmbbahaaDoor
