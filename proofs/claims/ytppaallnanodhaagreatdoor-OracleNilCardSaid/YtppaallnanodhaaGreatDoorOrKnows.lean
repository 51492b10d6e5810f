/-
  basculelaw18.knows.
-/
import Derived.Test.YtppaallnanodhaaGreatDoorOrFin2
namespace Go.Proofs.YtppaallnanodhaaGreatDoor
set_option maxRecDepth 100000
open Go.RowKit

def h1 : List Int := [1, 0, 0, 0, 0, 0, 0, 0, 0, 0, 0, 0, 0, 0, 0, 0, 0, 0, 0, 0, 0, 0, 0, 0, 0, 0, 0, 0, 0, 0, 0, 0]
def h2 : List Int := [2, 0, 0, 0, 0, 0, 0, 0, 0, 0, 0, 0, 0, 0, 0, 0, 0, 0, 0, 0, 0, 0, 0, 0, 0, 0, 0, 0, 0, 0, 0, 0]
theorem h1_len : h1.length = 32 := rfl
theorem h2_len : h2.length = 32 := rfl
@[go_sem] theorem Tryz.run_h1 (w : World) : (rowBuild 24 #[(0, .int .u8 1)]).run Tryz.prog w = .ok (.agg (hc h1).toArray) w := by
  unfold rowBuild; kernel_rfl
@[go_sem] theorem Tryz.run_h2 (w : World) : (rowBuild 24 #[(0, .int .u8 2)]).run Tryz.prog w = .ok (.agg (hc h2).toArray) w := by
  unfold rowBuild; kernel_rfl
@[go_sem] theorem Tryz.eq_pay7 (w : World) : (Op.equalIn 10000 93 (.agg #[.int .u64 7, .int .i64 1]) (.agg #[.int .u64 7, .int .i64 1])).run Tryz.prog w = .ok true w := by kernel_rfl
@[go_sem] theorem Tryz.eq_pay8 (w : World) : (Op.equalIn 10000 93 (.agg #[.int .u64 8, .int .i64 1]) (.agg #[.int .u64 8, .int .i64 1])).run Tryz.prog w = .ok true w := by kernel_rfl

theorem blk_on {w w' : World} {b : Nat} {x : Obj} (h : w.heap[b]? = some x) (hb : Below w.heap.size w w') : w'.heap[b]? = some x := by
  rw [hb.block b (Array.getElem?_eq_some_iff.1 h).1]; exact h
theorem pays_one {w : World} {v : Value} (h : w.ownsRow 0 93 2 v 1 (payRow (7, 1))) : ∃ g c, v = .slice (some ⟨g, 0, none⟩) 1 c ∧ w.cell? ⟨g, 0, none⟩ = some (.int .u64 7) ∧ w.cell? ⟨g, 1, none⟩ = some (.int .i64 1) := by
  rcases h.2 with ⟨_, h0⟩ | ⟨g, cap, cur, rfl, _⟩
  · omega
  · have hc := h.cells (g := g) rfl
    have c0 := hc 0 _ rfl
    have c1 := hc 1 _ rfl
    rw [addr_add] at c0 c1
    exact ⟨g, cap, rfl, c0, c1⟩
theorem pays_two {w : World} {v : Value} (h : w.ownsRow 0 93 2 v 2 (payRow (8, 1) ++ payRow (7, 1))) : ∃ g c, v = .slice (some ⟨g, 0, none⟩) 2 c ∧
    w.cell? ⟨g, 0, none⟩ = some (.int .u64 8) ∧ w.cell? ⟨g, 1, none⟩ = some (.int .i64 1) ∧ w.cell? ⟨g, 2, none⟩ = some (.int .u64 7) ∧ w.cell? ⟨g, 3, none⟩ = some (.int .i64 1) := by
  rcases h.2 with ⟨_, h0⟩ | ⟨g, cap, cur, rfl, _⟩
  · omega
  · have hc := h.cells (g := g) rfl
    have c0 := hc 0 _ rfl
    have c1 := hc 1 _ rfl
    have c2 := hc 2 _ rfl
    have c3 := hc 3 _ rfl
    rw [addr_add] at c0 c1 c2 c3
    exact ⟨g, cap, rfl, c0, c1, c2, c3⟩

/-- A new block for a hash, stored at once. -/
theorem box_hash {w : World} {F : List Int} (hF : F.length = 32) : (w.alloc (.cells (hc zero32).toArray 24)).there w.heap.size 0 32 ∧
    HashAt ((w.alloc (.cells (hc zero32).toArray 24)).setCells w.heap.size 0 (hc F)) w.heap.size F ∧ Below w.heap.size w ((w.alloc (.cells (hc zero32).toArray 24)).setCells w.heap.size 0 (hc F)) := by
  have R := HashAt.new w zero32
  refine ⟨fun j hj => ⟨?_, Joins.unfrozen_of_block R _⟩, ?_, below_setCells' _ (Nat.le_refl _) _ _ ((Below.refl _ _).alloc (Nat.le_refl _) _)⟩
  · rw [cell_of_row _ _ _ _ _ _ R]
    simp [hc_len, zero32_len, hj]
  · have := setCells_block (b := w.heap.size) (t := 24) (fr := (0, 0)) (hc F) (o := 0) (w := w.alloc (.cells (hc zero32).toArray 24)) (pre := []) (mid := hc zero32) (post := []) (by simp only [List.nil_append, List.append_nil]; exact R) rfl (by rw [hc_len, hc_len, hF, zero32_len])
    simpa only [HashAt, List.nil_append, List.append_nil] using this

set_option maxHeartbeats 4000000 in
theorem knows_any (w : World) : Calls Tryz.prog 5 #[] w fun e w' => e = .returned (.bool true) ∧ Below w.heap.size w w' := by
  go_enter Tryz.func5, Tryz.ntmps5
  go_wp2_with fail
  refine (New_any w h1 h1_len 5 9 (by omega) (by omega)).mono ?_
  rintro e w1 ⟨p, rfl, S1⟩
  go_wp2_with fail
  refine (Propose_any S1 (by simp only; omega) (by simp) (now := 10) (who := 7) (nb := 3) (by omega) (by simp only; omega) (by simp only; omega) h2_len).mono ?_
  rintro e w2 ⟨rfl, v2, S2⟩
  simp only [List.nil_append, Int.zero_add] at S2
  go_wp2_with fail
  refine (Finalise_early S2 (by simp only; omega) (now := 14) (by omega) (i := 0) (by simp) (by rfl) (by rfl) (by omega) (by simp only; omega)).mono ?_
  rintro e w3 ⟨rfl, B3⟩
  have S3 := S2.on B3
  clear S1 S2 B3
  go_wp2_with fail
  refine (Finalise_done S3 (by simp only; omega) (now := 15) (by omega) (i := 0) (by simp) (by rfl) (by rfl) (by omega) (by simp only; omega) (by rfl) (by rfl) (by simp) (by simp only; omega)).mono ?_
  rintro e w4 ⟨rfl, v4, S4⟩
  clear S3
  simp only [List.set_cons_zero, List.nil_append, Int.sub_self] at S4
  obtain ⟨g, c, e4, -, -⟩ := pays_one (by simpa using S4.pay)
  try simp only at e4
  subst e4
  go_wp2_with fail
  refine (Pays_any S4 (by simp only; omega)).mono ?_
  rintro e w5 ⟨rfl, S5, O5, C5⟩
  obtain ⟨g', c', e5, c0, c1⟩ := pays_one (by simpa using O5)
  simp only [Value.slice.injEq, Option.some.injEq, Addr.mk.injEq, true_and, and_true] at e5
  obtain ⟨rfl, rfl⟩ := e5
  try simp only at S5
  go_wp2_with fail
  refine (Final_any S5.blk S5.root (by simp only; omega)).mono ?_
  rintro e w6 ⟨rfl, B6⟩
  have S6 := S5.on B6
  have hg5 := lt_of_cell c0
  have d0 := (World.cell?_of_block (w := w5) (w' := w6) (B6.block g hg5)).trans c0
  have d1 := (World.cell?_of_block (w := w5) (w' := w6) (B6.block g hg5)).trans c1
  obtain ⟨ct, R7, B7⟩ := box_hash (w := w6) h2_len
  have e7 := World.cell?_of_block (w := w6) (B7.block g (lt_of_cell d0)) (a := ⟨g, 0, none⟩)
  have e7' := World.cell?_of_block (w := w6) (B7.block g (lt_of_cell d0)) (a := ⟨g, 1, none⟩)
  have x0 := e7.trans d0
  have x1 := e7'.trans d1
  have cr := R7.row h2_len
  have S7 := S6.on B7
  clear e7 e7' c0 c1 O5 C5 S5 S4 d0 d1 hg5
  have hl2 := h2_len
  go_wp2_with fail
  generalize (w6.alloc (.cells (hc zero32).toArray 24)).setCells w6.heap.size 0 (hc h2) = w7 at x0 x1 cr S7 ⊢
  clear ct R7 B7
  refine (num_any _ _).mono ?_
  rintro e wa ⟨rfl, rfl⟩
  go_wp2_with fail
  refine (num_any _ _).mono ?_
  rintro e wa ⟨rfl, rfl⟩
  go_wp2_with fail
  refine (num_any _ _).mono ?_
  rintro e wa ⟨rfl, rfl⟩
  go_wp2_with fail
  refine (num_any _ _).mono ?_
  rintro e wa ⟨rfl, rfl⟩
  go_wp2_with fail
  refine (Bonds_any S7.blk S7.root (by simp only; omega)).mono ?_
  rintro e wa ⟨rfl, rfl⟩
  go_wp2_with fail
  go_ret
  exact ⟨rfl, S7.below⟩
end Go.Proofs.YtppaallnanodhaaGreatDoor
