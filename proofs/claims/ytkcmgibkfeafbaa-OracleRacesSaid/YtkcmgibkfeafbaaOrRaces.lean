/-
  The walk of basculelaw18.OracleRaces.
-/
import Derived.Test.YtkcmgibkfeafbaaOrKnows
namespace Go.Proofs.Ytkcmgibkfeafbaa
set_option maxRecDepth 100000
open Go.RowKit

theorem tmod50 (x : Int) : -49 ≤ x.tmod 50 ∧ x.tmod 50 ≤ 49 := by
  rw [Int.tmod_eq_emod]
  split <;> omega
/-- A new block for a proposal, stored at once. -/
theorem box_pr {w : World} {x : Pr} (hx : x.ok) : (w.alloc (.cells pr0.row.toArray 35)).there w.heap.size 0 69 ∧
    ((w.alloc (.cells pr0.row.toArray 35)).setCells w.heap.size 0 x.row).heap[w.heap.size]? = some (.cells x.row.toArray 35 (0, 0)) ∧
    Below w.heap.size w ((w.alloc (.cells pr0.row.toArray 35)).setCells w.heap.size 0 x.row) :=
  ⟨pr_there pr0_ok (heap_alloc_last w _), pr_set pr0_ok hx (heap_alloc_last w _), below_setCells' _ (Nat.le_refl _) _ _ ((Below.refl _ _).alloc (Nat.le_refl _) _)⟩

set_option maxHeartbeats 8000000 in
theorem Races_walk (a b : Int) {F G : List Int} (hF : F.length = 32) (hG : G.length = 32) (w : World) :
    Calls Try.prog 3 #[.int .i64 a, .int .i64 b, .agg (hc F).toArray, .agg (hc G).toArray] w fun e w' => e = .returned (.bool true) ∧ Below w.heap.size w w' := by
  obtain ⟨a1, a2⟩ := tmod50 a
  obtain ⟨b1, b2⟩ := tmod50 b
  have a3 := Int.tmod_nonneg 50 (a := a.tmod 50 + 50) (by omega)
  have a4 := (tmod50 (a.tmod 50 + 50)).2
  have b3 := Int.tmod_nonneg 50 (a := b.tmod 50 + 50) (by omega)
  have b4 := (tmod50 (b.tmod 50 + 50)).2
  have RF0 := HashAt.new w F
  have RG := HashAt.new (w.alloc (.cells (hc F).toArray 23)) G
  have RF := HashAt.alloc RF0 (.cells (hc G).toArray 23)
  have B0 : Below w.heap.size w ((w.alloc (.cells (hc F).toArray 23)).alloc (.cells (hc G).toArray 23)) := ((Below.refl _ _).alloc (Nat.le_refl _) _).alloc (by simp) _
  rw [show (w.alloc (.cells (hc F).toArray 23)).heap.size = w.heap.size + 1 by simp] at RG
  clear RF0
  have hlF := hc_len F
  have hlG := hc_len G
  go_enter Try.func3, Try.ntmps3
  go_wp2_with fail
  generalize hA : 1 + a.tmod 50 % 50 = A
  generalize hB : 1 + b.tmod 50 % 50 = B
  have A1 : 1 ≤ A ∧ A ≤ 50 := by omega
  have B1 : 1 ≤ B ∧ B ≤ 50 := by omega
  clear hA hB a1 a2 a3 a4 b1 b2 b3 b4
  generalize (w.alloc (.cells (hc F).toArray 23)).alloc (.cells (hc G).toArray 23) = w2 at RF RG B0 ⊢
  generalize w.heap.size = bF at RF RG ⊢
  refine (New_any w2 h1 h1_len 5 5 (by omega) (by omega)).mono ?_
  rintro e w3 ⟨p, rfl, S3⟩
  go_wp2_with fail
  refine (num_any _ _).mono ?_
  rintro e wa ⟨rfl, rfl⟩
  go_wp2_with fail
  refine (knows_any _).mono ?_
  rintro e w4 ⟨rfl, B4⟩
  have S4 := S3.on B4
  have c6 := (RF.on S4.below).row hF
  clear S3 B4
  go_wp2_with fail
  refine (Propose_any S4 (by simp only; omega) (by simp) (now := 0) (who := 7) (nb := A) (by omega) (by simp only; omega) (by simp only; omega) hF).mono ?_
  rintro e w5 ⟨rfl, v5, S5⟩
  simp only [List.nil_append, Int.zero_add] at S5
  have c7 := (RG.on S5.below).row hG
  clear S4 c6
  go_wp2_with fail
  refine (Propose_any S5 (by simp only; omega) (by simp) (now := 1) (who := 8) (nb := B) (by omega) (by simp only; omega) (by simp only; omega) hG).mono ?_
  rintro e w6 ⟨rfl, v6, S6⟩
  simp only [List.cons_append, List.nil_append] at S6
  clear S5 c7
  go_wp2_with fail
  refine (num_any _ _).mono ?_
  rintro e wa ⟨rfl, rfl⟩
  go_wp2_with fail
  refine (num_any _ _).mono ?_
  rintro e wa ⟨rfl, rfl⟩
  go_wp2_with fail
  refine (Finalise_early S6 (by simp only; omega) (now := 5) (by omega) (i := 1) (by simp) (by rfl) (by rfl) (by omega) (by simp only; omega)).mono ?_
  rintro e w7 ⟨rfl, B7⟩
  have S7 := S6.on B7
  clear S6 B7
  go_wp2_with fail
  refine (num_any _ _).mono ?_
  rintro e wa ⟨rfl, rfl⟩
  go_wp2_with fail
  refine (Finalise_done S7 (by simp only; omega) (now := 6) (by omega) (i := 1) (by simp) (by rfl) (by rfl) (by omega) (by simp only; omega) (by rfl) (by rfl) (by simp) (by simp only; omega)).mono ?_
  rintro e w8 ⟨rfl, v8, S8⟩
  simp only [List.set_cons_succ, List.set_cons_zero, List.nil_append] at S8
  clear S7
  go_wp2_with fail
  refine (num_any _ _).mono ?_
  rintro e wa ⟨rfl, rfl⟩
  go_wp2_with fail
  refine (Finalise_stale S8 (by simp only; omega) (now := 6) (by omega) (i := 0) (by simp) (by rfl) (by rfl) (by omega) (by simp only; omega) (by simp only; omega) (by simp) (by simp only; omega)).mono ?_
  rintro e w9 ⟨rfl, v9, S9⟩
  simp only [List.set_cons_zero, List.cons_append, List.nil_append] at S9
  clear S8
  go_wp2_with fail
  refine (num_any _ _).mono ?_
  rintro e wa ⟨rfl, rfl⟩
  go_wp2_with fail
  have k0 : Pr.ok ⟨A, 0, 0, 3, F, h1, 7⟩ := ⟨hF, h1_len⟩
  have k1 : Pr.ok ⟨B, 0, 1, 1, G, h1, 8⟩ := ⟨hG, h1_len⟩
  have P0 := Proposal_any S9 (by simp only; omega) (i := 0) (by simp)
  simp only [List.getElem_cons_zero] at P0
  have l0 := k0.len
  have l1 := k1.len
  refine P0.mono ?_
  rintro e w10 ⟨rfl, B10⟩
  have S10 := S9.on B10
  obtain ⟨ct, R15, B15⟩ := box_pr (w := w10) k0
  have S11 := S10.on B15
  have lp15 := S10.blk.lt
  clear P0 S9 S10 B10
  go_wp2_with fail
  generalize (w10.alloc (.cells pr0.row.toArray 35)).setCells w10.heap.size 0 (Pr.row ⟨A, 0, 0, 3, F, h1, 7⟩) = w11 at R15 S11 ⊢
  generalize w10.heap.size = b15 at R15 lp15 ⊢
  clear ct B15
  have P1 := Proposal_any S11 (by simp only; omega) (i := 1) (by simp)
  simp only [List.getElem_cons_succ, List.getElem_cons_zero] at P1
  refine P1.mono ?_
  rintro e w12 ⟨rfl, B12⟩
  have S12 := S11.on B12
  have R15 := blk_on R15 B12
  obtain ⟨ct, R17, B17⟩ := box_pr (w := w12) k1
  have S13 := S12.on B17
  have R15 := blk_on R15 B17
  have lp17 := S12.blk.lt
  clear P1 S11 S12 B12
  go_wp2_with fail
  generalize (w12.alloc (.cells pr0.row.toArray 35)).setCells w12.heap.size 0 (Pr.row ⟨B, 0, 1, 1, G, h1, 8⟩) = w13 at R15 R17 S13 ⊢
  generalize w12.heap.size = b17 at R17 lp17 ⊢
  clear ct B17
  refine (Final_any S13.blk S13.root (by simp only; omega)).mono ?_
  rintro e w14 ⟨rfl, B14⟩
  have S14 := S13.on B14
  have R15 := blk_on R15 B14
  have R17 := blk_on R17 B14
  obtain ⟨ct, R20, B20⟩ := box_hash (w := w14) hG
  have S15 := S14.on B20
  have R15 := blk_on R15 B20
  have R17 := blk_on R17 B20
  have lp20 := S14.blk.lt
  clear S13 S14 B14
  obtain ⟨g, c, e9, -⟩ := pays_two (by simpa using S15.pay)
  try simp only at e9
  subst e9
  go_wp2_with fail
  generalize (w14.alloc (.cells (hc zero32).toArray 23)).setCells w14.heap.size 0 (hc G) = w15 at R15 R17 R20 S15 ⊢
  generalize w14.heap.size = b20 at R20 lp20 ⊢
  clear ct B20
  refine (Pays_any S15 (by simp only; omega)).mono ?_
  rintro e w16 ⟨rfl, S16, O16, C16⟩
  obtain ⟨g', c', e16, y0, y1, y2, y3⟩ := pays_two (by simpa using O16)
  simp only [Value.slice.injEq, Option.some.injEq, Addr.mk.injEq, true_and, and_true] at e16
  obtain ⟨rfl, rfl⟩ := e16
  have R15 : w16.heap[b15]? = _ := (C16.block b15 (Array.getElem?_eq_some_iff.1 R15).1 (by simp; omega)).trans R15
  have R17 : w16.heap[b17]? = _ := (C16.block b17 (Array.getElem?_eq_some_iff.1 R17).1 (by simp; omega)).trans R17
  have R20 := hash_chg R20 C16 (by simp; omega)
  obtain ⟨-, -, -, x3, -, -, -⟩ := pr_facts k0 R15
  obtain ⟨-, -, -, x3', -, -, -⟩ := pr_facts k1 R17
  simp only at x3 x3'
  have x20 := R20.row hG
  have x7 := (RG.on S16.below).row hG
  clear O16 C16 S15 R15 R17 R20 k0 k1 l0 l1
  go_wp2_with fail
  refine (Bonds_any S16.blk S16.root (by simp only; omega)).mono ?_
  rintro e wb ⟨rfl, rfl⟩
  go_wp2_with fail
  refine (Finalise_over S16 (by simp only; omega) (now := 9) (by omega) (i := 0) (by simp) (by rfl) (by rfl)).mono ?_
  rintro e w17 ⟨rfl, B17⟩
  have S17 := S16.on B17
  clear S16
  go_wp2_with fail
  refine (num_any _ _).mono ?_
  rintro e wa ⟨rfl, rfl⟩
  go_wp2_with fail
  go_ret
  refine ⟨rfl, B0.trans ?_⟩
  exact S17.below.mono B0.size
end Go.Proofs.Ytkcmgibkfeafbaa
