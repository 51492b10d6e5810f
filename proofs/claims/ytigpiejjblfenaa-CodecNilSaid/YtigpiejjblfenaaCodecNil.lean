/-
  The walk of basculelaw03.CodecNil.
-/
import Derived.Test.YtigpiejjblfenaaCodecN3
import Derived.Test.YtigpiejjblfenaaCodecK
namespace Go.Proofs.Ytigpiejjblfenaa
set_option maxRecDepth 100000
open Go.RowKit

@[go_sem ↓] theorem Try.run_wide0 (w : World) : (Instr.build 44 #[]).run Try.prog w = .ok (.agg #[.int .u64 0, .int .u64 0, .int .u64 0, .int .u64 0]) w := by kernel_rfl
@[go_sem] theorem Try.eq_wide0 (w : World) : (Op.equalIn 10000 44 (.agg #[.int .u64 0, .int .u64 0, .int .u64 0, .int .u64 0]) (.agg #[.int .u64 0, .int .u64 0, .int .u64 0, .int .u64 0])).run Try.prog w = .ok true w := by kernel_rfl

theorem un_first (w : World) : Un ((w.alloc (.cells #[.bool false, .slice none 0 0] 54)).alloc (.cells #[.bool false, .slice none 0 0, .int .i64 0, .int .i64 0] 58)) (.pointer (some ⟨w.heap.size, 0, none⟩)) := by
  refine .inr ⟨_, rfl, ?_⟩
  have h : ((w.alloc (.cells #[.bool false, .slice none 0 0] 54)).alloc (.cells #[.bool false, .slice none 0 0, .int .i64 0, .int .i64 0] 58)).heap[w.heap.size]? = some (.cells #[.bool false, .slice none 0 0] 54 (0, 0)) := by
    rw [Below.heap_alloc _ _ _ (by simp)]
    exact heap_alloc_new w _
  rw [Joins.cell_of_block h]
  rfl
theorem un_second (w : World) : Un ((w.alloc (.cells #[.bool false, .slice none 0 0] 54)).alloc (.cells #[.bool false, .slice none 0 0, .int .i64 0, .int .i64 0] 58)) (.pointer (some ⟨w.heap.size + 1, 0, none⟩)) := by
  refine .inr ⟨_, rfl, ?_⟩
  have h := heap_alloc_new (w.alloc (.cells #[.bool false, .slice none 0 0] 54)) (.cells #[.bool false, .slice none 0 0, .int .i64 0, .int .i64 0] 58)
  rw [show (w.alloc (.cells #[.bool false, .slice none 0 0] 54)).heap.size = w.heap.size + 1 by simp] at h
  rw [Joins.cell_of_block h]
  rfl

set_option maxHeartbeats 4000000 in
theorem Nil_walk {w : World} {cs : List Value} (hx : ItV w cs) :
    Calls Try.prog 4 #[.agg cs.toArray] w fun e w' => e = .returned (.bool true) ∧ Below w.heap.size w w' := by
  obtain ⟨k, vu, vw, vh, vb, e0, ⟨n1, x1, s1, r1⟩, ⟨n2, x2, s2, r2⟩, ⟨n3, x3, s3, r3⟩, ⟨L, l1, l2, l3⟩⟩ := hx.form
  obtain ⟨q1, c1, rfl⟩ : ∃ q c, vu = .slice q n1 c := by obtain ⟨q, c, e, _⟩ := r1; exact ⟨q, c, e⟩
  obtain ⟨q2, c2, rfl⟩ : ∃ q c, vw = .slice q n2 c := by obtain ⟨q, c, e, _⟩ := r2; exact ⟨q, c, e⟩
  obtain ⟨q3, c3, rfl⟩ : ∃ q c, vh = .slice q n3 c := by obtain ⟨q, c, e, _⟩ := r3; exact ⟨q, c, e⟩
  obtain ⟨q4, c4, rfl⟩ : ∃ q c, vb = .slice q L.length c := by obtain ⟨q, c, e, _⟩ := l3; exact ⟨q, c, e⟩
  clear r1 r2 r3 l3 s1 s2 s3 l1 l2
  subst e0
  generalize L.length = n4 at hx ⊢
  have hx0 := Lib.hid hx
  clear hx
  have hb := heap_alloc_new w (.cells #[.int .i64 k, .slice q1 n1 c1, .slice q2 n2 c2, .slice q3 n3 c3, .slice q4 n4 c4] 33)
  have B0 : Below w.heap.size w (w.alloc (.cells #[.int .i64 k, .slice q1 n1 c1, .slice q2 n2 c2, .slice q3 n3 c3, .slice q4 n4 c4] 33)) := (Below.refl _ _).alloc (Nat.le_refl _) _
  have hlt : w.heap.size < (w.alloc (.cells #[.int .i64 k, .slice q1 n1 c1, .slice q2 n2 c2, .slice q3 n3 c3, .slice q4 n4 c4] 33)).heap.size := by simp
  have hz := zero32_len
  go_enter Try.func4, Try.ntmps4
  go_wp2_with fail
  generalize w.alloc (.cells #[.int .i64 k, .slice q1 n1 c1, .slice q2 n2 c2, .slice q3 n3 c3, .slice q4 n4 c4] 33) = w1 at hb B0 hlt ⊢
  generalize w.heap.size = b at hb hlt ⊢
  go_loopw [3, 4, 5] (fun wv rv iv wr => ∃ i : Nat, iv = .int .i64 i ∧ i ≤ 2 ∧ Hid (Un wr wv) ∧ Hid (Un wr rv) ∧ Hid (Below w1.heap.size w1 wr)) (fun _ _ iv _ => 2 - (intOf iv).toNat)
  case atStart => exact ⟨0, rfl, by omega, .inl rfl, .inl rfl, Below.refl _ _⟩
  case round =>
    obtain ⟨i, rfl, hi, hW, hR, hB⟩ := hrel
    by_cases hlt2 : i < 2
    · have hbr := (hB.out.block b hlt).trans hb
      have d0 : wr.cell? ⟨b, 0, none⟩ = _ := (Joins.cell_of_block hbr 0).trans rfl
      have d1 : wr.cell? ⟨b, 1, none⟩ = _ := (Joins.cell_of_block hbr 1).trans rfl
      have d2 : wr.cell? ⟨b, 2, none⟩ = _ := (Joins.cell_of_block hbr 2).trans rfl
      have d3 : wr.cell? ⟨b, 3, none⟩ = _ := (Joins.cell_of_block hbr 3).trans rfl
      have d4 : wr.cell? ⟨b, 4, none⟩ = _ := (Joins.cell_of_block hbr 4).trans rfl
      have hI := hx0.out.on (B0.trans (hB.out.mono B0.size))
      clear hbr
      go_wp2_with fail
      clear d0 d1 d2 d3 d4
      refine (put_nil hW.out hI).mono ?_
      rintro e w2 ⟨rfl, Bw2⟩
      have hW := hW.out.on Bw2
      have hR := hR.out.on Bw2
      have hB := hB.out.trans (Bw2.mono hB.out.size)
      replace hW := Lib.hid hW
      replace hR := Lib.hid hR
      replace hB := Lib.hid hB
      go_wp2_with fail
      refine (num_any _ _).mono ?_
      rintro e wx ⟨rfl, rfl⟩
      go_wp2_with fail
      refine (WBytes_nil hW.out).mono ?_
      rintro e wx ⟨rfl, rfl⟩
      go_wp2_with fail
      refine (Done_nil hR.out).mono ?_
      rintro e wx ⟨rfl, rfl⟩
      go_wp2_with fail
      refine (num_any _ _).mono ?_
      rintro e wx ⟨rfl, rfl⟩
      go_wp2_with fail
      refine (RUint_nil hR.out).mono ?_
      rintro e wx ⟨rfl, rfl⟩
      go_wp2_with fail
      refine (RWide_nil hR.out).mono ?_
      rintro e w3 ⟨rfl, Bw3⟩
      have hW := hW.out.on Bw3
      have hR := hR.out.on Bw3
      have hB := hB.out.trans (Bw3.mono hB.out.size)
      replace hW := Lib.hid hW
      replace hR := Lib.hid hR
      replace hB := Lib.hid hB
      go_wp2_with fail
      refine (RHash_nil hR.out).mono ?_
      rintro e w4 ⟨rfl, Bw4⟩
      have hW := hW.out.on Bw4
      have hR := hR.out.on Bw4
      have hB := hB.out.trans (Bw4.mono hB.out.size)
      replace hW := Lib.hid hW
      replace hR := Lib.hid hR
      replace hB := Lib.hid hB
      go_wp2_with fail
      refine (RBlob_nil hR.out).mono ?_
      rintro e wx ⟨rfl, rfl⟩
      go_wp2_with fail
      refine (RCount_nil hR.out _).mono ?_
      rintro e wx ⟨rfl, rfl⟩
      go_wp2_with fail
      refine (Left_nil hR.out).mono ?_
      rintro e wx ⟨rfl, rfl⟩
      go_wp2_with fail
      have A1 := un_first w4
      have A2 := un_second w4
      have A3 : Below w4.heap.size w4 ((w4.alloc (.cells #[.bool false, .slice none 0 0] 54)).alloc (.cells #[.bool false, .slice none 0 0, .int .i64 0, .int .i64 0] 58)) := ((Below.refl _ _).alloc (Nat.le_refl _) _).alloc (by simp) _
      go_roundw
      case rel => exact ⟨i + 1, by go_num, by omega, A1, A2, hB.out.trans (A3.mono hB.out.size)⟩
      case measure => simp [intOf]; omega
    · obtain rfl : i = 2 := by omega
      go_wp2_with fail
      refine (knows_any _).mono ?_
      rintro e wk ⟨rfl, Bk⟩
      go_wp2_with fail
      go_ret
      exact ⟨rfl, (B0.trans (hB.out.mono B0.size)).trans (Bk.mono (Nat.le_trans B0.size hB.out.size))⟩
end Go.Proofs.Ytigpiejjblfenaa
