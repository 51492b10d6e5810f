/-
  basculelaw04.knows: two strings under one hash.
-/
import Derived.Test.YtimcjnocmbbahaaDoorBookPut
import Derived.Test.YtimcjnocmbbahaaDoorShaSum
namespace Go.Proofs.YtimcjnocmbbahaaDoor
open Go.RowKit
set_option maxRecDepth 100000

@[go_sem ↓] theorem Tryd.build_bk (ps : Array (Nat × Value)) : Instr.build 49 ps = rowBuild 49 ps := rfl
@[go_sem] theorem Tryd.run_bk (w : World) (S T : Nat) : (rowBuild 49 #[(0, .map (some S)), (1, .map (some T))]).run Tryd.prog w = .ok (.agg (bkRow S T zero32 false).toArray) w := by
  unfold rowBuild; kernel_rfl
/-- A book that is empty. -/
def NewP (w : World) (e : Ending) (w' : World) : Prop := ∃ p S T, e = .returned (.pointer (some ⟨p, 0, none⟩)) ∧ BkS w' p S T #[] 0 #[] 0 zero32 false ∧ Below w.heap.size w w' ∧ w.heap.size ≤ p ∧ w.heap.size ≤ S ∧ w.heap.size ≤ T
theorem rdc_onK {w w' : World} {v : Value} {xs : List Int} (h : RdC w v xs) (hb : Below w.heap.size w w') : RdC w' v xs := by
  obtain ⟨q, c, rfl, hl, hx | ⟨b, off, rfl, hx⟩⟩ := h
  · exact ⟨q, c, rfl, hl, .inl hx⟩
  · exact ⟨_, c, rfl, hl, .inr ⟨b, off, rfl, fun i hi => by rw [hb.cell (lt_of_cell (hx i hi))]; exact hx i hi⟩⟩
theorem New_bk (w : World) : Calls Tryd.prog 22 #[] w (NewP w) := by
  have hmm := @run_makeMap Tryd.prog
  have z2 : ((w.alloc (.map #[] 0)).alloc (.map #[] 0)).heap.size = w.heap.size + 1 + 1 := by simp
  have B1 : Below w.heap.size w (w.alloc (.map #[] 0)) := (Below.refl _ _).alloc (Nat.le_refl _) _
  have B2 : Below (w.alloc (.map #[] 0)).heap.size (w.alloc (.map #[] 0)) ((w.alloc (.map #[] 0)).alloc (.map #[] 0)) := (Below.refl _ _).alloc (Nat.le_refl _) _
  have B3 : Below ((w.alloc (.map #[] 0)).alloc (.map #[] 0)).heap.size ((w.alloc (.map #[] 0)).alloc (.map #[] 0)) (((w.alloc (.map #[] 0)).alloc (.map #[] 0)).alloc (.cells (bkRow w.heap.size (w.heap.size + 1) zero32 false).toArray 49)) := (Below.refl _ _).alloc (Nat.le_refl _) _
  have N : Hid (NewP w (.returned (.pointer (some ⟨w.heap.size + 1 + 1, 0, none⟩))) (((w.alloc (.map #[] 0)).alloc (.map #[] 0)).alloc (.cells (bkRow w.heap.size (w.heap.size + 1) zero32 false).toArray 49))) := by
    refine ⟨_, w.heap.size, w.heap.size + 1, rfl, ⟨?_, ?_, ?_, by omega, zero32_len⟩, B1.trans ((B2.trans (B3.mono B2.size)).mono B1.size), by omega, by omega, by omega⟩
    · have := heap_alloc_new ((w.alloc (.map #[] 0)).alloc (.map #[] 0)) (.cells (bkRow w.heap.size (w.heap.size + 1) zero32 false).toArray 49)
      rw [z2] at this; exact this
    · exact blk_onB (blk_onB (heap_alloc_new w _) B2) B3
    · have := heap_alloc_new (w.alloc (.map #[] 0)) (.map #[] 0)
      rw [show (w.alloc (.map #[] 0)).heap.size = w.heap.size + 1 by simp] at this
      exact blk_onB this B3
  clear z2 B1 B2 B3
  go_enter Tryd.func22, Tryd.ntmps22
  go_wp2_with fail
  go_ret
  exact N.out

set_option maxHeartbeats 2000000 in
theorem Sum_bk {w : World} {p S T : Nat} {a : Value} (h : BkS w p S T #[] 0 #[] 0 zero32 false) (ha : RdC w a [97]) (hT : Tbl w) (h0 : 0 ∉ [p, S, T]) :
    Calls Tryd.prog 13 #[.pointer (some ⟨p, 0, none⟩), a] w fun e w' => ∃ q k, e = .returned (.agg (hc dgA).toArray) ∧ Chg w w' [p, S, T] ∧ BkS w' p S T (S1 (.slice q 1 k)) 1 T1 1 zero32 false ∧ w'.ownsRow 0 9 1 (.slice q 1 k) 1 [.string ⟨#[97]⟩] ∧ ∀ g, (Value.slice q 1 k).ownBlock = some g → w.heap.size ≤ g := by
  have hby : Bytes [97] := by unfold Bytes; simp
  have b1 : Below w.heap.size w (w.alloc (.cells (hc zero32).toArray 28)) := (Below.refl _ _).alloc (Nat.le_refl _) _
  have h1 := Lib.hid (h.on b1)
  have R1 := Lib.hid (rdc_onK ha b1)
  have T1' := Lib.hid (hT.on b1 hT.pos)
  have Z1 : Hid ((w.alloc (.cells (hc zero32).toArray 28)).heap[w.heap.size]? = some (.cells (hc zero32).toArray 28 (0, 0))) := heap_alloc_new w _
  have B1 := Lib.hid b1
  have hlA := dgA_len
  clear h ha hT b1
  go_enter Tryd.func13, Tryd.ntmps13
  go_wp2_with fail
  refine (Sum_any R1.out hby T1'.out).mono ?_
  rintro e w2 ⟨rfl, hb2⟩
  rw [sha_a]
  have b3 : Below w2.heap.size w2 ((w2.alloc (.cells (hc zero32).toArray 28)).setCells w2.heap.size 0 (hc dgA)) := set_below
  have hz0 : (hc zero32).length = (hc dgA).length := by rw [hc_len, hc_len, zero32_len, dgA_len]
  have X3 : Hid (((w2.alloc (.cells (hc zero32).toArray 28)).setCells w2.heap.size 0 (hc dgA)).heap[w2.heap.size]? = some (.cells (hc dgA).toArray 28 (0, 0))) := set_blockB hz0
  have ct : (w2.alloc (.cells (hc zero32).toArray 28)).there w2.heap.size 0 32 := there_newB (by rw [hc_len, zero32_len])
  have b13 := hb2.trans (b3.mono hb2.size)
  have h3 := Lib.hid (h1.out.on b13)
  have R3 := Lib.hid (rdc_onK R1.out b13)
  have Z3 := Lib.hid (blk_onB Z1.out b13)
  have B3 := Lib.hid (B1.out.trans (b13.mono B1.out.size))
  have cr := row_of X3.out (n := 32) (by rw [hc_len, dgA_len])
  clear h1 R1 T1' Z1 B1 hb2 b3 b13 hz0
  go_wp2_with fail
  clear ct
  generalize (w2.alloc (.cells (hc zero32).toArray 28)).setCells w2.heap.size 0 (hc dgA) = W3 at *
  generalize w2.heap.size = h2 at *
  clear cr
  refine (PutA_any h3.out R3.out.rd).mono ?_
  rintro e w4 ⟨rfl, hC, q, k, hS, hO, hF⟩
  have ne0 : ∀ {b : Nat} {cs : Array Value} {t : TypeId}, W3.heap[b]? = some (.cells cs t (0, 0)) → t ≠ 49 → b ∉ [p, S, T] := fun hb ht hm => by
    simp only [List.mem_cons, List.not_mem_nil, or_false] at hm
    rcases hm with rfl | rfl | rfl
    · rw [h3.out.blk] at hb; simp at hb; exact ht hb.2.symm
    · rw [h3.out.ms] at hb; simp at hb
    · rw [h3.out.mt] at hb; simp at hb
  have X4 : Hid (w4.heap[h2]? = some (.cells (hc dgA).toArray 28 (0, 0))) := (hC.block h2 (lt_blk X3.out) (ne0 X3.out (by decide))).trans X3.out
  have Z4 : Hid (w4.heap[w.heap.size]? = some (.cells (hc zero32).toArray 28 (0, 0))) := (hC.block _ (lt_blk Z3.out) (ne0 Z3.out (by decide))).trans Z3.out
  have C4 := Lib.hid ((Chg.below B3.out (Nat.le_refl _) [p, S, T]).trans hC (fun x hx _ => hx))
  have F4 : Hid (∀ g, (Value.slice q 1 k).ownBlock = some g → w.heap.size ≤ g) := fun g hg => Nat.le_trans B3.out.size (hF g hg)
  have S4 := Lib.hid hS
  have O4 := Lib.hid hO
  clear ne0 hC hF hS hO X3 Z3 B3 h3 R3
  have cr := row_of X4.out (n := 32) (by rw [hc_len, dgA_len])
  have ct : w4.there w.heap.size 0 32 := fun j hj => by
    refine ⟨?_, Joins.unfrozen_of_block Z4.out _⟩
    rw [cell_of_row _ _ _ _ _ _ Z4.out]
    simp [hc_len, zero32_len, hj]
  have cf : rowOf (w4.setCells w.heap.size 0 (hc dgA)) w.heap.size 0 32 = hc dgA := by
    have := setCells_block (b := w.heap.size) (t := 28) (fr := (0, 0)) (hc dgA) (o := 0) (w := w4) (pre := []) (mid := hc zero32) (post := []) (by simpa using Z4.out) rfl (by rw [hc_len, hc_len, zero32_len, dgA_len])
    exact row_of (by simpa using this) (by rw [hc_len, dgA_len])
  go_wp2_with fail
  refine bodyPost_ret (v := .agg (hc dgA).toArray) (by simp [results, Tryd.results13, go_sem, cf, hlA]) rfl ⟨q, k, rfl, chg_setCells2 (.inr (Nat.le_refl _)) _ 0 C4.out, ?_, ?_, F4.out⟩
  · have n1 : p ≠ w.heap.size := fun e => by have := S4.out.blk; rw [e, Z4.out] at this; simp at this
    have n2 : S ≠ w.heap.size := fun e => by have := S4.out.ms; rw [e, Z4.out] at this; simp at this
    have n3 : T ≠ w.heap.size := fun e => by have := S4.out.mt; rw [e, Z4.out] at this; simp at this
    exact ⟨by rw [setCells_other n1]; exact S4.out.blk, by rw [setCells_other n2]; exact S4.out.ms, by rw [setCells_other n3]; exact S4.out.mt, S4.out.ne, S4.out.tw⟩
  · exact own_keep O4.out fun g hg => setCells_other (fun e => own_ne O4.out Z4.out (by decide) (by rw [hg, e])) _ _ _
end Go.Proofs.YtimcjnocmbbahaaDoor
