/-
  An op of the book's laws: whether it is long; its first part.
-/
import Derived.Test.YtimcjnocmbbahaaDoorBookNilC
import Derived.Test.YtimcjnocmbbahaaDoorRefTagged
namespace Go.Proofs.YtimcjnocmbbahaaDoor
open Go.RowKit
set_option maxRecDepth 100000

theorem PtS.rdl {w w' : World} {L : List (List Int)} {v : Value} {vs : List Value} (h : PtS w w' L L.length v vs) : RdL w' v L [] := by
  rcases h.own.2 with ⟨rfl, h0⟩ | ⟨g, cap, cur, rfl, _, hg, _, _, _, htake⟩
  · have : L = [] := List.eq_nil_of_length_eq_zero h0
    subst this
    exact ⟨none, 0, rfl, .inl rfl⟩
  · refine ⟨_, cap, rfl, .inr ⟨g, 0, rfl, by simp, fun i hi => ?_⟩⟩
    have hv : i < vs.length := by rw [h.len]; exact hi
    refine ⟨vs[i], ?_, ?_, by simp⟩
    · have := h.own.cells (g := g) rfl i vs[i] (by simp [hv])
      rw [addr_add] at this
      exact this
    · exact rd_of_row ((h.each i vs[i] (by simp [hv])).1)
theorem RdL.onb {w W : World} {v : Value} {L : List (List Int)} (h : RdL w v L []) (hb : Below w.heap.size w W) : RdL W v L [] := h.chg (Chg.below hb (Nat.le_refl _) [])
def opRow (k : Int) (s : ByteArray) (vL : Value) (F : List Int) : List Value := [.int .i64 k, .string s, vL] ++ hc F
theorem opRow_len {k : Int} {s : ByteArray} {vL : Value} {F : List Int} (h : F.length = 32) : (opRow k s vL F).length = 35 := by simp [opRow, hc_len, h]
/-- What the loop reckons. -/
def Tot4 (L : List (List Int)) (i t : Nat) : Prop := t ≤ 9000 ∧ (t ≤ 4000 → (blobs (L.take i)).length = 8 * i + t)
theorem Tot4.zero (L : List (List Int)) : Tot4 L 0 0 := ⟨by omega, fun _ => by simp [blobs]⟩
theorem Tot4.succ {L : List (List Int)} {i t : Nat} (h : Tot4 L i t) (hi : i < L.length) (ht : t ≤ 4000) : Tot4 L (i + 1) (t + min (L.getD i []).length 5000) := by
  refine ⟨by omega, fun h2 => ?_⟩
  rw [blobs_len hi, h.2 ht]
  omega
/-- Long, or not. -/
def LongP (w : World) (L : List (List Int)) (e : Ending) (w' : World) : Prop := ∃ b, e = .returned (.bool b) ∧ (b = false → (blobs L).length ≤ 6000 ∧ L.length ≤ 200) ∧ Below w.heap.size w w'
theorem opAt {W : World} {b : Nat} {k : Int} {s : ByteArray} {vL : Value} {F : List Int} {T : TypeId} {fr : Nat × Nat} (h : W.heap[b]? = some (.cells (opRow k s vL F).toArray T fr)) :
    W.cell? ⟨b, 1, none⟩ = some (.string s) ∧ W.cell? ⟨b, 2, none⟩ = some vL := by
  refine ⟨?_, ?_⟩ <;> rw [Joins.cell_of_block h] <;> rfl
set_option maxHeartbeats 2000000 in
theorem Long_any {w : World} {k : Int} {s : ByteArray} {vL : Value} {F : List Int} {L : List (List Int)} (hL : RdL w vL L []) (hln : L.length ≤ maxLen) :
    Calls Tryd.prog 10 #[.agg (opRow k s vL F).toArray] w (LongP w L) := by
  obtain ⟨q, c, rfl⟩ : ∃ q c, vL = .slice q L.length c := by obtain ⟨q, c, e, _⟩ := hL; exact ⟨q, c, e⟩
  have B1 := Lib.hid ((Below.refl w.heap.size w).alloc (Nat.le_refl _) (.cells (opRow k s (.slice q L.length c) F).toArray 30))
  have HL := Lib.hid (hL.onb B1.out)
  obtain ⟨c1, c2⟩ := opAt (heap_alloc_new w (.cells (opRow k s (.slice q L.length c) F).toArray 30))
  unfold maxLen at hln
  clear hL
  go_enter Tryd.func10, Tryd.ntmps10
  go_wp2_with fail
  generalize w.alloc (.cells (opRow k s (.slice q L.length c) F).toArray 30) = W1 at *
  go_loop [3, 4] (fun tv iv => ∃ (i t : Nat), iv = .int .i64 i ∧ tv = .int .i64 t ∧ i ≤ L.length ∧ Hid (Tot4 L i t)) (fun _ iv => L.length - (intOf iv).toNat)
  case atStart => exact ⟨0, 0, rfl, rfl, by omega, Tot4.zero L⟩
  case round =>
    obtain ⟨i, t, rfl, rfl, hi, hTo⟩ := hrel
    have ht5 := hTo.out.1
    by_cases ht2 : t ≤ 4000
    · have d0 : decide ((t : Int) ≤ 4000) = true := by rw [decide_eq_true_iff]; omega
      have d1 : decide (4000 < (t : Int)) = false := by rw [decide_eq_false_iff_not]; omega
      by_cases hlt : i < L.length
      · obtain ⟨b, off, r, m, kk, -, rfl, -, hc1, rfl, -, -⟩ := HL.out.at hlt
        have HN := Lib.hid (hTo.out.succ hlt ht2)
        have i0 : (0 : Int) ≤ (i : Int) := by omega
        have i1 : (i : Int) < (L.length : Int) := by omega
        obtain ⟨lb, hlb⟩ : ∃ lb, (L.getD i []).length = lb := ⟨_, rfl⟩
        rw [hlb] at hc1 HN
        clear hlb hTo
        go_wp2_with fail
        go_round
        case rel => exact ⟨i + 1, _, by go_num, by go_num, by omega, HN⟩
        case measure => simp [intOf]; omega
      · obtain rfl : i = L.length := by omega
        have hbl := hTo.out.2 ht2
        rw [List.take_length] at hbl
        have HBL := Lib.hid hbl
        clear hbl hTo hlt
        by_cases hm : L.length ≤ 200
        · have HP : Hid (LongP w L (.returned (.bool false)) W1) := ⟨_, rfl, fun _ => ⟨by have := HBL.out; omega, hm⟩, B1.out⟩
          have d3 : decide (200 < (L.length : Int)) = false := by rw [decide_eq_false_iff_not]; omega
          go_wp2_with fail
          go_ret
          exact HP.out
        · have HP : Hid (LongP w L (.returned (.bool true)) W1) := ⟨_, rfl, fun h => (by cases h), B1.out⟩
          have d3 : decide (200 < (L.length : Int)) = true := by rw [decide_eq_true_iff]; omega
          go_wp2_with fail
          go_ret
          exact HP.out
    · have HP : Hid (LongP w L (.returned (.bool true)) W1) := ⟨_, rfl, fun h => (by cases h), B1.out⟩
      have d0 : decide ((t : Int) ≤ 4000) = false := by rw [decide_eq_false_iff_not]; omega
      have d1 : decide (4000 < (t : Int)) = true := by rw [decide_eq_true_iff]; omega
      clear hTo
      by_cases hlt : i < L.length
      · go_wp2_with fail
        go_ret
        exact HP.out
      · go_wp2_with fail
        go_ret
        exact HP.out

/-- The list's first part, with its room. -/
def Cap0 (w : World) (vL : Value) (L : List (List Int)) : Prop := L = [] ∨ ∃ b off c u, vL = .slice (some ⟨b, off, none⟩) L.length c ∧ w.cell? ⟨b, off, none⟩ = some u ∧ RdC w u (L.getD 0 [])
theorem Cap0.on {w w' : World} {vL : Value} {L : List (List Int)} (h : Cap0 w vL L) (hb : Below w.heap.size w w') : Cap0 w' vL L := by
  rcases h with h | ⟨b, off, c, u, e, hc, hr⟩
  · exact .inl h
  · exact .inr ⟨b, off, c, u, e, by rw [hb.cell (lt_of_cell hc)]; exact hc, rdc_onK hr hb⟩
def FirstP (w : World) (L : List (List Int)) (e : Ending) (w' : World) : Prop := ∃ u, e = .returned u ∧ RdC w' u (L.getD 0 []) ∧ Below w.heap.size w w'
theorem first_any {w : World} {k : Int} {s : ByteArray} {vL : Value} {F : List Int} {L : List (List Int)} (hC : Cap0 w vL L) (hv : ∃ q c, vL = .slice q L.length c) (hln : L.length ≤ maxLen) :
    Calls Tryd.prog 14 #[.agg (opRow k s vL F).toArray] w (FirstP w L) := by
  obtain ⟨q, c, rfl⟩ := hv
  have B1 := Lib.hid ((Below.refl w.heap.size w).alloc (Nat.le_refl _) (.cells (opRow k s (.slice q L.length c) F).toArray 30))
  obtain ⟨c1, c2⟩ := opAt (heap_alloc_new w (.cells (opRow k s (.slice q L.length c) F).toArray 30))
  have H1 := hC.on B1.out
  unfold maxLen at hln
  clear hC
  by_cases h0 : L = []
  · have HP : Hid (FirstP w L (.returned (.slice none 0 0)) (w.alloc (.cells (opRow k s (.slice q L.length c) F).toArray 30))) := ⟨_, rfl, ⟨none, 0, by rw [h0]; rfl, by rw [h0]; simp, .inl (by rw [h0]; simp)⟩, B1.out⟩
    have hpi : ((L.length : Int) == 0) = true := by rw [h0]; rfl
    clear H1 h0
    go_enter Tryd.func14, Tryd.ntmps14
    go_wp2_with fail
    go_ret
    exact HP.out
  · have hp : 0 < L.length := List.length_pos_iff.2 h0
    rcases H1 with h | ⟨b, off, c', u, e, hc, hr⟩
    · exact absurd h h0
    simp only [Value.slice.injEq] at e
    obtain ⟨rfl, -, rfl⟩ := e
    have hpi : ((L.length : Int) == 0) = false := by rw [beq_eq_false_iff_ne]; omega
    have HP : Hid (FirstP w L (.returned u) (w.alloc (.cells (opRow k s (.slice (some ⟨b, off, none⟩) L.length c) F).toArray 30))) := ⟨u, rfl, hr, B1.out⟩
    clear hr h0
    go_enter Tryd.func14, Tryd.ntmps14
    go_wp2_with fail
    go_ret
    exact HP.out
end Go.Proofs.YtimcjnocmbbahaaDoor
