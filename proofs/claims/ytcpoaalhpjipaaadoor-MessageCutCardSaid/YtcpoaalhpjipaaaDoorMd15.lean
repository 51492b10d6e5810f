/-
  The walks of basculelaw02: Lent, Stays.; The walk of basculelaw09.MessageBytes.; The frame of every law's proof: a call that answers true, and of what there was turns nothing, is what the row asks.
-/
import Derived.Test.YtcpoaalhpjipaaaDoorRows
import Derived.WalkKit
import Derived.ProofKit
import Derived.OpenShut
import Derived.Lib.SmallJoins
import Derived.Test.YtcpoaalhpjipaaaDoorMd2
import Derived.Test.YtcpoaalhpjipaaaDoorMd3
import Derived.Test.YtcpoaalhpjipaaaDoorMd5
import Derived.Test.YtcpoaalhpjipaaaDoorMd14
namespace Go.Proofs.YtcpoaalhpjipaaaDoor
open Go.RowKit
set_option maxRecDepth 100000

/-- A slice of the call's own: xs, and behind them in its room 55 and 56. -/
structure LentAt (w : World) (v : Value) (xs : List Int) (B : Nat) : Prop where
  own : ∃ g c, v = .slice (some ⟨g, 0, none⟩) xs.length c ∧ xs.length + 2 ≤ c ∧ B ≤ g ∧ w.ownsRow 0 5 1 (.slice (some ⟨g, 0, none⟩) (xs.length + 2) c) (xs.length + 2) (bc (xs ++ [55, 56]))

set_option maxHeartbeats 2000000 in
theorem Lent_any {w : World} {v : Value} {xs : List Int} (h : Rd w v xs) (hl : xs.length ≤ 140737488355000) :
    Calls Tryd.prog 8 #[v] w fun e w' => ∃ u, e = .returned u ∧ LentAt w' u xs w.heap.size ∧ Below w.heap.size w w' := by
  obtain ⟨i0, hi, hz0, hz1, hz2⟩ := info_parts Tryd.infoU8
  obtain ⟨q, c, rfl⟩ := h.len
  have HR := Lib.hid h
  clear h
  replace hi := Lib.hid hi
  replace hz0 := Lib.hid hz0
  replace hz1 := Lib.hid hz1
  replace hz2 := Lib.hid hz2
  go_enter Tryd.func8, Tryd.ntmps8
  go_wp2_with (at_builtin; refine wpList_append_row rfl _ _ rfl Tryd.underlying25 hi.out hz0.out hz1.out hz2.out rfl (own_empty w 5 1) ((HR.out.alloc _).src (P := Tryd.prog) Tryd.underlying25) ?b1 ?b2 ?_)
  case b1 => unfold maxLen; omega
  (try case b2 => omega)
  intro q2 k2 w2 own2 grow2 fr2
  have H2 := Lib.hid own2
  have B2 := Lib.hid (show Below w.heap.size w w2 from ((Below.refl _ _).alloc (Nat.le_refl _) (.cells #[] 5)).grown grow2 (by simp) (by intro g hg; simp [Value.ownBlock] at hg; omega))
  have F2 : Hid (∀ g, (Value.slice q2 xs.length k2).ownBlock = some g → w.heap.size ≤ g) := fun g hg => by
    rcases fr2 with e | e
    · rw [e] at hg; simp [Value.ownBlock] at hg; omega
    · rw [e] at hg; simp at hg; omega
  clear own2 grow2 fr2
  try simp only [Nat.zero_add, List.nil_append] at H2
  go_wp2_with (at_builtin; refine wpList_append_row rfl _ _ rfl Tryd.underlying25 hi.out hz0.out hz1.out hz2.out rfl (own_on H2.out ((Below.refl _ _).alloc (Nat.le_refl _) (.cells #[.int .u8 55, .int .u8 56] 5))) (news := [.int .u8 55, .int .u8 56]) (m := 2) ?rd ?b3 ?b4 ?_)
  case rd =>
    refine Src.ofSlice _ Tryd.underlying25 _ _ _ _ rfl (fun j u hu => ?_) (fun u hu => ?_)
    · rw [addr_add, Nat.zero_add, Joins.cell_of_block (heap_alloc_new w2 _)]
      simpa using hu
    · simp at hu; rcases hu with rfl | rfl <;> rfl
  case b3 => unfold maxLen; omega
  (try case b4 => omega)
  intro q3 k3 w3 own3 grow3 fr3
  have B3 := Lib.hid (show Below w.heap.size w w3 from ((B2.out.alloc B2.out.size (.cells #[.int .u8 55, .int .u8 56] 5))).grown grow3 (by have := B2.out.size; simp; omega) (by
    intro g hg; exact F2.out g hg))
  have F3 : Hid (∀ g, (Value.slice q3 (xs.length + 2) k3).ownBlock = some g → w.heap.size ≤ g) := fun g hg => by
    rcases fr3 with e | e
    · rw [e] at hg; exact F2.out g hg
    · rw [e] at hg; have := B2.out.size; simp at hg; omega
  obtain ⟨g, rfl, hk3⟩ : ∃ g, q3 = some ⟨g, 0, none⟩ ∧ xs.length + 2 ≤ k3 := by
    rcases own3.2 with ⟨h0, _⟩ | ⟨g, cap, cur, h1, _, hg, hnc, hcm, hcs, htake⟩
    · simp at h0
    · simp only [Value.slice.injEq, true_and] at h1
      exact ⟨g, h1.1, by omega⟩
  have H3 : Hid (w3.ownsRow 0 5 1 (.slice (some ⟨g, 0, none⟩) (xs.length + 2) k3) (xs.length + 2) (bc (xs ++ [55, 56]))) := by rw [bc_append]; exact own3
  clear own3 grow3 fr3 B2 H2 F2
  go_wp2_with fail
  go_ret
  exact ⟨_, rfl, ⟨g, k3, rfl, hk3, F3.out g rfl, H3.out⟩, B3.out⟩

theorem old {w W : World} (hb : Below w.heap.size w W) {p : Addr} {v : Value} (hc : w.cell? p = some v) : W.cell? p = some v := by
  rw [hb.cell (World.block_lt_of_cell? w p hc)]; exact hc
theorem LentAt.on {w w' : World} {v : Value} {xs : List Int} {B : Nat} (h : LentAt w v xs B) (hb : Below w.heap.size w w') : LentAt w' v xs B := by
  obtain ⟨g, c, e, h1, h2, h3⟩ := h.own
  exact ⟨g, c, e, h1, h2, own_on h3 hb⟩
theorem LentAt.rdc {w : World} {v : Value} {xs : List Int} {B : Nat} (h : LentAt w v xs B) : RdC w v xs := by
  obtain ⟨g, c, rfl, h1, h2, h3⟩ := h.own
  have hr := rd_of_row (by simpa using h3 : w.ownsRow 0 5 1 (.slice (some ⟨g, 0, none⟩) (xs.length + 2) c) (xs.length + 2) (bc (xs ++ [55, 56])))
  obtain ⟨q', c', e, h0 | ⟨b, off, rfl, hc⟩⟩ := hr
  · simp at h0
  · simp only [Value.slice.injEq, Option.some.injEq, Addr.mk.injEq, and_true] at e
    obtain ⟨⟨rfl, rfl⟩, -, -⟩ := e
    refine ⟨_, c, rfl, by omega, .inr ⟨g, 0, rfl, fun i hi => ?_⟩⟩
    rw [hc i (by simp; omega)]
    simp [List.getD, List.getElem?_append_left hi]
theorem LentAt.tail {w : World} {v : Value} {xs : List Int} {B : Nat} (h : LentAt w v xs B) : ∃ g c, v = .slice (some ⟨g, 0, none⟩) xs.length c ∧ xs.length + 2 ≤ c ∧ w.cell? ⟨g, xs.length, none⟩ = some (.int .u8 55) ∧ w.cell? ⟨g, xs.length + 1, none⟩ = some (.int .u8 56) := by
  obtain ⟨g, c, rfl, h1, h2, h3⟩ := h.own
  have hr := rd_of_row (by simpa using h3 : w.ownsRow 0 5 1 (.slice (some ⟨g, 0, none⟩) (xs.length + 2) c) (xs.length + 2) (bc (xs ++ [55, 56])))
  obtain ⟨q', c', e, h0 | ⟨b, off, rfl, hc⟩⟩ := hr
  · simp at h0
  · simp only [Value.slice.injEq, Option.some.injEq, Addr.mk.injEq, and_true] at e
    obtain ⟨⟨rfl, rfl⟩, -, -⟩ := e
    have c5 := hc xs.length (by simp)
    have c6 := hc (xs.length + 1) (by simp)
    rw [Nat.zero_add] at c5 c6
    exact ⟨g, c, rfl, h1, by rw [c5]; simp [List.getD], by rw [c6]; simp [List.getD]⟩

set_option maxHeartbeats 4000000 in
theorem Stays_any {w : World} {u v : Value} {xs : List Int} {B : Nat} (hu : LentAt w u xs B) (hv : Rd w v xs) (hl : xs.length ≤ 140737488355000) :
    Calls Tryd.prog 21 #[u, v] w fun e w' => e = .returned (.bool true) ∧ Below w.heap.size w w' := by
  have hA := hu.rdc.rd
  have hL := hv
  obtain ⟨g, c, rfl, hc, h55, h56⟩ := hu.tail
  obtain ⟨q, cv, rfl⟩ := hv.len
  clear hu hv
  have k1 : IntKind.i64.wrap ((xs.length : Int) + 1) = (xs.length : Int) + 1 := IntWalk.i64_in _ (by omega)
  have e1 : ((xs.length : Int) + 1).toNat = xs.length + 1 := by omega
  have b0 : (0 : Int) ≤ (xs.length : Int) := by omega
  have b1 : (xs.length : Int) < (xs.length : Int) + 2 := by omega
  have b2 : (0 : Int) ≤ (xs.length : Int) + 1 := by omega
  have b3 : (xs.length : Int) + 1 < (xs.length : Int) + 2 := by omega
  have b4 : (xs.length : Int) ≤ (c : Int) := by omega
  have HA := Lib.hid hA
  have HL := Lib.hid hL
  have H5 := Lib.hid h55
  have H6 := Lib.hid h56
  clear hA hL h55 h56
  go_enter Tryd.func21, Tryd.ntmps21
  go_wp2_with fail
  refine wp_region_held_drew (S := fun W => Below w.heap.size w W) (by kernel_rfl) ((Below.refl _ _).drew) (fun h0 => ?_)
  refine wpAnyH_take (i := 0) (v := ?_) (by rw [List.getElem?_toArray]; rfl) (by kernel_rfl) (by kernel_rfl) (by kernel_rfl) (by exact fun _ _ _ h => h) (Or.inl ⟨by rfl, ?_⟩) h0 ?_
  rotate_left
  · intro W hW
    go_simp
    all_goals with_reducible rfl
  try simp only [Act.put, List.setIfInBounds_toArray, List.set_cons_zero, List.set_cons_succ]
  refine wpAnyH_take (i := 1) (v := ?_) (by rw [List.getElem?_toArray]; rfl) (by kernel_rfl) (by kernel_rfl) (by kernel_rfl) (by exact fun _ _ _ h => h) (Or.inl ⟨by rfl, ?_⟩) h0 ?_
  rotate_left
  · intro W hW
    go_simp
    all_goals with_reducible rfl
  try simp only [Act.put, List.setIfInBounds_toArray, List.set_cons_zero, List.set_cons_succ]
  refine wpAnyH_take (i := 2) (v := ?_) (by rw [List.getElem?_toArray]; rfl) (by kernel_rfl) (by kernel_rfl) (by kernel_rfl) (by exact fun _ _ _ h => h) (Or.inl ⟨by rfl, ?_⟩) h0 ?_
  rotate_left
  · intro W hW
    go_simp
    all_goals with_reducible rfl
  try simp only [Act.put, List.setIfInBounds_toArray, List.set_cons_zero, List.set_cons_succ]
  refine wpAnyH_take (i := 3) (v := ?_) (by rw [List.getElem?_toArray]; rfl) (by kernel_rfl) (by kernel_rfl) (by kernel_rfl) (by exact fun _ _ _ h => h) (Or.inl ⟨by rfl, ?_⟩) h0 ?_
  rotate_left
  · intro W hW
    go_simp
    all_goals with_reducible rfl
  try simp only [Act.put, List.setIfInBounds_toArray, List.set_cons_zero, List.set_cons_succ]
  refine wpAnyH_take (i := 4) (v := ?_) (by rw [List.getElem?_toArray]; rfl) (by kernel_rfl) (by kernel_rfl) (by kernel_rfl) (by exact fun _ _ _ h => h) (Or.inl ⟨by rfl, ?_⟩) h0 ?_
  rotate_left
  · intro W hW
    have ca := (HA.out.on hW).str (P := Tryd.prog) Tryd.underlying25 Tryd.underlying5 Tryd.underlying9
    go_simp
    all_goals with_reducible rfl
  try simp only [Act.put, List.setIfInBounds_toArray, List.set_cons_zero, List.set_cons_succ]
  refine wpAnyH_take (i := 5) (v := ?_) (by rw [List.getElem?_toArray]; rfl) (by kernel_rfl) (by kernel_rfl) (by kernel_rfl) (by exact fun _ _ _ h => h) (Or.inl ⟨by rfl, ?_⟩) h0 ?_
  rotate_left
  · intro W hW
    go_simp
    all_goals with_reducible rfl
  try simp only [Act.put, List.setIfInBounds_toArray, List.set_cons_zero, List.set_cons_succ]
  refine wpAnyH_take (i := 6) (v := ?_) (by rw [List.getElem?_toArray]; rfl) (by kernel_rfl) (by kernel_rfl) (by kernel_rfl) (by exact fun _ _ _ h => h) (Or.inl ⟨by rfl, ?_⟩) h0 ?_
  rotate_left
  · intro W hW
    have cl := (HL.out.on hW).str (P := Tryd.prog) Tryd.underlying25 Tryd.underlying5 Tryd.underlying9
    go_simp
    all_goals with_reducible rfl
  try simp only [Act.put, List.setIfInBounds_toArray, List.set_cons_zero, List.set_cons_succ]
  refine wpAnyH_take (i := 7) (v := ?_) (by rw [List.getElem?_toArray]; rfl) (by kernel_rfl) (by kernel_rfl) (by kernel_rfl) (by exact fun _ _ _ h => h) (Or.inl ⟨by rfl, ?_⟩) h0 ?_
  rotate_left
  · intro W hW
    go_simp
    all_goals with_reducible rfl
  try simp only [Act.put, List.setIfInBounds_toArray, List.set_cons_zero, List.set_cons_succ]
  refine wpAnyH_take (i := 8) (v := ?_) (by rw [List.getElem?_toArray]; rfl) (by kernel_rfl) (by kernel_rfl) (by kernel_rfl) (by exact fun _ _ _ h => h) (Or.inl ⟨by rfl, ?_⟩) h0 ?_
  rotate_left
  · intro W hW
    go_simp
    all_goals with_reducible rfl
  try simp only [Act.put, List.setIfInBounds_toArray, List.set_cons_zero, List.set_cons_succ]
  refine wpAnyH_take (i := 9) (v := ?_) (by rw [List.getElem?_toArray]; rfl) (by kernel_rfl) (by kernel_rfl) (by kernel_rfl) (by exact fun _ _ _ h => h) (Or.inl ⟨by rfl, ?_⟩) h0 ?_
  rotate_left
  · intro W hW
    go_simp
    all_goals with_reducible rfl
  try simp only [Act.put, List.setIfInBounds_toArray, List.set_cons_zero, List.set_cons_succ]
  refine wpAnyH_take (i := 10) (v := ?_) (by rw [List.getElem?_toArray]; rfl) (by kernel_rfl) (by kernel_rfl) (by kernel_rfl) (by exact fun _ _ _ h => h) (Or.inl ⟨by rfl, ?_⟩) h0 ?_
  rotate_left
  · intro W hW
    go_simp
    all_goals with_reducible rfl
  try simp only [Act.put, List.setIfInBounds_toArray, List.set_cons_zero, List.set_cons_succ]
  refine wpAnyH_take (i := 11) (v := ?_) (by rw [List.getElem?_toArray]; rfl) (by kernel_rfl) (by kernel_rfl) (by kernel_rfl) (by exact fun _ _ _ h => h) (Or.inl ⟨by rfl, ?_⟩) h0 ?_
  rotate_left
  · intro W hW
    go_simp
    all_goals with_reducible rfl
  try simp only [Act.put, List.setIfInBounds_toArray, List.set_cons_zero, List.set_cons_succ]
  refine wpAnyH_take (i := 12) (v := ?_) (by rw [List.getElem?_toArray]; rfl) (by kernel_rfl) (by kernel_rfl) (by kernel_rfl) (by exact fun _ _ _ h => h) (Or.inl ⟨by rfl, ?_⟩) h0 ?_
  rotate_left
  · intro W hW
    go_simp
    all_goals with_reducible rfl
  try simp only [Act.put, List.setIfInBounds_toArray, List.set_cons_zero, List.set_cons_succ]
  refine wpAnyH_take (i := 13) (v := ?_) (by rw [List.getElem?_toArray]; rfl) (by kernel_rfl) (by kernel_rfl) (by kernel_rfl) (by exact fun _ _ _ h => h) (Or.inl ⟨by rfl, ?_⟩) h0 ?_
  rotate_left
  · intro W hW
    have c5 := old hW H5.out
    go_simp
    all_goals with_reducible rfl
  try simp only [Act.put, List.setIfInBounds_toArray, List.set_cons_zero, List.set_cons_succ]
  refine wpAnyH_take (i := 14) (v := ?_) (by rw [List.getElem?_toArray]; rfl) (by kernel_rfl) (by kernel_rfl) (by kernel_rfl) (by exact fun _ _ _ h => h) (Or.inl ⟨by rfl, ?_⟩) h0 ?_
  rotate_left
  · intro W hW
    go_simp
    all_goals with_reducible rfl
  try simp only [Act.put, List.setIfInBounds_toArray, List.set_cons_zero, List.set_cons_succ]
  refine wpAnyH_take (i := 15) (v := ?_) (by rw [List.getElem?_toArray]; rfl) (by kernel_rfl) (by kernel_rfl) (by kernel_rfl) (by exact fun _ _ _ h => h) (Or.inl ⟨by rfl, ?_⟩) h0 ?_
  rotate_left
  · intro W hW
    go_simp
    all_goals with_reducible rfl
  try simp only [Act.put, List.setIfInBounds_toArray, List.set_cons_zero, List.set_cons_succ]
  refine wpAnyH_take (i := 16) (v := ?_) (by rw [List.getElem?_toArray]; rfl) (by kernel_rfl) (by kernel_rfl) (by kernel_rfl) (by exact fun _ _ _ h => h) (Or.inl ⟨by rfl, ?_⟩) h0 ?_
  rotate_left
  · intro W hW
    go_simp
    all_goals with_reducible rfl
  try simp only [Act.put, List.setIfInBounds_toArray, List.set_cons_zero, List.set_cons_succ]
  refine wpAnyH_take (i := 17) (v := ?_) (by rw [List.getElem?_toArray]; rfl) (by kernel_rfl) (by kernel_rfl) (by kernel_rfl) (by exact fun _ _ _ h => h) (Or.inl ⟨by rfl, ?_⟩) h0 ?_
  rotate_left
  · intro W hW
    go_simp
    all_goals with_reducible rfl
  try simp only [Act.put, List.setIfInBounds_toArray, List.set_cons_zero, List.set_cons_succ]
  refine wpAnyH_take (i := 18) (v := ?_) (by rw [List.getElem?_toArray]; rfl) (by kernel_rfl) (by kernel_rfl) (by kernel_rfl) (by exact fun _ _ _ h => h) (Or.inl ⟨by rfl, ?_⟩) h0 ?_
  rotate_left
  · intro W hW
    go_simp
    all_goals with_reducible rfl
  try simp only [Act.put, List.setIfInBounds_toArray, List.set_cons_zero, List.set_cons_succ]
  refine wpAnyH_take (i := 19) (v := ?_) (by rw [List.getElem?_toArray]; rfl) (by kernel_rfl) (by kernel_rfl) (by kernel_rfl) (by exact fun _ _ _ h => h) (Or.inl ⟨by rfl, ?_⟩) h0 ?_
  rotate_left
  · intro W hW
    go_simp
    all_goals with_reducible rfl
  try simp only [Act.put, List.setIfInBounds_toArray, List.set_cons_zero, List.set_cons_succ]
  refine wpAnyH_take (i := 20) (v := ?_) (by rw [List.getElem?_toArray]; rfl) (by kernel_rfl) (by kernel_rfl) (by kernel_rfl) (by exact fun _ _ _ h => h) (Or.inl ⟨by rfl, ?_⟩) h0 ?_
  rotate_left
  · intro W hW
    go_simp
    all_goals with_reducible rfl
  try simp only [Act.put, List.setIfInBounds_toArray, List.set_cons_zero, List.set_cons_succ]
  refine wpAnyH_take (i := 21) (v := ?_) (by rw [List.getElem?_toArray]; rfl) (by kernel_rfl) (by kernel_rfl) (by kernel_rfl) (by exact fun _ _ _ h => h) (Or.inl ⟨by rfl, ?_⟩) h0 ?_
  rotate_left
  · intro W hW
    go_simp
    all_goals with_reducible rfl
  try simp only [Act.put, List.setIfInBounds_toArray, List.set_cons_zero, List.set_cons_succ]
  refine wpAnyH_take (i := 22) (v := ?_) (by rw [List.getElem?_toArray]; rfl) (by kernel_rfl) (by kernel_rfl) (by kernel_rfl) (by exact fun _ _ _ h => h) (Or.inl ⟨by rfl, ?_⟩) h0 ?_
  rotate_left
  · intro W hW
    have c6 := old hW H6.out
    go_simp
    all_goals with_reducible rfl
  try simp only [Act.put, List.setIfInBounds_toArray, List.set_cons_zero, List.set_cons_succ]
  refine wpAnyH_take (i := 23) (v := ?_) (by rw [List.getElem?_toArray]; rfl) (by kernel_rfl) (by kernel_rfl) (by kernel_rfl) (by exact fun _ _ _ h => h) (Or.inl ⟨by rfl, ?_⟩) h0 ?_
  rotate_left
  · intro W hW
    go_simp
    all_goals with_reducible rfl
  try simp only [Act.put, List.setIfInBounds_toArray, List.set_cons_zero, List.set_cons_succ]
  refine wpAnyH_take (i := 24) (v := ?_) (by rw [List.getElem?_toArray]; rfl) (by kernel_rfl) (by kernel_rfl) (by kernel_rfl) (by exact fun _ _ _ h => h) (Or.inl ⟨by rfl, ?_⟩) h0 ?_
  rotate_left
  · intro W hW
    go_simp
    all_goals with_reducible rfl
  try simp only [Act.put, List.setIfInBounds_toArray, List.set_cons_zero, List.set_cons_succ]
  refine wpAnyH_take (i := 25) (v := ?_) (by rw [List.getElem?_toArray]; rfl) (by kernel_rfl) (by kernel_rfl) (by kernel_rfl) (by exact fun _ _ _ h => h) (Or.inl ⟨by rfl, ?_⟩) h0 ?_
  rotate_left
  · intro W hW
    go_simp
    all_goals with_reducible rfl
  try simp only [Act.put, List.setIfInBounds_toArray, List.set_cons_zero, List.set_cons_succ]
  refine wpAnyH_done (by kernel_rfl) ?_ _
  go_wp2_with fail
  go_ret
  exact ⟨rfl, (Below.refl _ _).drew⟩
end Go.Proofs.YtcpoaalhpjipaaaDoor
namespace Go.Proofs.YtcpoaalhpjipaaaDoor
set_option maxRecDepth 100000
open Go.RowKit

/-- What the law holds behind its calls. -/
structure LwS (W : World) (b0 b8 b13 b15 : Nat) (m y : Mg) (q : Option Addr) (k : Nat) (q1 : Option Addr) (k1 : Nat) (q5 : Option Addr) (k5 : Nat) (q6 : Option Addr) (k6 : Nat) (cv dv : Value) (XB : List Int) (u : Value) (xs : List Int) (BB : Nat) (v : Value) : Prop where
  k0 : MgAt W b0 27 m q m.data.length k
  k8 : MgAt W b8 30 m q1 m.data.length k1
  k13 : MgAt W b13 30 y q5 y.data.length k5
  k15 : MgAt W b15 27 y q6 y.data.length k6
  r0 : Rd W (.slice q m.data.length k) m.data
  r8 : Rd W (.slice q1 m.data.length k1) m.data
  r13 : Rd W (.slice q5 y.data.length k5) y.data
  r15 : Rd W (.slice q6 y.data.length k6) y.data
  rc : Rd W cv XB
  rd : Rd W dv XB
  lu : LentAt W u xs BB
  rv : Rd W v xs
theorem LwS.on {W W' : World} {b0 b8 b13 b15 : Nat} {m y : Mg} {q : Option Addr} {k : Nat} {q1 : Option Addr} {k1 : Nat} {q5 : Option Addr} {k5 : Nat} {q6 : Option Addr} {k6 : Nat} {cv dv : Value} {XB : List Int} {u : Value} {xs : List Int} {BB : Nat} {v : Value} (h : LwS W b0 b8 b13 b15 m y q k q1 k1 q5 k5 q6 k6 cv dv XB u xs BB v) (hb : Below W.heap.size W W') : LwS W' b0 b8 b13 b15 m y q k q1 k1 q5 k5 q6 k6 cv dv XB u xs BB v :=
  ⟨h.k0.on hb, h.k8.on hb, h.k13.on hb, h.k15.on hb, h.r0.on hb, h.r8.on hb, h.r13.on hb, h.r15.on hb, h.rc.on hb, h.rd.on hb, h.lu.on hb, h.rv.on hb⟩
theorem bool_same (b : Bool) : (b == b) = true := by simp

set_option maxHeartbeats 16000000 in
theorem Bytes9_walk {w : World} {m : Mg} {q : Option Addr} {k : Nat} {v : Value} {xs : List Int} {dn : Bool} (hT : Tbl w) (ok : m.ok) (hr : Rd w (.slice q m.data.length k) m.data) (hl : m.data.length ≤ 140737488355000) (hv : Rd w v xs) (hx : Bytes xs) (hxl : xs.length ≤ 140737488355000) :
    Calls Tryd.prog 3 #[.agg (mgRow m q m.data.length k).toArray, v, .bool dn] w fun e w' => e = .returned (.bool true) ∧ Below w.heap.size w w' := by
  have HT := Lib.hid hT
  have OK := Lib.hid ok
  have BX := Lib.hid hx
  have XL := Lib.hid hxl
  have HR : Hid (∀ W, Below w.heap.size w W → Rd W (.slice q m.data.length k) m.data) := fun W hb => hr.on hb
  have HV : Hid (∀ W, Below w.heap.size w W → Rd W v xs) := fun W hb => hv.on hb
  obtain ⟨qv, cv, rfl⟩ := hv.len
  have b1 : Below w.heap.size w (w.alloc (.cells (mgRow m q m.data.length k).toArray 27)) := (Below.refl _ _).alloc (Nat.le_refl _) _
  have K0 := Lib.hid (MgAt.new w 27 m q m.data.length k)
  have B0 := Lib.hid b1
  obtain ⟨-, -, -, -, -, -, -, -, c8⟩ := K0.out.cells
  have h9 := mgRow_len m q m.data.length k
  clear hT ok hr hv hx b1
  go_enter Tryd.func3, Tryd.ntmps3
  by_cases hbig : 4000 < m.data.length ∨ 4000 < xs.length
  · have KN := Lib.hid (knows9_any (HT.out.on B0.out HT.out.pos))
    rcases hbig with hb | hb
    · have hbI : (4000 : Int) < (m.data.length : Int) := by omega
      go_wp2_with fail
      refine KN.out.mono ?_
      rintro e w2 ⟨rfl, hb2⟩
      have B2 := Lib.hid (B0.out.trans (hb2.mono B0.out.size))
      clear hb2
      go_wp2_with fail
      go_ret
      exact ⟨rfl, B2.out⟩
    · by_cases hb1 : 4000 < m.data.length
      · have hbI : (4000 : Int) < (m.data.length : Int) := by omega
        go_wp2_with fail
        refine KN.out.mono ?_
        rintro e w2 ⟨rfl, hb2⟩
        have B2 := Lib.hid (B0.out.trans (hb2.mono B0.out.size))
        clear hb2
        go_wp2_with fail
        go_ret
        exact ⟨rfl, B2.out⟩
      · have hbI : ¬ (4000 : Int) < (m.data.length : Int) := by omega
        have hbJ : (4000 : Int) < (xs.length : Int) := by omega
        have dJ : decide ((4000 : Int) < (m.data.length : Int)) = false := by rw [decide_eq_false_iff_not]; exact hbI
        go_wp2_with fail
        refine KN.out.mono ?_
        rintro e w2 ⟨rfl, hb2⟩
        have B2 := Lib.hid (B0.out.trans (hb2.mono B0.out.size))
        clear hb2
        go_wp2_with fail
        go_ret
        exact ⟨rfl, B2.out⟩
  have ml : m.data.length ≤ 4000 := by omega
  have xl : xs.length ≤ 4000 := by omega
  have hbI : ¬ (4000 : Int) < (m.data.length : Int) := by omega
  have hbJ : ¬ (4000 : Int) < (xs.length : Int) := by omega
  have dI : decide ((4000 : Int) < (m.data.length : Int)) = false := by rw [decide_eq_false_iff_not]; exact hbI
  have dJ : decide ((4000 : Int) < (xs.length : Int)) = false := by rw [decide_eq_false_iff_not]; exact hbJ
  have ML := Lib.hid ml
  have XL2 := Lib.hid xl
  clear hl hxl hbig
  go_wp2_with fail
  clear c8 hbI hbJ dI dJ ml xl
  generalize hw0 : w.alloc (.cells (mgRow m q m.data.length k).toArray 27) = w0 at *
  have hs0 : Hid (w0.heap.size = w.heap.size + 1) := by show _ = _; rw [← hw0]; simp
  clear hw0
  refine (Lent_any (HV.out _ B0.out) XL.out).mono ?_
  rintro e w1 ⟨u, rfl, hu, hb⟩
  have U1 := Lib.hid hu
  obtain ⟨gu, cu, rfl, -⟩ := hu.own
  have K1 := Lib.hid (K0.out.on hb)
  have B1 := Lib.hid (B0.out.trans (hb.mono B0.out.size))
  have hrow := K1.out.row
  clear hu hb K0 B0
  go_wp2_with fail
  refine (Message_any (HR.out _ B1.out) (by have := ML.out; omega)).mono ?_
  rintro e w2 ⟨q1, k1, rfl, hS⟩
  have b3 : Below w2.heap.size w2 (w2.alloc (.cells (mgRow mg0 none 0 0).toArray 30)) := (Below.refl _ _).alloc (Nat.le_refl _) _
  have hb := hS.below
  have KA := MgAt.new w2 30 mg0 none 0 0
  have th := KA.there
  have cs : Below w2.heap.size w2 ((w2.alloc (.cells (mgRow mg0 none 0 0).toArray 30)).setCells w2.heap.size 0 (mgRow m q1 m.data.length k1)) := below_setCells' _ (Nat.le_refl _) _ _ b3
  have hb3 := hb.trans (cs.mono hb.size)
  have K8 := Lib.hid (KA.put m q1 m.data.length k1)
  have K3 := Lib.hid (K1.out.on hb3)
  have U3 := Lib.hid (U1.out.on hb3)
  have B3 := Lib.hid (B1.out.trans (hb3.mono B1.out.size))
  have RA := Lib.hid (hS.rd.on cs)
  have szz : ((w2.alloc (.cells (mgRow mg0 none 0 0).toArray 30)).setCells w2.heap.size 0 (mgRow m q1 m.data.length k1)).heap.size = w2.heap.size + 1 := by rw [size_setCells]; simp
  have hrow8 := K8.out.row
  have h98 := mgRow_len m q1 m.data.length k1
  clear hS b3 hb KA cs hb3 K1 U1 B1 hrow
  go_wp2_with fail
  clear th szz
  obtain ⟨b8, hbe⟩ : ∃ b, w2.heap.size = b := ⟨_, rfl⟩
  rw [hbe] at K8 K3 U3 B3 RA hrow8 ⊢
  generalize (w2.alloc (.cells (mgRow mg0 none 0 0).toArray 30)).setCells b8 0 (mgRow m q1 m.data.length k1) = w3 at *
  clear hbe hrow8
  refine (PutMessage_any OK.out RA.out (by have := ML.out; omega)).mono ?_
  rintro e w4 ⟨q3, k3, rfl, rc, hb⟩
  have RC4 := Lib.hid rc
  have K4 := Lib.hid (K3.out.on hb)
  have K84 := Lib.hid (K8.out.on hb)
  have U4 := Lib.hid (U3.out.on hb)
  have RA4 := Lib.hid (RA.out.on hb)
  have B4 := Lib.hid (B3.out.trans (hb.mono B3.out.size))
  have hrow := K4.out.row
  clear rc hb K3 K8 U3 RA B3
  go_wp2_with fail
  refine (refPutMessage_any OK.out (HR.out _ B4.out) (by have := ML.out; omega)).mono ?_
  rintro e w5 ⟨q4, k4, rfl, rd, hb⟩
  have RD5 := Lib.hid rd
  have RC5 := Lib.hid (RC4.out.on hb)
  have K5 := Lib.hid (K4.out.on hb)
  have K85 := Lib.hid (K84.out.on hb)
  have U5 := Lib.hid (U4.out.on hb)
  have RA5 := Lib.hid (RA4.out.on hb)
  have B5 := Lib.hid (B4.out.trans (hb.mono B4.out.size))
  clear rd hb RC4 K4 K84 U4 RA4 B4 hrow
  obtain ⟨XB, hXB⟩ : ∃ XB, pMB m = XB := ⟨_, rfl⟩
  obtain ⟨EP, hEP⟩ : ∃ EP, pME m = EP := ⟨_, rfl⟩
  rw [hXB] at RC5 RD5 ⊢
  rw [hEP]
  clear hXB hEP
  have OY := Lib.hid (mG_ok BX.out)
  have LY := Lib.hid (mG_len xs)
  have KG1 := Lib.hid (fun (W : World) (a : Value) (h : Rd W a xs) => GetMessage_any h BX.out (by have := XL.out; omega))
  have KG2 := Lib.hid (fun (W : World) (a : Value) (h : Rd W a xs) => refGetMessage_any h BX.out (by have := XL.out; omega))
  unfold GmP at KG1 KG2
  obtain ⟨y, hy⟩ : ∃ y, mG xs = y := ⟨_, rfl⟩
  obtain ⟨EG, hEG⟩ : ∃ EG, mE xs = EG := ⟨_, rfl⟩
  rw [hy, hEG] at KG1 KG2
  rw [hy] at OY LY
  clear hy hEG
  go_wp2_with fail
  refine (KG1.out _ _ (U5.out.rdc.rd)).mono ?_
  rintro e w6 ⟨q5, k5, rfl, ry, hb⟩
  have b3 : Below w6.heap.size w6 (w6.alloc (.cells (mgRow mg0 none 0 0).toArray 30)) := (Below.refl _ _).alloc (Nat.le_refl _) _
  have KA := MgAt.new w6 30 mg0 none 0 0
  have th := KA.there
  have cs : Below w6.heap.size w6 ((w6.alloc (.cells (mgRow mg0 none 0 0).toArray 30)).setCells w6.heap.size 0 (mgRow y q5 y.data.length k5)) := below_setCells' _ (Nat.le_refl _) _ _ b3
  have hb3 := hb.trans (cs.mono hb.size)
  have K137 := Lib.hid (KA.put y q5 y.data.length k5)
  have RY7 := Lib.hid (ry.on cs)
  have K7 := Lib.hid (K5.out.on hb3)
  have K87 := Lib.hid (K85.out.on hb3)
  have U7 := Lib.hid (U5.out.on hb3)
  have RA7 := Lib.hid (RA5.out.on hb3)
  have RC7 := Lib.hid (RC5.out.on hb3)
  have RD7 := Lib.hid (RD5.out.on hb3)
  have B7 := Lib.hid (B5.out.trans (hb3.mono B5.out.size))
  have szz : ((w6.alloc (.cells (mgRow mg0 none 0 0).toArray 30)).setCells w6.heap.size 0 (mgRow y q5 y.data.length k5)).heap.size = w6.heap.size + 1 := by rw [size_setCells]; simp
  clear ry b3 hb KA cs hb3 K5 K85 U5 RA5 RC5 RD5 B5
  go_wp2_with fail
  clear th szz
  obtain ⟨b13, hbe⟩ : ∃ b, w6.heap.size = b := ⟨_, rfl⟩
  rw [hbe] at K137 RY7 K7 K87 U7 RA7 RC7 RD7 B7 ⊢
  generalize (w6.alloc (.cells (mgRow mg0 none 0 0).toArray 30)).setCells b13 0 (mgRow y q5 y.data.length k5) = w7 at *
  clear hbe
  refine (KG2.out _ _ (HV.out _ B7.out)).mono ?_
  rintro e w6 ⟨q6, k6, rfl, ry, hb⟩
  have b3 : Below w6.heap.size w6 (w6.alloc (.cells (mgRow mg0 none 0 0).toArray 27)) := (Below.refl _ _).alloc (Nat.le_refl _) _
  have KA := MgAt.new w6 27 mg0 none 0 0
  have th := KA.there
  have cs : Below w6.heap.size w6 ((w6.alloc (.cells (mgRow mg0 none 0 0).toArray 27)).setCells w6.heap.size 0 (mgRow y q6 y.data.length k6)) := below_setCells' _ (Nat.le_refl _) _ _ b3
  have hb3 := hb.trans (cs.mono hb.size)
  have K159 := Lib.hid (KA.put y q6 y.data.length k6)
  have RZ9 := Lib.hid (ry.on cs)
  have K9 := Lib.hid (K7.out.on hb3)
  have K89 := Lib.hid (K87.out.on hb3)
  have U9 := Lib.hid (U7.out.on hb3)
  have RA9 := Lib.hid (RA7.out.on hb3)
  have RC9 := Lib.hid (RC7.out.on hb3)
  have RD9 := Lib.hid (RD7.out.on hb3)
  have K139 := Lib.hid (K137.out.on hb3)
  have RY9 := Lib.hid (RY7.out.on hb3)
  have B9 := Lib.hid (B7.out.trans (hb3.mono B7.out.size))
  have szz : ((w6.alloc (.cells (mgRow mg0 none 0 0).toArray 27)).setCells w6.heap.size 0 (mgRow y q6 y.data.length k6)).heap.size = w6.heap.size + 1 := by rw [size_setCells]; simp
  clear ry b3 hb KA cs hb3 K7 K87 U7 RA7 RC7 RD7 K137 RY7 B7
  go_wp2_with fail
  clear th szz
  obtain ⟨b15, hbe⟩ : ∃ b, w6.heap.size = b := ⟨_, rfl⟩
  rw [hbe] at K159 RZ9 K9 K89 U9 RA9 RC9 RD9 K139 RY9 B9 ⊢
  generalize (w6.alloc (.cells (mgRow mg0 none 0 0).toArray 27)).setCells b15 0 (mgRow y q6 y.data.length k6) = w9 at *
  clear hbe
  have KD := Lib.hid (Nat.lt_of_lt_of_le (show w.heap.size < w.heap.size + 1 by omega) (Nat.le_of_eq hs0.out.symm))
  have LW : Hid (LwS w9 w.heap.size b8 b13 b15 m y q k q1 k1 q5 k5 q6 k6 (.slice q3 XB.length k3) (.slice q4 XB.length k4) XB (.slice (some ⟨gu, 0, none⟩) xs.length cu) xs w0.heap.size (.slice qv xs.length cv)) :=
    ⟨K9.out, K89.out, K139.out, K159.out, HR.out _ B9.out, RA9.out, RY9.out, RZ9.out, RC9.out, RD9.out, U9.out, HV.out _ B9.out⟩
  clear K9 K89 K139 K159 RA9 RY9 RZ9 RC9 RD9 U9 KG1 KG2
  have lN : (mgN dn m).length = 32 := sha_len _
  have bR : Hid (∀ W, Calls Tryd.prog 14 #[.agg (mgRow m q1 m.data.length k1).toArray] W fun e w' => e = .returned (.bool (okM m)) ∧ Below W.heap.size W w') := fun W => RightMessage_any OK.out.gas (by have := ML.out; unfold maxLen; omega)
  have bR2 : Hid (∀ W, Calls Tryd.prog 15 #[.agg (mgRow m q m.data.length k).toArray] W fun e w' => e = .returned (.bool (okM m)) ∧ Below W.heap.size W w') := fun W => refRightMessage_any OK.out.gas (by have := ML.out; unfold maxLen; omega)
  obtain ⟨res, hres⟩ : ∃ res, okM m = res := ⟨_, rfl⟩
  rw [hres] at bR bR2
  clear hres
  have bs := bool_same res
  obtain ⟨sX, hsX⟩ : ∃ sX, strOfNums XB = sX := ⟨_, rfl⟩
  have SX := Lib.hid hsX
  have ds : (sX.toList == sX.toList) = true := by simp
  obtain ⟨N, hN⟩ : ∃ N, mgN dn m = N := ⟨_, rfl⟩
  have HN := Lib.hid hN
  rw [hN] at lN
  have h95 := mgRow_len y q5 y.data.length k5
  have h96 := mgRow_len y q6 y.data.length k6
  clear hsX hN
  refine wp_region_held_drew (S := fun W => LwS W w.heap.size b8 b13 b15 m y q k q1 k1 q5 k5 q6 k6 (.slice q3 XB.length k3) (.slice q4 XB.length k4) XB (.slice (some ⟨gu, 0, none⟩) xs.length cu) xs w0.heap.size (.slice qv xs.length cv)) (by kernel_rfl) (LW.out.on ((Below.refl _ _).drew)) (fun h0 => ?_)
  have B10 : Hid (Below w.heap.size w w9.drew) := Lib.hid B9.out.drew
  clear LW B9
  generalize w9.drew = w10 at *
  refine wpAnyH_take (i := 0) (v := ?_) (by rw [List.getElem?_toArray]; rfl) (by kernel_rfl) (by kernel_rfl) (by kernel_rfl) (by exact fun _ _ _ h => h) (Or.inl ⟨by rfl, ?_⟩) h0 ?_
  rotate_left
  · intro W hW
    have rw0 := hW.k0.row
    have rw8 := hW.k8.row
    have rw13 := hW.k13.row
    have rw15 := hW.k15.row
    go_simp
    all_goals with_reducible rfl
  try simp only [Act.put, List.setIfInBounds_toArray, List.set_cons_zero, List.set_cons_succ]
  refine wpAnyH_take (i := 2) (v := ?_) (by rw [List.getElem?_toArray]; rfl) (by kernel_rfl) (by kernel_rfl) (by kernel_rfl) (by exact fun _ _ _ h => h) (Or.inl ⟨by rfl, ?_⟩) h0 ?_
  rotate_left
  · intro W hW
    have rw0 := hW.k0.row
    have rw8 := hW.k8.row
    have rw13 := hW.k13.row
    have rw15 := hW.k15.row
    go_simp
    all_goals with_reducible rfl
  try simp only [Act.put, List.setIfInBounds_toArray, List.set_cons_zero, List.set_cons_succ]
  refine wpAnyH_ready (rs := [1]) (by kernel_rfl) (by simp) ?_
  refine AllReadyH.cons (by rw [List.getElem?_toArray]; rfl) (fun K hK => ?_) AllReadyH.nil
  rw [if_pos (by rfl)]
  go_wp2_with fail
  refine (bR.out _).mono ?_
  rintro e w11 ⟨rfl, hb⟩
  have M11 : LwS w11 w.heap.size b8 b13 b15 m y q k q1 k1 q5 k5 q6 k6 (.slice q3 XB.length k3) (.slice q4 XB.length k4) XB (.slice (some ⟨gu, 0, none⟩) xs.length cu) xs w0.heap.size (.slice qv xs.length cv) := LwS.on h0 hb
  have B11 := Lib.hid (B10.out.trans (hb.mono B10.out.size))
  clear hb
  go_wp2_with fail
  refine hK.out _ _ (M11) (fun h11 => ?_)
  clear hK K M11
  try simp only [Act.put, List.setIfInBounds_toArray, List.set_cons_zero, List.set_cons_succ]
  refine wpAnyH_ready (rs := [3]) (by kernel_rfl) (by simp) ?_
  refine AllReadyH.cons (by rw [List.getElem?_toArray]; rfl) (fun K hK => ?_) AllReadyH.nil
  rw [if_pos (by rfl)]
  go_wp2_with fail
  refine (bR2.out _).mono ?_
  rintro e w12 ⟨rfl, hb⟩
  have M12 : LwS w12 w.heap.size b8 b13 b15 m y q k q1 k1 q5 k5 q6 k6 (.slice q3 XB.length k3) (.slice q4 XB.length k4) XB (.slice (some ⟨gu, 0, none⟩) xs.length cu) xs w0.heap.size (.slice qv xs.length cv) := LwS.on h11 hb
  have B12 := Lib.hid (B11.out.trans (hb.mono B11.out.size))
  clear hb
  go_wp2_with fail
  refine hK.out _ _ (M12) (fun h12 => ?_)
  clear hK K M12
  try simp only [Act.put, List.setIfInBounds_toArray, List.set_cons_zero, List.set_cons_succ]
  refine wpAnyH_take (i := 4) (v := ?_) (by rw [List.getElem?_toArray]; rfl) (by kernel_rfl) (by kernel_rfl) (by kernel_rfl) (by exact fun _ _ _ h => h) (Or.inl ⟨by rfl, ?_⟩) h12 ?_
  rotate_left
  · intro W hW
    go_simp
    all_goals with_reducible rfl
  try simp only [Act.put, List.setIfInBounds_toArray, List.set_cons_zero, List.set_cons_succ]
  refine wpAnyH_take (i := 5) (v := ?_) (by rw [List.getElem?_toArray]; rfl) (by kernel_rfl) (by kernel_rfl) (by kernel_rfl) (by exact fun _ _ _ h => h) (Or.inl ⟨by rfl, ?_⟩) h12 ?_
  rotate_left
  · intro W hW
    go_simp
    all_goals with_reducible rfl
  try simp only [Act.put, List.setIfInBounds_toArray, List.set_cons_zero, List.set_cons_succ]
  refine wpAnyH_take (i := 6) (v := ?_) (by rw [List.getElem?_toArray]; rfl) (by kernel_rfl) (by kernel_rfl) (by kernel_rfl) (by exact fun _ _ _ h => h) (Or.inl ⟨by rfl, ?_⟩) h12 ?_
  rotate_left
  · intro W hW
    go_simp
    all_goals with_reducible rfl
  try simp only [Act.put, List.setIfInBounds_toArray, List.set_cons_zero, List.set_cons_succ]
  refine wpAnyH_take (i := 7) (v := ?_) (by rw [List.getElem?_toArray]; rfl) (by kernel_rfl) (by kernel_rfl) (by kernel_rfl) (by exact fun _ _ _ h => h) (Or.inl ⟨by rfl, ?_⟩) h12 ?_
  rotate_left
  · intro W hW
    have rw0 := hW.k0.row
    have rw8 := hW.k8.row
    have rw13 := hW.k13.row
    have rw15 := hW.k15.row
    go_simp
    all_goals with_reducible rfl
  try simp only [Act.put, List.setIfInBounds_toArray, List.set_cons_zero, List.set_cons_succ]
  refine wpAnyH_take (i := 9) (v := ?_) (by rw [List.getElem?_toArray]; rfl) (by kernel_rfl) (by kernel_rfl) (by kernel_rfl) (by exact fun _ _ _ h => h) (Or.inl ⟨by rfl, ?_⟩) h12 ?_
  rotate_left
  · intro W hW
    go_simp
    all_goals with_reducible rfl
  try simp only [Act.put, List.setIfInBounds_toArray, List.set_cons_zero, List.set_cons_succ]
  refine wpAnyH_take (i := 10) (v := ?_) (by rw [List.getElem?_toArray]; rfl) (by kernel_rfl) (by kernel_rfl) (by kernel_rfl) (by exact fun _ _ _ h => h) (Or.inl ⟨by rfl, ?_⟩) h12 ?_
  rotate_left
  · intro W hW
    have rw0 := hW.k0.row
    have rw8 := hW.k8.row
    have rw13 := hW.k13.row
    have rw15 := hW.k15.row
    go_simp
    all_goals with_reducible rfl
  try simp only [Act.put, List.setIfInBounds_toArray, List.set_cons_zero, List.set_cons_succ]
  refine wpAnyH_ready (rs := [8]) (by kernel_rfl) (by simp) ?_
  refine AllReadyH.cons (by rw [List.getElem?_toArray]; rfl) (fun K hK => ?_) AllReadyH.nil
  rw [if_pos (by rfl)]
  go_wp2_with fail
  refine (Hash9_any OK.out h12.r8 (by have := ML.out; omega) (HT.out.on B12.out HT.out.pos)).mono ?_
  rintro e w13 ⟨rfl, hb⟩
  rw [HN.out]
  have M13 : LwS w13 w.heap.size b8 b13 b15 m y q k q1 k1 q5 k5 q6 k6 (.slice q3 XB.length k3) (.slice q4 XB.length k4) XB (.slice (some ⟨gu, 0, none⟩) xs.length cu) xs w0.heap.size (.slice qv xs.length cv) := LwS.on h12 hb
  have B13 := Lib.hid (B12.out.trans (hb.mono B12.out.size))
  clear hb
  go_wp2_with fail
  refine hK.out _ _ (M13) (fun h13 => ?_)
  clear hK K M13
  try simp only [Act.put, List.setIfInBounds_toArray, List.set_cons_zero, List.set_cons_succ]
  refine wpAnyH_ready (rs := [11]) (by kernel_rfl) (by simp) ?_
  refine AllReadyH.cons (by rw [List.getElem?_toArray]; rfl) (fun K hK => ?_) AllReadyH.nil
  rw [if_pos (by rfl)]
  go_wp2_with fail
  refine (refHash9_any OK.out h13.r0 (by have := ML.out; omega)).mono ?_
  rintro e w14 ⟨rfl, hb⟩
  rw [HN.out]
  have M14 : LwS w14 w.heap.size b8 b13 b15 m y q k q1 k1 q5 k5 q6 k6 (.slice q3 XB.length k3) (.slice q4 XB.length k4) XB (.slice (some ⟨gu, 0, none⟩) xs.length cu) xs w0.heap.size (.slice qv xs.length cv) := LwS.on h13 hb
  have B14 := Lib.hid (B13.out.trans (hb.mono B13.out.size))
  clear hb
  go_wp2_with fail
  refine hK.out _ _ (M14) (fun h14 => ?_)
  clear hK K M14
  try simp only [Act.put, List.setIfInBounds_toArray, List.set_cons_zero, List.set_cons_succ]
  refine wpAnyH_take (i := 12) (v := ?_) (by rw [List.getElem?_toArray]; rfl) (by kernel_rfl) (by kernel_rfl) (by kernel_rfl) (by exact fun _ _ _ h => h) (Or.inl ⟨by rfl, ?_⟩) h14 ?_
  rotate_left
  · intro W hW
    go_simp
    all_goals with_reducible rfl
  try simp only [Act.put, List.setIfInBounds_toArray, List.set_cons_zero, List.set_cons_succ]
  refine wpAnyH_take (i := 13) (v := ?_) (by rw [List.getElem?_toArray]; rfl) (by kernel_rfl) (by kernel_rfl) (by kernel_rfl) (by exact fun _ _ _ h => h) (Or.inl ⟨by rfl, ?_⟩) h14 ?_
  rotate_left
  · intro W hW
    go_simp
    all_goals with_reducible rfl
  try simp only [Act.put, List.setIfInBounds_toArray, List.set_cons_zero, List.set_cons_succ]
  refine wpAnyH_take (i := 14) (v := ?_) (by rw [List.getElem?_toArray]; rfl) (by kernel_rfl) (by kernel_rfl) (by kernel_rfl) (by exact fun _ _ _ h => h) (Or.inl ⟨by rfl, ?_⟩) h14 ?_
  rotate_left
  · intro W hW
    go_simp
    all_goals with_reducible rfl
  try simp only [Act.put, List.setIfInBounds_toArray, List.set_cons_zero, List.set_cons_succ]
  refine wpAnyH_take (i := 15) (v := ?_) (by rw [List.getElem?_toArray]; rfl) (by kernel_rfl) (by kernel_rfl) (by kernel_rfl) (by exact fun _ _ _ h => h) (Or.inl ⟨by rfl, ?_⟩) h14 ?_
  rotate_left
  · intro W hW
    go_simp
    all_goals with_reducible rfl
  try simp only [Act.put, List.setIfInBounds_toArray, List.set_cons_zero, List.set_cons_succ]
  refine wpAnyH_take (i := 16) (v := ?_) (by rw [List.getElem?_toArray]; rfl) (by kernel_rfl) (by kernel_rfl) (by kernel_rfl) (by exact fun _ _ _ h => h) (Or.inl ⟨by rfl, ?_⟩) h14 ?_
  rotate_left
  · intro W hW
    have sc : (convert 25 9 (.slice q3 XB.length k3)).run Tryd.prog W = .ok (.string sX) W := by rw [← SX.out]; exact hW.rc.str (P := Tryd.prog) Tryd.underlying25 Tryd.underlying5 Tryd.underlying9
    go_simp
    all_goals with_reducible rfl
  try simp only [Act.put, List.setIfInBounds_toArray, List.set_cons_zero, List.set_cons_succ]
  refine wpAnyH_take (i := 17) (v := ?_) (by rw [List.getElem?_toArray]; rfl) (by kernel_rfl) (by kernel_rfl) (by kernel_rfl) (by exact fun _ _ _ h => h) (Or.inl ⟨by rfl, ?_⟩) h14 ?_
  rotate_left
  · intro W hW
    go_simp
    all_goals with_reducible rfl
  try simp only [Act.put, List.setIfInBounds_toArray, List.set_cons_zero, List.set_cons_succ]
  refine wpAnyH_take (i := 18) (v := ?_) (by rw [List.getElem?_toArray]; rfl) (by kernel_rfl) (by kernel_rfl) (by kernel_rfl) (by exact fun _ _ _ h => h) (Or.inl ⟨by rfl, ?_⟩) h14 ?_
  rotate_left
  · intro W hW
    have sc : (convert 25 9 (.slice q4 XB.length k4)).run Tryd.prog W = .ok (.string sX) W := by rw [← SX.out]; exact hW.rd.str (P := Tryd.prog) Tryd.underlying25 Tryd.underlying5 Tryd.underlying9
    go_simp
    all_goals with_reducible rfl
  try simp only [Act.put, List.setIfInBounds_toArray, List.set_cons_zero, List.set_cons_succ]
  refine wpAnyH_take (i := 19) (v := ?_) (by rw [List.getElem?_toArray]; rfl) (by kernel_rfl) (by kernel_rfl) (by kernel_rfl) (by exact fun _ _ _ h => h) (Or.inl ⟨by rfl, ?_⟩) h14 ?_
  rotate_left
  · intro W hW
    go_simp
    all_goals with_reducible rfl
  try simp only [Act.put, List.setIfInBounds_toArray, List.set_cons_zero, List.set_cons_succ]
  refine wpAnyH_take (i := 20) (v := ?_) (by rw [List.getElem?_toArray]; rfl) (by kernel_rfl) (by kernel_rfl) (by kernel_rfl) (by exact fun _ _ _ h => h) (Or.inl ⟨by rfl, ?_⟩) h14 ?_
  rotate_left
  · intro W hW
    go_simp
    all_goals with_reducible rfl
  try simp only [Act.put, List.setIfInBounds_toArray, List.set_cons_zero, List.set_cons_succ]
  refine wpAnyH_take (i := 21) (v := ?_) (by rw [List.getElem?_toArray]; rfl) (by kernel_rfl) (by kernel_rfl) (by kernel_rfl) (by exact fun _ _ _ h => h) (Or.inl ⟨by rfl, ?_⟩) h14 ?_
  rotate_left
  · intro W hW
    go_simp
    all_goals with_reducible rfl
  try simp only [Act.put, List.setIfInBounds_toArray, List.set_cons_zero, List.set_cons_succ]
  refine wpAnyH_take (i := 22) (v := ?_) (by rw [List.getElem?_toArray]; rfl) (by kernel_rfl) (by kernel_rfl) (by kernel_rfl) (by exact fun _ _ _ h => h) (Or.inl ⟨by rfl, ?_⟩) h14 ?_
  rotate_left
  · intro W hW
    go_simp
    all_goals with_reducible rfl
  try simp only [Act.put, List.setIfInBounds_toArray, List.set_cons_zero, List.set_cons_succ]
  refine wpAnyH_take (i := 24) (v := ?_) (by rw [List.getElem?_toArray]; rfl) (by kernel_rfl) (by kernel_rfl) (by kernel_rfl) (by exact fun _ _ _ h => h) (Or.inl ⟨by rfl, ?_⟩) h14 ?_
  rotate_left
  · intro W hW
    go_simp
    all_goals with_reducible rfl
  try simp only [Act.put, List.setIfInBounds_toArray, List.set_cons_zero, List.set_cons_succ]
  refine wpAnyH_ready (rs := [23]) (by kernel_rfl) (by simp) ?_
  refine AllReadyH.cons (by rw [List.getElem?_toArray]; rfl) (fun K hK => ?_) AllReadyH.nil
  rw [if_pos (by rfl)]
  go_wp2_with fail
  refine (num9_any EP _).mono ?_
  rintro e wz ⟨rfl, hwz⟩
  obtain rfl := hwz.symm
  clear hwz
  go_wp2_with fail
  refine hK.out _ _ (h14) (fun h15 => ?_)
  clear hK K
  try simp only [Act.put, List.setIfInBounds_toArray, List.set_cons_zero, List.set_cons_succ]
  refine wpAnyH_take (i := 25) (v := ?_) (by rw [List.getElem?_toArray]; rfl) (by kernel_rfl) (by kernel_rfl) (by kernel_rfl) (by exact fun _ _ _ h => h) (Or.inl ⟨by rfl, ?_⟩) h15 ?_
  rotate_left
  · intro W hW
    go_simp
    all_goals with_reducible rfl
  try simp only [Act.put, List.setIfInBounds_toArray, List.set_cons_zero, List.set_cons_succ]
  refine wpAnyH_take (i := 26) (v := ?_) (by rw [List.getElem?_toArray]; rfl) (by kernel_rfl) (by kernel_rfl) (by kernel_rfl) (by exact fun _ _ _ h => h) (Or.inl ⟨by rfl, ?_⟩) h15 ?_
  rotate_left
  · intro W hW
    go_simp
    all_goals with_reducible rfl
  try simp only [Act.put, List.setIfInBounds_toArray, List.set_cons_zero, List.set_cons_succ]
  refine wpAnyH_take (i := 27) (v := ?_) (by rw [List.getElem?_toArray]; rfl) (by kernel_rfl) (by kernel_rfl) (by kernel_rfl) (by exact fun _ _ _ h => h) (Or.inl ⟨by rfl, ?_⟩) h15 ?_
  rotate_left
  · intro W hW
    go_simp
    all_goals with_reducible rfl
  try simp only [Act.put, List.setIfInBounds_toArray, List.set_cons_zero, List.set_cons_succ]
  refine wpAnyH_take (i := 28) (v := ?_) (by rw [List.getElem?_toArray]; rfl) (by kernel_rfl) (by kernel_rfl) (by kernel_rfl) (by exact fun _ _ _ h => h) (Or.inl ⟨by rfl, ?_⟩) h15 ?_
  rotate_left
  · intro W hW
    have rw0 := hW.k0.row
    have rw8 := hW.k8.row
    have rw13 := hW.k13.row
    have rw15 := hW.k15.row
    go_simp
    all_goals with_reducible rfl
  try simp only [Act.put, List.setIfInBounds_toArray, List.set_cons_zero, List.set_cons_succ]
  refine wpAnyH_take (i := 30) (v := ?_) (by rw [List.getElem?_toArray]; rfl) (by kernel_rfl) (by kernel_rfl) (by kernel_rfl) (by exact fun _ _ _ h => h) (Or.inl ⟨by rfl, ?_⟩) h15 ?_
  rotate_left
  · intro W hW
    have rw0 := hW.k0.row
    have rw8 := hW.k8.row
    have rw13 := hW.k13.row
    have rw15 := hW.k15.row
    go_simp
    all_goals with_reducible rfl
  try simp only [Act.put, List.setIfInBounds_toArray, List.set_cons_zero, List.set_cons_succ]
  refine wpAnyH_ready (rs := [29]) (by kernel_rfl) (by simp) ?_
  refine AllReadyH.cons (by rw [List.getElem?_toArray]; rfl) (fun K hK => ?_) AllReadyH.nil
  rw [if_pos (by rfl)]
  go_wp2_with fail
  refine (RefMessage_any h15.r13 (by have := LY.out; omega)).mono ?_
  rintro e w16 ⟨qa16, ka16, rfl, hSa⟩
  have hb := hSa.below
  have RS16 := Lib.hid hSa.rd
  have hl16 := mgRow_len y qa16 y.data.length ka16
  clear hSa
  have M16 : LwS w16 w.heap.size b8 b13 b15 m y q k q1 k1 q5 k5 q6 k6 (.slice q3 XB.length k3) (.slice q4 XB.length k4) XB (.slice (some ⟨gu, 0, none⟩) xs.length cu) xs w0.heap.size (.slice qv xs.length cv) := LwS.on h15 hb
  have B16 := Lib.hid (B14.out.trans (hb.mono B14.out.size))
  clear hb
  go_wp2_with fail
  refine hK.out _ _ (M16) (fun h16 => ?_)
  clear hK K M16
  try simp only [Act.put, List.setIfInBounds_toArray, List.set_cons_zero, List.set_cons_succ]
  refine wpAnyH_ready (rs := [31]) (by kernel_rfl) (by simp) ?_
  refine AllReadyH.cons (by rw [List.getElem?_toArray]; rfl) (fun K hK => ?_) AllReadyH.nil
  rw [if_pos (by rfl)]
  go_wp2_with fail
  refine (SameMessage_any RS16.out h16.r15).mono ?_
  rintro e w17 ⟨rfl, hb⟩
  have M17 : LwS w17 w.heap.size b8 b13 b15 m y q k q1 k1 q5 k5 q6 k6 (.slice q3 XB.length k3) (.slice q4 XB.length k4) XB (.slice (some ⟨gu, 0, none⟩) xs.length cu) xs w0.heap.size (.slice qv xs.length cv) := LwS.on h16 hb
  have B17 := Lib.hid (B16.out.trans (hb.mono B16.out.size))
  clear hb
  go_wp2_with fail
  refine hK.out _ _ (M17) (fun h17 => ?_)
  clear hK K M17
  try simp only [Act.put, List.setIfInBounds_toArray, List.set_cons_zero, List.set_cons_succ]
  refine wpAnyH_take (i := 32) (v := ?_) (by rw [List.getElem?_toArray]; rfl) (by kernel_rfl) (by kernel_rfl) (by kernel_rfl) (by exact fun _ _ _ h => h) (Or.inl ⟨by rfl, ?_⟩) h17 ?_
  rotate_left
  · intro W hW
    go_simp
    all_goals with_reducible rfl
  try simp only [Act.put, List.setIfInBounds_toArray, List.set_cons_zero, List.set_cons_succ]
  refine wpAnyH_take (i := 33) (v := ?_) (by rw [List.getElem?_toArray]; rfl) (by kernel_rfl) (by kernel_rfl) (by kernel_rfl) (by exact fun _ _ _ h => h) (Or.inl ⟨by rfl, ?_⟩) h17 ?_
  rotate_left
  · intro W hW
    go_simp
    all_goals with_reducible rfl
  try simp only [Act.put, List.setIfInBounds_toArray, List.set_cons_zero, List.set_cons_succ]
  refine wpAnyH_take (i := 34) (v := ?_) (by rw [List.getElem?_toArray]; rfl) (by kernel_rfl) (by kernel_rfl) (by kernel_rfl) (by exact fun _ _ _ h => h) (Or.inl ⟨by rfl, ?_⟩) h17 ?_
  rotate_left
  · intro W hW
    go_simp
    all_goals with_reducible rfl
  try simp only [Act.put, List.setIfInBounds_toArray, List.set_cons_zero, List.set_cons_succ]
  refine wpAnyH_take (i := 36) (v := ?_) (by rw [List.getElem?_toArray]; rfl) (by kernel_rfl) (by kernel_rfl) (by kernel_rfl) (by exact fun _ _ _ h => h) (Or.inl ⟨by rfl, ?_⟩) h17 ?_
  rotate_left
  · intro W hW
    go_simp
    all_goals with_reducible rfl
  try simp only [Act.put, List.setIfInBounds_toArray, List.set_cons_zero, List.set_cons_succ]
  refine wpAnyH_ready (rs := [35]) (by kernel_rfl) (by simp) ?_
  refine AllReadyH.cons (by rw [List.getElem?_toArray]; rfl) (fun K hK => ?_) AllReadyH.nil
  rw [if_pos (by rfl)]
  go_wp2_with fail
  refine (num9_any EG _).mono ?_
  rintro e wz ⟨rfl, hwz⟩
  obtain rfl := hwz.symm
  clear hwz
  go_wp2_with fail
  refine hK.out _ _ (h17) (fun h18 => ?_)
  clear hK K
  try simp only [Act.put, List.setIfInBounds_toArray, List.set_cons_zero, List.set_cons_succ]
  refine wpAnyH_take (i := 37) (v := ?_) (by rw [List.getElem?_toArray]; rfl) (by kernel_rfl) (by kernel_rfl) (by kernel_rfl) (by exact fun _ _ _ h => h) (Or.inl ⟨by rfl, ?_⟩) h18 ?_
  rotate_left
  · intro W hW
    go_simp
    all_goals with_reducible rfl
  try simp only [Act.put, List.setIfInBounds_toArray, List.set_cons_zero, List.set_cons_succ]
  refine wpAnyH_take (i := 38) (v := ?_) (by rw [List.getElem?_toArray]; rfl) (by kernel_rfl) (by kernel_rfl) (by kernel_rfl) (by exact fun _ _ _ h => h) (Or.inl ⟨by rfl, ?_⟩) h18 ?_
  rotate_left
  · intro W hW
    go_simp
    all_goals with_reducible rfl
  try simp only [Act.put, List.setIfInBounds_toArray, List.set_cons_zero, List.set_cons_succ]
  refine wpAnyH_take (i := 39) (v := ?_) (by rw [List.getElem?_toArray]; rfl) (by kernel_rfl) (by kernel_rfl) (by kernel_rfl) (by exact fun _ _ _ h => h) (Or.inl ⟨by rfl, ?_⟩) h18 ?_
  rotate_left
  · intro W hW
    go_simp
    all_goals with_reducible rfl
  try simp only [Act.put, List.setIfInBounds_toArray, List.set_cons_zero, List.set_cons_succ]
  refine wpAnyH_take (i := 40) (v := ?_) (by rw [List.getElem?_toArray]; rfl) (by kernel_rfl) (by kernel_rfl) (by kernel_rfl) (by exact fun _ _ _ h => h) (Or.inl ⟨by rfl, ?_⟩) h18 ?_
  rotate_left
  · intro W hW
    have rw0 := hW.k0.row
    have rw8 := hW.k8.row
    have rw13 := hW.k13.row
    have rw15 := hW.k15.row
    go_simp
    all_goals with_reducible rfl
  try simp only [Act.put, List.setIfInBounds_toArray, List.set_cons_zero, List.set_cons_succ]
  refine wpAnyH_take (i := 42) (v := ?_) (by rw [List.getElem?_toArray]; rfl) (by kernel_rfl) (by kernel_rfl) (by kernel_rfl) (by exact fun _ _ _ h => h) (Or.inl ⟨by rfl, ?_⟩) h18 ?_
  rotate_left
  · intro W hW
    have rw0 := hW.k0.row
    have rw8 := hW.k8.row
    have rw13 := hW.k13.row
    have rw15 := hW.k15.row
    go_simp
    all_goals with_reducible rfl
  try simp only [Act.put, List.setIfInBounds_toArray, List.set_cons_zero, List.set_cons_succ]
  refine wpAnyH_ready (rs := [41]) (by kernel_rfl) (by simp) ?_
  refine AllReadyH.cons (by rw [List.getElem?_toArray]; rfl) (fun K hK => ?_) AllReadyH.nil
  rw [if_pos (by rfl)]
  go_wp2_with fail
  refine (RefMessage_any h18.r8 (by have := ML.out; omega)).mono ?_
  rintro e w19 ⟨qa19, ka19, rfl, hSa⟩
  have hb := hSa.below
  have RS19 := Lib.hid hSa.rd
  have hl19 := mgRow_len m qa19 m.data.length ka19
  clear hSa
  have M19 : LwS w19 w.heap.size b8 b13 b15 m y q k q1 k1 q5 k5 q6 k6 (.slice q3 XB.length k3) (.slice q4 XB.length k4) XB (.slice (some ⟨gu, 0, none⟩) xs.length cu) xs w0.heap.size (.slice qv xs.length cv) := LwS.on h18 hb
  have B19 := Lib.hid (B17.out.trans (hb.mono B17.out.size))
  clear hb
  go_wp2_with fail
  refine hK.out _ _ (M19) (fun h19 => ?_)
  clear hK K M19
  try simp only [Act.put, List.setIfInBounds_toArray, List.set_cons_zero, List.set_cons_succ]
  refine wpAnyH_ready (rs := [43]) (by kernel_rfl) (by simp) ?_
  refine AllReadyH.cons (by rw [List.getElem?_toArray]; rfl) (fun K hK => ?_) AllReadyH.nil
  rw [if_pos (by rfl)]
  go_wp2_with fail
  refine (SameMessage_any RS19.out h19.r0).mono ?_
  rintro e w20 ⟨rfl, hb⟩
  have M20 : LwS w20 w.heap.size b8 b13 b15 m y q k q1 k1 q5 k5 q6 k6 (.slice q3 XB.length k3) (.slice q4 XB.length k4) XB (.slice (some ⟨gu, 0, none⟩) xs.length cu) xs w0.heap.size (.slice qv xs.length cv) := LwS.on h19 hb
  have B20 := Lib.hid (B19.out.trans (hb.mono B19.out.size))
  clear hb
  go_wp2_with fail
  refine hK.out _ _ (M20) (fun h20 => ?_)
  clear hK K M20
  try simp only [Act.put, List.setIfInBounds_toArray, List.set_cons_zero, List.set_cons_succ]
  refine wpAnyH_take (i := 44) (v := ?_) (by rw [List.getElem?_toArray]; rfl) (by kernel_rfl) (by kernel_rfl) (by kernel_rfl) (by exact fun _ _ _ h => h) (Or.inl ⟨by rfl, ?_⟩) h20 ?_
  rotate_left
  · intro W hW
    go_simp
    all_goals with_reducible rfl
  try simp only [Act.put, List.setIfInBounds_toArray, List.set_cons_zero, List.set_cons_succ]
  refine wpAnyH_take (i := 45) (v := ?_) (by rw [List.getElem?_toArray]; rfl) (by kernel_rfl) (by kernel_rfl) (by kernel_rfl) (by exact fun _ _ _ h => h) (Or.inl ⟨by rfl, ?_⟩) h20 ?_
  rotate_left
  · intro W hW
    go_simp
    all_goals with_reducible rfl
  try simp only [Act.put, List.setIfInBounds_toArray, List.set_cons_zero, List.set_cons_succ]
  refine wpAnyH_take (i := 46) (v := ?_) (by rw [List.getElem?_toArray]; rfl) (by kernel_rfl) (by kernel_rfl) (by kernel_rfl) (by exact fun _ _ _ h => h) (Or.inl ⟨by rfl, ?_⟩) h20 ?_
  rotate_left
  · intro W hW
    go_simp
    all_goals with_reducible rfl
  try simp only [Act.put, List.setIfInBounds_toArray, List.set_cons_zero, List.set_cons_succ]
  refine wpAnyH_take (i := 47) (v := ?_) (by rw [List.getElem?_toArray]; rfl) (by kernel_rfl) (by kernel_rfl) (by kernel_rfl) (by exact fun _ _ _ h => h) (Or.inl ⟨by rfl, ?_⟩) h20 ?_
  rotate_left
  · intro W hW
    go_simp
    all_goals with_reducible rfl
  try simp only [Act.put, List.setIfInBounds_toArray, List.set_cons_zero, List.set_cons_succ]
  refine wpAnyH_ready (rs := [48]) (by kernel_rfl) (by simp) ?_
  refine AllReadyH.cons (by rw [List.getElem?_toArray]; rfl) (fun K hK => ?_) AllReadyH.nil
  rw [if_pos (by rfl)]
  go_wp2_with fail
  refine (Stays_any h20.lu h20.rv XL.out).mono ?_
  rintro e w21 ⟨rfl, hb⟩
  have M21 : LwS w21 w.heap.size b8 b13 b15 m y q k q1 k1 q5 k5 q6 k6 (.slice q3 XB.length k3) (.slice q4 XB.length k4) XB (.slice (some ⟨gu, 0, none⟩) xs.length cu) xs w0.heap.size (.slice qv xs.length cv) := LwS.on h20 hb
  have B21 := Lib.hid (B20.out.trans (hb.mono B20.out.size))
  clear hb
  go_wp2_with fail
  refine hK.out _ _ (M21) (fun h21 => ?_)
  clear hK K M21
  try simp only [Act.put, List.setIfInBounds_toArray, List.set_cons_zero, List.set_cons_succ]
  refine wpAnyH_take (i := 49) (v := ?_) (by rw [List.getElem?_toArray]; rfl) (by kernel_rfl) (by kernel_rfl) (by kernel_rfl) (by exact fun _ _ _ h => h) (Or.inl ⟨by rfl, ?_⟩) h21 ?_
  rotate_left
  · intro W hW
    go_simp
    all_goals with_reducible rfl
  try simp only [Act.put, List.setIfInBounds_toArray, List.set_cons_zero, List.set_cons_succ]
  refine wpAnyH_take (i := 50) (v := ?_) (by rw [List.getElem?_toArray]; rfl) (by kernel_rfl) (by kernel_rfl) (by kernel_rfl) (by exact fun _ _ _ h => h) (Or.inl ⟨by rfl, ?_⟩) h21 ?_
  rotate_left
  · intro W hW
    go_simp
    all_goals with_reducible rfl
  try simp only [Act.put, List.setIfInBounds_toArray, List.set_cons_zero, List.set_cons_succ]
  refine wpAnyH_ready (rs := [51]) (by kernel_rfl) (by simp) ?_
  refine AllReadyH.cons (by rw [List.getElem?_toArray]; rfl) (fun K hK => ?_) AllReadyH.nil
  rw [if_pos (by rfl)]
  go_wp2_with fail
  refine (knows9_any (HT.out.on B21.out HT.out.pos)).mono ?_
  rintro e w22 ⟨rfl, hb⟩
  have M22 : LwS w22 w.heap.size b8 b13 b15 m y q k q1 k1 q5 k5 q6 k6 (.slice q3 XB.length k3) (.slice q4 XB.length k4) XB (.slice (some ⟨gu, 0, none⟩) xs.length cu) xs w0.heap.size (.slice qv xs.length cv) := LwS.on h21 hb
  have B22 := Lib.hid (B21.out.trans (hb.mono B21.out.size))
  clear hb
  go_wp2_with fail
  refine hK.out _ _ (M22) (fun h22 => ?_)
  clear hK K M22
  try simp only [Act.put, List.setIfInBounds_toArray, List.set_cons_zero, List.set_cons_succ]
  refine wpAnyH_take (i := 52) (v := ?_) (by rw [List.getElem?_toArray]; rfl) (by kernel_rfl) (by kernel_rfl) (by kernel_rfl) (by exact fun _ _ _ h => h) (Or.inl ⟨by rfl, ?_⟩) h22 ?_
  rotate_left
  · intro W hW
    go_simp
    all_goals with_reducible rfl
  try simp only [Act.put, List.setIfInBounds_toArray, List.set_cons_zero, List.set_cons_succ]
  refine wpAnyH_take (i := 53) (v := ?_) (by rw [List.getElem?_toArray]; rfl) (by kernel_rfl) (by kernel_rfl) (by kernel_rfl) (by exact fun _ _ _ h => h) (Or.inl ⟨by rfl, ?_⟩) h22 ?_
  rotate_left
  · intro W hW
    go_simp
    all_goals with_reducible rfl
  try simp only [Act.put, List.setIfInBounds_toArray, List.set_cons_zero, List.set_cons_succ]
  refine wpAnyH_done (by kernel_rfl) ?_ _
  go_wp2_with fail
  go_ret
  exact ⟨rfl, B22.out⟩
end Go.Proofs.YtcpoaalhpjipaaaDoor
namespace Go.Proofs.YtcpoaalhpjipaaaDoor
open Go.ChangeShapes Go.WideShapes Go.ChangeAt Go.RowKit

theorem Tryd.ownNone : ownKnob Tryd.prog.godebug = none := by kernel_rfl
theorem Tryd.laidOutTrue : laidOutB Tryd.prog = true := by kernel_rfl

section
variable {H : Type} {enc : TypeId × Value → H} {P : Program}

theorem post_of_below {f : Func} {s : ChangeSpec} {apart fresh handsOn again : Bool} {W W' : World} {args : Array Value} {v : Value} {ds gs : List (DataW H)} {before pa pv : List MemPlace}
    (hW : DataW.Whole enc P f.params.toList s.vars apart W args.toList ds gs before)
    (hres : ∀ (b : Nat) (sp : Nat → Bool) (hd : Bool), DataW.TrodAll enc P W' b sp hd f.resultTypes.toList (v.resultList f.resultTypes.size) (s.fn H (ds ++ gs)).results [])
    (hargs : ∀ sp : Nat → Bool, (∀ p ∈ before, sp p.block = true) → DataW.TrodAll enc P W' 0 sp true f.params.toList args.toList (s.fn H (ds ++ gs)).args pa)
    (hvars : ∀ sp : Nat → Bool, (∀ p ∈ before, sp p.block = true) → DataW.TrodVars enc P W' sp s.vars (s.fn H (ds ++ gs)).vars pv)
    (hps : before = pa ++ pv) (hb : Below W.heap.size W W')
    (hok : ∀ (j : Nat) (t : TypeId) (r : Value), f.resultTypes[j]? = some t → (v.resultList f.resultTypes.size)[j]? = some r → Value.okWide P W' .any 0 t r) :
    s.post enc P f apart fresh handsOn again W args v W' := by
  have hlt : ∀ p ∈ before, p.block < W.heap.size := fun p hp => hW.lt p hp
  have hold : ∀ p ∈ before, (fun b => decide (b < W.heap.size)) p.block = true := fun p hp => by simpa using hlt p hp
  refine ⟨ds, gs, before, [], pa, pv, hW, hres _ _ _, hargs _ hold, hvars _ hold, World.keptBut_mono (fun p hp => ⟨hp, ?_⟩) (hb.frame (· ∈ before)), fun _ => ?_⟩
  · rw [hps, List.mem_append] at hp
    exact Or.inr hp
  · obtain ⟨_, _, _, _, _, hz, hn⟩ := hW
    refine ⟨hok, _, _, ([] ++ pa) ++ pv, ⟨[] ++ pa, pv, trodAll_append (hargs _ (fun _ _ => rfl)) (hres _ _ _), hvars _ (fun _ _ => rfl), rfl, ?_, ?_⟩, ?_⟩
    · intro b off hp
      have hin : MemPlace.cell b off ∈ before := by rw [hps]; simpa using hp
      rw [hb.frozen (hlt _ hin)]
      exact hz b off hin
    · intro ha
      have := hn ha
      rw [hps] at this
      simpa using this
    · intro p hp _
      rw [hps]
      simpa using hp

theorem trodAll_stays (hl : laidOutB P = true) {W W' : World} {sp' : Nat → Bool} : ∀ (ts : List TypeId) (_ : ts.all (fun t => P.readableRec t && decide (t < P.types.size)) = true) {vs : List Value} {ds : List (DataW H)} {ps : List MemPlace}
    (_ : DataW.TrodAll enc P W 0 (fun _ => true) true ts vs ds ps) (_ : ∀ p ∈ ps, W.sameAt W' p) (_ : ∀ p ∈ ps, sp' p.block = true), DataW.TrodAll enc P W' 0 sp' true ts vs ds ps
  | [], _, vs, ds, ps, h, _, _ => by
    obtain ⟨rfl, rfl, rfl⟩ := trodAll_nil h
    exact trodAll_mk0
  | t :: ts, hr, vs, ds, ps, h, hsame, hs => by
    obtain ⟨v, vs', d, ds', p, q, rfl, rfl, rfl, h1, h2⟩ := trodAll_cons h
    simp only [List.all_cons, Bool.and_eq_true, decide_eq_true_eq] at hr
    exact trodAll_cons_mk (WideElems.Trod_stays hl hr.1.1 hr.1.2 h1 (fun x hx => hsame x (by simp [hx])) (fun x hx => hs x (by simp [hx])))
      (trodAll_stays hl ts hr.2 h2 (fun x hx => hsame x (by simp [hx])) (fun x hx => hs x (by simp [hx])))

/-- A LAW's END: it answers true, and of what there was nothing has turned. -/
theorem law_post {f : Func} {s : ChangeSpec} {tb : TypeId} {W W' : World} {args : Array Value} {ds gs : List (DataW H)} {before : List MemPlace} (hl : laidOutB P = true)
    (hW : DataW.Whole enc P f.params.toList s.vars false W args.toList ds gs before) (hvars : s.vars = []) (hpar : f.params.toList.all (fun t => P.readableRec t && decide (t < P.types.size)) = true)
    (hrt : f.resultTypes = #[tb]) (htb : P.underlying tb = some .bool) (hres : (s.fn H ds).results = [.lit (.bool true)]) (hargs : (s.fn H ds).args = ds) (hvs : (s.fn H ds).vars = [])
    (hb : Below W.heap.size W W') : s.post enc P f false true false false W args (.bool true) W' := by
  have hW' := hW
  have hlt : ∀ p ∈ before, p.block < W.heap.size := fun p hp => hW.lt p hp
  obtain ⟨p, q, hA, hV, rfl, hfz, hnd⟩ := hW
  rw [hvars] at hV
  obtain ⟨rfl, rfl⟩ := trodVars_none hV
  refine post_of_below (pa := p) (pv := []) hW' ?_ ?_ ?_ rfl hb ?_
  · intro b sp hd
    rw [List.append_nil, hres, hrt]
    exact trodAll_mk1 (shut_bool htb true)
  · intro sp hsp
    rw [List.append_nil, hargs]
    exact trodAll_stays hl _ hpar hA (fun x hx => hb.same (hlt x (by simp [hx]))) (fun x hx => hsp x (by simp [hx]))
  · intro sp hsp
    rw [List.append_nil, hvs, hvars]
    rfl
  · exact ok_one hrt rfl (okWide_bool_mk htb true)
end
end Go.Proofs.YtcpoaalhpjipaaaDoor
