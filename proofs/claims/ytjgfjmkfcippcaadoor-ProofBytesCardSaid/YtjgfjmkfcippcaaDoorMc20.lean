/-
  The walks of basculelaw02: Lent, Stays.; The walk of basculelaw06.ProofBytes.; The frame of every law's proof: a call that answers true, and of what there was turns nothing, is what the row asks.; A slice of bytes, as a law's argument.; A list of slices of bytes, as a law's argument; what it weighs.; How many slices an argument of slices holds; a hash as an argument, and its bytes.; A hash as a law's argument.; A struct's fields, as a law's argument holds them.; A proof of a key, as a law's argument.; Steps and hashes, as a law's arguments.
-/
import Derived.Test.YtjgfjmkfcippcaaDoorRows
import Derived.WalkKit
import Derived.ProofKit
import Derived.OpenShut
import Derived.Lib.SmallJoins
import Derived.Deep.Slices
import Derived.Deep.Grids
import Derived.SizedLaws
import Derived.Test.YtjgfjmkfcippcaaDoorMc1
import Derived.Test.YtjgfjmkfcippcaaDoorMc2
import Derived.Test.YtjgfjmkfcippcaaDoorMc3
import Derived.Test.YtjgfjmkfcippcaaDoorMc9
import Derived.Test.YtjgfjmkfcippcaaDoorMc11
import Derived.Test.YtjgfjmkfcippcaaDoorMc13
import Derived.Test.YtjgfjmkfcippcaaDoorMc14
import Derived.Test.YtjgfjmkfcippcaaDoorMc19
namespace Go.Proofs.YtjgfjmkfcippcaaDoor
open Go.RowKit
set_option maxRecDepth 100000

/-- A slice of the call's own: xs, and behind them in its room 55 and 56. -/
structure LentAt (w : World) (v : Value) (xs : List Int) (B : Nat) : Prop where
  own : ∃ g c, v = .slice (some ⟨g, 0, none⟩) xs.length c ∧ xs.length + 2 ≤ c ∧ B ≤ g ∧ w.ownsRow 0 5 1 (.slice (some ⟨g, 0, none⟩) (xs.length + 2) c) (xs.length + 2) (bc (xs ++ [55, 56]))

set_option maxHeartbeats 2000000 in
theorem Lent_any {w : World} {v : Value} {xs : List Int} (h : Rd w v xs) (hl : xs.length ≤ 140737488355000) :
    Calls Tryd.prog 36 #[v] w fun e w' => ∃ u, e = .returned u ∧ LentAt w' u xs w.heap.size ∧ Below w.heap.size w w' := by
  obtain ⟨i0, hi, hz0, hz1, hz2⟩ := info_parts Tryd.infoU8
  obtain ⟨q, c, rfl⟩ := h.len
  have HR := Lib.hid h
  clear h
  replace hi := Lib.hid hi
  replace hz0 := Lib.hid hz0
  replace hz1 := Lib.hid hz1
  replace hz2 := Lib.hid hz2
  go_enter Tryd.func36, Tryd.ntmps36
  go_wp2_with (at_builtin; refine wpList_append_row rfl _ _ rfl Tryd.underlying64 hi.out hz0.out hz1.out hz2.out rfl (own_empty w 5 1) ((HR.out.alloc _).src (P := Tryd.prog) Tryd.underlying64) ?b1 ?b2 ?_)
  case b1 => unfold maxLen; omega
  (try case b2 => omega)
  intro q2 k2 w2 own2 grow2 fr2
  have H2 := Lib.hid own2
  have B2 := Lib.hid (show Below w.heap.size w w2 from ((Below.refl _ _).alloc (Nat.le_refl _) (.cells #[] 5)).grown grow2 (by simp) (by intro g hg; simp [Value.ownBlock] at hg; omega))
  have F2 : Hid (∀ g, (Value.slice q2 xs.length k2).ownBlock = some g → w.heap.size ≤ g) := fun g hg => by
    rcases fr2 with e | e
    · rw [e] at hg; simp [Value.ownBlock] at hg; omega
    · rw [e] at hg; simp at hg; omega
  clear own2 grow2 fr2
  try simp only [Nat.zero_add, List.nil_append] at H2
  go_wp2_with (at_builtin; refine wpList_append_row rfl _ _ rfl Tryd.underlying64 hi.out hz0.out hz1.out hz2.out rfl (own_on H2.out ((Below.refl _ _).alloc (Nat.le_refl _) (.cells #[.int .u8 55, .int .u8 56] 5))) (news := [.int .u8 55, .int .u8 56]) (m := 2) ?rd ?b3 ?b4 ?_)
  case rd =>
    refine Src.ofSlice _ Tryd.underlying64 _ _ _ _ rfl (fun j u hu => ?_) (fun u hu => ?_)
    · rw [addr_add, Nat.zero_add, Joins.cell_of_block (heap_alloc_new w2 _)]
      simpa using hu
    · simp at hu; rcases hu with rfl | rfl <;> rfl
  case b3 => unfold maxLen; omega
  (try case b4 => omega)
  intro q3 k3 w3 own3 grow3 fr3
  have B3 := Lib.hid (show Below w.heap.size w w3 from ((B2.out.alloc B2.out.size (.cells #[.int .u8 55, .int .u8 56] 5))).grown grow3 (by have := B2.out.size; simp; omega) (by
    intro g hg; exact F2.out g hg))
  have F3 : Hid (∀ g, (Value.slice q3 (xs.length + 2) k3).ownBlock = some g → w.heap.size ≤ g) := fun g hg => by
    rcases fr3 with e | e
    · rw [e] at hg; exact F2.out g hg
    · rw [e] at hg; have := B2.out.size; simp at hg; omega
  obtain ⟨g, rfl, hk3⟩ : ∃ g, q3 = some ⟨g, 0, none⟩ ∧ xs.length + 2 ≤ k3 := by
    rcases own3.2 with ⟨h0, _⟩ | ⟨g, cap, cur, h1, _, hg, hnc, hcm, hcs, htake⟩
    · simp at h0
    · simp only [Value.slice.injEq, true_and] at h1
      exact ⟨g, h1.1, by omega⟩
  have H3 : Hid (w3.ownsRow 0 5 1 (.slice (some ⟨g, 0, none⟩) (xs.length + 2) k3) (xs.length + 2) (bc (xs ++ [55, 56]))) := by rw [bc_append]; exact own3
  clear own3 grow3 fr3 B2 H2 F2
  go_wp2_with fail
  go_ret
  exact ⟨_, rfl, ⟨g, k3, rfl, hk3, F3.out g rfl, H3.out⟩, B3.out⟩

theorem old {w W : World} (hb : Below w.heap.size w W) {p : Addr} {v : Value} (hc : w.cell? p = some v) : W.cell? p = some v := by
  rw [hb.cell (World.block_lt_of_cell? w p hc)]; exact hc
theorem LentAt.on {w w' : World} {v : Value} {xs : List Int} {B : Nat} (h : LentAt w v xs B) (hb : Below w.heap.size w w') : LentAt w' v xs B := by
  obtain ⟨g, c, e, h1, h2, h3⟩ := h.own
  exact ⟨g, c, e, h1, h2, own_on h3 hb⟩
theorem LentAt.rdc {w : World} {v : Value} {xs : List Int} {B : Nat} (h : LentAt w v xs B) : RdC w v xs := by
  obtain ⟨g, c, rfl, h1, h2, h3⟩ := h.own
  have hr := rd_of_row (by simpa using h3 : w.ownsRow 0 5 1 (.slice (some ⟨g, 0, none⟩) (xs.length + 2) c) (xs.length + 2) (bc (xs ++ [55, 56])))
  obtain ⟨q', c', e, h0 | ⟨b, off, rfl, hc⟩⟩ := hr
  · simp at h0
  · simp only [Value.slice.injEq, Option.some.injEq, Addr.mk.injEq, and_true] at e
    obtain ⟨⟨rfl, rfl⟩, -, -⟩ := e
    refine ⟨_, c, rfl, by omega, .inr ⟨g, 0, rfl, fun i hi => ?_⟩⟩
    rw [hc i (by simp; omega)]
    simp [List.getD, List.getElem?_append_left hi]
theorem LentAt.tail {w : World} {v : Value} {xs : List Int} {B : Nat} (h : LentAt w v xs B) : ∃ g c, v = .slice (some ⟨g, 0, none⟩) xs.length c ∧ xs.length + 2 ≤ c ∧ w.cell? ⟨g, xs.length, none⟩ = some (.int .u8 55) ∧ w.cell? ⟨g, xs.length + 1, none⟩ = some (.int .u8 56) := by
  obtain ⟨g, c, rfl, h1, h2, h3⟩ := h.own
  have hr := rd_of_row (by simpa using h3 : w.ownsRow 0 5 1 (.slice (some ⟨g, 0, none⟩) (xs.length + 2) c) (xs.length + 2) (bc (xs ++ [55, 56])))
  obtain ⟨q', c', e, h0 | ⟨b, off, rfl, hc⟩⟩ := hr
  · simp at h0
  · simp only [Value.slice.injEq, Option.some.injEq, Addr.mk.injEq, and_true] at e
    obtain ⟨⟨rfl, rfl⟩, -, -⟩ := e
    have c5 := hc xs.length (by simp)
    have c6 := hc (xs.length + 1) (by simp)
    rw [Nat.zero_add] at c5 c6
    exact ⟨g, c, rfl, h1, by rw [c5]; simp [List.getD], by rw [c6]; simp [List.getD]⟩

set_option maxHeartbeats 4000000 in
theorem Stays_any {w : World} {u v : Value} {xs : List Int} {B : Nat} (hu : LentAt w u xs B) (hv : Rd w v xs) (hl : xs.length ≤ 140737488355000) :
    Calls Tryd.prog 41 #[u, v] w fun e w' => e = .returned (.bool true) ∧ Below w.heap.size w w' := by
  have hA := hu.rdc.rd
  have hL := hv
  obtain ⟨g, c, rfl, hc, h55, h56⟩ := hu.tail
  obtain ⟨q, cv, rfl⟩ := hv.len
  clear hu hv
  have k1 : IntKind.i64.wrap ((xs.length : Int) + 1) = (xs.length : Int) + 1 := IntWalk.i64_in _ (by omega)
  have e1 : ((xs.length : Int) + 1).toNat = xs.length + 1 := by omega
  have b0 : (0 : Int) ≤ (xs.length : Int) := by omega
  have b1 : (xs.length : Int) < (xs.length : Int) + 2 := by omega
  have b2 : (0 : Int) ≤ (xs.length : Int) + 1 := by omega
  have b3 : (xs.length : Int) + 1 < (xs.length : Int) + 2 := by omega
  have b4 : (xs.length : Int) ≤ (c : Int) := by omega
  have HA := Lib.hid hA
  have HL := Lib.hid hL
  have H5 := Lib.hid h55
  have H6 := Lib.hid h56
  clear hA hL h55 h56
  go_enter Tryd.func41, Tryd.ntmps41
  go_wp2_with fail
  refine wp_region_held_drew (S := fun W => Below w.heap.size w W) (by kernel_rfl) ((Below.refl _ _).drew) (fun h0 => ?_)
  refine wpAnyH_take (i := 0) (v := ?_) (by rw [List.getElem?_toArray]; rfl) (by kernel_rfl) (by kernel_rfl) (by kernel_rfl) (by exact fun _ _ _ h => h) (Or.inl ⟨by rfl, ?_⟩) h0 ?_
  rotate_left
  · intro W hW
    go_simp
    all_goals with_reducible rfl
  try simp only [Act.put, List.setIfInBounds_toArray, List.set_cons_zero, List.set_cons_succ]
  refine wpAnyH_take (i := 1) (v := ?_) (by rw [List.getElem?_toArray]; rfl) (by kernel_rfl) (by kernel_rfl) (by kernel_rfl) (by exact fun _ _ _ h => h) (Or.inl ⟨by rfl, ?_⟩) h0 ?_
  rotate_left
  · intro W hW
    go_simp
    all_goals with_reducible rfl
  try simp only [Act.put, List.setIfInBounds_toArray, List.set_cons_zero, List.set_cons_succ]
  refine wpAnyH_take (i := 2) (v := ?_) (by rw [List.getElem?_toArray]; rfl) (by kernel_rfl) (by kernel_rfl) (by kernel_rfl) (by exact fun _ _ _ h => h) (Or.inl ⟨by rfl, ?_⟩) h0 ?_
  rotate_left
  · intro W hW
    go_simp
    all_goals with_reducible rfl
  try simp only [Act.put, List.setIfInBounds_toArray, List.set_cons_zero, List.set_cons_succ]
  refine wpAnyH_take (i := 3) (v := ?_) (by rw [List.getElem?_toArray]; rfl) (by kernel_rfl) (by kernel_rfl) (by kernel_rfl) (by exact fun _ _ _ h => h) (Or.inl ⟨by rfl, ?_⟩) h0 ?_
  rotate_left
  · intro W hW
    go_simp
    all_goals with_reducible rfl
  try simp only [Act.put, List.setIfInBounds_toArray, List.set_cons_zero, List.set_cons_succ]
  refine wpAnyH_take (i := 4) (v := ?_) (by rw [List.getElem?_toArray]; rfl) (by kernel_rfl) (by kernel_rfl) (by kernel_rfl) (by exact fun _ _ _ h => h) (Or.inl ⟨by rfl, ?_⟩) h0 ?_
  rotate_left
  · intro W hW
    have ca := (HA.out.on hW).str (P := Tryd.prog) Tryd.underlying64 Tryd.underlying5 Tryd.underlying9
    go_simp
    all_goals with_reducible rfl
  try simp only [Act.put, List.setIfInBounds_toArray, List.set_cons_zero, List.set_cons_succ]
  refine wpAnyH_take (i := 5) (v := ?_) (by rw [List.getElem?_toArray]; rfl) (by kernel_rfl) (by kernel_rfl) (by kernel_rfl) (by exact fun _ _ _ h => h) (Or.inl ⟨by rfl, ?_⟩) h0 ?_
  rotate_left
  · intro W hW
    go_simp
    all_goals with_reducible rfl
  try simp only [Act.put, List.setIfInBounds_toArray, List.set_cons_zero, List.set_cons_succ]
  refine wpAnyH_take (i := 6) (v := ?_) (by rw [List.getElem?_toArray]; rfl) (by kernel_rfl) (by kernel_rfl) (by kernel_rfl) (by exact fun _ _ _ h => h) (Or.inl ⟨by rfl, ?_⟩) h0 ?_
  rotate_left
  · intro W hW
    have cl := (HL.out.on hW).str (P := Tryd.prog) Tryd.underlying64 Tryd.underlying5 Tryd.underlying9
    go_simp
    all_goals with_reducible rfl
  try simp only [Act.put, List.setIfInBounds_toArray, List.set_cons_zero, List.set_cons_succ]
  refine wpAnyH_take (i := 7) (v := ?_) (by rw [List.getElem?_toArray]; rfl) (by kernel_rfl) (by kernel_rfl) (by kernel_rfl) (by exact fun _ _ _ h => h) (Or.inl ⟨by rfl, ?_⟩) h0 ?_
  rotate_left
  · intro W hW
    go_simp
    all_goals with_reducible rfl
  try simp only [Act.put, List.setIfInBounds_toArray, List.set_cons_zero, List.set_cons_succ]
  refine wpAnyH_take (i := 8) (v := ?_) (by rw [List.getElem?_toArray]; rfl) (by kernel_rfl) (by kernel_rfl) (by kernel_rfl) (by exact fun _ _ _ h => h) (Or.inl ⟨by rfl, ?_⟩) h0 ?_
  rotate_left
  · intro W hW
    go_simp
    all_goals with_reducible rfl
  try simp only [Act.put, List.setIfInBounds_toArray, List.set_cons_zero, List.set_cons_succ]
  refine wpAnyH_take (i := 9) (v := ?_) (by rw [List.getElem?_toArray]; rfl) (by kernel_rfl) (by kernel_rfl) (by kernel_rfl) (by exact fun _ _ _ h => h) (Or.inl ⟨by rfl, ?_⟩) h0 ?_
  rotate_left
  · intro W hW
    go_simp
    all_goals with_reducible rfl
  try simp only [Act.put, List.setIfInBounds_toArray, List.set_cons_zero, List.set_cons_succ]
  refine wpAnyH_take (i := 10) (v := ?_) (by rw [List.getElem?_toArray]; rfl) (by kernel_rfl) (by kernel_rfl) (by kernel_rfl) (by exact fun _ _ _ h => h) (Or.inl ⟨by rfl, ?_⟩) h0 ?_
  rotate_left
  · intro W hW
    go_simp
    all_goals with_reducible rfl
  try simp only [Act.put, List.setIfInBounds_toArray, List.set_cons_zero, List.set_cons_succ]
  refine wpAnyH_take (i := 11) (v := ?_) (by rw [List.getElem?_toArray]; rfl) (by kernel_rfl) (by kernel_rfl) (by kernel_rfl) (by exact fun _ _ _ h => h) (Or.inl ⟨by rfl, ?_⟩) h0 ?_
  rotate_left
  · intro W hW
    go_simp
    all_goals with_reducible rfl
  try simp only [Act.put, List.setIfInBounds_toArray, List.set_cons_zero, List.set_cons_succ]
  refine wpAnyH_take (i := 12) (v := ?_) (by rw [List.getElem?_toArray]; rfl) (by kernel_rfl) (by kernel_rfl) (by kernel_rfl) (by exact fun _ _ _ h => h) (Or.inl ⟨by rfl, ?_⟩) h0 ?_
  rotate_left
  · intro W hW
    go_simp
    all_goals with_reducible rfl
  try simp only [Act.put, List.setIfInBounds_toArray, List.set_cons_zero, List.set_cons_succ]
  refine wpAnyH_take (i := 13) (v := ?_) (by rw [List.getElem?_toArray]; rfl) (by kernel_rfl) (by kernel_rfl) (by kernel_rfl) (by exact fun _ _ _ h => h) (Or.inl ⟨by rfl, ?_⟩) h0 ?_
  rotate_left
  · intro W hW
    have c5 := old hW H5.out
    go_simp
    all_goals with_reducible rfl
  try simp only [Act.put, List.setIfInBounds_toArray, List.set_cons_zero, List.set_cons_succ]
  refine wpAnyH_take (i := 14) (v := ?_) (by rw [List.getElem?_toArray]; rfl) (by kernel_rfl) (by kernel_rfl) (by kernel_rfl) (by exact fun _ _ _ h => h) (Or.inl ⟨by rfl, ?_⟩) h0 ?_
  rotate_left
  · intro W hW
    go_simp
    all_goals with_reducible rfl
  try simp only [Act.put, List.setIfInBounds_toArray, List.set_cons_zero, List.set_cons_succ]
  refine wpAnyH_take (i := 15) (v := ?_) (by rw [List.getElem?_toArray]; rfl) (by kernel_rfl) (by kernel_rfl) (by kernel_rfl) (by exact fun _ _ _ h => h) (Or.inl ⟨by rfl, ?_⟩) h0 ?_
  rotate_left
  · intro W hW
    go_simp
    all_goals with_reducible rfl
  try simp only [Act.put, List.setIfInBounds_toArray, List.set_cons_zero, List.set_cons_succ]
  refine wpAnyH_take (i := 16) (v := ?_) (by rw [List.getElem?_toArray]; rfl) (by kernel_rfl) (by kernel_rfl) (by kernel_rfl) (by exact fun _ _ _ h => h) (Or.inl ⟨by rfl, ?_⟩) h0 ?_
  rotate_left
  · intro W hW
    go_simp
    all_goals with_reducible rfl
  try simp only [Act.put, List.setIfInBounds_toArray, List.set_cons_zero, List.set_cons_succ]
  refine wpAnyH_take (i := 17) (v := ?_) (by rw [List.getElem?_toArray]; rfl) (by kernel_rfl) (by kernel_rfl) (by kernel_rfl) (by exact fun _ _ _ h => h) (Or.inl ⟨by rfl, ?_⟩) h0 ?_
  rotate_left
  · intro W hW
    go_simp
    all_goals with_reducible rfl
  try simp only [Act.put, List.setIfInBounds_toArray, List.set_cons_zero, List.set_cons_succ]
  refine wpAnyH_take (i := 18) (v := ?_) (by rw [List.getElem?_toArray]; rfl) (by kernel_rfl) (by kernel_rfl) (by kernel_rfl) (by exact fun _ _ _ h => h) (Or.inl ⟨by rfl, ?_⟩) h0 ?_
  rotate_left
  · intro W hW
    go_simp
    all_goals with_reducible rfl
  try simp only [Act.put, List.setIfInBounds_toArray, List.set_cons_zero, List.set_cons_succ]
  refine wpAnyH_take (i := 19) (v := ?_) (by rw [List.getElem?_toArray]; rfl) (by kernel_rfl) (by kernel_rfl) (by kernel_rfl) (by exact fun _ _ _ h => h) (Or.inl ⟨by rfl, ?_⟩) h0 ?_
  rotate_left
  · intro W hW
    go_simp
    all_goals with_reducible rfl
  try simp only [Act.put, List.setIfInBounds_toArray, List.set_cons_zero, List.set_cons_succ]
  refine wpAnyH_take (i := 20) (v := ?_) (by rw [List.getElem?_toArray]; rfl) (by kernel_rfl) (by kernel_rfl) (by kernel_rfl) (by exact fun _ _ _ h => h) (Or.inl ⟨by rfl, ?_⟩) h0 ?_
  rotate_left
  · intro W hW
    go_simp
    all_goals with_reducible rfl
  try simp only [Act.put, List.setIfInBounds_toArray, List.set_cons_zero, List.set_cons_succ]
  refine wpAnyH_take (i := 21) (v := ?_) (by rw [List.getElem?_toArray]; rfl) (by kernel_rfl) (by kernel_rfl) (by kernel_rfl) (by exact fun _ _ _ h => h) (Or.inl ⟨by rfl, ?_⟩) h0 ?_
  rotate_left
  · intro W hW
    go_simp
    all_goals with_reducible rfl
  try simp only [Act.put, List.setIfInBounds_toArray, List.set_cons_zero, List.set_cons_succ]
  refine wpAnyH_take (i := 22) (v := ?_) (by rw [List.getElem?_toArray]; rfl) (by kernel_rfl) (by kernel_rfl) (by kernel_rfl) (by exact fun _ _ _ h => h) (Or.inl ⟨by rfl, ?_⟩) h0 ?_
  rotate_left
  · intro W hW
    have c6 := old hW H6.out
    go_simp
    all_goals with_reducible rfl
  try simp only [Act.put, List.setIfInBounds_toArray, List.set_cons_zero, List.set_cons_succ]
  refine wpAnyH_take (i := 23) (v := ?_) (by rw [List.getElem?_toArray]; rfl) (by kernel_rfl) (by kernel_rfl) (by kernel_rfl) (by exact fun _ _ _ h => h) (Or.inl ⟨by rfl, ?_⟩) h0 ?_
  rotate_left
  · intro W hW
    go_simp
    all_goals with_reducible rfl
  try simp only [Act.put, List.setIfInBounds_toArray, List.set_cons_zero, List.set_cons_succ]
  refine wpAnyH_take (i := 24) (v := ?_) (by rw [List.getElem?_toArray]; rfl) (by kernel_rfl) (by kernel_rfl) (by kernel_rfl) (by exact fun _ _ _ h => h) (Or.inl ⟨by rfl, ?_⟩) h0 ?_
  rotate_left
  · intro W hW
    go_simp
    all_goals with_reducible rfl
  try simp only [Act.put, List.setIfInBounds_toArray, List.set_cons_zero, List.set_cons_succ]
  refine wpAnyH_take (i := 25) (v := ?_) (by rw [List.getElem?_toArray]; rfl) (by kernel_rfl) (by kernel_rfl) (by kernel_rfl) (by exact fun _ _ _ h => h) (Or.inl ⟨by rfl, ?_⟩) h0 ?_
  rotate_left
  · intro W hW
    go_simp
    all_goals with_reducible rfl
  try simp only [Act.put, List.setIfInBounds_toArray, List.set_cons_zero, List.set_cons_succ]
  refine wpAnyH_done (by kernel_rfl) ?_ _
  go_wp2_with fail
  go_ret
  exact ⟨rfl, (Below.refl _ _).drew⟩
end Go.Proofs.YtjgfjmkfcippcaaDoor
namespace Go.Proofs.YtjgfjmkfcippcaaDoor
set_option maxRecDepth 100000
open Go.RowKit

set_option maxHeartbeats 16000000 in
theorem Bytes6_walk {w : World} {q : Option Addr} {c : Nat} {L : List Sp} {v : Value} {xs : List Int} (hT : Tbl w) (hs : RdSp w q L) (ok : SpOk L) (hn : L.length * 120 ≤ 140737488355328) (hr : Rd w v xs) (hx : Bytes xs) (hl : xs.length ≤ 140737488355000) :
    Calls Tryd.prog 7 #[.slice q L.length c, v] w fun e w' => e = .returned (.bool true) ∧ Below w.heap.size w w' := by
  obtain ⟨X, z, okX, lX, G1, G2⟩ := Get6_both hx (by omega)
  obtain ⟨qv, cv, rfl⟩ := hr.len
  have HS : Hid (∀ W, Below w.heap.size w W → RdSp W q L) := fun W hb => hs.on ok hb
  have HR := Lib.hid hr
  have OK := Lib.hid ok
  have HT := Lib.hid hT
  have OKX := Lib.hid okX
  have KG1 := Lib.hid G1
  have KG2 := Lib.hid G2
  have NN := Lib.hid hn
  have hn2 : L.length ≤ 140737488355328 := by omega
  clear hs ok hT hn hr hx okX G1 G2
  go_enter Tryd.func7, Tryd.ntmps7
  go_wp2_with fail
  refine (Lent_any HR.out hl).mono ?_
  rintro e w1 ⟨u, rfl, hu, hb⟩
  have U1 := Lib.hid hu
  obtain ⟨g, cu, rfl, -⟩ := hu.own
  have B1 := Lib.hid hb
  clear hu hb
  go_wp2_with fail
  refine (Own6_any (c := c) (HS.out _ B1.out) OK.out NN.out).mono ?_
  rintro e w2 ⟨q2, c2, Q, rfl, hO⟩
  have hb := hO.below
  have B2 := Lib.hid (B1.out.trans (hb.mono B1.out.size))
  have U2 := Lib.hid (U1.out.on hb)
  have RQ := Lib.hid (hO.rd OK.out).2
  clear hO hb B1 U1
  go_wp2_with fail
  refine (Put6_all (c := c2) RQ.out OK.out NN.out).mono ?_
  rintro e w3 ⟨q3, k3, rfl, rc, hb⟩
  have RC3 := Lib.hid rc
  have B3 := Lib.hid (B2.out.trans (hb.mono B2.out.size))
  have U3 := Lib.hid (U2.out.on hb)
  clear rc hb B2 U2 RQ
  go_wp2_with fail
  refine (refPut6_all (c := c) (HS.out _ B3.out) OK.out NN.out).mono ?_
  rintro e w4 ⟨q4, k4, rfl, rd, hb⟩
  have RD4 := Lib.hid rd
  have RC4 := Lib.hid (RC3.out.on hb)
  have B4 := Lib.hid (B3.out.trans (hb.mono B3.out.size))
  have U4 := Lib.hid (U3.out.on hb)
  clear rd hb B3 U3 RC3
  obtain ⟨XB, hXB⟩ : ∃ XB, pB6 L = XB := ⟨_, rfl⟩
  obtain ⟨EP, hEP⟩ : ∃ EP, putE L = EP := ⟨_, rfl⟩
  rw [hXB] at RC4 RD4 ⊢
  rw [hEP]
  clear hXB hEP
  go_wp2_with fail
  refine (KG1.out _ _ U4.out.rdc.rd).mono ?_
  rintro e w5 ⟨q5, k5, rfl, rx, hb⟩
  have RX5 := Lib.hid rx
  have RC5 := Lib.hid (RC4.out.on hb)
  have RD5 := Lib.hid (RD4.out.on hb)
  have B5 := Lib.hid (B4.out.trans (hb.mono B4.out.size))
  have U5 := Lib.hid (U4.out.on hb)
  clear rx hb B4 U4 RC4 RD4
  go_wp2_with fail
  refine (KG2.out _ _ (HR.out.on B5.out)).mono ?_
  rintro e w6 ⟨q6, k6, rfl, ry, hb⟩
  have RY6 := Lib.hid ry
  have RX6 := Lib.hid (RX5.out.on OKX.out hb)
  have RC6 := Lib.hid (RC5.out.on hb)
  have RD6 := Lib.hid (RD5.out.on hb)
  have B6 := Lib.hid (B5.out.trans (hb.mono B5.out.size))
  have U6 := Lib.hid (U5.out.on hb)
  clear ry hb B5 U5 RC5 RD5 RX5 KG1 KG2
  obtain ⟨sX, hsX⟩ : ∃ sX, strOfNums XB = sX := ⟨_, rfl⟩
  have sc : (convert 64 9 (.slice q3 XB.length k3)).run Tryd.prog w6 = .ok (.string sX) w6 := by rw [← hsX]; exact RC6.out.str (P := Tryd.prog) Tryd.underlying64 Tryd.underlying5 Tryd.underlying9
  have sd' : (convert 64 9 (.slice q4 XB.length k4)).run Tryd.prog w6 = .ok (.string sX) w6 := by rw [← hsX]; exact RD6.out.str (P := Tryd.prog) Tryd.underlying64 Tryd.underlying5 Tryd.underlying9
  have ds : (sX.toList == sX.toList) = true := by simp
  clear hsX
  go_wp2_with fail
  refine (num6_any EP w6).mono ?_
  rintro e wz ⟨rfl, hwz⟩
  obtain rfl := hwz.symm
  clear hwz sc sd'
  go_wp2_with fail
  refine (Same6_any RX6.out RY6.out OKX.out (by omega)).mono ?_
  rintro e w7 ⟨rfl, hb⟩
  have B7 := Lib.hid (B6.out.trans (hb.mono B6.out.size))
  have U7 := Lib.hid (U6.out.on hb)
  clear hb B6 U6
  go_wp2_with fail
  refine (num6_any z w7).mono ?_
  rintro e wz ⟨rfl, hwz⟩
  obtain rfl := hwz.symm
  clear hwz
  go_wp2_with fail
  refine (Stays_any U7.out (HR.out.on B7.out) hl).mono ?_
  rintro e w8 ⟨rfl, hb⟩
  have B8 := Lib.hid (B7.out.trans (hb.mono B7.out.size))
  clear hb
  go_wp2_with fail
  refine (knows6_any (HT.out.on B8.out HT.out.pos)).mono ?_
  rintro e we ⟨rfl, be⟩
  have BE := Lib.hid (B8.out.trans (be.mono B8.out.size))
  clear be B8
  go_wp2_with fail
  go_ret
  exact ⟨rfl, BE.out⟩
end Go.Proofs.YtjgfjmkfcippcaaDoor
namespace Go.Proofs.YtjgfjmkfcippcaaDoor
open Go.ChangeShapes Go.WideShapes Go.ChangeAt Go.RowKit

theorem Tryd.ownNone : ownKnob Tryd.prog.godebug = none := by kernel_rfl
theorem Tryd.laidOutTrue : laidOutB Tryd.prog = true := by kernel_rfl

section
variable {H : Type} {enc : TypeId × Value → H} {P : Program}

theorem post_of_below {f : Func} {s : ChangeSpec} {apart fresh handsOn again : Bool} {W W' : World} {args : Array Value} {v : Value} {ds gs : List (DataW H)} {before pa pv : List MemPlace}
    (hW : DataW.Whole enc P f.params.toList s.vars apart W args.toList ds gs before)
    (hres : ∀ (b : Nat) (sp : Nat → Bool) (hd : Bool), DataW.TrodAll enc P W' b sp hd f.resultTypes.toList (v.resultList f.resultTypes.size) (s.fn H (ds ++ gs)).results [])
    (hargs : ∀ sp : Nat → Bool, (∀ p ∈ before, sp p.block = true) → DataW.TrodAll enc P W' 0 sp true f.params.toList args.toList (s.fn H (ds ++ gs)).args pa)
    (hvars : ∀ sp : Nat → Bool, (∀ p ∈ before, sp p.block = true) → DataW.TrodVars enc P W' sp s.vars (s.fn H (ds ++ gs)).vars pv)
    (hps : before = pa ++ pv) (hb : Below W.heap.size W W')
    (hok : ∀ (j : Nat) (t : TypeId) (r : Value), f.resultTypes[j]? = some t → (v.resultList f.resultTypes.size)[j]? = some r → Value.okWide P W' .any 0 t r) :
    s.post enc P f apart fresh handsOn again W args v W' := by
  have hlt : ∀ p ∈ before, p.block < W.heap.size := fun p hp => hW.lt p hp
  have hold : ∀ p ∈ before, (fun b => decide (b < W.heap.size)) p.block = true := fun p hp => by simpa using hlt p hp
  refine ⟨ds, gs, before, [], pa, pv, hW, hres _ _ _, hargs _ hold, hvars _ hold, World.keptBut_mono (fun p hp => ⟨hp, ?_⟩) (hb.frame (· ∈ before)), fun _ => ?_⟩
  · rw [hps, List.mem_append] at hp
    exact Or.inr hp
  · obtain ⟨_, _, _, _, _, hz, hn⟩ := hW
    refine ⟨hok, _, _, ([] ++ pa) ++ pv, ⟨[] ++ pa, pv, trodAll_append (hargs _ (fun _ _ => rfl)) (hres _ _ _), hvars _ (fun _ _ => rfl), rfl, ?_, ?_⟩, ?_⟩
    · intro b off hp
      have hin : MemPlace.cell b off ∈ before := by rw [hps]; simpa using hp
      rw [hb.frozen (hlt _ hin)]
      exact hz b off hin
    · intro ha
      have := hn ha
      rw [hps] at this
      simpa using this
    · intro p hp _
      rw [hps]
      simpa using hp

theorem trodAll_stays (hl : laidOutB P = true) {W W' : World} {sp' : Nat → Bool} : ∀ (ts : List TypeId) (_ : ts.all (fun t => P.readableRec t && decide (t < P.types.size)) = true) {vs : List Value} {ds : List (DataW H)} {ps : List MemPlace}
    (_ : DataW.TrodAll enc P W 0 (fun _ => true) true ts vs ds ps) (_ : ∀ p ∈ ps, W.sameAt W' p) (_ : ∀ p ∈ ps, sp' p.block = true), DataW.TrodAll enc P W' 0 sp' true ts vs ds ps
  | [], _, vs, ds, ps, h, _, _ => by
    obtain ⟨rfl, rfl, rfl⟩ := trodAll_nil h
    exact trodAll_mk0
  | t :: ts, hr, vs, ds, ps, h, hsame, hs => by
    obtain ⟨v, vs', d, ds', p, q, rfl, rfl, rfl, h1, h2⟩ := trodAll_cons h
    simp only [List.all_cons, Bool.and_eq_true, decide_eq_true_eq] at hr
    exact trodAll_cons_mk (WideElems.Trod_stays hl hr.1.1 hr.1.2 h1 (fun x hx => hsame x (by simp [hx])) (fun x hx => hs x (by simp [hx])))
      (trodAll_stays hl ts hr.2 h2 (fun x hx => hsame x (by simp [hx])) (fun x hx => hs x (by simp [hx])))

/-- A LAW's END: it answers true, and of what there was nothing has turned. -/
theorem law_post {f : Func} {s : ChangeSpec} {tb : TypeId} {W W' : World} {args : Array Value} {ds gs : List (DataW H)} {before : List MemPlace} (hl : laidOutB P = true)
    (hW : DataW.Whole enc P f.params.toList s.vars false W args.toList ds gs before) (hvars : s.vars = []) (hpar : f.params.toList.all (fun t => P.readableRec t && decide (t < P.types.size)) = true)
    (hrt : f.resultTypes = #[tb]) (htb : P.underlying tb = some .bool) (hres : (s.fn H ds).results = [.lit (.bool true)]) (hargs : (s.fn H ds).args = ds) (hvs : (s.fn H ds).vars = [])
    (hb : Below W.heap.size W W') : s.post enc P f false true false false W args (.bool true) W' := by
  have hW' := hW
  have hlt : ∀ p ∈ before, p.block < W.heap.size := fun p hp => hW.lt p hp
  obtain ⟨p, q, hA, hV, rfl, hfz, hnd⟩ := hW
  rw [hvars] at hV
  obtain ⟨rfl, rfl⟩ := trodVars_none hV
  refine post_of_below (pa := p) (pv := []) hW' ?_ ?_ ?_ rfl hb ?_
  · intro b sp hd
    rw [List.append_nil, hres, hrt]
    exact trodAll_mk1 (shut_bool htb true)
  · intro sp hsp
    rw [List.append_nil, hargs]
    exact trodAll_stays hl _ hpar hA (fun x hx => hb.same (hlt x (by simp [hx]))) (fun x hx => hsp x (by simp [hx]))
  · intro sp hsp
    rw [List.append_nil, hvs, hvars]
    rfl
  · exact ok_one hrt rfl (okWide_bool_mk htb true)
end
end Go.Proofs.YtjgfjmkfcippcaaDoor
namespace Go.Proofs.YtjgfjmkfcippcaaDoor
set_option maxRecDepth 100000
open Go.ChangeShapes Go.WideShapes Go.ChangeAt Go.RowKit Go.Deep

theorem u8_bounds {x : Int} (h : (Lit.int .u8 x).wf = true) : 0 ≤ x ∧ x < 256 := by
  have : 0 ≤ x ∧ x ≤ 255 := by simpa [Lit.wf, IntKind.min, IntKind.max, IntKind.signed, IntKind.bits] using h
  omega

section
variable {H : Type} {enc : TypeId × Value → H} {w : World} {base : Nat} {held : Bool}
theorem open_bytes {r : Reach} {b0 : Nat} {v : Value} {d : DataW H} {p : List MemPlace} (hv : Value.okWide Tryd.prog w r b0 64 v) (h : DataW.Trod enc Tryd.prog w base (fun _ => true) held 64 v d p) :
    ∃ xs : List Int, Rd w v xs ∧ Bytes xs ∧ xs.length ≤ maxLen := by
  obtain ⟨a0, len, cap, rfl⟩ := okWide_slice Tryd.underlying64 hv
  obtain ⟨fuel, hf⟩ := h
  rcases open_ints Tryd.underlying64 Tryd.underlying5 (by kernel_rfl) hf with ⟨h0, _⟩ | ⟨a, len', cap', zs, hcs, _, hl, hm, hz, _, hx, hwf⟩
  · simp [Value.cells] at h0
    obtain ⟨rfl, rfl, rfl⟩ := h0
    exact ⟨[], Rd.nil w, (by unfold Bytes; simp), Nat.zero_le _⟩
  · simp [Value.cells] at hcs
    obtain ⟨e1, e2, e3⟩ := hcs
    subst e1 e2 e3
    simp only [if_true] at hz
    refine ⟨zs.take len, ?_, fun x hx' => u8_bounds (hwf x (List.mem_of_mem_take hx')), by simp; omega⟩
    have hl2 : (zs.take len).length = len := by simp; omega
    by_cases h0 : len = 0
    · subst h0
      exact ⟨some a, _, by rw [hl2], .inl (by simp)⟩
    · obtain ⟨b, o, sp⟩ := a
      have hsp : sp = none := by
        have := hx 0 (by omega)
        simpa [Addr.add] using World.cell?_spot this
      subst hsp
      refine ⟨_, _, by rw [hl2], .inr ⟨b, o, rfl, fun i hi => ?_⟩⟩
      have h := hx i (by omega)
      rw [addr_add] at h
      rw [h]
      simp [List.getD, show i < len by omega]
end
end Go.Proofs.YtjgfjmkfcippcaaDoor
namespace Go.Proofs.YtjgfjmkfcippcaaDoor
set_option maxRecDepth 100000
open Go.ChangeShapes Go.WideShapes Go.ChangeAt Go.RowKit Go.Deep

theorem bulk_pos {H : Type} (d : DataW H) : 1 ≤ Rows.uptoBulk d := by
  cases d with
  | lit l => cases l <;> simp [Rows.uptoBulk]
  | nil => simp [Rows.uptoBulk]
  | ptr d => simp [Rows.uptoBulk]
  | slice elems spare => simp [Rows.uptoBulk]
  | agg parts => simp [Rows.uptoBulk]
  | iface t d => simp [Rows.uptoBulk]
  | map entries => simp [Rows.uptoBulk]
  | held h => simp [Rows.uptoBulk]
theorem bulk_app {H : Type} (l r : List (DataW H)) : Rows.uptoBulkAll (l ++ r) = Rows.uptoBulkAll l + Rows.uptoBulkAll r := by
  induction l with
  | nil => simp [Rows.uptoBulkAll]
  | cons x l ih => simp only [List.cons_append, Rows.uptoBulkAll, ih]; omega
theorem bulk_len {H : Type} (l : List (DataW H)) : l.length ≤ Rows.uptoBulkAll l := by
  induction l with
  | nil => simp [Rows.uptoBulkAll]
  | cons x r ih => have := bulk_pos x; simp only [Rows.uptoBulkAll, List.length_cons]; omega
theorem bulk_slice {H : Type} (el sp : List (DataW H)) : Rows.uptoBulkAll el + 1 ≤ Rows.uptoBulk (.slice el sp) := by
  simp only [Rows.uptoBulk]; omega
theorem blobs_app (L M : List (List Int)) : blobs (L ++ M) = blobs L ++ blobs M := by simp [blobs]
theorem blobs_bulk {H : Type} {f : Nat → List Int} {D : Nat → DataW H} : ∀ n, (∀ i, i < n → (f i).length + 1 ≤ Rows.uptoBulk (D i)) → (blobs ((List.range n).map f)).length ≤ 8 * Rows.uptoBulkAll ((List.range n).map D)
  | 0, _ => by simp [blobs]
  | n + 1, h => by
    have ih := blobs_bulk n (fun i hi => h i (by omega))
    have hn := h n (by omega)
    rw [List.range_succ, List.map_append, List.map_append, blobs_app, bulk_app, List.length_append]
    have e : (blobs (List.map f [n])).length = 8 + (f n).length := by simp [blobs]
    have e2 : Rows.uptoBulkAll (List.map D [n]) = Rows.uptoBulk (D n) := by simp [Rows.uptoBulkAll]
    omega

section
variable {H : Type} {enc : TypeId × Value → H} {w : World} {base : Nat} {held : Bool}
theorem trod_bytesB {fuel : Nat} {cs : List Value} {y : DataW H × List MemPlace} (h : DataW.trod enc Tryd.prog w base (fun _ => true) held fuel 64 cs = some y) :
    ∃ v xs, cs = [v] ∧ Rd w v xs ∧ Bytes xs ∧ xs.length + 1 ≤ Rows.uptoBulk y.1 := by
  rcases Deep.open_slice Tryd.underlying64 h with ⟨rfl, _⟩ | ⟨a, len, cap, m, n, D, Pl, rfl, hb, hl, hm, hmm, hy, hx⟩
  · exact ⟨_, [], rfl, Rd.nil w, (fun x hx => by simp at hx), by have := bulk_pos y.1; simpa using this⟩
  · rcases open_ints Tryd.underlying64 Tryd.underlying5 (by kernel_rfl) h with ⟨h0, _⟩ | ⟨a', len', cap', zs, hcs, _, hl', hm', hz, _, hx', hwf⟩
    · simp at h0
    · simp only [List.cons.injEq, Value.slice.injEq, Option.some.injEq, and_true] at hcs
      obtain ⟨rfl, rfl, rfl⟩ := hcs
      simp only [if_true] at hz
      have hl2 : (zs.take len).length = len := by simp; omega
      refine ⟨_, zs.take len, rfl, ?_, fun x hx => u8_bounds (hwf x (List.mem_of_mem_take hx)), ?_⟩
      · by_cases h0 : len = 0
        · subst h0
          exact ⟨some a, _, by rw [hl2], .inl (by simp)⟩
        · obtain ⟨b, o, sp⟩ := a
          have hsp : sp = none := by
            have := hx' 0 (by omega)
            simpa [Addr.add] using World.cell?_spot this
          subst hsp
          refine ⟨_, _, by rw [hl2], .inr ⟨b, o, rfl, fun i hi => ?_⟩⟩
          have h := hx' i (by omega)
          rw [addr_add] at h
          rw [h]
          simp [List.getD, show i < len by omega]
      · rw [hy, hl2]
        have h1 := bulk_slice ((List.range len).map D) ((List.range (m - len)).map fun j => D (len + j))
        have h2 := bulk_len ((List.range len).map D)
        simp only [List.length_map, List.length_range] at h2
        simp only [Rows.uptoBulk]
        omega
theorem open_blobs {r : Reach} {b0 : Nat} {v : Value} {d : DataW H} {p : List MemPlace} (hv : Value.okWide Tryd.prog w r b0 79 v) (h : DataW.Trod enc Tryd.prog w base (fun _ => true) held 79 v d p) :
    ∃ L, RdL w v L [] ∧ (∀ b ∈ L, Bytes b) ∧ (blobs L).length ≤ 8 * Rows.uptoBulk d := by
  obtain ⟨a0, len0, cap0, rfl⟩ := okWide_slice Tryd.underlying79 hv
  obtain ⟨fuel, hf⟩ := h
  rcases Deep.open_slice Tryd.underlying79 hf with ⟨h0, _⟩ | ⟨a, len, cap, m, n, D, Pl, h0, hb, hl, hm, hmm, hy, hx⟩
  · simp [Value.cells] at h0
    obtain ⟨rfl, rfl, rfl⟩ := h0
    exact ⟨[], ⟨_, _, rfl, .inl rfl⟩, (fun b hb => by simp at hb), by simp [blobs]⟩
  · simp [Value.cells] at h0
    obtain ⟨rfl, rfl, rfl⟩ := h0
    simp only [if_true] at hmm
    subst hmm
    have key : ∀ i, ∃ xs : List Int, i < len0 → ∃ u, w.cell? (a.add i) = some u ∧ Rd w u xs ∧ Bytes xs ∧ xs.length + 1 ≤ Rows.uptoBulk (D i) := by
      intro i
      by_cases hi : i < len0
      · obtain ⟨cs', hc, ht⟩ := hx i (by omega)
        rw [show Tryd.prog.cellsOf 64 = 1 by kernel_rfl, Nat.mul_one] at hc
        obtain ⟨v, xs, rfl, hrd, hbx, hd⟩ := trod_bytesB ht
        refine ⟨xs, fun _ => ⟨v, ?_, hrd, hbx, hd⟩⟩
        have := (World.cells?_some hc).2.2 0 (by decide)
        simpa [Addr.add_add] using this
      · exact ⟨[], fun h => absurd h hi⟩
    obtain ⟨f, hf⟩ := Classical.axiomOfChoice key
    have hlen : ((List.range len0).map f).length = len0 := by simp
    refine ⟨(List.range len0).map f, ⟨some a, _, by rw [hlen], ?_⟩, ?_, ?_⟩
    · by_cases h0 : len0 = 0
      · exact .inl (by simp [h0])
      · obtain ⟨b, o, sp⟩ := a
        have hsp : sp = none := by
          obtain ⟨u, hu, _⟩ := hf 0 (by omega)
          simpa [Addr.add] using World.cell?_spot hu
        subst hsp
        refine .inr ⟨b, o, rfl, by simp, fun i hi => ?_⟩
        have hi' : i < len0 := by simpa using hi
        obtain ⟨u, hu, hrd, _⟩ := hf i hi'
        rw [addr_add] at hu
        have e : ((List.range len0).map f).getD i [] = f i := by simp [List.getD, hi']
        exact ⟨u, hu, by rw [e]; exact hrd, fun _ _ _ => by simp⟩
    · intro b hb
      obtain ⟨i, hi, rfl⟩ := List.mem_map.1 hb
      obtain ⟨u, _, _, h3, _⟩ := hf i (by simpa using hi)
      exact h3
    · have h1 := blobs_bulk (D := D) len0 (fun i hi => by obtain ⟨_, _, _, _, h4⟩ := hf i hi; exact h4)
      have h2 := bulk_slice ((List.range len0).map D) ((List.range (m - len0)).map fun j => D (len0 + j))
      rw [show d = (d, p).1 from rfl, hy]
      simp only [Rows.uptoBulk]
      omega
end
end Go.Proofs.YtjgfjmkfcippcaaDoor
namespace Go.Proofs.YtjgfjmkfcippcaaDoor
set_option maxRecDepth 100000
open Go.ChangeShapes Go.WideShapes Go.ChangeAt Go.RowKit Go.Deep

section
variable {H : Type} {enc : TypeId × Value → H} {w : World} {base : Nat} {held : Bool}
theorem blobs_count {v : Value} {d : DataW H} {p : List MemPlace} {L : List (List Int)} (hR : RdL w v L []) (h : DataW.Trod enc Tryd.prog w base (fun _ => true) held 79 v d p) : L.length ≤ maxLen := by
  obtain ⟨q, c, rfl, _⟩ := hR
  obtain ⟨fuel, hf⟩ := h
  rcases Deep.open_slice Tryd.underlying79 hf with ⟨h0, _⟩ | ⟨a, len, cap, m, n, D, Pl, h0, hb, hl, hm, _⟩
  · simp only [Value.cells, List.cons.injEq, Value.slice.injEq, and_true] at h0
    rw [h0.2.1]; exact Nat.zero_le _
  · simp only [Value.cells, List.cons.injEq, Value.slice.injEq, and_true] at h0
    omega

theorem mapM_memB {α β : Type} {f : α → Option β} : ∀ {L : List α} {xs : List β}, L.mapM f = some xs → ∀ i ∈ L, ∃ y, f i = some y
  | [], _, _, i, hi => by simp at hi
  | a :: L, xs, h, i, hi => by
    rw [List.mapM_cons] at h
    simp only [bind, Option.bind_eq_some_iff, pure, Option.some.injEq] at h
    obtain ⟨y, hy, ys, hys, _⟩ := h
    rcases List.mem_cons.1 hi with rfl | hi
    · exact ⟨y, hy⟩
    · exact mapM_memB hys i hi
theorem trod_hashB {t e : TypeId} {P : Program} {spare : Nat → Bool} {fuel : Nat} {cs : List Value} {x : DataW H × List MemPlace} (ht : P.underlying t = some (.array 32 e)) (he : P.underlying e = some (.int .u8)) (hC : P.cellsOf t = 32) (h1 : P.cellsOf e = 1)
    (h : DataW.trod enc P w base spare held fuel t cs = some x) : ∃ F : List Int, F.length = 32 ∧ cs = hc F ∧ Bytes F := by
  cases fuel with
  | zero => simp [DataW.trod] at h
  | succ m =>
    rw [DataW.trod_step] at h
    unfold DataW.trodStep at h
    simp only [ht, h1, hC, Nat.mul_one] at h
    split at h
    · rename_i hl
      simp only [Option.map_eq_some_iff] at h
      obtain ⟨ys, hy, _⟩ := h
      have key : ∀ i, i < 32 → ∃ a, cs[i]? = some (.int .u8 a) ∧ 0 ≤ a ∧ a < 256 := by
        intro i hi
        obtain ⟨y, hy⟩ := mapM_memB hy i (by simp [hi])
        obtain ⟨a, ea, _, wa⟩ := DataW.trod_int he hy
        refine ⟨a, ?_, u8_bounds wa⟩
        have := congrArg (fun l => l[0]?) ea
        simpa [List.getElem?_take, List.getElem?_drop] using this
      refine ⟨cs.map fun v => match v with | .int _ q => q | _ => 0, by simp [hl], ?_, ?_⟩
      · apply List.ext_getElem?
        intro i
        by_cases hi : i < 32
        · obtain ⟨a, e0, _⟩ := key i hi
          simp [hc, e0]
        · rw [List.getElem?_eq_none (by omega), List.getElem?_eq_none (by simp [hc]; omega)]
      · intro z hz
        obtain ⟨v, hv, rfl⟩ := List.mem_map.1 hz
        obtain ⟨i, hi, rfl⟩ := List.getElem_of_mem hv
        obtain ⟨a, e0, ha⟩ := key i (by omega)
        rw [List.getElem?_eq_getElem hi, Option.some.injEq] at e0
        rw [e0]
        exact ha
    · simp at h
theorem open_hashB {r : Reach} {b0 : Nat} {v : Value} {d : DataW H} {p : List MemPlace} (hv : Value.okWide Tryd.prog w r b0 23 v) (h : DataW.Trod enc Tryd.prog w base (fun _ => true) held 23 v d p) :
    ∃ F : List Int, F.length = 32 ∧ v = .agg (hc F).toArray ∧ Bytes F := by
  obtain ⟨cs, rfl, _, _⟩ : ∃ cs, v = .agg cs ∧ cs.size = Tryd.prog.cellsOf 23 ∧ Row.okWide Tryd.prog w r b0 23 cs := by
    simpa [Value.okWide, Tryd.underlying23] using hv
  obtain ⟨fuel, hf⟩ := h
  obtain ⟨F, hF, e, hb⟩ := trod_hashB Tryd.underlying23 Tryd.underlying5 (by kernel_rfl) (by kernel_rfl) hf
  exact ⟨F, hF, by rw [← e]; simp [Value.cells], hb⟩
end
end Go.Proofs.YtjgfjmkfcippcaaDoor
namespace Go.Proofs.YtjgfjmkfcippcaaDoor
set_option maxRecDepth 100000
open Go.ChangeShapes Go.WideShapes Go.ChangeAt Go.RowKit

theorem mapM_mem {α β : Type} {f : α → Option β} : ∀ {L : List α} {xs : List β}, L.mapM f = some xs → ∀ i ∈ L, ∃ y, f i = some y
  | [], _, _, i, hi => by simp at hi
  | a :: L, xs, h, i, hi => by
    rw [List.mapM_cons] at h
    simp only [bind, Option.bind_eq_some_iff, pure, Option.some.injEq] at h
    obtain ⟨y, hy, ys, hys, _⟩ := h
    rcases List.mem_cons.1 hi with rfl | hi
    · exact ⟨y, hy⟩
    · exact mapM_mem hys i hi

section
variable {H : Type} {enc : TypeId × Value → H} {P : Program} {w : World} {base : Nat} {spare : Nat → Bool} {held : Bool}

theorem trod_hash {t e : TypeId} {fuel : Nat} {cs : List Value} {x : DataW H × List MemPlace} (ht : P.underlying t = some (.array 32 e)) (he : P.underlying e = some (.int .u8)) (hC : P.cellsOf t = 32) (h1 : P.cellsOf e = 1)
    (h : DataW.trod enc P w base spare held fuel t cs = some x) : ∃ F : List Int, F.length = 32 ∧ cs = hc F := by
  cases fuel with
  | zero => simp [DataW.trod] at h
  | succ m =>
    rw [DataW.trod_step] at h
    unfold DataW.trodStep at h
    simp only [ht, h1, hC, Nat.mul_one] at h
    split at h
    · rename_i hl
      simp only [Option.map_eq_some_iff] at h
      obtain ⟨ys, hy, _⟩ := h
      refine ⟨cs.map fun v => match v with | .int _ q => q | _ => 0, by simp [hl], ?_⟩
      apply List.ext_getElem?
      intro i
      by_cases hi : i < 32
      · obtain ⟨y, hy⟩ := mapM_mem hy i (by simp [hi])
        obtain ⟨a, ea, _, _⟩ := DataW.trod_int he hy
        have e0 : cs[i]? = some (.int .u8 a) := by
          have := congrArg (fun l => l[0]?) ea
          simpa [List.getElem?_take, List.getElem?_drop] using this
        simp [hc, e0]
      · rw [List.getElem?_eq_none (by omega), List.getElem?_eq_none (by simp [hc]; omega)]
    · simp at h

theorem open_hash {r : Reach} {b0 : Nat} {v : Value} {d : DataW H} {p : List MemPlace} (hv : Value.okWide Tryd.prog w r b0 23 v) (h : DataW.Trod enc Tryd.prog w base spare held 23 v d p) :
    ∃ F : List Int, F.length = 32 ∧ v = .agg (hc F).toArray := by
  obtain ⟨cs, rfl, _, _⟩ : ∃ cs, v = .agg cs ∧ cs.size = Tryd.prog.cellsOf 23 ∧ Row.okWide Tryd.prog w r b0 23 cs := by
    simpa [Value.okWide, Tryd.underlying23] using hv
  obtain ⟨fuel, hf⟩ := h
  obtain ⟨F, hF, e⟩ := trod_hash Tryd.underlying23 Tryd.underlying5 (by kernel_rfl) (by kernel_rfl) hf
  exact ⟨F, hF, by rw [← e]; simp [Value.cells]⟩
end
end Go.Proofs.YtjgfjmkfcippcaaDoor
namespace Go.Proofs.YtjgfjmkfcippcaaDoor
set_option maxRecDepth 100000
open Go.ChangeShapes Go.WideShapes Go.ChangeAt Go.RowKit

section
variable {H : Type} {enc : TypeId × Value → H} {P : Program} {w : World} {base : Nat} {spare : Nat → Bool} {held : Bool}

theorem trod_fields {t : TypeId} {fs : Array Field} {fuel n : Nat} {cs : List Value} {x : DataW H × List MemPlace} (ht : P.underlying t = some (.struct fs)) (hC : P.cellsOf t = n) (h : DataW.trod enc P w base spare held fuel t cs = some x) :
    cs.length = n ∧ ∃ m, ∀ f ∈ fs.toList, ∃ y, DataW.trod enc P w base spare held m f.type ((cs.drop f.offset).take (P.cellsOf f.type)) = some y := by
  cases fuel with
  | zero => simp [DataW.trod] at h
  | succ m =>
    rw [DataW.trod_step] at h
    unfold DataW.trodStep at h
    simp only [ht, hC] at h
    split at h
    · rename_i hl
      simp only [Option.map_eq_some_iff] at h
      obtain ⟨ys, hy, _⟩ := h
      exact ⟨hl, m, mapM_mem hy⟩
    · simp at h
theorem trod_sl {t e : TypeId} {fuel : Nat} {cs : List Value} {x : DataW H × List MemPlace} (ht : P.underlying t = some (.slice e)) (h : DataW.trod enc P w base spare held fuel t cs = some x) :
    ∃ q n c, cs = [.slice q n c] ∧ n ≤ maxLen := by
  rcases Deep.open_slice ht h with ⟨rfl, _⟩ | ⟨a, len, cap, m, n, D, Pl, rfl, hb, hl, hm, _⟩
  · exact ⟨_, _, _, rfl, Nat.zero_le _⟩
  · exact ⟨_, _, _, rfl, Nat.le_trans hl hm⟩
theorem one_at {cs : List Value} {i : Nat} {v : Value} (h : (cs.drop i).take 1 = [v]) : cs[i]? = some v := by
  have := congrArg (fun l => l[0]?) h
  simpa [List.getElem?_take, List.getElem?_drop] using this
end
end Go.Proofs.YtjgfjmkfcippcaaDoor
namespace Go.Proofs.YtjgfjmkfcippcaaDoor
set_option maxRecDepth 100000
open Go.ChangeShapes Go.WideShapes Go.ChangeAt Go.RowKit Go.Deep

section
variable {H : Type} {enc : TypeId × Value → H} {P : Program} {w : World} {base : Nat} {held : Bool}

theorem trod_struct {t : TypeId} {fs : Array Field} {fuel n : Nat} {cs : List Value} {x : DataW H × List MemPlace} (ht : P.underlying t = some (.struct fs)) (hC : P.cellsOf t = n) (h : DataW.trod enc P w base (fun _ => true) held fuel t cs = some x) :
    cs.length = n ∧ ∃ m, ∃ ys : List (DataW H × List MemPlace), x.1 = .agg (ys.map (·.1)) ∧
      ∀ (i : Nat) f, fs.toList[i]? = some f → ∃ y, ys[i]? = some y ∧ DataW.trod enc P w base (fun _ => true) held m f.type ((cs.drop f.offset).take (P.cellsOf f.type)) = some y := by
  cases fuel with
  | zero => simp [DataW.trod] at h
  | succ m =>
    rw [DataW.trod_step] at h
    unfold DataW.trodStep at h
    simp only [ht, hC] at h
    split at h
    · rename_i hl
      simp only [Option.map_eq_some_iff] at h
      obtain ⟨ys, hy, hx⟩ := h
      refine ⟨hl, m, ys, by rw [← hx], fun i f hf => ?_⟩
      have h1 := mapM_some_get hy i f hf
      obtain ⟨y, hyy⟩ := mapM_mem hy f (List.mem_of_getElem? hf)
      exact ⟨y, by rw [← h1]; exact hyy, hyy⟩
    · simp at h
theorem weights_mem_all {e : TypeId} : ∀ {el : List (DataW H)} {d : DataW H}, d ∈ el → ∀ n ∈ d.weights P e, n ∈ DataW.weightsAll P e el
  | [], d, hd, _, _ => by cases hd
  | c :: el, d, hd, n, hn => by
    rw [DataW.weightsAll]
    rcases List.mem_cons.1 hd with rfl | hd
    · exact List.mem_append.2 (.inl hn)
    · exact List.mem_append.2 (.inr (weights_mem_all hd n hn))
theorem weights_struct {t : TypeId} {fs : Array Field} (ht : P.underlying t = some (.struct fs)) {parts : List (DataW H)} (h : ∀ n ∈ (DataW.agg parts).weights P t, n ≤ reachBytes) {j : Nat} {f : Field} {d : DataW H} (hf : fs.toList[j]? = some f) (hd : parts[j]? = some d) :
    ∀ n ∈ d.weights P f.type, n ≤ reachBytes := by
  intro n hn
  refine h n ?_
  rw [DataW.weights, ht]
  exact DataW.weights_mem_each (by rw [List.getElem?_map, hf]; rfl) hd n hn
theorem weights_slice {t e : TypeId} (ht : P.underlying t = some (.slice e)) {el sp : List (DataW H)} (h : ∀ n ∈ (DataW.slice el sp).weights P t, n ≤ reachBytes) : el.length * P.bytesOf e ≤ reachBytes ∧ ∀ d ∈ el, ∀ n ∈ d.weights P e, n ≤ reachBytes := by
  rw [DataW.weights, ht] at h
  simp only at h
  refine ⟨Nat.le_trans (Nat.mul_le_mul_right _ (Nat.le_add_right _ sp.length)) (h _ (List.mem_cons_self ..)), fun d hd n hn => h n ?_⟩
  exact List.mem_cons.2 (.inr (List.mem_append.2 (.inl (weights_mem_all hd n hn))))
end

section
variable {H : Type} {enc : TypeId × Value → H} {w : World} {base : Nat} {held : Bool}
theorem reach47 : reachBytes ≤ 140737488355328 := by decide
theorem trod_hs {fuel : Nat} {cs : List Value} {y : DataW H × List MemPlace} (h : DataW.trod enc Tryd.prog w base (fun _ => true) held fuel 28 cs = some y) :
    ∃ q k Ss, cs = [.slice q Ss.length k] ∧ RdHs w q Ss ∧ HsOk Ss ∧ (Ss.length = 0 ∨ ∃ el sp, y.1 = .slice el sp ∧ el.length = Ss.length) := by
  rcases Deep.open_slice Tryd.underlying28 h with ⟨rfl, _⟩ | ⟨a, len, cap, m, n, D, Pl, rfl, hb, hl, hm, hmm, hy, hx⟩
  · exact ⟨none, 0, [], rfl, .inl rfl, HsOk.nil, .inl rfl⟩
  · simp only [if_true] at hmm
    subst hmm
    rw [show Tryd.prog.cellsOf 23 = 32 by kernel_rfl] at hx
    have key : ∀ i, ∃ F : List Int, i < len → F.length = 32 ∧ Bytes F ∧ ∀ j, j < 32 → w.cell? (a.add (i * 32 + j)) = some (.int .u8 (F.getD j 0)) := by
      intro i
      by_cases hi : i < len
      · obtain ⟨cs', hc1, ht⟩ := hx i (by omega)
        obtain ⟨F, hF, rfl, bF⟩ := trod_hashB Tryd.underlying23 Tryd.underlying5 (by kernel_rfl) (by kernel_rfl) ht
        refine ⟨F, fun _ => ⟨hF, bF, fun j hj => ?_⟩⟩
        have := (World.cells?_some hc1).2.2 j hj
        rw [Addr.add_add] at this
        rw [this]
        simp [hc, List.getD, hF, hj]
      · exact ⟨[], fun h => absurd h hi⟩
    obtain ⟨f, hf⟩ := Classical.axiomOfChoice key
    have hlen : ((List.range len).map f).length = len := by simp
    have hg : ∀ i, i < len → ((List.range len).map f).getD i [] = f i := fun i hi => by simp [List.getD, hi]
    refine ⟨some a, _, (List.range len).map f, by rw [hlen], ?_, ?_, .inr ⟨_, _, by rw [hy], by simp⟩⟩
    · by_cases h0 : len = 0
      · exact .inl (by simp [h0])
      · obtain ⟨b, o, sp⟩ := a
        have hsp : sp = none := by
          have := (hf 0 (by omega)).2.2 0 (by omega)
          simpa [Addr.add] using World.cell?_spot this
        subst hsp
        refine .inr ⟨b, o, rfl, fun i hi => ?_⟩
        rw [hlen] at hi
        obtain ⟨h1, h2, h3⟩ := hf i hi
        rw [hg i hi]
        have := rowOf_cells (w := w) (b := b) (o := o + i * 32) (F := f i) (fun j hj => by
          have := h3 j (by omega)
          rw [addr_add] at this
          rw [← this]
          congr 2
          omega)
        rw [h1] at this
        exact this
    · intro F hF
      obtain ⟨i, hi, rfl⟩ := List.mem_map.1 hF
      obtain ⟨h1, h2, _⟩ := hf i (List.mem_range.1 hi)
      exact ⟨h1, h2⟩
theorem open_pf5 {r : Reach} {b0 : Nat} {v : Value} {d : DataW H} {p : List MemPlace} (hv : Value.okWide Tryd.prog w r b0 43 v) (h : DataW.Trod enc Tryd.prog w base (fun _ => true) held 43 v d p)
    (hs : ∀ n ∈ d.weights Tryd.prog 43, n ≤ reachBytes) : ∃ M q k Ss, v = .agg (pfRow M (.slice q Ss.length k)).toArray ∧ M.length = 32 ∧ Bytes M ∧ RdHs w q Ss ∧ HsOk Ss ∧ Ss.length * 32 ≤ 140737488355328 := by
  have hr := reach47
  obtain ⟨arr, rfl, _, _⟩ : ∃ cs, v = .agg cs ∧ cs.size = Tryd.prog.cellsOf 43 ∧ Row.okWide Tryd.prog w r b0 43 cs := by
    simpa [Value.okWide, Tryd.underlying43] using hv
  obtain ⟨fuel, hf⟩ := h
  obtain ⟨hl, m, ys, hx, hfld⟩ := trod_struct Tryd.underlying43 (n := 33) (by kernel_rfl) hf
  simp only at hx
  subst hx
  obtain ⟨y0, g0, t0⟩ := hfld 0 _ rfl
  dsimp only at t0
  rw [show Tryd.prog.cellsOf 23 = 32 by kernel_rfl] at t0
  obtain ⟨M, hM, e0, bM⟩ := trod_hashB Tryd.underlying23 Tryd.underlying5 (by kernel_rfl) (by kernel_rfl) t0
  obtain ⟨y2, g2, t2⟩ := hfld 1 _ rfl
  dsimp only at t2
  rw [show Tryd.prog.cellsOf 28 = 1 by kernel_rfl] at t2
  have m2 := weights_struct Tryd.underlying43 hs (j := 1) rfl (show (ys.map (·.1))[1]? = some y2.1 by rw [List.getElem?_map, g2]; rfl)
  dsimp only at m2
  obtain ⟨q, k, Ss, e2, r2, ok, z2⟩ := trod_hs t2
  have s2 : Ss.length * 32 ≤ 140737488355328 := by
    rcases z2 with z | ⟨el, sp, z1, z2⟩
    · omega
    · rw [z1] at m2
      have := (weights_slice Tryd.underlying28 m2).1
      rw [show Tryd.prog.bytesOf 23 = 32 by kernel_rfl, z2] at this
      omega
  refine ⟨M, q, k, Ss, ?_, hM, bM, r2, ok, s2⟩
  obtain ⟨cs, hcs⟩ : ∃ cs, (Value.agg arr).cells.toList = cs := ⟨_, rfl⟩
  have ha : arr = cs.toArray := by rw [← hcs]; simp [Value.cells]
  rw [hcs] at hl e0 e2
  rw [ha]
  congr 1
  apply Array.ext'
  simp only [pfRow]
  rw [← e2, ← e0]
  simp only [List.drop_zero]
  have h1 : (cs.drop 32).take 1 = cs.drop 32 := List.take_of_length_le (by simp; omega)
  rw [h1, List.take_append_drop]
end
end Go.Proofs.YtjgfjmkfcippcaaDoor
namespace Go.Proofs.YtjgfjmkfcippcaaDoor
set_option maxRecDepth 100000
open Go.ChangeShapes Go.WideShapes Go.ChangeAt Go.RowKit Go.Deep

theorem rowOf_vals {w : World} {b o n : Nat} {cs : List Value} (hn : cs.length = n) (h0 : 0 < n) (h : ∀ j v, cs[j]? = some v → w.cell? ⟨b, o + j, none⟩ = some v) : rowOf w b o n = cs := by
  subst hn
  have hf := h 0 cs[0] (by simp [h0])
  unfold World.cell? at hf
  split at hf
  · rename_i C t fr hb
    rw [rowOf_block hb]
    apply List.ext_getElem?
    intro j
    by_cases hj : j < cs.length
    · have := h j cs[j] (by simp [hj])
      rw [Joins.cell_of_block hb] at this
      have hlt := (Array.getElem?_eq_some_iff.1 this).1
      rw [Array.getElem?_toList, Array.getElem?_extract, if_pos (by omega), this, List.getElem?_eq_getElem hj]
    · rw [List.getElem?_eq_none (by rw [Array.length_toList, Array.size_extract]; omega), List.getElem?_eq_none (by omega)]
  · simp at hf

section
variable {H : Type} {enc : TypeId × Value → H} {w : World} {base : Nat} {held : Bool}
theorem trod_hs32 {fuel : Nat} {cs : List Value} {y : DataW H × List MemPlace} (h : DataW.trod enc Tryd.prog w base (fun _ => true) held fuel 28 cs = some y) (hs : ∀ n ∈ y.1.weights Tryd.prog 28, n ≤ reachBytes) :
    ∃ q k Ss, cs = [.slice q Ss.length k] ∧ RdHs w q Ss ∧ HsOk Ss ∧ Ss.length * 32 ≤ 140737488355328 := by
  have hr := reach47
  obtain ⟨q, k, Ss, e2, r2, ok, z2⟩ := trod_hs h
  refine ⟨q, k, Ss, e2, r2, ok, ?_⟩
  rcases z2 with z | ⟨el, sp, z1, z2⟩
  · omega
  · rw [z1] at hs
    have := (weights_slice Tryd.underlying28 hs).1
    rw [show Tryd.prog.bytesOf 23 = 32 by kernel_rfl, z2] at this
    omega
theorem open_hs {r : Reach} {b0 : Nat} {v : Value} {d : DataW H} {p : List MemPlace} (hv : Value.okWide Tryd.prog w r b0 28 v) (h : DataW.Trod enc Tryd.prog w base (fun _ => true) held 28 v d p)
    (hs : ∀ n ∈ d.weights Tryd.prog 28, n ≤ reachBytes) : ∃ q k Ss, v = .slice q Ss.length k ∧ RdHs w q Ss ∧ HsOk Ss ∧ Ss.length * 32 ≤ 140737488355328 := by
  obtain ⟨a0, len0, cap0, rfl⟩ := okWide_slice Tryd.underlying28 hv
  obtain ⟨fuel, hf⟩ := h
  obtain ⟨q, k, Ss, e, r2, ok, z⟩ := trod_hs32 hf hs
  refine ⟨q, k, Ss, ?_, r2, ok, z⟩
  simpa [Value.cells] using e
theorem trod_pf5 {fuel : Nat} {cs : List Value} {y : DataW H × List MemPlace} (h : DataW.trod enc Tryd.prog w base (fun _ => true) held fuel 43 cs = some y)
    (hs : ∀ n ∈ y.1.weights Tryd.prog 43, n ≤ reachBytes) : ∃ M q k Ss, cs = pfRow M (.slice q Ss.length k) ∧ M.length = 32 ∧ Bytes M ∧ RdHs w q Ss ∧ HsOk Ss ∧ Ss.length * 32 ≤ 140737488355328 := by
  obtain ⟨hl, m, ys, hx, hfld⟩ := trod_struct Tryd.underlying43 (n := 33) (by kernel_rfl) h
  rw [hx] at hs
  obtain ⟨y0, g0, t0⟩ := hfld 0 _ rfl
  dsimp only at t0
  rw [show Tryd.prog.cellsOf 23 = 32 by kernel_rfl] at t0
  obtain ⟨M, hM, e0, bM⟩ := trod_hashB Tryd.underlying23 Tryd.underlying5 (by kernel_rfl) (by kernel_rfl) t0
  obtain ⟨y2, g2, t2⟩ := hfld 1 _ rfl
  dsimp only at t2
  rw [show Tryd.prog.cellsOf 28 = 1 by kernel_rfl] at t2
  have m2 := weights_struct Tryd.underlying43 hs (j := 1) rfl (show (ys.map (·.1))[1]? = some y2.1 by rw [List.getElem?_map, g2]; rfl)
  dsimp only at m2
  obtain ⟨q, k, Ss, e2, r2, ok, s2⟩ := trod_hs32 t2 m2
  refine ⟨M, q, k, Ss, ?_, hM, bM, r2, ok, s2⟩
  simp only [pfRow]
  rw [← e2, ← e0]
  simp only [List.drop_zero]
  have h1 : (cs.drop 32).take 1 = cs.drop 32 := List.take_of_length_le (by simp; omega)
  rw [h1, List.take_append_drop]
theorem trod_sp {fuel : Nat} {cs : List Value} {y : DataW H × List MemPlace} (h : DataW.trod enc Tryd.prog w base (fun _ => true) held fuel 99 cs = some y)
    (hs : ∀ n ∈ y.1.weights Tryd.prog 99, n ≤ reachBytes) : ∃ (s : Sp) (q : Option Addr) (k : Nat), cs = spRow s (.slice q s.sides.length k) ∧ s.ok ∧ RdHs w q s.sides := by
  obtain ⟨hl, m, ys, hx, hfld⟩ := trod_struct Tryd.underlying99 (n := 97) (by kernel_rfl) h
  rw [hx] at hs
  obtain ⟨y0, g0, t0⟩ := hfld 0 _ rfl
  dsimp only at t0
  rw [show Tryd.prog.cellsOf 23 = 32 by kernel_rfl] at t0
  obtain ⟨K, hK, e0, bK⟩ := trod_hashB Tryd.underlying23 Tryd.underlying5 (by kernel_rfl) (by kernel_rfl) t0
  obtain ⟨y1, g1, t1⟩ := hfld 1 _ rfl
  dsimp only at t1
  rw [show Tryd.prog.cellsOf 23 = 32 by kernel_rfl] at t1
  obtain ⟨O, hO, e1, bO⟩ := trod_hashB Tryd.underlying23 Tryd.underlying5 (by kernel_rfl) (by kernel_rfl) t1
  obtain ⟨y2, g2, t2⟩ := hfld 2 _ rfl
  dsimp only at t2
  rw [show Tryd.prog.cellsOf 43 = 33 by kernel_rfl] at t2
  have m2 := weights_struct Tryd.underlying99 hs (j := 2) rfl (show (ys.map (·.1))[2]? = some y2.1 by rw [List.getElem?_map, g2]; rfl)
  dsimp only at m2
  obtain ⟨M, q, k, Ss, e2, hM, bM, r2, ok, s2⟩ := trod_pf5 t2 m2
  refine ⟨⟨K, O, M, Ss⟩, q, k, ?_, ⟨hK, hO, hM, bK, bO, bM, ok, s2⟩, r2⟩
  simp only [spRow]
  rw [← e2, ← e1, ← e0]
  simp only [List.drop_zero]
  have h1 : (cs.drop 64).take 33 = cs.drop 64 := List.take_of_length_le (by simp; omega)
  have h2 : cs.drop 64 = (cs.drop 32).drop 32 := by rw [List.drop_drop]
  rw [h1, h2, List.take_append_drop, List.take_append_drop]
theorem open_sp {r : Reach} {b0 : Nat} {v : Value} {d : DataW H} {p : List MemPlace} (hv : Value.okWide Tryd.prog w r b0 57 v) (h : DataW.Trod enc Tryd.prog w base (fun _ => true) held 57 v d p)
    (hs : ∀ n ∈ d.weights Tryd.prog 57, n ≤ reachBytes) : ∃ q c L, v = .slice q L.length c ∧ RdSp w q L ∧ SpOk L ∧ L.length * 120 ≤ 140737488355328 := by
  have hr := reach47
  obtain ⟨a0, len0, cap0, rfl⟩ := okWide_slice Tryd.underlying57 hv
  obtain ⟨fuel, hf⟩ := h
  rcases Deep.open_slice Tryd.underlying57 hf with ⟨h0, _⟩ | ⟨a, len, cap, m, n, D, Pl, hcs, hb, hl, hm, hmm, hy, hx⟩
  · simp [Value.cells] at h0
    obtain ⟨rfl, rfl, rfl⟩ := h0
    exact ⟨none, 0, [], rfl, .inl rfl, fun s h => by simp at h, by simp⟩
  · simp [Value.cells] at hcs
    obtain ⟨e1, e2, e3⟩ := hcs
    subst e1 e2 e3
    simp only [if_true] at hmm
    subst hmm
    simp only [Prod.mk.injEq] at hy
    rw [hy.1] at hs
    obtain ⟨w1, w2⟩ := weights_slice Tryd.underlying57 hs
    rw [show Tryd.prog.bytesOf 99 = 120 by kernel_rfl] at w1
    have key : ∀ i, ∃ x : Sp × Option Addr × Nat, i < len0 → x.1.ok ∧ RdHs w x.2.1 x.1.sides ∧ ∀ j u, (spRow x.1 (.slice x.2.1 x.1.sides.length x.2.2))[j]? = some u → w.cell? (a.add (i * 97 + j)) = some u := by
      intro i
      by_cases hi : i < len0
      · obtain ⟨cs', hc1, ht⟩ := hx i (by omega)
        rw [show Tryd.prog.cellsOf 99 = 97 by kernel_rfl] at hc1
        obtain ⟨s, q, k, rfl, ok, hq⟩ := trod_sp ht (w2 (D i) (List.mem_map.2 ⟨i, by simpa using hi, rfl⟩))
        refine ⟨(s, q, k), fun _ => ⟨ok, hq, fun j u hu => ?_⟩⟩
        have hj : j < 97 := by
          have := (List.getElem?_eq_some_iff.1 hu).1
          rw [spRow_len ok] at this
          exact this
        have := (World.cells?_some hc1).2.2 j hj
        rw [Addr.add_add] at this
        rw [this]
        exact hu
      · exact ⟨(sp0, none, 0), fun h => absurd h hi⟩
    obtain ⟨f, hf⟩ := Classical.axiomOfChoice key
    have hlen : ((List.range len0).map fun i => (f i).1).length = len0 := by simp
    have hg : ∀ i, i < len0 → ((List.range len0).map fun i => (f i).1).getD i sp0 = (f i).1 := fun i hi => by simp [List.getD, hi]
    have hle : len0 * 120 ≤ 140737488355328 := by
      simp only [List.length_map, List.length_range] at w1
      omega
    refine ⟨some a, _, (List.range len0).map fun i => (f i).1, by rw [hlen], ?_, ?_, by rw [hlen]; exact hle⟩
    · by_cases h0 : len0 = 0
      · exact .inl (by simp [h0])
      · obtain ⟨b, o, sp⟩ := a
        have hsp : sp = none := by
          obtain ⟨ok, _, h3⟩ := hf 0 (by omega)
          have hl := spRow_len ok (.slice (f 0).2.1 (f 0).1.sides.length (f 0).2.2)
          have := h3 0 _ (List.getElem?_eq_getElem (by omega))
          simpa [Addr.add] using World.cell?_spot this
        subst hsp
        refine .inr ⟨b, o, rfl, fun i hi => ?_⟩
        rw [hlen] at hi
        obtain ⟨ok, h2, h3⟩ := hf i hi
        rw [hg i hi]
        refine ⟨(f i).2.1, (f i).2.2, rowOf_vals (spRow_len ok _) (by decide) (fun j u hu => ?_), h2⟩
        have := h3 j u hu
        rw [addr_add] at this
        rw [← this]
        congr 2
        omega
    · intro s hS
      obtain ⟨i, hi, rfl⟩ := List.mem_map.1 hS
      exact (hf i (List.mem_range.1 hi)).1
end
end Go.Proofs.YtjgfjmkfcippcaaDoor
