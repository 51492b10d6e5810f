/-
  Bytes that a function builds; a number as bytes, as the document writes it.; The law's copies of messages, and whether two are the same.; An append on a row of one's own, up to what growslice may lay.; The document's bytes of a blob and of a wide number.
-/
import Derived.Deep.DeepAppendWide
import Derived.Test.YtcpoaalhpjipaaaDoorMd1
import Derived.Test.YtcpoaalhpjipaaaDoorMd2
import Derived.Test.YtcpoaalhpjipaaaDoorMd3
import Derived.Test.YtcpoaalhpjipaaaDoorMd4
import Derived.Test.YtcpoaalhpjipaaaDoorMd5
import Derived.Test.YtcpoaalhpjipaaaDoorMd8
import Derived.Test.YtcpoaalhpjipaaaDoorMd10
namespace Go.Proofs.YtcpoaalhpjipaaaDoor
set_option maxRecDepth 100000
open Go.RowKit

/-- A row of bytes that the call lays. -/
structure BuS (w wr : World) (v : Value) (xs : List Int) : Prop where
  own : wr.ownsRow 0 5 1 v xs.length (bc xs)
  fresh : ∀ g, v.ownBlock = some g → w.heap.size ≤ g
  below : Below w.heap.size w wr
theorem BuS.start (w : World) : BuS w w (.slice none 0 0) [] := ⟨World.ownsRow_nil w 0 _ 1, by simp [Value.ownBlock], Below.refl _ _⟩
theorem BuS.on {w wr w1 : World} {v : Value} {xs : List Int} (h : BuS w wr v xs) (hb : Below wr.heap.size wr w1) : BuS w w1 v xs :=
  ⟨own_on h.own hb, h.fresh, h.below.trans (hb.mono h.below.size)⟩
theorem BuS.grow {w wr w2 : World} {v v' : Value} {xs ys : List Int} {m : Nat} (h : BuS w wr v xs) (hm : ys.length = m) (own : w2.ownsRow 0 5 1 v' (xs.length + m) (bc xs ++ bc ys)) (grow : wr.grownBy w2 v.ownBlock) (fr : v'.ownBlock = v.ownBlock ∨ v'.ownBlock = some wr.heap.size) : BuS w w2 v' (xs ++ ys) := by
  subst hm
  refine ⟨by rw [List.length_append, bc_append]; exact own, fun g hg => ?_, h.below.grown grow h.below.size (fun k hk => h.fresh k hk)⟩
  rcases fr with e | e
  · rw [e] at hg; exact h.fresh g hg
  · rw [e] at hg; have := h.below.size; simp at hg; omega
theorem BuS.rd {w wr : World} {v : Value} {xs : List Int} (h : BuS w wr v xs) : Rd wr v xs := rd_of_row h.own
theorem BuS.of_eq {w wr : World} {v : Value} {xs ys : List Int} (h : BuS w wr v xs) (e : xs = ys) : BuS w wr v ys := e ▸ h
theorem one_rd {w : World} {x : Int} : Rd (w.alloc (.cells #[.int .u8 x] 5)) (.slice (some ⟨w.heap.size, 0, none⟩) 1 1) [x] :=
  ⟨_, 1, rfl, .inr ⟨w.heap.size, 0, rfl, fun j hj => by obtain rfl : j = 0 := (by simpa using hj); exact (Joins.cell_of_block (heap_alloc_new w _) 0).trans rfl⟩⟩

set_option maxHeartbeats 2000000 in
theorem refUint_any (n : Int) (w : World) :
    Calls Tryd.prog 47 #[.int .u64 n] w fun e w' => ∃ v, e = .returned v ∧ BuS w w' v (be8 n) := by
  obtain ⟨i0, hi, hz0, hz1, hz2⟩ := info_parts Tryd.infoU8
  replace hi := Lib.hid hi
  replace hz0 := Lib.hid hz0
  replace hz1 := Lib.hid hz1
  replace hz2 := Lib.hid hz2
  have H0 : Hid (BuS w w (.slice none 0 0) ((be8 n).take 0)) := BuS.start w
  go_enter Tryd.func47, Tryd.ntmps47
  go_wp2_with fail
  go_loopw [3, 4] (fun ov sv wr => ∃ k : Nat, sv = .int .i64 (56 - 8 * (k : Int)) ∧ k ≤ 8 ∧ (∃ q c, ov = .slice q k c) ∧ Hid (BuS w wr ov ((be8 n).take k))) (fun _ sv _ => (intOf sv + 8).toNat)
  case atStart => exact ⟨0, by simp, by omega, ⟨_, _, rfl⟩, H0⟩
  case round =>
    clear H0
    obtain ⟨k, rfl, hk, ⟨q, c, rfl⟩, hS⟩ := hrel
    by_cases hlt : k < 8
    · have hd : (0 : Int) ≤ 56 - 8 * (k : Int) := by omega
      have hl8 : ((be8 n).take k).length = k := by simp; omega
      have OW : (wr.alloc (.cells #[.int .u8 (n / 2 ^ (56 - 8 * k) % 256)] 5)).ownsRow 0 5 1 (.slice q k c) k (bc ((be8 n).take k)) := by
        have := own_on hS.out.own ((Below.refl _ wr).alloc (Nat.le_refl _) (.cells #[.int .u8 (n / 2 ^ (56 - 8 * k) % 256)] 5))
        rw [hl8] at this; exact this
      go_wp2_with (at_builtin; refine wpList_append_row rfl _ _ rfl Tryd.underlying25 hi.out hz0.out hz1.out hz2.out rfl OW (Rd.src (P := Tryd.prog) (xs := [n / 2 ^ (56 - 8 * k) % 256]) Tryd.underlying25 ?rd) ?b1 ?b2 ?_)
      case rd => exact one_rd
      case b1 => simp; unfold maxLen; omega
      case b2 => simp; omega
      intro q2 k2 w2 own2 grow2 fr2
      have HN : Hid (BuS w w2 (.slice q2 (k + 1) k2) ((be8 n).take (k + 1))) := by
        have h := (hS.out.on ((Below.refl _ wr).alloc (Nat.le_refl _) (.cells #[.int .u8 (n / 2 ^ (56 - 8 * k) % 256)] 5))).grow (ys := [n / 2 ^ (56 - 8 * k) % 256]) rfl (by rw [hl8]; exact own2) grow2 (fr2.imp id fun e => by rw [e]; simp)
        exact h.of_eq (be8_get n hlt).symm
      clear own2 grow2 fr2 hS
      go_wp2_with fail
      go_roundw
      case rel => exact ⟨k + 1, by go_num, by omega, ⟨_, _, rfl⟩, HN⟩
      case measure => simp [intOf]; omega
    · obtain rfl : k = 8 := by omega
      have HN := Lib.hid (hS.out.of_eq (List.take_of_length_le (by simp)))
      clear hS
      go_wp2_with fail
      go_ret
      exact ⟨_, rfl, HN.out⟩

end Go.Proofs.YtcpoaalhpjipaaaDoor
namespace Go.Proofs.YtcpoaalhpjipaaaDoor
set_option maxRecDepth 100000
open Go.RowKit

@[go_sem] theorem Tryd.eq_wide (w : World) (a b c d : Int) : (Op.equalIn 10000 24 (.agg #[.int .u64 a, .int .u64 b, .int .u64 c, .int .u64 d]) (.agg #[.int .u64 a, .int .u64 b, .int .u64 c, .int .u64 d])).run Tryd.prog w = .ok true w := by
  have := run_equalIn_ints (P := Tryd.prog) w 9998 Tryd.underlying24 Tryd.underlying22 (by kernel_rfl) [a, b, c, d] [a, b, c, d] rfl rfl
  simpa using this
set_option maxHeartbeats 4000000 in
theorem Message_any {w : World} {m : Mg} {q : Option Addr} {k : Nat} (hr : Rd w (.slice q m.data.length k) m.data) (hl : m.data.length ≤ 140737488355328) :
    Calls Tryd.prog 9 #[.agg (mgRow m q m.data.length k).toArray] w fun e w' => ∃ q' k', e = .returned (.agg (mgRow m q' m.data.length k').toArray) ∧ BuS w w' (.slice q' m.data.length k') m.data := by
  obtain ⟨i0, hi, hz0, hz1, hz2⟩ := info_parts Tryd.infoU8
  replace hi := Lib.hid hi
  replace hz0 := Lib.hid hz0
  replace hz1 := Lib.hid hz1
  replace hz2 := Lib.hid hz2
  obtain ⟨D, hD⟩ : ∃ D, m.data = D := ⟨_, rfl⟩
  rw [hD] at hr hl ⊢
  obtain ⟨n, hn⟩ : ∃ n, D.length = n := ⟨_, rfl⟩
  have LN := Lib.hid hn
  rw [hn] at hr hl ⊢
  have b1 : Below w.heap.size w (w.alloc (.cells (mgRow m q n k).toArray 27)) := (Below.refl _ _).alloc (Nat.le_refl _) _
  have b2 : Below (w.alloc (.cells (mgRow m q n k).toArray 27)).heap.size (w.alloc (.cells (mgRow m q n k).toArray 27)) ((w.alloc (.cells (mgRow m q n k).toArray 27)).alloc (.cells (mgRow mg0 none 0 0).toArray 30)) := (Below.refl _ _).alloc (Nat.le_refl _) _
  have b0 := b1.trans (b2.mono b1.size)
  have K0 := Lib.hid ((MgAt.new w 27 m q n k).on b2)
  have R0 := Lib.hid (MgAt.new (w.alloc (.cells (mgRow m q n k).toArray 27)) 30 mg0 none 0 0)
  have hz : (w.alloc (.cells (mgRow m q n k).toArray 27)).heap.size = w.heap.size + 1 := by simp
  rw [hz] at R0
  have V0 := Lib.hid (hr.on b0)
  have B0 := Lib.hid b0
  have SZ : Hid (((w.alloc (.cells (mgRow m q n k).toArray 27)).alloc (.cells (mgRow mg0 none 0 0).toArray 30)).heap.size = w.heap.size + 2) := by show _ = _; simp
  have RM := Lib.hid (fun (W : World) (q : Option Addr) (n k : Nat) => Tryd.run_mgp W m q n k)
  clear hr hn hD b1 b2 b0 hz
  go_enter Tryd.func9, Tryd.ntmps9
  go_wp2_with fail
  generalize ((w.alloc (.cells (mgRow m q n k).toArray 27)).alloc (.cells (mgRow mg0 none 0 0).toArray 30)) = w0 at *
  refine wp_region_held_drew (S := fun W => MgAt W w.heap.size 27 m q n k) (by kernel_rfl) (show MgAt w0.drew w.heap.size 27 m q n k from K0.out) (fun h0 => ?_)
  replace R0 : Hid (MgAt w0.drew (w.heap.size + 1) 30 mg0 none 0 0) := R0.out
  replace V0 : Hid (Rd w0.drew (.slice q n k) D) := V0.out
  replace B0 : Hid (Below w.heap.size w w0.drew) := B0.out.drew
  replace SZ : Hid (w0.drew.heap.size = w.heap.size + 2) := SZ.out
  clear K0
  generalize w0.drew = w0 at *
  refine wpAnyH_take (i := 0) (v := ?_) (by rw [List.getElem?_toArray]; rfl) (by kernel_rfl) (by kernel_rfl) (by kernel_rfl) (by exact fun _ _ _ h => h) (Or.inl ⟨by rfl, ?_⟩) h0 ?_
  rotate_left
  · intro W hW
    obtain ⟨c0, c1, c2, c3, c4, c5, c6, c7, c8⟩ := hW.cells
    go_simp
    all_goals with_reducible rfl
  try simp only [Act.put, List.setIfInBounds_toArray, List.set_cons_zero, List.set_cons_succ]
  refine wpAnyH_take (i := 1) (v := ?_) (by rw [List.getElem?_toArray]; rfl) (by kernel_rfl) (by kernel_rfl) (by kernel_rfl) (by exact fun _ _ _ h => h) (Or.inl ⟨by rfl, ?_⟩) h0 ?_
  rotate_left
  · intro W hW
    obtain ⟨c0, c1, c2, c3, c4, c5, c6, c7, c8⟩ := hW.cells
    go_simp
    all_goals with_reducible rfl
  try simp only [Act.put, List.setIfInBounds_toArray, List.set_cons_zero, List.set_cons_succ]
  refine wpAnyH_take (i := 2) (v := ?_) (by rw [List.getElem?_toArray]; rfl) (by kernel_rfl) (by kernel_rfl) (by kernel_rfl) (by exact fun _ _ _ h => h) (Or.inl ⟨by rfl, ?_⟩) h0 ?_
  rotate_left
  · intro W hW
    obtain ⟨c0, c1, c2, c3, c4, c5, c6, c7, c8⟩ := hW.cells
    go_simp
    all_goals with_reducible rfl
  try simp only [Act.put, List.setIfInBounds_toArray, List.set_cons_zero, List.set_cons_succ]
  refine wpAnyH_take (i := 3) (v := ?_) (by rw [List.getElem?_toArray]; rfl) (by kernel_rfl) (by kernel_rfl) (by kernel_rfl) (by exact fun _ _ _ h => h) (Or.inl ⟨by rfl, ?_⟩) h0 ?_
  rotate_left
  · intro W hW
    obtain ⟨c0, c1, c2, c3, c4, c5, c6, c7, c8⟩ := hW.cells
    go_simp
    all_goals with_reducible rfl
  try simp only [Act.put, List.setIfInBounds_toArray, List.set_cons_zero, List.set_cons_succ]
  refine wpAnyH_take (i := 4) (v := ?_) (by rw [List.getElem?_toArray]; rfl) (by kernel_rfl) (by kernel_rfl) (by kernel_rfl) (by exact fun _ _ _ h => h) (Or.inl ⟨by rfl, ?_⟩) h0 ?_
  rotate_left
  · intro W hW
    obtain ⟨c0, c1, c2, c3, c4, c5, c6, c7, c8⟩ := hW.cells
    go_simp
    all_goals with_reducible rfl
  try simp only [Act.put, List.setIfInBounds_toArray, List.set_cons_zero, List.set_cons_succ]
  refine wpAnyH_take (i := 5) (v := ?_) (by rw [List.getElem?_toArray]; rfl) (by kernel_rfl) (by kernel_rfl) (by kernel_rfl) (by exact fun _ _ _ h => h) (Or.inl ⟨by rfl, ?_⟩) h0 ?_
  rotate_left
  · intro W hW
    obtain ⟨c0, c1, c2, c3, c4, c5, c6, c7, c8⟩ := hW.cells
    go_simp
    all_goals with_reducible rfl
  try simp only [Act.put, List.setIfInBounds_toArray, List.set_cons_zero, List.set_cons_succ]
  refine wpAnyH_take (i := 6) (v := ?_) (by rw [List.getElem?_toArray]; rfl) (by kernel_rfl) (by kernel_rfl) (by kernel_rfl) (by exact fun _ _ _ h => h) (Or.inl ⟨by rfl, ?_⟩) h0 ?_
  rotate_left
  · intro W hW
    obtain ⟨c0, c1, c2, c3, c4, c5, c6, c7, c8⟩ := hW.cells
    go_simp
    all_goals with_reducible rfl
  try simp only [Act.put, List.setIfInBounds_toArray, List.set_cons_zero, List.set_cons_succ]
  refine wpAnyH_take (i := 7) (v := ?_) (by rw [List.getElem?_toArray]; rfl) (by kernel_rfl) (by kernel_rfl) (by kernel_rfl) (by exact fun _ _ _ h => h) (Or.inl ⟨by rfl, ?_⟩) h0 ?_
  rotate_left
  · intro W hW
    obtain ⟨c0, c1, c2, c3, c4, c5, c6, c7, c8⟩ := hW.cells
    go_simp
    all_goals with_reducible rfl
  try simp only [Act.put, List.setIfInBounds_toArray, List.set_cons_zero, List.set_cons_succ]
  refine wpAnyH_take (i := 8) (v := ?_) (by rw [List.getElem?_toArray]; rfl) (by kernel_rfl) (by kernel_rfl) (by kernel_rfl) (by exact fun _ _ _ h => h) (Or.inl ⟨by rfl, ?_⟩) h0 ?_
  rotate_left
  · intro W hW
    obtain ⟨c0, c1, c2, c3, c4, c5, c6, c7, c8⟩ := hW.cells
    go_simp
    all_goals with_reducible rfl
  try simp only [Act.put, List.setIfInBounds_toArray, List.set_cons_zero, List.set_cons_succ]
  refine wpAnyH_take (i := 9) (v := ?_) (by rw [List.getElem?_toArray]; rfl) (by kernel_rfl) (by kernel_rfl) (by kernel_rfl) (by exact fun _ _ _ h => h) (Or.inl ⟨by rfl, ?_⟩) h0 ?_
  rotate_left
  · intro W hW
    obtain ⟨c0, c1, c2, c3, c4, c5, c6, c7, c8⟩ := hW.cells
    go_simp
    all_goals with_reducible rfl
  try simp only [Act.put, List.setIfInBounds_toArray, List.set_cons_zero, List.set_cons_succ]
  refine wpAnyH_take (i := 11) (v := ?_) (by rw [List.getElem?_toArray]; rfl) (by kernel_rfl) (by kernel_rfl) (by kernel_rfl) (by exact fun _ _ _ h => h) (Or.inl ⟨by rfl, ?_⟩) h0 ?_
  rotate_left
  · intro W hW
    obtain ⟨c0, c1, c2, c3, c4, c5, c6, c7, c8⟩ := hW.cells
    go_simp
    all_goals with_reducible rfl
  try simp only [Act.put, List.setIfInBounds_toArray, List.set_cons_zero, List.set_cons_succ]
  refine wpAnyH_take (i := 12) (v := ?_) (by rw [List.getElem?_toArray]; rfl) (by kernel_rfl) (by kernel_rfl) (by kernel_rfl) (by exact fun _ _ _ h => h) (Or.inl ⟨by rfl, ?_⟩) h0 ?_
  rotate_left
  · intro W hW
    obtain ⟨c0, c1, c2, c3, c4, c5, c6, c7, c8⟩ := hW.cells
    go_simp
    all_goals with_reducible rfl
  try simp only [Act.put, List.setIfInBounds_toArray, List.set_cons_zero, List.set_cons_succ]
  refine wpAnyH_ready (rs := [10]) (by kernel_rfl) (by simp) ?_
  refine AllReadyH.cons (by rw [List.getElem?_toArray]; rfl) (fun K hK => ?_) AllReadyH.nil
  rw [if_pos (by rfl)]
  have b3 : Below w0.heap.size w0 (w0.alloc (.cells #[] 5)) := (Below.refl _ _).alloc (Nat.le_refl _) _
  have B3 := Lib.hid b3
  have E3 := Lib.hid (own_empty w0 5 1)
  have V3 := Lib.hid (V0.out.on b3)
  have K3 : MgAt (w0.alloc (.cells #[] 5)) w.heap.size 27 m q n k := MgAt.on h0 b3
  clear b3
  go_wp2_with fail
  refine hK.out _ _ (K3) (fun h3 => ?_)
  clear hK K K3
  try simp only [Act.put, List.setIfInBounds_toArray, List.set_cons_zero, List.set_cons_succ]
  generalize hw3 : (w0.alloc (.cells #[] 5)) = w3 at *
  clear hw3
  refine wpAnyH_ready (rs := [13]) (by kernel_rfl) (by simp) ?_
  refine AllReadyH.cons (by rw [List.getElem?_toArray]; rfl) (fun K hK => ?_) AllReadyH.nil
  rw [if_pos (by rfl)]
  refine wp_append_row _ _ rfl Tryd.underlying25 hi.out hz0.out hz1.out hz2.out rfl E3.out (V3.out.src (P := Tryd.prog) Tryd.underlying25) (by rw [LN.out]; unfold maxLen; omega) (by rw [LN.out]; omega) ?_
  intro q6 k6 w6 own6' grow6' fr6'
  have grow6 : w3.grownBy w6 (Value.slice (some ⟨w0.heap.size, 0, none⟩) 0 0).ownBlock := grow6'
  have own6 : w6.ownsRow 0 5 1 (.slice q6 n k6) n (bc D) := by have := own6'; simp only [LN.out, Nat.zero_add, List.nil_append] at this; exact this
  have G6 : Below w0.heap.size w0 w6 := B3.out.grown grow6 B3.out.size (fun j hj => by simp [Value.ownBlock] at hj; omega)
  have K6 : MgAt w6 w.heap.size 27 m q n k := MgAt.on h0 G6
  have R6 := Lib.hid (R0.out.on G6)
  have B6 := Lib.hid (B0.out.trans (G6.mono B0.out.size))
  have S6 : Hid (BuS w w6 (.slice q6 n k6) D) := by
    refine ⟨by rw [LN.out]; exact own6, fun g hg => ?_, B6.out⟩
    rcases fr6' with e | e
    · have e' : (Value.slice q6 (0 + D.length) k6).ownBlock = (Value.slice (some ⟨w0.heap.size, 0, none⟩) 0 0).ownBlock := e
      have e2 : (Value.slice q6 n k6).ownBlock = (Value.slice q6 (0 + D.length) k6).ownBlock := by cases q6 <;> rfl
      rw [e2, e'] at hg
      have := SZ.out
      simp [Value.ownBlock] at hg; omega
    · have e' : (Value.slice q6 (0 + D.length) k6).ownBlock = some w3.heap.size := e
      have e2 : (Value.slice q6 n k6).ownBlock = (Value.slice q6 (0 + D.length) k6).ownBlock := by cases q6 <;> rfl
      rw [e2, e'] at hg
      have := B3.out.size
      have := SZ.out
      simp at hg; omega
  have N6 : Hid ((Value.slice q6 n k6).ownBlock ≠ some (w.heap.size + 1)) := own_ne own6 R6.out (by decide)
  simp only [LN.out, Nat.zero_add]
  clear own6' grow6' fr6' own6 grow6 G6
  refine hK.out _ _ (K6) (fun h6 => ?_)
  clear hK K K6
  try simp only [Act.put, List.setIfInBounds_toArray, List.set_cons_zero, List.set_cons_succ]
  have hrm := fun W => RM.out W q6 n k6
  refine wpAnyH_take (i := 14) (v := ?_) (by rw [List.getElem?_toArray]; rfl) (by kernel_rfl) (by kernel_rfl) (by kernel_rfl) (by exact fun _ _ _ h => h) (Or.inl ⟨by rfl, ?_⟩) h6 ?_
  rotate_left
  · intro W hW
    obtain ⟨c0, c1, c2, c3, c4, c5, c6, c7, c8⟩ := hW.cells
    go_simp
    all_goals with_reducible rfl
  try simp only [Act.put, List.setIfInBounds_toArray, List.set_cons_zero, List.set_cons_succ]
  refine wpAnyH_ready (rs := [15]) (by kernel_rfl) (by simp) ?_
  refine AllReadyH.cons (by rw [List.getElem?_toArray]; rfl) (fun K hK => ?_) AllReadyH.nil
  rw [if_pos (by rfl)]
  have th := R6.out.there
  have hput := (R6.out.put m q6 n k6).row
  have cS : Chg w6 (w6.setCells (w.heap.size + 1) 0 (mgRow m q6 n k6)) [w.heap.size + 1] := chg_setCells _ _ _ (Chg.refl _ _)
  have S7 : Hid (BuS w (w6.setCells (w.heap.size + 1) 0 (mgRow m q6 n k6)) (.slice q6 n k6) D) :=
    ⟨own_keep S6.out.own (fun j hj => cS.block j (own_lt S6.out.own hj) (fun hm => by
      obtain rfl : j = w.heap.size + 1 := by simpa using hm
      exact N6.out hj)), S6.out.fresh, below_setCells' (w.heap.size + 1) (by omega) _ _ S6.out.below⟩
  have K7 : MgAt (w6.setCells (w.heap.size + 1) 0 (mgRow m q6 n k6)) w.heap.size 27 m q n k := MgAt.chg h6 cS (by simp)
  clear S6 cS N6 hrm
  go_wp2_with fail
  refine hK.out _ _ (K7) (fun h7 => ?_)
  clear hK K K7
  try simp only [Act.put, List.setIfInBounds_toArray, List.set_cons_zero, List.set_cons_succ]
  refine wpAnyH_done (by kernel_rfl) ?_ _
  clear h0 h3 h6 h7
  go_wp2_with fail
  refine bodyPost_ret (v := .agg (mgRow m q6 n k6).toArray) (by simp [results, Tryd.results9, go_sem, hput]) rfl ⟨q6, k6, rfl, by have := S7.out; rw [LN.out] at *; exact this⟩
set_option maxHeartbeats 4000000 in
theorem RefMessage_any {w : World} {m : Mg} {q : Option Addr} {k : Nat} (hr : Rd w (.slice q m.data.length k) m.data) (hl : m.data.length ≤ 140737488355328) :
    Calls Tryd.prog 20 #[.agg (mgRow m q m.data.length k).toArray] w fun e w' => ∃ q' k', e = .returned (.agg (mgRow m q' m.data.length k').toArray) ∧ BuS w w' (.slice q' m.data.length k') m.data := by
  obtain ⟨i0, hi, hz0, hz1, hz2⟩ := info_parts Tryd.infoU8
  replace hi := Lib.hid hi
  replace hz0 := Lib.hid hz0
  replace hz1 := Lib.hid hz1
  replace hz2 := Lib.hid hz2
  obtain ⟨D, hD⟩ : ∃ D, m.data = D := ⟨_, rfl⟩
  rw [hD] at hr hl ⊢
  obtain ⟨n, hn⟩ : ∃ n, D.length = n := ⟨_, rfl⟩
  have LN := Lib.hid hn
  rw [hn] at hr hl ⊢
  have b1 : Below w.heap.size w (w.alloc (.cells (mgRow m q n k).toArray 30)) := (Below.refl _ _).alloc (Nat.le_refl _) _
  have b2 : Below (w.alloc (.cells (mgRow m q n k).toArray 30)).heap.size (w.alloc (.cells (mgRow m q n k).toArray 30)) ((w.alloc (.cells (mgRow m q n k).toArray 30)).alloc (.cells (mgRow mg0 none 0 0).toArray 27)) := (Below.refl _ _).alloc (Nat.le_refl _) _
  have b0 := b1.trans (b2.mono b1.size)
  have K0 := Lib.hid ((MgAt.new w 30 m q n k).on b2)
  have R0 := Lib.hid (MgAt.new (w.alloc (.cells (mgRow m q n k).toArray 30)) 27 mg0 none 0 0)
  have hz : (w.alloc (.cells (mgRow m q n k).toArray 30)).heap.size = w.heap.size + 1 := by simp
  rw [hz] at R0
  have V0 := Lib.hid (hr.on b0)
  have B0 := Lib.hid b0
  have SZ : Hid (((w.alloc (.cells (mgRow m q n k).toArray 30)).alloc (.cells (mgRow mg0 none 0 0).toArray 27)).heap.size = w.heap.size + 2) := by show _ = _; simp
  have RM := Lib.hid (fun (W : World) (q : Option Addr) (n k : Nat) => Tryd.run_mgr W m q n k)
  clear hr hn hD b1 b2 b0 hz
  go_enter Tryd.func20, Tryd.ntmps20
  go_wp2_with fail
  generalize ((w.alloc (.cells (mgRow m q n k).toArray 30)).alloc (.cells (mgRow mg0 none 0 0).toArray 27)) = w0 at *
  refine wp_region_held_drew (S := fun W => MgAt W w.heap.size 30 m q n k) (by kernel_rfl) (show MgAt w0.drew w.heap.size 30 m q n k from K0.out) (fun h0 => ?_)
  replace R0 : Hid (MgAt w0.drew (w.heap.size + 1) 27 mg0 none 0 0) := R0.out
  replace V0 : Hid (Rd w0.drew (.slice q n k) D) := V0.out
  replace B0 : Hid (Below w.heap.size w w0.drew) := B0.out.drew
  replace SZ : Hid (w0.drew.heap.size = w.heap.size + 2) := SZ.out
  clear K0
  generalize w0.drew = w0 at *
  refine wpAnyH_take (i := 0) (v := ?_) (by rw [List.getElem?_toArray]; rfl) (by kernel_rfl) (by kernel_rfl) (by kernel_rfl) (by exact fun _ _ _ h => h) (Or.inl ⟨by rfl, ?_⟩) h0 ?_
  rotate_left
  · intro W hW
    obtain ⟨c0, c1, c2, c3, c4, c5, c6, c7, c8⟩ := hW.cells
    go_simp
    all_goals with_reducible rfl
  try simp only [Act.put, List.setIfInBounds_toArray, List.set_cons_zero, List.set_cons_succ]
  refine wpAnyH_take (i := 1) (v := ?_) (by rw [List.getElem?_toArray]; rfl) (by kernel_rfl) (by kernel_rfl) (by kernel_rfl) (by exact fun _ _ _ h => h) (Or.inl ⟨by rfl, ?_⟩) h0 ?_
  rotate_left
  · intro W hW
    obtain ⟨c0, c1, c2, c3, c4, c5, c6, c7, c8⟩ := hW.cells
    go_simp
    all_goals with_reducible rfl
  try simp only [Act.put, List.setIfInBounds_toArray, List.set_cons_zero, List.set_cons_succ]
  refine wpAnyH_take (i := 2) (v := ?_) (by rw [List.getElem?_toArray]; rfl) (by kernel_rfl) (by kernel_rfl) (by kernel_rfl) (by exact fun _ _ _ h => h) (Or.inl ⟨by rfl, ?_⟩) h0 ?_
  rotate_left
  · intro W hW
    obtain ⟨c0, c1, c2, c3, c4, c5, c6, c7, c8⟩ := hW.cells
    go_simp
    all_goals with_reducible rfl
  try simp only [Act.put, List.setIfInBounds_toArray, List.set_cons_zero, List.set_cons_succ]
  refine wpAnyH_take (i := 3) (v := ?_) (by rw [List.getElem?_toArray]; rfl) (by kernel_rfl) (by kernel_rfl) (by kernel_rfl) (by exact fun _ _ _ h => h) (Or.inl ⟨by rfl, ?_⟩) h0 ?_
  rotate_left
  · intro W hW
    obtain ⟨c0, c1, c2, c3, c4, c5, c6, c7, c8⟩ := hW.cells
    go_simp
    all_goals with_reducible rfl
  try simp only [Act.put, List.setIfInBounds_toArray, List.set_cons_zero, List.set_cons_succ]
  refine wpAnyH_take (i := 4) (v := ?_) (by rw [List.getElem?_toArray]; rfl) (by kernel_rfl) (by kernel_rfl) (by kernel_rfl) (by exact fun _ _ _ h => h) (Or.inl ⟨by rfl, ?_⟩) h0 ?_
  rotate_left
  · intro W hW
    obtain ⟨c0, c1, c2, c3, c4, c5, c6, c7, c8⟩ := hW.cells
    go_simp
    all_goals with_reducible rfl
  try simp only [Act.put, List.setIfInBounds_toArray, List.set_cons_zero, List.set_cons_succ]
  refine wpAnyH_take (i := 5) (v := ?_) (by rw [List.getElem?_toArray]; rfl) (by kernel_rfl) (by kernel_rfl) (by kernel_rfl) (by exact fun _ _ _ h => h) (Or.inl ⟨by rfl, ?_⟩) h0 ?_
  rotate_left
  · intro W hW
    obtain ⟨c0, c1, c2, c3, c4, c5, c6, c7, c8⟩ := hW.cells
    go_simp
    all_goals with_reducible rfl
  try simp only [Act.put, List.setIfInBounds_toArray, List.set_cons_zero, List.set_cons_succ]
  refine wpAnyH_take (i := 6) (v := ?_) (by rw [List.getElem?_toArray]; rfl) (by kernel_rfl) (by kernel_rfl) (by kernel_rfl) (by exact fun _ _ _ h => h) (Or.inl ⟨by rfl, ?_⟩) h0 ?_
  rotate_left
  · intro W hW
    obtain ⟨c0, c1, c2, c3, c4, c5, c6, c7, c8⟩ := hW.cells
    go_simp
    all_goals with_reducible rfl
  try simp only [Act.put, List.setIfInBounds_toArray, List.set_cons_zero, List.set_cons_succ]
  refine wpAnyH_take (i := 7) (v := ?_) (by rw [List.getElem?_toArray]; rfl) (by kernel_rfl) (by kernel_rfl) (by kernel_rfl) (by exact fun _ _ _ h => h) (Or.inl ⟨by rfl, ?_⟩) h0 ?_
  rotate_left
  · intro W hW
    obtain ⟨c0, c1, c2, c3, c4, c5, c6, c7, c8⟩ := hW.cells
    go_simp
    all_goals with_reducible rfl
  try simp only [Act.put, List.setIfInBounds_toArray, List.set_cons_zero, List.set_cons_succ]
  refine wpAnyH_take (i := 8) (v := ?_) (by rw [List.getElem?_toArray]; rfl) (by kernel_rfl) (by kernel_rfl) (by kernel_rfl) (by exact fun _ _ _ h => h) (Or.inl ⟨by rfl, ?_⟩) h0 ?_
  rotate_left
  · intro W hW
    obtain ⟨c0, c1, c2, c3, c4, c5, c6, c7, c8⟩ := hW.cells
    go_simp
    all_goals with_reducible rfl
  try simp only [Act.put, List.setIfInBounds_toArray, List.set_cons_zero, List.set_cons_succ]
  refine wpAnyH_take (i := 9) (v := ?_) (by rw [List.getElem?_toArray]; rfl) (by kernel_rfl) (by kernel_rfl) (by kernel_rfl) (by exact fun _ _ _ h => h) (Or.inl ⟨by rfl, ?_⟩) h0 ?_
  rotate_left
  · intro W hW
    obtain ⟨c0, c1, c2, c3, c4, c5, c6, c7, c8⟩ := hW.cells
    go_simp
    all_goals with_reducible rfl
  try simp only [Act.put, List.setIfInBounds_toArray, List.set_cons_zero, List.set_cons_succ]
  refine wpAnyH_take (i := 11) (v := ?_) (by rw [List.getElem?_toArray]; rfl) (by kernel_rfl) (by kernel_rfl) (by kernel_rfl) (by exact fun _ _ _ h => h) (Or.inl ⟨by rfl, ?_⟩) h0 ?_
  rotate_left
  · intro W hW
    obtain ⟨c0, c1, c2, c3, c4, c5, c6, c7, c8⟩ := hW.cells
    go_simp
    all_goals with_reducible rfl
  try simp only [Act.put, List.setIfInBounds_toArray, List.set_cons_zero, List.set_cons_succ]
  refine wpAnyH_take (i := 12) (v := ?_) (by rw [List.getElem?_toArray]; rfl) (by kernel_rfl) (by kernel_rfl) (by kernel_rfl) (by exact fun _ _ _ h => h) (Or.inl ⟨by rfl, ?_⟩) h0 ?_
  rotate_left
  · intro W hW
    obtain ⟨c0, c1, c2, c3, c4, c5, c6, c7, c8⟩ := hW.cells
    go_simp
    all_goals with_reducible rfl
  try simp only [Act.put, List.setIfInBounds_toArray, List.set_cons_zero, List.set_cons_succ]
  refine wpAnyH_ready (rs := [10]) (by kernel_rfl) (by simp) ?_
  refine AllReadyH.cons (by rw [List.getElem?_toArray]; rfl) (fun K hK => ?_) AllReadyH.nil
  rw [if_pos (by rfl)]
  have b3 : Below w0.heap.size w0 (w0.alloc (.cells #[] 5)) := (Below.refl _ _).alloc (Nat.le_refl _) _
  have B3 := Lib.hid b3
  have E3 := Lib.hid (own_empty w0 5 1)
  have V3 := Lib.hid (V0.out.on b3)
  have K3 : MgAt (w0.alloc (.cells #[] 5)) w.heap.size 30 m q n k := MgAt.on h0 b3
  clear b3
  go_wp2_with fail
  refine hK.out _ _ (K3) (fun h3 => ?_)
  clear hK K K3
  try simp only [Act.put, List.setIfInBounds_toArray, List.set_cons_zero, List.set_cons_succ]
  generalize hw3 : (w0.alloc (.cells #[] 5)) = w3 at *
  clear hw3
  refine wpAnyH_ready (rs := [13]) (by kernel_rfl) (by simp) ?_
  refine AllReadyH.cons (by rw [List.getElem?_toArray]; rfl) (fun K hK => ?_) AllReadyH.nil
  rw [if_pos (by rfl)]
  refine wp_append_row _ _ rfl Tryd.underlying25 hi.out hz0.out hz1.out hz2.out rfl E3.out (V3.out.src (P := Tryd.prog) Tryd.underlying25) (by rw [LN.out]; unfold maxLen; omega) (by rw [LN.out]; omega) ?_
  intro q6 k6 w6 own6' grow6' fr6'
  have grow6 : w3.grownBy w6 (Value.slice (some ⟨w0.heap.size, 0, none⟩) 0 0).ownBlock := grow6'
  have own6 : w6.ownsRow 0 5 1 (.slice q6 n k6) n (bc D) := by have := own6'; simp only [LN.out, Nat.zero_add, List.nil_append] at this; exact this
  have G6 : Below w0.heap.size w0 w6 := B3.out.grown grow6 B3.out.size (fun j hj => by simp [Value.ownBlock] at hj; omega)
  have K6 : MgAt w6 w.heap.size 30 m q n k := MgAt.on h0 G6
  have R6 := Lib.hid (R0.out.on G6)
  have B6 := Lib.hid (B0.out.trans (G6.mono B0.out.size))
  have S6 : Hid (BuS w w6 (.slice q6 n k6) D) := by
    refine ⟨by rw [LN.out]; exact own6, fun g hg => ?_, B6.out⟩
    rcases fr6' with e | e
    · have e' : (Value.slice q6 (0 + D.length) k6).ownBlock = (Value.slice (some ⟨w0.heap.size, 0, none⟩) 0 0).ownBlock := e
      have e2 : (Value.slice q6 n k6).ownBlock = (Value.slice q6 (0 + D.length) k6).ownBlock := by cases q6 <;> rfl
      rw [e2, e'] at hg
      have := SZ.out
      simp [Value.ownBlock] at hg; omega
    · have e' : (Value.slice q6 (0 + D.length) k6).ownBlock = some w3.heap.size := e
      have e2 : (Value.slice q6 n k6).ownBlock = (Value.slice q6 (0 + D.length) k6).ownBlock := by cases q6 <;> rfl
      rw [e2, e'] at hg
      have := B3.out.size
      have := SZ.out
      simp at hg; omega
  have N6 : Hid ((Value.slice q6 n k6).ownBlock ≠ some (w.heap.size + 1)) := own_ne own6 R6.out (by decide)
  simp only [LN.out, Nat.zero_add]
  clear own6' grow6' fr6' own6 grow6 G6
  refine hK.out _ _ (K6) (fun h6 => ?_)
  clear hK K K6
  try simp only [Act.put, List.setIfInBounds_toArray, List.set_cons_zero, List.set_cons_succ]
  have hrm := fun W => RM.out W q6 n k6
  refine wpAnyH_take (i := 14) (v := ?_) (by rw [List.getElem?_toArray]; rfl) (by kernel_rfl) (by kernel_rfl) (by kernel_rfl) (by exact fun _ _ _ h => h) (Or.inl ⟨by rfl, ?_⟩) h6 ?_
  rotate_left
  · intro W hW
    obtain ⟨c0, c1, c2, c3, c4, c5, c6, c7, c8⟩ := hW.cells
    go_simp
    all_goals with_reducible rfl
  try simp only [Act.put, List.setIfInBounds_toArray, List.set_cons_zero, List.set_cons_succ]
  refine wpAnyH_ready (rs := [15]) (by kernel_rfl) (by simp) ?_
  refine AllReadyH.cons (by rw [List.getElem?_toArray]; rfl) (fun K hK => ?_) AllReadyH.nil
  rw [if_pos (by rfl)]
  have th := R6.out.there
  have hput := (R6.out.put m q6 n k6).row
  have cS : Chg w6 (w6.setCells (w.heap.size + 1) 0 (mgRow m q6 n k6)) [w.heap.size + 1] := chg_setCells _ _ _ (Chg.refl _ _)
  have S7 : Hid (BuS w (w6.setCells (w.heap.size + 1) 0 (mgRow m q6 n k6)) (.slice q6 n k6) D) :=
    ⟨own_keep S6.out.own (fun j hj => cS.block j (own_lt S6.out.own hj) (fun hm => by
      obtain rfl : j = w.heap.size + 1 := by simpa using hm
      exact N6.out hj)), S6.out.fresh, below_setCells' (w.heap.size + 1) (by omega) _ _ S6.out.below⟩
  have K7 : MgAt (w6.setCells (w.heap.size + 1) 0 (mgRow m q6 n k6)) w.heap.size 30 m q n k := MgAt.chg h6 cS (by simp)
  clear S6 cS N6 hrm
  go_wp2_with fail
  refine hK.out _ _ (K7) (fun h7 => ?_)
  clear hK K K7
  try simp only [Act.put, List.setIfInBounds_toArray, List.set_cons_zero, List.set_cons_succ]
  refine wpAnyH_done (by kernel_rfl) ?_ _
  clear h0 h3 h6 h7
  go_wp2_with fail
  refine bodyPost_ret (v := .agg (mgRow m q6 n k6).toArray) (by simp [results, Tryd.results20, go_sem, hput]) rfl ⟨q6, k6, rfl, by have := S7.out; rw [LN.out] at *; exact this⟩
set_option maxHeartbeats 4000000 in
theorem SameMessage_any {w : World} {m : Mg} {q q' : Option Addr} {k k' : Nat} (hr : Rd w (.slice q m.data.length k) m.data) (hr' : Rd w (.slice q' m.data.length k') m.data) :
    Calls Tryd.prog 19 #[.agg (mgRow m q m.data.length k).toArray, .agg (mgRow m q' m.data.length k').toArray] w fun e w' => e = .returned (.bool true) ∧ Below w.heap.size w w' := by
  obtain ⟨D, hD⟩ : ∃ D, m.data = D := ⟨_, rfl⟩
  rw [hD] at hr hr' ⊢
  obtain ⟨n, hn⟩ : ∃ n, D.length = n := ⟨_, rfl⟩
  rw [hn] at hr hr' ⊢
  have b1 : Below w.heap.size w (w.alloc (.cells (mgRow m q n k).toArray 27)) := (Below.refl _ _).alloc (Nat.le_refl _) _
  have b2 : Below (w.alloc (.cells (mgRow m q n k).toArray 27)).heap.size (w.alloc (.cells (mgRow m q n k).toArray 27)) ((w.alloc (.cells (mgRow m q n k).toArray 27)).alloc (.cells (mgRow m q' n k').toArray 27)) := (Below.refl _ _).alloc (Nat.le_refl _) _
  have b0 := b1.trans (b2.mono b1.size)
  have K0 := ((MgAt.new w 27 m q n k).on b2)
  have K1 := (MgAt.new (w.alloc (.cells (mgRow m q n k).toArray 27)) 27 m q' n k')
  have hz : (w.alloc (.cells (mgRow m q n k).toArray 27)).heap.size = w.heap.size + 1 := by simp
  rw [hz] at K1
  have V0 := hr.on b0
  have V1 := hr'.on b0
  have B0 := Lib.hid b0
  obtain ⟨sX, hsX⟩ : ∃ sX, strOfNums D = sX := ⟨_, rfl⟩
  obtain ⟨c0, c1, c2, c3, c4, c5, c6, c7, c8⟩ := K0.cells
  obtain ⟨d0, d1, d2, d3, d4, d5, d6, d7, d8⟩ := K1.cells
  have ds : (sX.toList == sX.toList) = true := by simp
  have sc : (convert 25 9 (.slice q n k)).run Tryd.prog ((w.alloc (.cells (mgRow m q n k).toArray 27)).alloc (.cells (mgRow m q' n k').toArray 27)) = .ok (.string sX) ((w.alloc (.cells (mgRow m q n k).toArray 27)).alloc (.cells (mgRow m q' n k').toArray 27)) := by rw [← hsX]; exact V0.str (P := Tryd.prog) Tryd.underlying25 Tryd.underlying5 Tryd.underlying9
  have sd : (convert 25 9 (.slice q' n k')).run Tryd.prog ((w.alloc (.cells (mgRow m q n k).toArray 27)).alloc (.cells (mgRow m q' n k').toArray 27)) = .ok (.string sX) ((w.alloc (.cells (mgRow m q n k).toArray 27)).alloc (.cells (mgRow m q' n k').toArray 27)) := by rw [← hsX]; exact V1.str (P := Tryd.prog) Tryd.underlying25 Tryd.underlying5 Tryd.underlying9
  clear hr hr' hn hD b1 b2 b0 K0 K1 hz V0 V1 hsX
  go_enter Tryd.func19, Tryd.ntmps19
  go_wp2_with fail
  go_ret
  exact ⟨rfl, B0.out⟩
end Go.Proofs.YtcpoaalhpjipaaaDoor
namespace Go.Proofs.YtcpoaalhpjipaaaDoor
set_option maxRecDepth 100000
open Go.RowKit
open Go (growslice_fits_wide)

section
variable {P : Program} {w : World}
theorem append_row_w {t tx ty e : TypeId} {i : TypeInfo} {z : Value} {size bytes : Nat} (ht : P.underlying t = some (.slice e)) (hi : P.info? e = some i) (hz : i.zero = some z)
    (hsize : i.size = size) (hby : i.bytes = bytes) (hzs : z.cells.size = size)
    {v : Value} {n : Nat} {xs : List Value} (hown : w.ownsRow 0 e size v n xs) {x : Value} {m : Nat} {news : List Value} (hs : Src P size tx x m news w)
    (h63 : n + m ≤ maxLen) (hbytes : ((n + m) + (n + m) / 4 + 192) * bytes ≤ 281474976710656) :
    ∃ v' w', (Builtin.append_ #[t, tx] ty #[v, x]).run P w = .ok v' w' ∧ w'.ownsRow 0 e size v' (n + m) (xs ++ news) ∧ w.grownBy w' v.ownBlock ∧
      (v'.ownBlock = v.ownBlock ∨ v'.ownBlock = some w.heap.size) := by
  subst hsize
  subst hby
  have hsmall : n + m ≤ 9223372036854775807 := by simp only [maxLen] at h63; omega
  have hlen : (xs ++ news).length = (n + m) * i.size := by rw [List.length_append, hown.1, hs.newsLen, Nat.add_mul]
  have grown : ∀ (old : Nat), old < n + m → ∀ (row : Option Nat),
      (w.drew.alloc (.cells ((xs ++ news).toArray ++ Builtin.zeroCells z.cells (grownCap w (n + m) old e - (n + m))) e)).ownsRow 0 e i.size
        (.slice (some ⟨w.heap.size, 0, none⟩) (n + m) (grownCap w (n + m) old e)) (n + m) (xs ++ news) ∧
      w.grownBy (w.drew.alloc (.cells ((xs ++ news).toArray ++ Builtin.zeroCells z.cells (grownCap w (n + m) old e - (n + m))) e)) row := by
    intro old ho row
    have hge := grownCap_ge w (n + m) old e
    have hcm : grownCap w (n + m) old e ≤ maxLen := grownCap_le_maxLen w (n + m) old e h63
    refine ⟨⟨hlen, .inr ⟨w.heap.size, _, _, rfl, Nat.zero_le _, heap_alloc_new w.drew _, hge, hcm, ?_, ?_⟩⟩, ⟨rfl, rfl, rfl, by simp, fun k hk _ => Below.heap_alloc w.drew _ k hk⟩⟩
    · rw [Array.size_append, List.size_toArray, size_zeroCells, hzs, hlen, ← Nat.add_mul]
      congr 1
      omega
    · rw [Array.toList_append]
      exact List.take_left' hlen
  rcases hown.2 with ⟨rfl, rfl⟩ | ⟨g, cap, cur, rfl, _, hg, hnc, hcm, hcs, htake⟩
  · obtain rfl : xs = [] := List.eq_nil_of_length_eq_zero (by simpa using hown.1)
    by_cases hm : m = 0
    · subst hm
      obtain rfl : news = [] := List.eq_nil_of_length_eq_zero (by simpa using hs.newsLen)
      refine ⟨.slice none 0 0, w, ?_, World.ownsRow_nil w 0 e i.size, ⟨rfl, rfl, rfl, Nat.le_refl _, fun _ _ _ => rfl⟩, .inl rfl⟩
      have hc := hs.cells
      rcases hs.kind with ⟨e', hk⟩ | hk <;> simp [Builtin.append_, run_underlying ht, run_underlying hk, sizeOf, typeInfo, hi, hs.len, hc]
    · have hr := run_append_grow_src (P := P) w t tx ty e i z ht hi hz none 0 0 [] (run_firstCells_none w.drew i.size 0 0 0) x m news hs (by omega) (by omega) (growslice_fits_wide (by omega) (by simpa using hbytes))
      have hgr := grown 0 (by omega) (Value.ownBlock (.slice none 0 0))
      simp only [Nat.zero_add, List.nil_append] at hgr hr ⊢
      exact ⟨_, _, hr, hgr.1, hgr.2, .inr rfl⟩
  · have hfrozen : ∀ j, w.frozen? ⟨g, j, none⟩ = false := fun j => Joins.unfrozen_of_block hg j
    by_cases hroom : n + m ≤ cap
    · have hfit : n * i.size + news.length ≤ cur.size := by rw [hs.newsLen, hcs, ← Nat.add_mul]; exact Nat.mul_le_mul_right _ hroom
      have hr := run_append_room_src (P := P) w t tx ty e i ht hi g 0 n cap x m news hs hroom
        (fun j hj => by
          rw [cell_of_row w g _ cur e (0, 0) hg]
          have : n * i.size + j < cur.size := by omega
          simp [this]) (fun j hj => hfrozen _)
      have hsplit : cur = (xs ++ ((cur.toList.drop (n * i.size)).take news.length ++ cur.toList.drop (n * i.size + news.length))).toArray := by
        apply Array.ext'
        show cur.toList = xs ++ ((cur.toList.drop (n * i.size)).take news.length ++ cur.toList.drop (n * i.size + news.length))
        rw [← List.drop_drop, List.take_append_drop, ← htake, List.take_append_drop]
      have hblk := setCells_in (w := w) (b := g) (t := e) (fr := (0, 0)) (o := 0 + n * i.size) (pre := xs) (mid := (cur.toList.drop (n * i.size)).take news.length) (post := cur.toList.drop (n * i.size + news.length)) news
        (by rw [← hsplit]; exact hg) (by rw [hown.1]; omega) (by have hL : cur.toList.length = cur.size := Array.length_toList; rw [List.length_take, List.length_drop]; omega)
      obtain ⟨s1, s2, s3, s4⟩ := setCells_same g news (0 + n * i.size) w
      refine ⟨_, _, hr, ⟨hlen, .inr ⟨g, cap, _, rfl, Nat.zero_le _, hblk, hroom, hcm, ?_, ?_⟩⟩, ⟨s2, s3, s4, by omega, fun k _ hk => setCells_apart (fun e => hk (by simp [Value.ownBlock, e])) news _ w⟩, .inl rfl⟩
      · have hL : cur.toList.length = cur.size := Array.length_toList
        have hx := hown.1
        rw [List.size_toArray, List.length_append, List.length_append, List.length_drop]
        omega
      · show ((xs ++ (news ++ cur.toList.drop (n * i.size + news.length)))).take ((n + m) * i.size) = xs ++ news
        rw [← List.append_assoc]
        exact List.take_left' hlen
    · have holds : ∀ j u, xs[j]? = some u → w.cell? ((⟨g, 0, none⟩ : Addr).add j) = some u := hown.cells (g := g) rfl
      have hr := run_append_grow_src (P := P) w t tx ty e i z ht hi hz (some ⟨g, 0, none⟩) n cap xs (run_firstCells_some w.drew i.size n ⟨g, 0, none⟩ n cap xs hown.1 (by simpa using holds)) x m news hs (by omega) (by omega) (growslice_fits_wide (by omega) hbytes)
      have hgr := grown cap (by omega) (Value.ownBlock (.slice (some ⟨g, 0, none⟩) n cap))
      exact ⟨_, _, hr, hgr.1, hgr.2, .inr rfl⟩

/-- At the operation. -/
theorem wp_append_row_w {o : Oper} {a : Act} {K : Act → World → Prop} {Q : Exit → Act → World → Prop} (s x : Operand) {t tx e : TypeId}
    (ho : o.op = .call { callee := .builtin .append, args := #[s, x], argTypes := #[t, tx] })
    {i : TypeInfo} {z : Value} {size bytes : Nat} (ht : P.underlying t = some (.slice e)) (hi : P.info? e = some i) (hz : i.zero = some z)
    (hsize : i.size = size) (hby : i.bytes = bytes) (hzs : z.cells.size = size)
    {n : Nat} {xs : List Value} (hown : w.ownsRow 0 e size (a.eval s) n xs) {m : Nat} {news : List Value} (hs : Src P size tx (a.eval x) m news w)
    (h63 : n + m ≤ maxLen) (hbytes : ((n + m) + (n + m) / 4 + 192) * bytes ≤ 281474976710656)
    (h : ∀ q c w', w'.ownsRow 0 e size (.slice q (n + m) c) (n + m) (xs ++ news) → w.grownBy w' (a.eval s).ownBlock → ((Value.slice q (n + m) c).ownBlock = (a.eval s).ownBlock ∨ (Value.slice q (n + m) c).ownBlock = some w.heap.size) → K (a.put o.dst (.slice q (n + m) c)) w') : o.wp P a w K Q := by
  obtain ⟨v', w', hr, h2, h3, h4⟩ := append_row_w (ty := o.type) ht hi hz hsize hby hzs hown hs h63 hbytes
  unfold Oper.wp execOp
  simp only [ho, resolve, invoke, builtin, Sem.run_bind, Sem.run_pure, Result.andThen_ok, List.map_toArray, List.map_cons, List.map_nil, hr]
  rcases h2.2 with ⟨rfl, h0⟩ | ⟨g, cap, cur, rfl, _⟩
  · have := h none 0 w'
    rw [h0] at this h2
    exact this h2 h3 h4
  · exact h _ cap w' h2 h3 h4
theorem wpList_append_row_w {ops : Array Oper} {rest : List Oper} {o : Oper} {a : Act} {Q : Exit → Act → World → Prop} (hgd : o.guard = none) (s x : Operand) {t tx e : TypeId}
    (ho : o.op = .call { callee := .builtin .append, args := #[s, x], argTypes := #[t, tx] })
    {i : TypeInfo} {z : Value} {size bytes : Nat} (ht : P.underlying t = some (.slice e)) (hi : P.info? e = some i) (hz : i.zero = some z)
    (hsize : i.size = size) (hby : i.bytes = bytes) (hzs : z.cells.size = size)
    {n : Nat} {xs : List Value} (hown : w.ownsRow 0 e size (a.eval s) n xs) {m : Nat} {news : List Value} (hs : Src P size tx (a.eval x) m news w)
    (h63 : n + m ≤ maxLen) (hbytes : ((n + m) + (n + m) / 4 + 192) * bytes ≤ 281474976710656)
    (h : ∀ q c w', w'.ownsRow 0 e size (.slice q (n + m) c) (n + m) (xs ++ news) → w.grownBy w' (a.eval s).ownBlock → ((Value.slice q (n + m) c).ownBlock = (a.eval s).ownBlock ∨ (Value.slice q (n + m) c).ownBlock = some w.heap.size) → wpList P ops Q rest (a.put o.dst (.slice q (n + m) c)) w') : wpList P ops Q (o :: rest) a w :=
  wpList_plain hgd fun _ hK => wp_append_row_w s x ho ht hi hz hsize hby hzs hown hs h63 hbytes fun q c w' h2 h3 h4 => hK _ _ (h q c w' h2 h3 h4)
end
end Go.Proofs.YtcpoaalhpjipaaaDoor
namespace Go.Proofs.YtcpoaalhpjipaaaDoor
set_option maxRecDepth 100000
open Go.RowKit

set_option maxHeartbeats 2000000 in
theorem refBlob_any {w : World} {a : Value} {xs : List Int} (h : Rd w a xs) (hl : xs.length ≤ 140737488355328) :
    Calls Tryd.prog 61 #[a] w fun e w' => ∃ v, e = .returned v ∧ BuS w w' v (be8 xs.length ++ xs) := by
  obtain ⟨i0, hi, hz0, hz1, hz2⟩ := info_parts Tryd.infoU8
  replace hi := Lib.hid hi
  replace hz0 := Lib.hid hz0
  replace hz1 := Lib.hid hz1
  replace hz2 := Lib.hid hz2
  obtain ⟨q, c, rfl⟩ := h.len
  have HR := Lib.hid h
  clear h
  go_enter Tryd.func61, Tryd.ntmps61
  go_wp2_with fail
  refine (refUint_any _ w).mono ?_
  rintro e w1 ⟨v1, rfl, h1⟩
  have H1 := Lib.hid h1
  have RA := Lib.hid (HR.out.on h1.below)
  obtain ⟨q1, c1, rfl⟩ := own_slice h1.own
  clear h1
  go_wp2_with (at_builtin; refine wpList_append_row_w rfl _ _ rfl Tryd.underlying25 hi.out hz0.out hz1.out hz2.out rfl H1.out.own (Rd.src (P := Tryd.prog) Tryd.underlying25 RA.out) ?b1 ?b2 ?_)
  case b1 => simp; unfold maxLen; omega
  case b2 => simp; omega
  intro q2 k2 w2 own2 grow2 fr2
  have HN := Lib.hid (H1.out.grow rfl own2 grow2 fr2)
  clear own2 grow2 fr2
  go_wp2_with fail
  go_ret
  exact ⟨_, rfl, HN.out⟩

theorem bys_take (N : Int) {j : Nat} (h : j < 32) : (bys N 32).take (j + 1) = (bys N 32).take j ++ [by_ N (31 - j)] := by
  have hl : (bys N 32).length = 32 := by simp [bys]
  rw [List.take_succ_eq_append_getElem (by omega)]
  congr 2
  have := bys_at N j h
  rw [← this]
  simp [List.getD, hl, h]
def limb (x : W4) : Nat → Int
  | 0 => x.a
  | 1 => x.b
  | 2 => x.c
  | _ => x.d
theorem limb_byte {x : W4} (h : D4 x.a x.b x.c x.d) {i m : Nat} (hi : i < 4) (hm : m < 8) : by_ (V x.a x.b x.c x.d) (8 * i + m) = limb x i / 2 ^ (8 * m) % 256 := by
  have e : i = 0 ∨ i = 1 ∨ i = 2 ∨ i = 3 := by omega
  rcases e with rfl | rfl | rfl | rfl
  · have := byte0 (a0 := x.a) (a1 := x.b) (a2 := x.c) (a3 := x.d) hm
    simpa [limb] using this
  · exact byte1 h hm
  · exact byte2 h hm
  · exact byte3 h hm

set_option maxHeartbeats 4000000 in
theorem refBytes_any {x : W4} (hx : D4 x.a x.b x.c x.d) (w : World) :
    Calls Tryd.prog 60 #[.agg #[.int .u64 x.a, .int .u64 x.b, .int .u64 x.c, .int .u64 x.d]] w fun e w' => ∃ v, e = .returned v ∧ BuS w w' v x.bytes := by
  obtain ⟨i0, hi, hz0, hz1, hz2⟩ := info_parts Tryd.infoU8
  replace hi := Lib.hid hi
  replace hz0 := Lib.hid hz0
  replace hz1 := Lib.hid hz1
  replace hz2 := Lib.hid hz2
  have HX := Lib.hid hx
  have HA := Lib.hid (heap_alloc_new w (.cells #[.int .u64 x.a, .int .u64 x.b, .int .u64 x.c, .int .u64 x.d] 24))
  have H0 : Hid (BuS w (w.alloc (.cells #[.int .u64 x.a, .int .u64 x.b, .int .u64 x.c, .int .u64 x.d] 24)) (.slice none 0 0) (x.bytes.take 0)) := (BuS.start w).on ((Below.refl _ _).alloc (Nat.le_refl _) _)
  have B0 := Lib.hid ((Below.refl w.heap.size w).alloc (Nat.le_refl _) (.cells #[.int .u64 x.a, .int .u64 x.b, .int .u64 x.c, .int .u64 x.d] 24))
  clear hx
  go_enter Tryd.func60, Tryd.ntmps60
  go_wp2_with fail
  generalize hWA : w.alloc (.cells #[.int .u64 x.a, .int .u64 x.b, .int .u64 x.c, .int .u64 x.d] 24) = WA at *
  clear hWA
  have hx32 := x.len
  have hltA := lt_of_block HA.out
  go_loopw [3, 4] (fun ov iv wr => ∃ r : Nat, iv = .int .i64 (3 - (r : Int)) ∧ r ≤ 4 ∧ (∃ q c, ov = .slice q (8 * r) c) ∧ Hid (BuS w wr ov (x.bytes.take (8 * r))) ∧ Hid (wr.heap[w.heap.size]? = WA.heap[w.heap.size]?)) (fun _ iv _ => (intOf iv + 1).toNat)
  case atStart => exact ⟨0, by simp, by omega, ⟨_, _, rfl⟩, H0, Lib.hid rfl⟩
  case round =>
    clear H0
    obtain ⟨r, rfl, hr, ⟨q, c, rfl⟩, hS, hB⟩ := hrel
    by_cases hlt : r < 4
    · have hd : (0 : Int) ≤ 3 - (r : Int) := by omega
      have hd3 : (r : Int) ≤ 3 := by omega
      obtain ⟨wo, rfl⟩ : ∃ wo : World, wo = wr := ⟨_, rfl⟩
      go_wp2_with fail
      go_loopw [3, 5] (fun ov kv wr => ∃ s : Nat, kv = .int .i64 (56 - 8 * (s : Int)) ∧ s ≤ 8 ∧ (∃ q c, ov = .slice q (8 * r + s) c) ∧ Hid (BuS w wr ov (x.bytes.take (8 * r + s))) ∧ Hid (wr.heap[w.heap.size]? = WA.heap[w.heap.size]?)) (fun _ kv _ => (intOf kv + 8).toNat)
      case atStart => exact ⟨0, by simp, by omega, ⟨_, _, rfl⟩, hS, hB⟩
      case round =>
        clear hS hB
        obtain ⟨s, rfl, hs, ⟨q1, c1, rfl⟩, hS, hB⟩ := hrel
        by_cases hst : s < 8
        · have hd2 : (0 : Int) ≤ 56 - 8 * (s : Int) := by omega
          have hl8 : (x.bytes.take (8 * r + s)).length = 8 * r + s := by rw [List.length_take, hx32]; omega
          have hwb : wr.heap[w.heap.size]? = some (.cells #[.int .u64 x.a, .int .u64 x.b, .int .u64 x.c, .int .u64 x.d] 24 (0, 0)) := hB.out.trans HA.out
          have hcl : wr.cell? ⟨w.heap.size, (3 - (r : Int)).toNat, none⟩ = some (.int .u64 (limb x (3 - r))) := by
            rw [Joins.cell_of_block hwb, show (3 - (r : Int)).toNat = 3 - r by omega]
            have e : r = 0 ∨ r = 1 ∨ r = 2 ∨ r = 3 := by omega
            rcases e with rfl | rfl | rfl | rfl <;> rfl
          have hcl2 : wr.cell? ⟨w.heap.size, 3 - r, none⟩ = some (.int .u64 (limb x (3 - r))) := by
            rw [← hcl, show (3 - (r : Int)).toNat = 3 - r by omega]
          have HBY : Hid (x.bytes.take (8 * r + s + 1) = x.bytes.take (8 * r + s) ++ [limb x (3 - r) / 2 ^ (56 - 8 * s) % 256]) := by
            show _ = _
            unfold W4.bytes
            rw [bys_take _ (by omega), show 31 - (8 * r + s) = 8 * (3 - r) + (7 - s) by omega, limb_byte HX.out (by omega) (by omega), show 8 * (7 - s) = 56 - 8 * s by omega]
          clear hwb
          generalize limb x (3 - r) = lv at hcl hcl2 HBY
          have e3 : (3 - (r : Int)) < 4 := by omega
          have OW : (wr.alloc (.cells #[.int .u8 (lv / 2 ^ (56 - 8 * s) % 256)] 5)).ownsRow 0 5 1 (.slice q1 (8 * r + s) c1) (8 * r + s) (bc (x.bytes.take (8 * r + s))) := by
            have := own_on hS.out.own ((Below.refl _ wr).alloc (Nat.le_refl _) (.cells #[.int .u8 (lv / 2 ^ (56 - 8 * s) % 256)] 5))
            rw [hl8] at this; exact this
          go_wp2_with (at_builtin; refine wpList_append_row rfl _ _ rfl Tryd.underlying25 hi.out hz0.out hz1.out hz2.out rfl OW (Rd.src (P := Tryd.prog) (xs := [lv / 2 ^ (56 - 8 * s) % 256]) Tryd.underlying25 ?rd) ?b1 ?b2 ?_)
          case rd => exact one_rd
          case b1 => simp; unfold maxLen; omega
          case b2 => simp; omega
          intro q2 k2 w2 own2 grow2 fr2
          have HN : Hid (BuS w w2 (.slice q2 (8 * r + s + 1) k2) (x.bytes.take (8 * r + s + 1))) := by
            have h := (hS.out.on ((Below.refl _ wr).alloc (Nat.le_refl _) (.cells #[.int .u8 (lv / 2 ^ (56 - 8 * s) % 256)] 5))).grow (ys := [lv / 2 ^ (56 - 8 * s) % 256]) rfl (by rw [hl8]; exact own2) grow2 (fr2.imp id fun e => by rw [e]; simp)
            exact h.of_eq HBY.out.symm
          have HBN : Hid (w2.heap[w.heap.size]? = WA.heap[w.heap.size]?) := by
            show _ = _
            have hle := hS.out.below.size
            have hlw : w.heap.size < wr.heap.size := lt_of_cell hcl2
            rw [grow2.block w.heap.size (by simp; omega) (fun e => by
              have := (own_ne (hS.out.own) (p := w.heap.size) (hB.out.trans HA.out) (by decide)); exact this e.symm), Below.heap_alloc _ _ _ hlw]
            exact hB.out
          clear own2 grow2 fr2 hS hB hcl hcl2 HBY
          go_wp2_with fail
          go_roundw
          case rel => exact ⟨s + 1, by go_num, by omega, ⟨_, _, rfl⟩, HN, HBN⟩
          case measure => simp [intOf]; omega
        · obtain rfl : s = 8 := by omega
          have HN : Hid (BuS w wr (.slice q1 (8 * r + 8) c1) (x.bytes.take (8 * (r + 1)))) := hS
          clear hS
          go_wp2_with fail
          refine ⟨⟨r + 1, by go_num, by omega, ⟨_, _, rfl⟩, HN, hB⟩, by simp [intOf]; omega⟩
    · obtain rfl : r = 4 := by omega
      have HN := Lib.hid (hS.out.of_eq (List.take_of_length_le (by rw [hx32]; omega)))
      clear hS
      go_wp2_with fail
      go_ret
      exact ⟨_, rfl, HN.out⟩
end Go.Proofs.YtcpoaalhpjipaaaDoor
