/-
  The law's copies of messages, and whether two are the same.; An append on a row of one's own, up to what growslice may lay.; The document's bytes of a blob and of a wide number.; The writer's Wide, where there is room: the walk.; A message's bytes, of the program and of the document.
-/
import Derived.Deep.DeepAppendWide
import Derived.Test.YtonjkhhihiigfaaDv1
import Derived.Test.YtonjkhhihiigfaaDv2
import Derived.Test.YtonjkhhihiigfaaDv3
import Derived.Test.YtonjkhhihiigfaaDv4
namespace Go.Proofs.Ytonjkhhihiigfaa
set_option maxRecDepth 100000
open Go.RowKit

@[go_sem] theorem Try.eq_wide (w : World) (a b c d : Int) : (Op.equalIn 10000 49 (.agg #[.int .u64 a, .int .u64 b, .int .u64 c, .int .u64 d]) (.agg #[.int .u64 a, .int .u64 b, .int .u64 c, .int .u64 d])).run Try.prog w = .ok true w := by
  have := run_equalIn_ints (P := Try.prog) w 9998 Try.underlying49 Try.underlying47 (by kernel_rfl) [a, b, c, d] [a, b, c, d] rfl rfl
  simpa using this
set_option maxHeartbeats 4000000 in
theorem Message_any {w : World} {m : Mg} {q : Option Addr} {k : Nat} (hr : Rd w (.slice q m.data.length k) m.data) (hl : m.data.length ≤ 140737488355328) :
    Calls Try.prog 43 #[.agg (mgRow m q m.data.length k).toArray] w fun e w' => ∃ q' k', e = .returned (.agg (mgRow m q' m.data.length k').toArray) ∧ BuS w w' (.slice q' m.data.length k') m.data := by
  obtain ⟨i0, hi, hz0, hz1, hz2⟩ := info_parts Try.infoU8
  replace hi := Lib.hid hi
  replace hz0 := Lib.hid hz0
  replace hz1 := Lib.hid hz1
  replace hz2 := Lib.hid hz2
  obtain ⟨D, hD⟩ : ∃ D, m.data = D := ⟨_, rfl⟩
  rw [hD] at hr hl ⊢
  obtain ⟨n, hn⟩ : ∃ n, D.length = n := ⟨_, rfl⟩
  have LN := Lib.hid hn
  rw [hn] at hr hl ⊢
  have b1 : Below w.heap.size w (w.alloc (.cells (mgRow m q n k).toArray 62)) := (Below.refl _ _).alloc (Nat.le_refl _) _
  have b2 : Below (w.alloc (.cells (mgRow m q n k).toArray 62)).heap.size (w.alloc (.cells (mgRow m q n k).toArray 62)) ((w.alloc (.cells (mgRow m q n k).toArray 62)).alloc (.cells (mgRow mg0 none 0 0).toArray 52)) := (Below.refl _ _).alloc (Nat.le_refl _) _
  have b0 := b1.trans (b2.mono b1.size)
  have K0 := Lib.hid ((MgAt.new w 62 m q n k).on b2)
  have R0 := Lib.hid (MgAt.new (w.alloc (.cells (mgRow m q n k).toArray 62)) 52 mg0 none 0 0)
  have hz : (w.alloc (.cells (mgRow m q n k).toArray 62)).heap.size = w.heap.size + 1 := by simp
  rw [hz] at R0
  have V0 := Lib.hid (hr.on b0)
  have B0 := Lib.hid b0
  have SZ : Hid (((w.alloc (.cells (mgRow m q n k).toArray 62)).alloc (.cells (mgRow mg0 none 0 0).toArray 52)).heap.size = w.heap.size + 2) := by show _ = _; simp
  have RM := Lib.hid (fun (W : World) (q : Option Addr) (n k : Nat) => Try.run_mgp W m q n k)
  clear hr hn hD b1 b2 b0 hz
  go_enter Try.func43, Try.ntmps43
  go_wp2_with fail
  generalize ((w.alloc (.cells (mgRow m q n k).toArray 62)).alloc (.cells (mgRow mg0 none 0 0).toArray 52)) = w0 at *
  refine wp_region_held_drew (S := fun W => MgAt W w.heap.size 62 m q n k) (by kernel_rfl) (show MgAt w0.drew w.heap.size 62 m q n k from K0.out) (fun h0 => ?_)
  replace R0 : Hid (MgAt w0.drew (w.heap.size + 1) 52 mg0 none 0 0) := R0.out
  replace V0 : Hid (Rd w0.drew (.slice q n k) D) := V0.out
  replace B0 : Hid (Below w.heap.size w w0.drew) := B0.out.drew
  replace SZ : Hid (w0.drew.heap.size = w.heap.size + 2) := SZ.out
  clear K0
  generalize w0.drew = w0 at *
  refine wpAnyH_take (i := 0) (v := ?_) (by rw [List.getElem?_toArray]; rfl) (by kernel_rfl) (by kernel_rfl) (by kernel_rfl) (by exact fun _ _ _ h => h) (Or.inl ⟨by rfl, ?_⟩) h0 ?_
  rotate_left
  · intro W hW
    obtain ⟨c0, c1, c2, c3, c4, c5, c6, c7, c8⟩ := hW.cells
    go_simp
    all_goals with_reducible rfl
  try simp only [Act.put, List.setIfInBounds_toArray, List.set_cons_zero, List.set_cons_succ]
  refine wpAnyH_take (i := 1) (v := ?_) (by rw [List.getElem?_toArray]; rfl) (by kernel_rfl) (by kernel_rfl) (by kernel_rfl) (by exact fun _ _ _ h => h) (Or.inl ⟨by rfl, ?_⟩) h0 ?_
  rotate_left
  · intro W hW
    obtain ⟨c0, c1, c2, c3, c4, c5, c6, c7, c8⟩ := hW.cells
    go_simp
    all_goals with_reducible rfl
  try simp only [Act.put, List.setIfInBounds_toArray, List.set_cons_zero, List.set_cons_succ]
  refine wpAnyH_take (i := 2) (v := ?_) (by rw [List.getElem?_toArray]; rfl) (by kernel_rfl) (by kernel_rfl) (by kernel_rfl) (by exact fun _ _ _ h => h) (Or.inl ⟨by rfl, ?_⟩) h0 ?_
  rotate_left
  · intro W hW
    obtain ⟨c0, c1, c2, c3, c4, c5, c6, c7, c8⟩ := hW.cells
    go_simp
    all_goals with_reducible rfl
  try simp only [Act.put, List.setIfInBounds_toArray, List.set_cons_zero, List.set_cons_succ]
  refine wpAnyH_take (i := 3) (v := ?_) (by rw [List.getElem?_toArray]; rfl) (by kernel_rfl) (by kernel_rfl) (by kernel_rfl) (by exact fun _ _ _ h => h) (Or.inl ⟨by rfl, ?_⟩) h0 ?_
  rotate_left
  · intro W hW
    obtain ⟨c0, c1, c2, c3, c4, c5, c6, c7, c8⟩ := hW.cells
    go_simp
    all_goals with_reducible rfl
  try simp only [Act.put, List.setIfInBounds_toArray, List.set_cons_zero, List.set_cons_succ]
  refine wpAnyH_take (i := 4) (v := ?_) (by rw [List.getElem?_toArray]; rfl) (by kernel_rfl) (by kernel_rfl) (by kernel_rfl) (by exact fun _ _ _ h => h) (Or.inl ⟨by rfl, ?_⟩) h0 ?_
  rotate_left
  · intro W hW
    obtain ⟨c0, c1, c2, c3, c4, c5, c6, c7, c8⟩ := hW.cells
    go_simp
    all_goals with_reducible rfl
  try simp only [Act.put, List.setIfInBounds_toArray, List.set_cons_zero, List.set_cons_succ]
  refine wpAnyH_take (i := 5) (v := ?_) (by rw [List.getElem?_toArray]; rfl) (by kernel_rfl) (by kernel_rfl) (by kernel_rfl) (by exact fun _ _ _ h => h) (Or.inl ⟨by rfl, ?_⟩) h0 ?_
  rotate_left
  · intro W hW
    obtain ⟨c0, c1, c2, c3, c4, c5, c6, c7, c8⟩ := hW.cells
    go_simp
    all_goals with_reducible rfl
  try simp only [Act.put, List.setIfInBounds_toArray, List.set_cons_zero, List.set_cons_succ]
  refine wpAnyH_take (i := 6) (v := ?_) (by rw [List.getElem?_toArray]; rfl) (by kernel_rfl) (by kernel_rfl) (by kernel_rfl) (by exact fun _ _ _ h => h) (Or.inl ⟨by rfl, ?_⟩) h0 ?_
  rotate_left
  · intro W hW
    obtain ⟨c0, c1, c2, c3, c4, c5, c6, c7, c8⟩ := hW.cells
    go_simp
    all_goals with_reducible rfl
  try simp only [Act.put, List.setIfInBounds_toArray, List.set_cons_zero, List.set_cons_succ]
  refine wpAnyH_take (i := 7) (v := ?_) (by rw [List.getElem?_toArray]; rfl) (by kernel_rfl) (by kernel_rfl) (by kernel_rfl) (by exact fun _ _ _ h => h) (Or.inl ⟨by rfl, ?_⟩) h0 ?_
  rotate_left
  · intro W hW
    obtain ⟨c0, c1, c2, c3, c4, c5, c6, c7, c8⟩ := hW.cells
    go_simp
    all_goals with_reducible rfl
  try simp only [Act.put, List.setIfInBounds_toArray, List.set_cons_zero, List.set_cons_succ]
  refine wpAnyH_take (i := 8) (v := ?_) (by rw [List.getElem?_toArray]; rfl) (by kernel_rfl) (by kernel_rfl) (by kernel_rfl) (by exact fun _ _ _ h => h) (Or.inl ⟨by rfl, ?_⟩) h0 ?_
  rotate_left
  · intro W hW
    obtain ⟨c0, c1, c2, c3, c4, c5, c6, c7, c8⟩ := hW.cells
    go_simp
    all_goals with_reducible rfl
  try simp only [Act.put, List.setIfInBounds_toArray, List.set_cons_zero, List.set_cons_succ]
  refine wpAnyH_take (i := 9) (v := ?_) (by rw [List.getElem?_toArray]; rfl) (by kernel_rfl) (by kernel_rfl) (by kernel_rfl) (by exact fun _ _ _ h => h) (Or.inl ⟨by rfl, ?_⟩) h0 ?_
  rotate_left
  · intro W hW
    obtain ⟨c0, c1, c2, c3, c4, c5, c6, c7, c8⟩ := hW.cells
    go_simp
    all_goals with_reducible rfl
  try simp only [Act.put, List.setIfInBounds_toArray, List.set_cons_zero, List.set_cons_succ]
  refine wpAnyH_take (i := 11) (v := ?_) (by rw [List.getElem?_toArray]; rfl) (by kernel_rfl) (by kernel_rfl) (by kernel_rfl) (by exact fun _ _ _ h => h) (Or.inl ⟨by rfl, ?_⟩) h0 ?_
  rotate_left
  · intro W hW
    obtain ⟨c0, c1, c2, c3, c4, c5, c6, c7, c8⟩ := hW.cells
    go_simp
    all_goals with_reducible rfl
  try simp only [Act.put, List.setIfInBounds_toArray, List.set_cons_zero, List.set_cons_succ]
  refine wpAnyH_take (i := 12) (v := ?_) (by rw [List.getElem?_toArray]; rfl) (by kernel_rfl) (by kernel_rfl) (by kernel_rfl) (by exact fun _ _ _ h => h) (Or.inl ⟨by rfl, ?_⟩) h0 ?_
  rotate_left
  · intro W hW
    obtain ⟨c0, c1, c2, c3, c4, c5, c6, c7, c8⟩ := hW.cells
    go_simp
    all_goals with_reducible rfl
  try simp only [Act.put, List.setIfInBounds_toArray, List.set_cons_zero, List.set_cons_succ]
  refine wpAnyH_ready (rs := [10]) (by kernel_rfl) (by simp) ?_
  refine AllReadyH.cons (by rw [List.getElem?_toArray]; rfl) (fun K hK => ?_) AllReadyH.nil
  rw [if_pos (by rfl)]
  have b3 : Below w0.heap.size w0 (w0.alloc (.cells #[] 5)) := (Below.refl _ _).alloc (Nat.le_refl _) _
  have B3 := Lib.hid b3
  have E3 := Lib.hid (own_empty w0 5 1)
  have V3 := Lib.hid (V0.out.on b3)
  have K3 : MgAt (w0.alloc (.cells #[] 5)) w.heap.size 62 m q n k := MgAt.on h0 b3
  clear b3
  go_wp2_with fail
  refine hK.out _ _ (K3) (fun h3 => ?_)
  clear hK K K3
  try simp only [Act.put, List.setIfInBounds_toArray, List.set_cons_zero, List.set_cons_succ]
  generalize hw3 : (w0.alloc (.cells #[] 5)) = w3 at *
  clear hw3
  refine wpAnyH_ready (rs := [13]) (by kernel_rfl) (by simp) ?_
  refine AllReadyH.cons (by rw [List.getElem?_toArray]; rfl) (fun K hK => ?_) AllReadyH.nil
  rw [if_pos (by rfl)]
  refine wp_append_row _ _ rfl Try.underlying50 hi.out hz0.out hz1.out hz2.out rfl E3.out (V3.out.src (P := Try.prog) Try.underlying50) (by rw [LN.out]; unfold maxLen; omega) (by rw [LN.out]; omega) ?_
  intro q6 k6 w6 own6' grow6' fr6'
  have grow6 : w3.grownBy w6 (Value.slice (some ⟨w0.heap.size, 0, none⟩) 0 0).ownBlock := grow6'
  have own6 : w6.ownsRow 0 5 1 (.slice q6 n k6) n (bc D) := by have := own6'; simp only [LN.out, Nat.zero_add, List.nil_append] at this; exact this
  have G6 : Below w0.heap.size w0 w6 := B3.out.grown grow6 B3.out.size (fun j hj => by simp [Value.ownBlock] at hj; omega)
  have K6 : MgAt w6 w.heap.size 62 m q n k := MgAt.on h0 G6
  have R6 := Lib.hid (R0.out.on G6)
  have B6 := Lib.hid (B0.out.trans (G6.mono B0.out.size))
  have S6 : Hid (BuS w w6 (.slice q6 n k6) D) := by
    refine ⟨by rw [LN.out]; exact own6, fun g hg => ?_, B6.out⟩
    rcases fr6' with e | e
    · have e' : (Value.slice q6 (0 + D.length) k6).ownBlock = (Value.slice (some ⟨w0.heap.size, 0, none⟩) 0 0).ownBlock := e
      have e2 : (Value.slice q6 n k6).ownBlock = (Value.slice q6 (0 + D.length) k6).ownBlock := by cases q6 <;> rfl
      rw [e2, e'] at hg
      have := SZ.out
      simp [Value.ownBlock] at hg; omega
    · have e' : (Value.slice q6 (0 + D.length) k6).ownBlock = some w3.heap.size := e
      have e2 : (Value.slice q6 n k6).ownBlock = (Value.slice q6 (0 + D.length) k6).ownBlock := by cases q6 <;> rfl
      rw [e2, e'] at hg
      have := B3.out.size
      have := SZ.out
      simp at hg; omega
  have N6 : Hid ((Value.slice q6 n k6).ownBlock ≠ some (w.heap.size + 1)) := own_ne own6 R6.out (by decide)
  simp only [LN.out, Nat.zero_add]
  clear own6' grow6' fr6' own6 grow6 G6
  refine hK.out _ _ (K6) (fun h6 => ?_)
  clear hK K K6
  try simp only [Act.put, List.setIfInBounds_toArray, List.set_cons_zero, List.set_cons_succ]
  have hrm := fun W => RM.out W q6 n k6
  refine wpAnyH_take (i := 14) (v := ?_) (by rw [List.getElem?_toArray]; rfl) (by kernel_rfl) (by kernel_rfl) (by kernel_rfl) (by exact fun _ _ _ h => h) (Or.inl ⟨by rfl, ?_⟩) h6 ?_
  rotate_left
  · intro W hW
    obtain ⟨c0, c1, c2, c3, c4, c5, c6, c7, c8⟩ := hW.cells
    go_simp
    all_goals with_reducible rfl
  try simp only [Act.put, List.setIfInBounds_toArray, List.set_cons_zero, List.set_cons_succ]
  refine wpAnyH_ready (rs := [15]) (by kernel_rfl) (by simp) ?_
  refine AllReadyH.cons (by rw [List.getElem?_toArray]; rfl) (fun K hK => ?_) AllReadyH.nil
  rw [if_pos (by rfl)]
  have th := R6.out.there
  have hput := (R6.out.put m q6 n k6).row
  have cS : Chg w6 (w6.setCells (w.heap.size + 1) 0 (mgRow m q6 n k6)) [w.heap.size + 1] := chg_setCells _ _ _ (Chg.refl _ _)
  have S7 : Hid (BuS w (w6.setCells (w.heap.size + 1) 0 (mgRow m q6 n k6)) (.slice q6 n k6) D) :=
    ⟨own_keep S6.out.own (fun j hj => cS.block j (own_lt S6.out.own hj) (fun hm => by
      obtain rfl : j = w.heap.size + 1 := by simpa using hm
      exact N6.out hj)), S6.out.fresh, below_setCells' (w.heap.size + 1) (by omega) _ _ S6.out.below⟩
  have K7 : MgAt (w6.setCells (w.heap.size + 1) 0 (mgRow m q6 n k6)) w.heap.size 62 m q n k := MgAt.chg h6 cS (by simp)
  clear S6 cS N6 hrm
  go_wp2_with fail
  refine hK.out _ _ (K7) (fun h7 => ?_)
  clear hK K K7
  try simp only [Act.put, List.setIfInBounds_toArray, List.set_cons_zero, List.set_cons_succ]
  refine wpAnyH_done (by kernel_rfl) ?_ _
  clear h0 h3 h6 h7
  go_wp2_with fail
  refine bodyPost_ret (v := .agg (mgRow m q6 n k6).toArray) (by simp [results, Try.results43, go_sem, hput]) rfl ⟨q6, k6, rfl, by have := S7.out; rw [LN.out] at *; exact this⟩
set_option maxHeartbeats 4000000 in
theorem RefMessage_any {w : World} {m : Mg} {q : Option Addr} {k : Nat} (hr : Rd w (.slice q m.data.length k) m.data) (hl : m.data.length ≤ 140737488355328) :
    Calls Try.prog 23 #[.agg (mgRow m q m.data.length k).toArray] w fun e w' => ∃ q' k', e = .returned (.agg (mgRow m q' m.data.length k').toArray) ∧ BuS w w' (.slice q' m.data.length k') m.data := by
  obtain ⟨i0, hi, hz0, hz1, hz2⟩ := info_parts Try.infoU8
  replace hi := Lib.hid hi
  replace hz0 := Lib.hid hz0
  replace hz1 := Lib.hid hz1
  replace hz2 := Lib.hid hz2
  obtain ⟨D, hD⟩ : ∃ D, m.data = D := ⟨_, rfl⟩
  rw [hD] at hr hl ⊢
  obtain ⟨n, hn⟩ : ∃ n, D.length = n := ⟨_, rfl⟩
  have LN := Lib.hid hn
  rw [hn] at hr hl ⊢
  have b1 : Below w.heap.size w (w.alloc (.cells (mgRow m q n k).toArray 52)) := (Below.refl _ _).alloc (Nat.le_refl _) _
  have b2 : Below (w.alloc (.cells (mgRow m q n k).toArray 52)).heap.size (w.alloc (.cells (mgRow m q n k).toArray 52)) ((w.alloc (.cells (mgRow m q n k).toArray 52)).alloc (.cells (mgRow mg0 none 0 0).toArray 62)) := (Below.refl _ _).alloc (Nat.le_refl _) _
  have b0 := b1.trans (b2.mono b1.size)
  have K0 := Lib.hid ((MgAt.new w 52 m q n k).on b2)
  have R0 := Lib.hid (MgAt.new (w.alloc (.cells (mgRow m q n k).toArray 52)) 62 mg0 none 0 0)
  have hz : (w.alloc (.cells (mgRow m q n k).toArray 52)).heap.size = w.heap.size + 1 := by simp
  rw [hz] at R0
  have V0 := Lib.hid (hr.on b0)
  have B0 := Lib.hid b0
  have SZ : Hid (((w.alloc (.cells (mgRow m q n k).toArray 52)).alloc (.cells (mgRow mg0 none 0 0).toArray 62)).heap.size = w.heap.size + 2) := by show _ = _; simp
  have RM := Lib.hid (fun (W : World) (q : Option Addr) (n k : Nat) => Try.run_mgr W m q n k)
  clear hr hn hD b1 b2 b0 hz
  go_enter Try.func23, Try.ntmps23
  go_wp2_with fail
  generalize ((w.alloc (.cells (mgRow m q n k).toArray 52)).alloc (.cells (mgRow mg0 none 0 0).toArray 62)) = w0 at *
  refine wp_region_held_drew (S := fun W => MgAt W w.heap.size 52 m q n k) (by kernel_rfl) (show MgAt w0.drew w.heap.size 52 m q n k from K0.out) (fun h0 => ?_)
  replace R0 : Hid (MgAt w0.drew (w.heap.size + 1) 62 mg0 none 0 0) := R0.out
  replace V0 : Hid (Rd w0.drew (.slice q n k) D) := V0.out
  replace B0 : Hid (Below w.heap.size w w0.drew) := B0.out.drew
  replace SZ : Hid (w0.drew.heap.size = w.heap.size + 2) := SZ.out
  clear K0
  generalize w0.drew = w0 at *
  refine wpAnyH_take (i := 0) (v := ?_) (by rw [List.getElem?_toArray]; rfl) (by kernel_rfl) (by kernel_rfl) (by kernel_rfl) (by exact fun _ _ _ h => h) (Or.inl ⟨by rfl, ?_⟩) h0 ?_
  rotate_left
  · intro W hW
    obtain ⟨c0, c1, c2, c3, c4, c5, c6, c7, c8⟩ := hW.cells
    go_simp
    all_goals with_reducible rfl
  try simp only [Act.put, List.setIfInBounds_toArray, List.set_cons_zero, List.set_cons_succ]
  refine wpAnyH_take (i := 1) (v := ?_) (by rw [List.getElem?_toArray]; rfl) (by kernel_rfl) (by kernel_rfl) (by kernel_rfl) (by exact fun _ _ _ h => h) (Or.inl ⟨by rfl, ?_⟩) h0 ?_
  rotate_left
  · intro W hW
    obtain ⟨c0, c1, c2, c3, c4, c5, c6, c7, c8⟩ := hW.cells
    go_simp
    all_goals with_reducible rfl
  try simp only [Act.put, List.setIfInBounds_toArray, List.set_cons_zero, List.set_cons_succ]
  refine wpAnyH_take (i := 2) (v := ?_) (by rw [List.getElem?_toArray]; rfl) (by kernel_rfl) (by kernel_rfl) (by kernel_rfl) (by exact fun _ _ _ h => h) (Or.inl ⟨by rfl, ?_⟩) h0 ?_
  rotate_left
  · intro W hW
    obtain ⟨c0, c1, c2, c3, c4, c5, c6, c7, c8⟩ := hW.cells
    go_simp
    all_goals with_reducible rfl
  try simp only [Act.put, List.setIfInBounds_toArray, List.set_cons_zero, List.set_cons_succ]
  refine wpAnyH_take (i := 3) (v := ?_) (by rw [List.getElem?_toArray]; rfl) (by kernel_rfl) (by kernel_rfl) (by kernel_rfl) (by exact fun _ _ _ h => h) (Or.inl ⟨by rfl, ?_⟩) h0 ?_
  rotate_left
  · intro W hW
    obtain ⟨c0, c1, c2, c3, c4, c5, c6, c7, c8⟩ := hW.cells
    go_simp
    all_goals with_reducible rfl
  try simp only [Act.put, List.setIfInBounds_toArray, List.set_cons_zero, List.set_cons_succ]
  refine wpAnyH_take (i := 4) (v := ?_) (by rw [List.getElem?_toArray]; rfl) (by kernel_rfl) (by kernel_rfl) (by kernel_rfl) (by exact fun _ _ _ h => h) (Or.inl ⟨by rfl, ?_⟩) h0 ?_
  rotate_left
  · intro W hW
    obtain ⟨c0, c1, c2, c3, c4, c5, c6, c7, c8⟩ := hW.cells
    go_simp
    all_goals with_reducible rfl
  try simp only [Act.put, List.setIfInBounds_toArray, List.set_cons_zero, List.set_cons_succ]
  refine wpAnyH_take (i := 5) (v := ?_) (by rw [List.getElem?_toArray]; rfl) (by kernel_rfl) (by kernel_rfl) (by kernel_rfl) (by exact fun _ _ _ h => h) (Or.inl ⟨by rfl, ?_⟩) h0 ?_
  rotate_left
  · intro W hW
    obtain ⟨c0, c1, c2, c3, c4, c5, c6, c7, c8⟩ := hW.cells
    go_simp
    all_goals with_reducible rfl
  try simp only [Act.put, List.setIfInBounds_toArray, List.set_cons_zero, List.set_cons_succ]
  refine wpAnyH_take (i := 6) (v := ?_) (by rw [List.getElem?_toArray]; rfl) (by kernel_rfl) (by kernel_rfl) (by kernel_rfl) (by exact fun _ _ _ h => h) (Or.inl ⟨by rfl, ?_⟩) h0 ?_
  rotate_left
  · intro W hW
    obtain ⟨c0, c1, c2, c3, c4, c5, c6, c7, c8⟩ := hW.cells
    go_simp
    all_goals with_reducible rfl
  try simp only [Act.put, List.setIfInBounds_toArray, List.set_cons_zero, List.set_cons_succ]
  refine wpAnyH_take (i := 7) (v := ?_) (by rw [List.getElem?_toArray]; rfl) (by kernel_rfl) (by kernel_rfl) (by kernel_rfl) (by exact fun _ _ _ h => h) (Or.inl ⟨by rfl, ?_⟩) h0 ?_
  rotate_left
  · intro W hW
    obtain ⟨c0, c1, c2, c3, c4, c5, c6, c7, c8⟩ := hW.cells
    go_simp
    all_goals with_reducible rfl
  try simp only [Act.put, List.setIfInBounds_toArray, List.set_cons_zero, List.set_cons_succ]
  refine wpAnyH_take (i := 8) (v := ?_) (by rw [List.getElem?_toArray]; rfl) (by kernel_rfl) (by kernel_rfl) (by kernel_rfl) (by exact fun _ _ _ h => h) (Or.inl ⟨by rfl, ?_⟩) h0 ?_
  rotate_left
  · intro W hW
    obtain ⟨c0, c1, c2, c3, c4, c5, c6, c7, c8⟩ := hW.cells
    go_simp
    all_goals with_reducible rfl
  try simp only [Act.put, List.setIfInBounds_toArray, List.set_cons_zero, List.set_cons_succ]
  refine wpAnyH_take (i := 9) (v := ?_) (by rw [List.getElem?_toArray]; rfl) (by kernel_rfl) (by kernel_rfl) (by kernel_rfl) (by exact fun _ _ _ h => h) (Or.inl ⟨by rfl, ?_⟩) h0 ?_
  rotate_left
  · intro W hW
    obtain ⟨c0, c1, c2, c3, c4, c5, c6, c7, c8⟩ := hW.cells
    go_simp
    all_goals with_reducible rfl
  try simp only [Act.put, List.setIfInBounds_toArray, List.set_cons_zero, List.set_cons_succ]
  refine wpAnyH_take (i := 11) (v := ?_) (by rw [List.getElem?_toArray]; rfl) (by kernel_rfl) (by kernel_rfl) (by kernel_rfl) (by exact fun _ _ _ h => h) (Or.inl ⟨by rfl, ?_⟩) h0 ?_
  rotate_left
  · intro W hW
    obtain ⟨c0, c1, c2, c3, c4, c5, c6, c7, c8⟩ := hW.cells
    go_simp
    all_goals with_reducible rfl
  try simp only [Act.put, List.setIfInBounds_toArray, List.set_cons_zero, List.set_cons_succ]
  refine wpAnyH_take (i := 12) (v := ?_) (by rw [List.getElem?_toArray]; rfl) (by kernel_rfl) (by kernel_rfl) (by kernel_rfl) (by exact fun _ _ _ h => h) (Or.inl ⟨by rfl, ?_⟩) h0 ?_
  rotate_left
  · intro W hW
    obtain ⟨c0, c1, c2, c3, c4, c5, c6, c7, c8⟩ := hW.cells
    go_simp
    all_goals with_reducible rfl
  try simp only [Act.put, List.setIfInBounds_toArray, List.set_cons_zero, List.set_cons_succ]
  refine wpAnyH_ready (rs := [10]) (by kernel_rfl) (by simp) ?_
  refine AllReadyH.cons (by rw [List.getElem?_toArray]; rfl) (fun K hK => ?_) AllReadyH.nil
  rw [if_pos (by rfl)]
  have b3 : Below w0.heap.size w0 (w0.alloc (.cells #[] 5)) := (Below.refl _ _).alloc (Nat.le_refl _) _
  have B3 := Lib.hid b3
  have E3 := Lib.hid (own_empty w0 5 1)
  have V3 := Lib.hid (V0.out.on b3)
  have K3 : MgAt (w0.alloc (.cells #[] 5)) w.heap.size 52 m q n k := MgAt.on h0 b3
  clear b3
  go_wp2_with fail
  refine hK.out _ _ (K3) (fun h3 => ?_)
  clear hK K K3
  try simp only [Act.put, List.setIfInBounds_toArray, List.set_cons_zero, List.set_cons_succ]
  generalize hw3 : (w0.alloc (.cells #[] 5)) = w3 at *
  clear hw3
  refine wpAnyH_ready (rs := [13]) (by kernel_rfl) (by simp) ?_
  refine AllReadyH.cons (by rw [List.getElem?_toArray]; rfl) (fun K hK => ?_) AllReadyH.nil
  rw [if_pos (by rfl)]
  refine wp_append_row _ _ rfl Try.underlying50 hi.out hz0.out hz1.out hz2.out rfl E3.out (V3.out.src (P := Try.prog) Try.underlying50) (by rw [LN.out]; unfold maxLen; omega) (by rw [LN.out]; omega) ?_
  intro q6 k6 w6 own6' grow6' fr6'
  have grow6 : w3.grownBy w6 (Value.slice (some ⟨w0.heap.size, 0, none⟩) 0 0).ownBlock := grow6'
  have own6 : w6.ownsRow 0 5 1 (.slice q6 n k6) n (bc D) := by have := own6'; simp only [LN.out, Nat.zero_add, List.nil_append] at this; exact this
  have G6 : Below w0.heap.size w0 w6 := B3.out.grown grow6 B3.out.size (fun j hj => by simp [Value.ownBlock] at hj; omega)
  have K6 : MgAt w6 w.heap.size 52 m q n k := MgAt.on h0 G6
  have R6 := Lib.hid (R0.out.on G6)
  have B6 := Lib.hid (B0.out.trans (G6.mono B0.out.size))
  have S6 : Hid (BuS w w6 (.slice q6 n k6) D) := by
    refine ⟨by rw [LN.out]; exact own6, fun g hg => ?_, B6.out⟩
    rcases fr6' with e | e
    · have e' : (Value.slice q6 (0 + D.length) k6).ownBlock = (Value.slice (some ⟨w0.heap.size, 0, none⟩) 0 0).ownBlock := e
      have e2 : (Value.slice q6 n k6).ownBlock = (Value.slice q6 (0 + D.length) k6).ownBlock := by cases q6 <;> rfl
      rw [e2, e'] at hg
      have := SZ.out
      simp [Value.ownBlock] at hg; omega
    · have e' : (Value.slice q6 (0 + D.length) k6).ownBlock = some w3.heap.size := e
      have e2 : (Value.slice q6 n k6).ownBlock = (Value.slice q6 (0 + D.length) k6).ownBlock := by cases q6 <;> rfl
      rw [e2, e'] at hg
      have := B3.out.size
      have := SZ.out
      simp at hg; omega
  have N6 : Hid ((Value.slice q6 n k6).ownBlock ≠ some (w.heap.size + 1)) := own_ne own6 R6.out (by decide)
  simp only [LN.out, Nat.zero_add]
  clear own6' grow6' fr6' own6 grow6 G6
  refine hK.out _ _ (K6) (fun h6 => ?_)
  clear hK K K6
  try simp only [Act.put, List.setIfInBounds_toArray, List.set_cons_zero, List.set_cons_succ]
  have hrm := fun W => RM.out W q6 n k6
  refine wpAnyH_take (i := 14) (v := ?_) (by rw [List.getElem?_toArray]; rfl) (by kernel_rfl) (by kernel_rfl) (by kernel_rfl) (by exact fun _ _ _ h => h) (Or.inl ⟨by rfl, ?_⟩) h6 ?_
  rotate_left
  · intro W hW
    obtain ⟨c0, c1, c2, c3, c4, c5, c6, c7, c8⟩ := hW.cells
    go_simp
    all_goals with_reducible rfl
  try simp only [Act.put, List.setIfInBounds_toArray, List.set_cons_zero, List.set_cons_succ]
  refine wpAnyH_ready (rs := [15]) (by kernel_rfl) (by simp) ?_
  refine AllReadyH.cons (by rw [List.getElem?_toArray]; rfl) (fun K hK => ?_) AllReadyH.nil
  rw [if_pos (by rfl)]
  have th := R6.out.there
  have hput := (R6.out.put m q6 n k6).row
  have cS : Chg w6 (w6.setCells (w.heap.size + 1) 0 (mgRow m q6 n k6)) [w.heap.size + 1] := chg_setCells _ _ _ (Chg.refl _ _)
  have S7 : Hid (BuS w (w6.setCells (w.heap.size + 1) 0 (mgRow m q6 n k6)) (.slice q6 n k6) D) :=
    ⟨own_keep S6.out.own (fun j hj => cS.block j (own_lt S6.out.own hj) (fun hm => by
      obtain rfl : j = w.heap.size + 1 := by simpa using hm
      exact N6.out hj)), S6.out.fresh, below_setCells' (w.heap.size + 1) (by omega) _ _ S6.out.below⟩
  have K7 : MgAt (w6.setCells (w.heap.size + 1) 0 (mgRow m q6 n k6)) w.heap.size 52 m q n k := MgAt.chg h6 cS (by simp)
  clear S6 cS N6 hrm
  go_wp2_with fail
  refine hK.out _ _ (K7) (fun h7 => ?_)
  clear hK K K7
  try simp only [Act.put, List.setIfInBounds_toArray, List.set_cons_zero, List.set_cons_succ]
  refine wpAnyH_done (by kernel_rfl) ?_ _
  clear h0 h3 h6 h7
  go_wp2_with fail
  refine bodyPost_ret (v := .agg (mgRow m q6 n k6).toArray) (by simp [results, Try.results23, go_sem, hput]) rfl ⟨q6, k6, rfl, by have := S7.out; rw [LN.out] at *; exact this⟩
set_option maxHeartbeats 4000000 in
theorem SameMessage_any {w : World} {m : Mg} {q q' : Option Addr} {k k' : Nat} (hr : Rd w (.slice q m.data.length k) m.data) (hr' : Rd w (.slice q' m.data.length k') m.data) :
    Calls Try.prog 22 #[.agg (mgRow m q m.data.length k).toArray, .agg (mgRow m q' m.data.length k').toArray] w fun e w' => e = .returned (.bool true) ∧ Below w.heap.size w w' := by
  obtain ⟨D, hD⟩ : ∃ D, m.data = D := ⟨_, rfl⟩
  rw [hD] at hr hr' ⊢
  obtain ⟨n, hn⟩ : ∃ n, D.length = n := ⟨_, rfl⟩
  rw [hn] at hr hr' ⊢
  have b1 : Below w.heap.size w (w.alloc (.cells (mgRow m q n k).toArray 62)) := (Below.refl _ _).alloc (Nat.le_refl _) _
  have b2 : Below (w.alloc (.cells (mgRow m q n k).toArray 62)).heap.size (w.alloc (.cells (mgRow m q n k).toArray 62)) ((w.alloc (.cells (mgRow m q n k).toArray 62)).alloc (.cells (mgRow m q' n k').toArray 62)) := (Below.refl _ _).alloc (Nat.le_refl _) _
  have b0 := b1.trans (b2.mono b1.size)
  have K0 := ((MgAt.new w 62 m q n k).on b2)
  have K1 := (MgAt.new (w.alloc (.cells (mgRow m q n k).toArray 62)) 62 m q' n k')
  have hz : (w.alloc (.cells (mgRow m q n k).toArray 62)).heap.size = w.heap.size + 1 := by simp
  rw [hz] at K1
  have V0 := hr.on b0
  have V1 := hr'.on b0
  have B0 := Lib.hid b0
  obtain ⟨sX, hsX⟩ : ∃ sX, strOfNums D = sX := ⟨_, rfl⟩
  obtain ⟨c0, c1, c2, c3, c4, c5, c6, c7, c8⟩ := K0.cells
  obtain ⟨d0, d1, d2, d3, d4, d5, d6, d7, d8⟩ := K1.cells
  have ds : (sX.toList == sX.toList) = true := by simp
  have sc : (convert 50 9 (.slice q n k)).run Try.prog ((w.alloc (.cells (mgRow m q n k).toArray 62)).alloc (.cells (mgRow m q' n k').toArray 62)) = .ok (.string sX) ((w.alloc (.cells (mgRow m q n k).toArray 62)).alloc (.cells (mgRow m q' n k').toArray 62)) := by rw [← hsX]; exact V0.str (P := Try.prog) Try.underlying50 Try.underlying5 Try.underlying9
  have sd : (convert 50 9 (.slice q' n k')).run Try.prog ((w.alloc (.cells (mgRow m q n k).toArray 62)).alloc (.cells (mgRow m q' n k').toArray 62)) = .ok (.string sX) ((w.alloc (.cells (mgRow m q n k).toArray 62)).alloc (.cells (mgRow m q' n k').toArray 62)) := by rw [← hsX]; exact V1.str (P := Try.prog) Try.underlying50 Try.underlying5 Try.underlying9
  clear hr hr' hn hD b1 b2 b0 K0 K1 hz V0 V1 hsX
  go_enter Try.func22, Try.ntmps22
  go_wp2_with fail
  go_ret
  exact ⟨rfl, B0.out⟩
end Go.Proofs.Ytonjkhhihiigfaa
namespace Go.Proofs.Ytonjkhhihiigfaa
set_option maxRecDepth 100000
open Go.RowKit
open Go (growslice_fits_wide)

section
variable {P : Program} {w : World}
theorem append_row_w {t tx ty e : TypeId} {i : TypeInfo} {z : Value} {size bytes : Nat} (ht : P.underlying t = some (.slice e)) (hi : P.info? e = some i) (hz : i.zero = some z)
    (hsize : i.size = size) (hby : i.bytes = bytes) (hzs : z.cells.size = size)
    {v : Value} {n : Nat} {xs : List Value} (hown : w.ownsRow 0 e size v n xs) {x : Value} {m : Nat} {news : List Value} (hs : Src P size tx x m news w)
    (h63 : n + m ≤ maxLen) (hbytes : ((n + m) + (n + m) / 4 + 192) * bytes ≤ 281474976710656) :
    ∃ v' w', (Builtin.append_ #[t, tx] ty #[v, x]).run P w = .ok v' w' ∧ w'.ownsRow 0 e size v' (n + m) (xs ++ news) ∧ w.grownBy w' v.ownBlock ∧
      (v'.ownBlock = v.ownBlock ∨ v'.ownBlock = some w.heap.size) := by
  subst hsize
  subst hby
  have hsmall : n + m ≤ 9223372036854775807 := by simp only [maxLen] at h63; omega
  have hlen : (xs ++ news).length = (n + m) * i.size := by rw [List.length_append, hown.1, hs.newsLen, Nat.add_mul]
  have grown : ∀ (old : Nat), old < n + m → ∀ (row : Option Nat),
      (w.drew.alloc (.cells ((xs ++ news).toArray ++ Builtin.zeroCells z.cells (grownCap w (n + m) old e - (n + m))) e)).ownsRow 0 e i.size
        (.slice (some ⟨w.heap.size, 0, none⟩) (n + m) (grownCap w (n + m) old e)) (n + m) (xs ++ news) ∧
      w.grownBy (w.drew.alloc (.cells ((xs ++ news).toArray ++ Builtin.zeroCells z.cells (grownCap w (n + m) old e - (n + m))) e)) row := by
    intro old ho row
    have hge := grownCap_ge w (n + m) old e
    have hcm : grownCap w (n + m) old e ≤ maxLen := grownCap_le_maxLen w (n + m) old e h63
    refine ⟨⟨hlen, .inr ⟨w.heap.size, _, _, rfl, Nat.zero_le _, heap_alloc_new w.drew _, hge, hcm, ?_, ?_⟩⟩, ⟨rfl, rfl, rfl, by simp, fun k hk _ => Below.heap_alloc w.drew _ k hk⟩⟩
    · rw [Array.size_append, List.size_toArray, size_zeroCells, hzs, hlen, ← Nat.add_mul]
      congr 1
      omega
    · rw [Array.toList_append]
      exact List.take_left' hlen
  rcases hown.2 with ⟨rfl, rfl⟩ | ⟨g, cap, cur, rfl, _, hg, hnc, hcm, hcs, htake⟩
  · obtain rfl : xs = [] := List.eq_nil_of_length_eq_zero (by simpa using hown.1)
    by_cases hm : m = 0
    · subst hm
      obtain rfl : news = [] := List.eq_nil_of_length_eq_zero (by simpa using hs.newsLen)
      refine ⟨.slice none 0 0, w, ?_, World.ownsRow_nil w 0 e i.size, ⟨rfl, rfl, rfl, Nat.le_refl _, fun _ _ _ => rfl⟩, .inl rfl⟩
      have hc := hs.cells
      rcases hs.kind with ⟨e', hk⟩ | hk <;> simp [Builtin.append_, run_underlying ht, run_underlying hk, sizeOf, typeInfo, hi, hs.len, hc]
    · have hr := run_append_grow_src (P := P) w t tx ty e i z ht hi hz none 0 0 [] (run_firstCells_none w.drew i.size 0 0 0) x m news hs (by omega) (by omega) (growslice_fits_wide (by omega) (by simpa using hbytes))
      have hgr := grown 0 (by omega) (Value.ownBlock (.slice none 0 0))
      simp only [Nat.zero_add, List.nil_append] at hgr hr ⊢
      exact ⟨_, _, hr, hgr.1, hgr.2, .inr rfl⟩
  · have hfrozen : ∀ j, w.frozen? ⟨g, j, none⟩ = false := fun j => Joins.unfrozen_of_block hg j
    by_cases hroom : n + m ≤ cap
    · have hfit : n * i.size + news.length ≤ cur.size := by rw [hs.newsLen, hcs, ← Nat.add_mul]; exact Nat.mul_le_mul_right _ hroom
      have hr := run_append_room_src (P := P) w t tx ty e i ht hi g 0 n cap x m news hs hroom
        (fun j hj => by
          rw [cell_of_row w g _ cur e (0, 0) hg]
          have : n * i.size + j < cur.size := by omega
          simp [this]) (fun j hj => hfrozen _)
      have hsplit : cur = (xs ++ ((cur.toList.drop (n * i.size)).take news.length ++ cur.toList.drop (n * i.size + news.length))).toArray := by
        apply Array.ext'
        show cur.toList = xs ++ ((cur.toList.drop (n * i.size)).take news.length ++ cur.toList.drop (n * i.size + news.length))
        rw [← List.drop_drop, List.take_append_drop, ← htake, List.take_append_drop]
      have hblk := setCells_in (w := w) (b := g) (t := e) (fr := (0, 0)) (o := 0 + n * i.size) (pre := xs) (mid := (cur.toList.drop (n * i.size)).take news.length) (post := cur.toList.drop (n * i.size + news.length)) news
        (by rw [← hsplit]; exact hg) (by rw [hown.1]; omega) (by have hL : cur.toList.length = cur.size := Array.length_toList; rw [List.length_take, List.length_drop]; omega)
      obtain ⟨s1, s2, s3, s4⟩ := setCells_same g news (0 + n * i.size) w
      refine ⟨_, _, hr, ⟨hlen, .inr ⟨g, cap, _, rfl, Nat.zero_le _, hblk, hroom, hcm, ?_, ?_⟩⟩, ⟨s2, s3, s4, by omega, fun k _ hk => setCells_apart (fun e => hk (by simp [Value.ownBlock, e])) news _ w⟩, .inl rfl⟩
      · have hL : cur.toList.length = cur.size := Array.length_toList
        have hx := hown.1
        rw [List.size_toArray, List.length_append, List.length_append, List.length_drop]
        omega
      · show ((xs ++ (news ++ cur.toList.drop (n * i.size + news.length)))).take ((n + m) * i.size) = xs ++ news
        rw [← List.append_assoc]
        exact List.take_left' hlen
    · have holds : ∀ j u, xs[j]? = some u → w.cell? ((⟨g, 0, none⟩ : Addr).add j) = some u := hown.cells (g := g) rfl
      have hr := run_append_grow_src (P := P) w t tx ty e i z ht hi hz (some ⟨g, 0, none⟩) n cap xs (run_firstCells_some w.drew i.size n ⟨g, 0, none⟩ n cap xs hown.1 (by simpa using holds)) x m news hs (by omega) (by omega) (growslice_fits_wide (by omega) hbytes)
      have hgr := grown cap (by omega) (Value.ownBlock (.slice (some ⟨g, 0, none⟩) n cap))
      exact ⟨_, _, hr, hgr.1, hgr.2, .inr rfl⟩

/-- At the operation. -/
theorem wp_append_row_w {o : Oper} {a : Act} {K : Act → World → Prop} {Q : Exit → Act → World → Prop} (s x : Operand) {t tx e : TypeId}
    (ho : o.op = .call { callee := .builtin .append, args := #[s, x], argTypes := #[t, tx] })
    {i : TypeInfo} {z : Value} {size bytes : Nat} (ht : P.underlying t = some (.slice e)) (hi : P.info? e = some i) (hz : i.zero = some z)
    (hsize : i.size = size) (hby : i.bytes = bytes) (hzs : z.cells.size = size)
    {n : Nat} {xs : List Value} (hown : w.ownsRow 0 e size (a.eval s) n xs) {m : Nat} {news : List Value} (hs : Src P size tx (a.eval x) m news w)
    (h63 : n + m ≤ maxLen) (hbytes : ((n + m) + (n + m) / 4 + 192) * bytes ≤ 281474976710656)
    (h : ∀ q c w', w'.ownsRow 0 e size (.slice q (n + m) c) (n + m) (xs ++ news) → w.grownBy w' (a.eval s).ownBlock → ((Value.slice q (n + m) c).ownBlock = (a.eval s).ownBlock ∨ (Value.slice q (n + m) c).ownBlock = some w.heap.size) → K (a.put o.dst (.slice q (n + m) c)) w') : o.wp P a w K Q := by
  obtain ⟨v', w', hr, h2, h3, h4⟩ := append_row_w (ty := o.type) ht hi hz hsize hby hzs hown hs h63 hbytes
  unfold Oper.wp execOp
  simp only [ho, resolve, invoke, builtin, Sem.run_bind, Sem.run_pure, Result.andThen_ok, List.map_toArray, List.map_cons, List.map_nil, hr]
  rcases h2.2 with ⟨rfl, h0⟩ | ⟨g, cap, cur, rfl, _⟩
  · have := h none 0 w'
    rw [h0] at this h2
    exact this h2 h3 h4
  · exact h _ cap w' h2 h3 h4
theorem wpList_append_row_w {ops : Array Oper} {rest : List Oper} {o : Oper} {a : Act} {Q : Exit → Act → World → Prop} (hgd : o.guard = none) (s x : Operand) {t tx e : TypeId}
    (ho : o.op = .call { callee := .builtin .append, args := #[s, x], argTypes := #[t, tx] })
    {i : TypeInfo} {z : Value} {size bytes : Nat} (ht : P.underlying t = some (.slice e)) (hi : P.info? e = some i) (hz : i.zero = some z)
    (hsize : i.size = size) (hby : i.bytes = bytes) (hzs : z.cells.size = size)
    {n : Nat} {xs : List Value} (hown : w.ownsRow 0 e size (a.eval s) n xs) {m : Nat} {news : List Value} (hs : Src P size tx (a.eval x) m news w)
    (h63 : n + m ≤ maxLen) (hbytes : ((n + m) + (n + m) / 4 + 192) * bytes ≤ 281474976710656)
    (h : ∀ q c w', w'.ownsRow 0 e size (.slice q (n + m) c) (n + m) (xs ++ news) → w.grownBy w' (a.eval s).ownBlock → ((Value.slice q (n + m) c).ownBlock = (a.eval s).ownBlock ∨ (Value.slice q (n + m) c).ownBlock = some w.heap.size) → wpList P ops Q rest (a.put o.dst (.slice q (n + m) c)) w') : wpList P ops Q (o :: rest) a w :=
  wpList_plain hgd fun _ hK => wp_append_row_w s x ho ht hi hz hsize hby hzs hown hs h63 hbytes fun q c w' h2 h3 h4 => hK _ _ (h q c w' h2 h3 h4)
end
end Go.Proofs.Ytonjkhhihiigfaa
namespace Go.Proofs.Ytonjkhhihiigfaa
set_option maxRecDepth 100000
open Go.RowKit


theorem bys_take (N : Int) {j : Nat} (h : j < 32) : (bys N 32).take (j + 1) = (bys N 32).take j ++ [by_ N (31 - j)] := by
  have hl : (bys N 32).length = 32 := by simp [bys]
  rw [List.take_succ_eq_append_getElem (by omega)]
  congr 2
  have := bys_at N j h
  rw [← this]
  simp [List.getD, hl, h]
def limb (x : W4) : Nat → Int
  | 0 => x.a
  | 1 => x.b
  | 2 => x.c
  | _ => x.d
theorem limb_byte {x : W4} (h : D4 x.a x.b x.c x.d) {i m : Nat} (hi : i < 4) (hm : m < 8) : by_ (V x.a x.b x.c x.d) (8 * i + m) = limb x i / 2 ^ (8 * m) % 256 := by
  have e : i = 0 ∨ i = 1 ∨ i = 2 ∨ i = 3 := by omega
  rcases e with rfl | rfl | rfl | rfl
  · have := byte0 (a0 := x.a) (a1 := x.b) (a2 := x.c) (a3 := x.d) hm
    simpa [limb] using this
  · exact byte1 h hm
  · exact byte2 h hm
  · exact byte3 h hm

end Go.Proofs.Ytonjkhhihiigfaa
namespace Go.Proofs.Ytonjkhhihiigfaa
set_option maxRecDepth 100000
open Go.RowKit

set_option maxHeartbeats 4000000 in
theorem WWide_fits {w : World} {p : Nat} {v : Value} {xs : List Int} (h : WrV w p v xs) {a : Value} {ws : List W4} (hH : RdW w a ws (p :: v.ownBlock.toList)) (hl : xs.length + ws.length * 32 ≤ 65536) :
    Calls Try.prog 56 #[.pointer (some ⟨p, 0, none⟩), a] w fun e w' => e = .returned (.int .i64 0) ∧ WSt w p v w' (xs ++ wides ws) := by
  obtain ⟨i0, hi, hz0, hz1, hz2⟩ := info_parts Try.infoU8
  have H0 : Hid (WSt w p v w (xs ++ wides (ws.take 0))) := by
    show WSt w p v w _
    exact (WSt.start h).of_eq (by simp [wides])
  obtain ⟨c0, c1, -⟩ := h.cells
  have hroom := Lib.hid (room_yes h (n := ws.length) (s := 32) (by omega) (by omega))
  obtain ⟨qv, kv, rfl⟩ := h.rd.len
  obtain ⟨q, c, rfl⟩ : ∃ q c, a = .slice q ws.length c := by obtain ⟨q, c, e, _⟩ := hH; exact ⟨q, c, e⟩
  have HN := Lib.hid hH
  have hn : ws.length ≤ 65536 := by omega
  clear h hH
  replace hi := Lib.hid hi
  replace hz0 := Lib.hid hz0
  replace hz1 := Lib.hid hz1
  replace hz2 := Lib.hid hz2
  go_enter Try.func56, Try.ntmps56
  go_wp2_with fail
  refine (hroom.out).mono ?_
  rintro e wx ⟨rfl, rfl⟩
  go_wp2_with fail
  obtain ⟨w1, rfl⟩ : ∃ w1 : World, w1 = wx := ⟨_, rfl⟩
  clear c0 c1 hroom
  go_loopw [6, 26] (fun _ iv wr => ∃ i : Nat, iv = .int .i64 i ∧ i ≤ ws.length ∧ Hid (WSt w1 p (.slice qv xs.length kv) wr (xs ++ wides (ws.take i)))) (fun _ iv _ => ws.length - (intOf iv).toNat)
  case atStart => exact ⟨0, rfl, by omega, H0⟩
  case round =>
    clear H0
    obtain ⟨i, rfl, hil, hS⟩ := hrel
    by_cases hlt : i < ws.length
    · obtain ⟨q1, k1, h1, h2, h3⟩ := hS.out.own
      obtain ⟨b, off, -, rfl, hbS, hD, g0, g1, g2, g3⟩ := HN.out.at hlt
      have hbl := lt_of_cell g0
      have hb2 : b < wr.heap.size := Nat.lt_of_lt_of_le hbl h2.size
      rw [← World.cell?_of_block (w := w1) (w' := wr) (h2.block b hbl hbS)] at g0 g1 g2 g3
      have HB := Lib.hid (wides_take hlt)
      have hlen := wides_len (ws.take i)
      rw [List.length_take, Nat.min_eq_left (Nat.le_of_lt hlt)] at hlen
      generalize hys : xs ++ wides (ws.take i) = ys at h1 h3 hS
      have hy32 : ys.length + 32 ≤ 65536 := by
        rw [← hys, List.length_append, hlen]
        omega
      clear hbS hlen
      generalize hbb : ws.getD i w0 = x at g0 g1 g2 g3 hD HB
      have hxl := x.len
      have HD := Lib.hid hD
      have B1 : Below wr.heap.size wr (wr.alloc (.cells #[.int .u64 x.a, .int .u64 x.b, .int .u64 x.c, .int .u64 x.d] 49)) := (Below.refl _ _).alloc (Nat.le_refl _) _
      have hlt1 := h1.lt
      have H1 := Lib.hid h1
      have H2 := Lib.hid h2
      have H3 := Lib.hid h3
      clear h1 h2 h3 hS hD B1
      go_wp2_with fail
      have RX : Hid (At4 (wr.alloc (.cells #[.int .u64 x.a, .int .u64 x.b, .int .u64 x.c, .int .u64 x.d] 49)) wr.heap.size x.a x.b x.c x.d) := At4.new wr x.a x.b x.c x.d
      have BW : Below wr.heap.size wr (wr.alloc (.cells #[.int .u64 x.a, .int .u64 x.b, .int .u64 x.c, .int .u64 x.d] 49)) := (Below.refl _ _).alloc (Nat.le_refl _) _
      have H1 := Lib.hid (H1.out.on BW)
      have H23 := Lib.hid (And.intro (H2.out.trans (Chg.below BW (Nat.le_refl _) []) (by simp)) H3.out)
      have hlt2 := H1.out.lt
      clear BW H2 H3 g0 g1 g2 g3
      generalize wr.alloc (.cells #[.int .u64 x.a, .int .u64 x.b, .int .u64 x.c, .int .u64 x.d] 49) = wz at H1 H23 RX hlt2 ⊢
      generalize wr.heap.size = bz at RX ⊢
      obtain ⟨-, c1, f1⟩ := H1.out.cells
      refine wp_region_held_drew (S := fun W => At4 W bz x.a x.b x.c x.d) (by kernel_rfl) (by exact RX.out) (fun h0 => ?_)
      refine wpAnyH_take (i := 0) (v := ?_) (by rw [List.getElem?_toArray]; rfl) (by kernel_rfl) (by kernel_rfl) (by kernel_rfl) (by exact fun _ _ _ h => h) (Or.inl ⟨by rfl, ?_⟩) h0 ?_
      rotate_left
      · intro W hW
        go_simp
        all_goals with_reducible rfl
      try simp only [Act.put, List.setIfInBounds_toArray, List.set_cons_zero, List.set_cons_succ]
      refine wpAnyH_take (i := 1) (v := ?_) (by rw [List.getElem?_toArray]; rfl) (by kernel_rfl) (by kernel_rfl) (by kernel_rfl) (by exact fun _ _ _ h => h) (Or.inl ⟨by rfl, ?_⟩) h0 ?_
      rotate_left
      · intro W hW
        go_simp
        all_goals with_reducible rfl
      try simp only [Act.put, List.setIfInBounds_toArray, List.set_cons_zero, List.set_cons_succ]
      refine wpAnyH_take (i := 2) (v := ?_) (by rw [List.getElem?_toArray]; rfl) (by kernel_rfl) (by kernel_rfl) (by kernel_rfl) (by exact fun _ _ _ h => h) (Or.inl ⟨by rfl, ?_⟩) h0 ?_
      rotate_left
      · intro W hW
        go_simp
        all_goals with_reducible rfl
      try simp only [Act.put, List.setIfInBounds_toArray, List.set_cons_zero, List.set_cons_succ]
      refine wpAnyH_take (i := 3) (v := ?_) (by rw [List.getElem?_toArray]; rfl) (by kernel_rfl) (by kernel_rfl) (by kernel_rfl) (by exact fun _ _ _ h => h) (Or.inl ⟨by rfl, ?_⟩) h0 ?_
      rotate_left
      · intro W hW
        go_simp
        all_goals with_reducible rfl
      try simp only [Act.put, List.setIfInBounds_toArray, List.set_cons_zero, List.set_cons_succ]
      refine wpAnyH_take (i := 4) (v := ?_) (by rw [List.getElem?_toArray]; rfl) (by kernel_rfl) (by kernel_rfl) (by kernel_rfl) (by exact fun _ _ _ h => h) (Or.inl ⟨by rfl, ?_⟩) h0 ?_
      rotate_left
      · intro W hW
        go_simp
        all_goals with_reducible rfl
      try simp only [Act.put, List.setIfInBounds_toArray, List.set_cons_zero, List.set_cons_succ]
      refine wpAnyH_take (i := 6) (v := ?_) (by rw [List.getElem?_toArray]; rfl) (by kernel_rfl) (by kernel_rfl) (by kernel_rfl) (by exact fun _ _ _ h => h) (Or.inl ⟨by rfl, ?_⟩) h0 ?_
      rotate_left
      · intro W hW
        obtain ⟨e0, e1, e2, e3⟩ := hW.cell
        go_simp
        all_goals with_reducible rfl
      try simp only [Act.put, List.setIfInBounds_toArray, List.set_cons_zero, List.set_cons_succ]
      refine wpAnyH_ready (rs := [5, 7]) (by kernel_rfl) (by simp) ?_
      refine AllReadyH.cons (by rw [List.getElem?_toArray]; rfl) (fun K hK => ?_) (AllReadyH.cons (by rw [List.getElem?_toArray]; rfl) (fun K hK => ?_) AllReadyH.nil)
      · rw [if_pos (by rfl)]
        go_wp2_with fail
        refine hK.out _ _ (by exact RX.out.drew) (fun _ => ?_)
        clear hK K
        try simp only [Act.put, List.setIfInBounds_toArray, List.set_cons_zero, List.set_cons_succ]
        refine wpAnyH_ready (rs := [7]) (by kernel_rfl) (by simp) ?_
        refine AllReadyH.cons (by rw [List.getElem?_toArray]; rfl) (fun K hK => ?_) AllReadyH.nil
        rw [if_pos (by rfl)]
        go_wp2_with fail
        refine (Bytes_any HD.out _).mono ?_
        rintro e w5 ⟨bb, rfl, hbn, hrow, B5⟩
        have RX5 : At4 w5 bz x.a x.b x.c x.d := RX.out.drew.on B5
        have H5 := Lib.hid (H1.out.drew.on B5)
        have C5 := Lib.hid (And.intro (H23.out.1.drew.trans (Chg.below B5 (Nat.le_refl _) []) (by simp)) H23.out.2)
        have hlt5 := H5.out.lt
        obtain ⟨-, c1, f1⟩ := H5.out.cells
        go_wp2_with fail
        refine hK.out _ _ (by exact RX5) (fun _ => ?_)
        clear hK K
        try simp only [Act.put, List.setIfInBounds_toArray, List.set_cons_zero, List.set_cons_succ]
        refine wpAnyH_ready (rs := [8]) (by kernel_rfl) (by simp) ?_
        refine AllReadyH.cons (by rw [List.getElem?_toArray]; rfl) (fun K hK => ?_) AllReadyH.nil
        rw [if_pos (by rfl)]
        refine wp_append_row _ _ rfl Try.underlying50 hi.out hz0.out hz1.out hz2.out rfl H5.out.own (Rd.src (xs := x.bytes) Try.underlying50 ?rd) ?b1 ?b2 ?_
        case rd => exact row32_rd hrow
        case b1 => unfold maxLen; omega
        case b2 => omega
        intro q2 k2 w2 own2 grow2 fr2
        have HNN := Lib.hid (WSt.step H5.out C5.out.1 (by exact C5.out.2) rfl own2 grow2 fr2)
        have c2 : w2.cell? ⟨p, 1, none⟩ = some (.slice q1 ys.length k1) := by
          rw [World.cell?_of_block (grow2.block p hlt5 (fun e => H5.out.ne e.symm))]; exact c1
        have f2 : w2.frozen? ⟨p, 1, none⟩ = false := by
          rw [World.frozen?_of_block (grow2.block p hlt5 (fun e => H5.out.ne e.symm))]; exact f1
        have RX6 : At4 w2 bz x.a x.b x.c x.d := by
          unfold At4
          rw [grow2.block bz RX5.lt (fun e => own_ne H5.out.own (show w5.heap[bz]? = some (.cells _ _ (0, 0)) from RX5) (by decide) e.symm)]
          exact RX5
        have hpb : bz ≠ p := by
          intro e
          have h3 := H5.out.blk
          rw [← e, show w5.heap[bz]? = some (.cells _ _ (0, 0)) from RX5] at h3
          simp at h3
        have RX7 : At4 (w2.setCell ⟨p, 1, none⟩ (.slice q2 (ys.length + 32) k2)) bz x.a x.b x.c x.d := RX6.other hpb _
        clear own2 grow2 fr2 c1 f1
        refine hK.out _ _ (by exact RX6) (fun h6 => ?_)
        clear hK K
        try simp only [Act.put, List.setIfInBounds_toArray, List.set_cons_zero, List.set_cons_succ]
        refine wpAnyH_take (i := 9) (v := ?_) (by rw [List.getElem?_toArray]; rfl) (by kernel_rfl) (by kernel_rfl) (by kernel_rfl) (by exact fun _ _ _ h => h) (Or.inl ⟨by rfl, ?_⟩) h6 ?_
        rotate_left
        · intro W hW
          go_simp
          all_goals with_reducible rfl
        try simp only [Act.put, List.setIfInBounds_toArray, List.set_cons_zero, List.set_cons_succ]
        refine wpAnyH_take (i := 10) (v := ?_) (by rw [List.getElem?_toArray]; rfl) (by kernel_rfl) (by kernel_rfl) (by kernel_rfl) (by exact fun _ _ _ h => h) (Or.inl ⟨by rfl, ?_⟩) h6 ?_
        rotate_left
        · intro W hW
          go_simp
          all_goals with_reducible rfl
        try simp only [Act.put, List.setIfInBounds_toArray, List.set_cons_zero, List.set_cons_succ]
        refine wpAnyH_take (i := 11) (v := ?_) (by rw [List.getElem?_toArray]; rfl) (by kernel_rfl) (by kernel_rfl) (by kernel_rfl) (by exact fun _ _ _ h => h) (Or.inl ⟨by rfl, ?_⟩) h6 ?_
        rotate_left
        · intro W hW
          go_simp
          all_goals with_reducible rfl
        try simp only [Act.put, List.setIfInBounds_toArray, List.set_cons_zero, List.set_cons_succ]
        refine wpAnyH_ready (rs := [12]) (by kernel_rfl) (by simp) ?_
        refine AllReadyH.cons (by rw [List.getElem?_toArray]; rfl) (fun K hK => ?_) AllReadyH.nil
        rw [if_pos (by rfl)]
        go_wp2_with fail
        refine hK.out _ _ (by exact RX7) (fun _ => ?_)
        clear hK K
        try simp only [Act.put, List.setIfInBounds_toArray, List.set_cons_zero, List.set_cons_succ]
        refine wpAnyH_done (by kernel_rfl) ?_ _
        go_wp2_with fail
        go_roundw
        case rel =>
          refine ⟨i + 1, by go_num, by omega, ?_⟩
          show WSt w1 p _ _ _
          rw [HB.out, ← List.append_assoc, hys]
          have := HNN.out
          rw [hxl] at this
          first
            | exact this
            | (rw [hxl]; exact this)
        case measure => simp [intOf]; omega
      · rw [if_pos (by rfl)]
        go_wp2_with fail
        refine (Bytes_any HD.out _).mono ?_
        rintro e w5 ⟨bb, rfl, hbn, hrow, B5⟩
        have RX5 : At4 w5 bz x.a x.b x.c x.d := RX.out.drew.on B5
        have H5 := Lib.hid (H1.out.drew.on B5)
        have C5 := Lib.hid (And.intro (H23.out.1.drew.trans (Chg.below B5 (Nat.le_refl _) []) (by simp)) H23.out.2)
        have hlt5 := H5.out.lt
        obtain ⟨-, c1, f1⟩ := H5.out.cells
        go_wp2_with fail
        refine hK.out _ _ (by exact RX5) (fun _ => ?_)
        clear hK K
        try simp only [Act.put, List.setIfInBounds_toArray, List.set_cons_zero, List.set_cons_succ]
        refine wpAnyH_ready (rs := [5]) (by kernel_rfl) (by simp) ?_
        refine AllReadyH.cons (by rw [List.getElem?_toArray]; rfl) (fun K hK => ?_) AllReadyH.nil
        rw [if_pos (by rfl)]
        go_wp2_with fail
        refine hK.out _ _ (by exact RX5) (fun _ => ?_)
        clear hK K
        try simp only [Act.put, List.setIfInBounds_toArray, List.set_cons_zero, List.set_cons_succ]
        refine wpAnyH_ready (rs := [8]) (by kernel_rfl) (by simp) ?_
        refine AllReadyH.cons (by rw [List.getElem?_toArray]; rfl) (fun K hK => ?_) AllReadyH.nil
        rw [if_pos (by rfl)]
        refine wp_append_row _ _ rfl Try.underlying50 hi.out hz0.out hz1.out hz2.out rfl H5.out.own (Rd.src (xs := x.bytes) Try.underlying50 ?rd) ?b1 ?b2 ?_
        case rd => exact row32_rd hrow
        case b1 => unfold maxLen; omega
        case b2 => omega
        intro q2 k2 w2 own2 grow2 fr2
        have HNN := Lib.hid (WSt.step H5.out C5.out.1 (by exact C5.out.2) rfl own2 grow2 fr2)
        have c2 : w2.cell? ⟨p, 1, none⟩ = some (.slice q1 ys.length k1) := by
          rw [World.cell?_of_block (grow2.block p hlt5 (fun e => H5.out.ne e.symm))]; exact c1
        have f2 : w2.frozen? ⟨p, 1, none⟩ = false := by
          rw [World.frozen?_of_block (grow2.block p hlt5 (fun e => H5.out.ne e.symm))]; exact f1
        have RX6 : At4 w2 bz x.a x.b x.c x.d := by
          unfold At4
          rw [grow2.block bz RX5.lt (fun e => own_ne H5.out.own (show w5.heap[bz]? = some (.cells _ _ (0, 0)) from RX5) (by decide) e.symm)]
          exact RX5
        have hpb : bz ≠ p := by
          intro e
          have h3 := H5.out.blk
          rw [← e, show w5.heap[bz]? = some (.cells _ _ (0, 0)) from RX5] at h3
          simp at h3
        have RX7 : At4 (w2.setCell ⟨p, 1, none⟩ (.slice q2 (ys.length + 32) k2)) bz x.a x.b x.c x.d := RX6.other hpb _
        clear own2 grow2 fr2 c1 f1
        refine hK.out _ _ (by exact RX6) (fun h6 => ?_)
        clear hK K
        try simp only [Act.put, List.setIfInBounds_toArray, List.set_cons_zero, List.set_cons_succ]
        refine wpAnyH_take (i := 9) (v := ?_) (by rw [List.getElem?_toArray]; rfl) (by kernel_rfl) (by kernel_rfl) (by kernel_rfl) (by exact fun _ _ _ h => h) (Or.inl ⟨by rfl, ?_⟩) h6 ?_
        rotate_left
        · intro W hW
          go_simp
          all_goals with_reducible rfl
        try simp only [Act.put, List.setIfInBounds_toArray, List.set_cons_zero, List.set_cons_succ]
        refine wpAnyH_take (i := 10) (v := ?_) (by rw [List.getElem?_toArray]; rfl) (by kernel_rfl) (by kernel_rfl) (by kernel_rfl) (by exact fun _ _ _ h => h) (Or.inl ⟨by rfl, ?_⟩) h6 ?_
        rotate_left
        · intro W hW
          go_simp
          all_goals with_reducible rfl
        try simp only [Act.put, List.setIfInBounds_toArray, List.set_cons_zero, List.set_cons_succ]
        refine wpAnyH_take (i := 11) (v := ?_) (by rw [List.getElem?_toArray]; rfl) (by kernel_rfl) (by kernel_rfl) (by kernel_rfl) (by exact fun _ _ _ h => h) (Or.inl ⟨by rfl, ?_⟩) h6 ?_
        rotate_left
        · intro W hW
          go_simp
          all_goals with_reducible rfl
        try simp only [Act.put, List.setIfInBounds_toArray, List.set_cons_zero, List.set_cons_succ]
        refine wpAnyH_ready (rs := [12]) (by kernel_rfl) (by simp) ?_
        refine AllReadyH.cons (by rw [List.getElem?_toArray]; rfl) (fun K hK => ?_) AllReadyH.nil
        rw [if_pos (by rfl)]
        go_wp2_with fail
        refine hK.out _ _ (by exact RX7) (fun _ => ?_)
        clear hK K
        try simp only [Act.put, List.setIfInBounds_toArray, List.set_cons_zero, List.set_cons_succ]
        refine wpAnyH_done (by kernel_rfl) ?_ _
        go_wp2_with fail
        go_roundw
        case rel =>
          refine ⟨i + 1, by go_num, by omega, ?_⟩
          show WSt w1 p _ _ _
          rw [HB.out, ← List.append_assoc, hys]
          have := HNN.out
          rw [hxl] at this
          first
            | exact this
            | (rw [hxl]; exact this)
        case measure => simp [intOf]; omega
    · obtain rfl : i = ws.length := by omega
      have hb := hS.out
      rw [List.take_length] at hb
      replace hS := Lib.hid hb
      clear hb
      go_wp2_with fail
      go_ret
      exact ⟨rfl, hS.out⟩
end Go.Proofs.Ytonjkhhihiigfaa
namespace Go.Proofs.Ytonjkhhihiigfaa
set_option maxRecDepth 100000
open Go.RowKit

theorem fill_at {place : Nat → Option (Nat × Nat)} {rest : List (Nat × Value)} {i off size : Nat} {v : Value} {pre mid post vs : List Value} (hp : place i = some (off, size)) (hv : v.cells = vs.toArray)
    (h1 : pre.length = off) (h2 : mid.length = size) (h3 : vs.length = size) :
    Instr.fill place (pre ++ (mid ++ post)).toArray ((i, v) :: rest) = Instr.fill place (pre ++ (vs ++ post)).toArray rest := by
  rw [Instr.fill, hp]
  have e1 : v.cells.size = size := by rw [hv]; simpa using h3
  have e2 : off + size ≤ (pre ++ (mid ++ post)).toArray.size := by simp; omega
  have e3 : (decide (v.cells.size ≠ size) || decide (off + v.cells.size > (pre ++ (mid ++ post)).toArray.size)) = false := by
    rw [e1]; simp at e2 ⊢; omega
  simp only [e3]
  rw [if_neg (by simp), hv, fold_put off size vs pre mid post h1 h2 h3]
/-- A new row of one element. -/
theorem run_bs_one {P : Program} {t e : TypeId} {n : Nat} {zs xs : List Value} (w : World) (ht : P.underlying t = some (.slice e)) (hs : (sizeOf e).run P w = .ok n w) (hz : (zeroValue e).run P w = .ok (.agg zs.toArray) w)
    (hn : 0 < n) (hm : n ≤ 65536) (hx : xs.length = n) :
    (Instr.buildSlice t 1 #[(0, .agg xs.toArray)]).run P w = .ok (.slice (some ⟨w.heap.size, 0, none⟩) 1 1) (w.alloc (.cells xs.toArray e)) := by
  have hf : ∀ m : List Value, m.length = n → Instr.fill (fun i => some (i * n, n)) m.toArray #[(0, Value.agg xs.toArray)].toList = some xs.toArray := by
    intro m hm
    have := fill_at (place := fun i => some (i * n, n)) (rest := []) (i := 0) (off := 0) (size := n) (v := .agg xs.toArray) (pre := []) (mid := m) (post := []) (vs := xs) (by simp) rfl rfl hm hx
    simpa [Instr.fill] using this
  have hf' := hf ((Array.range (1 * n)).map (zs.toArray[· % zs.toArray.size]!)).toList (by simp)
  rw [Array.toArray_toList] at hf'
  unfold Instr.buildSlice
  simp only [Sem.run_bind, run_underlying ht, Result.andThen_ok, hs]
  rw [if_neg (by omega)]
  rw [if_neg (by omega)]
  simp only [Sem.run_bind, Sem.run_pure, Result.andThen_ok, hz, Value.cells]
  rw [hf']
  simp [newRow]
def rowNew (t : TypeId) (ps : Array (Nat × Value)) : Sem Value := Instr.buildSlice t 1 ps

/-- A message's bytes. -/
def mgH (m : Mg) (n : Int) : List Int := be8 m.no ++ (be8 m.se ++ (be8 m.ta ++ (m.val.bytes ++ (be8 m.gas ++ be8 n))))
theorem mgH_len (m : Mg) (n : Int) : (mgH m n).length = 72 := by simp [mgH, be8_len, W4.len]
def mgB (m : Mg) : List Int := mgH m m.data.length ++ m.data
theorem mgB_len (m : Mg) : (mgB m).length = 72 + m.data.length := by simp [mgB, mgH_len]
@[go_sem ↓] theorem Try.slice_wide (ps : Array (Nat × Value)) : Instr.buildSlice 134 1 ps = rowNew 134 ps := rfl
theorem Try.run_slice_wide (w : World) (a b c d : Int) : (rowNew 134 #[(0, .agg #[.int .u64 a, .int .u64 b, .int .u64 c, .int .u64 d])]).run Try.prog w = .ok (.slice (some ⟨w.heap.size, 0, none⟩) 1 1) (w.alloc (.cells #[.int .u64 a, .int .u64 b, .int .u64 c, .int .u64 d] 49)) :=
  run_bs_one w Try.underlying134 (by kernel_rfl) (zs := [.int .u64 0, .int .u64 0, .int .u64 0, .int .u64 0]) (by kernel_rfl) (n := 4) (xs := [.int .u64 a, .int .u64 b, .int .u64 c, .int .u64 d]) (by decide) (by decide) rfl

end Go.Proofs.Ytonjkhhihiigfaa
