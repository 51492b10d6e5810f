/-
  basculelaw04.knows answers true.
-/
import Derived.Test.YtimcjnocmbbahaaDoorBookClash
namespace Go.Proofs.YtimcjnocmbbahaaDoor
open Go.RowKit
set_option maxRecDepth 100000

theorem num_bk (w : World) (e : Int) : Calls Tryd.prog 19 #[.int .i64 e] w fun r w' => r = .returned (.int .i64 e) ∧ w' = w := by
  go_enter Tryd.func19, Tryd.ntmps19
  go_wp2_with fail
  go_ret
  exact ⟨rfl, rfl⟩
theorem rdc_one {w : World} {x : Int} : RdC (w.alloc (.cells #[.int .u8 x] 5)) (.slice (some ⟨w.heap.size, 0, none⟩) 1 1) [x] :=
  ⟨_, 1, rfl, by simp, .inr ⟨w.heap.size, 0, rfl, fun j hj => by obtain rfl : j = 0 := (by simpa using hj); exact (Joins.cell_of_block (heap_alloc_new w _) 0).trans rfl⟩⟩
theorem mem3 {w : World} {p S T b : Nat} {es ts : Array MapEntry} {ce ct : Nat} {tw : List Int} {cl : Bool} {cs : Array Value} {t : TypeId} (h : BkS w p S T es ce ts ct tw cl) (hb : w.heap[b]? = some (.cells cs t (0, 0))) (ht : t ≠ 49) : b ∉ [p, S, T] := fun hm => by
  simp only [List.mem_cons, List.not_mem_nil, or_false] at hm
  rcases hm with rfl | rfl | rfl
  · rw [h.blk] at hb; simp at hb; exact ht hb.2.symm
  · rw [h.ms] at hb; simp at hb
  · rw [h.mt] at hb; simp at hb

/-- A row of one byte that came out of a constant string. -/
def mk1 (w : World) (x : Int) : World := (w.alloc (.cells #[.int .u8 x] 5)).freeze ⟨w.heap.size, 1, none⟩ 1
theorem mk1_old (w : World) (x : Int) (j : Nat) (hj : j < w.heap.size) : (mk1 w x).heap[j]? = w.heap[j]? := by
  have h1 : w.heap.size ≠ j := by omega
  simp [mk1, World.freeze, World.alloc, -World.alloc_eq, Array.getElem?_modify, Array.getElem?_push, h1, Ne.symm h1]
theorem mk1_new (w : World) (x : Int) : (mk1 w x).heap[w.heap.size]? = some (.cells #[.int .u8 x] 5 (1, 2)) := by
  simp [mk1, World.freeze, World.alloc, -World.alloc_eq]
  rw [Array.getElem_modify_self]
  simp
theorem mk1_size (w : World) (x : Int) : (mk1 w x).heap.size = w.heap.size + 1 := by
  simp [mk1, World.freeze, World.alloc, -World.alloc_eq]
theorem mk1_below (w : World) (x : Int) : Below w.heap.size w (mk1 w x) := ⟨rfl, rfl, rfl, by rw [mk1_size]; omega, fun j hj => mk1_old w x j hj⟩
theorem mk1_rd (w : World) (x : Int) : RdC (mk1 w x) (.slice (some ⟨w.heap.size, 0, none⟩) 1 1) [x] :=
  ⟨_, 1, rfl, by simp, .inr ⟨w.heap.size, 0, rfl, fun j hj => by obtain rfl : j = 0 := (by simpa using hj); exact (Joins.cell_of_block (mk1_new w x) 0).trans rfl⟩⟩
theorem conv_mark (w : World) (x : Int) : (convert 22 22 (.slice (some ⟨w.heap.size, 0, none⟩) 1 1)).run Tryd.prog (w.alloc (.cells #[.int .u8 x] 5)) = .ok (.slice (some ⟨w.heap.size, 0, none⟩) 1 1) (mk1 w x) := by
  have hsh : (w.alloc (.cells #[.int .u8 x] 5)).shape? w.heap.size = some (5, 1) := by
    simp [World.shape?, World.alloc, -World.alloc_eq]
  simp [convert, run_underlying Tryd.underlying22, run_underlying Tryd.underlying5, markStringish, hsh, Result.andThen, mk1]

set_option maxHeartbeats 4000000 in
theorem knows_any {w : World} (hT : Tbl w) : Calls Tryd.prog 5 #[] w fun e w' => e = .returned (.bool true) ∧ Below w.heap.size w w' := by
  have HT := Lib.hid hT
  have hpos := hT.pos
  have hlA := dgA_len
  clear hT
  go_enter Tryd.func5, Tryd.ntmps5
  go_wp2_with fail
  refine (New_bk w).mono ?_
  rintro e w1 ⟨p, S, T, rfl, h1, B1, np, nS, nT⟩
  have N3 : Hid (∀ k, k ∈ [p, S, T] → w.heap.size ≤ k) := fun k hk => by
    simp only [List.mem_cons, List.not_mem_nil, or_false] at hk
    rcases hk with rfl | rfl | rfl <;> assumption
  have b2 := mk1_below w1 97
  have cm := conv_mark w1 97
  have H2 := Lib.hid (h1.on b2)
  have BB2 := Lib.hid (B1.trans (b2.mono B1.size))
  have HT2 := Lib.hid (HT.out.on BB2.out hpos)
  have Z0 : Hid (0 ∉ [p, S, T]) := fun hm => by have := N3.out 0 hm; omega
  have R2 : Hid (RdC (mk1 w1 97) (.slice (some ⟨w1.heap.size, 0, none⟩) 1 1) [97]) := mk1_rd w1 97
  clear h1 B1 b2
  go_wp2_with fail
  clear cm
  refine (Sum_bk H2.out R2.out HT2.out Z0.out).mono ?_
  rintro e w3 ⟨q, k, rfl, hC, hS, hO, hF⟩
  have BB3 := Lib.hid (BB2.out.trans (hC.toBelow BB2.out.size N3.out))
  have F3 : Hid (∀ g, (Value.slice q 1 k).ownBlock = some g → w.heap.size ≤ g) := fun g hg => Nat.le_trans BB2.out.size (hF g hg)
  have b4 : Below w3.heap.size w3 ((w3.alloc (.cells (hc zero32).toArray 28)).setCells w3.heap.size 0 (hc dgA)) := set_below
  have hz0 : (hc zero32).length = (hc dgA).length := by rw [hc_len, hc_len, zero32_len, dgA_len]
  have X4 : Hid (((w3.alloc (.cells (hc zero32).toArray 28)).setCells w3.heap.size 0 (hc dgA)).heap[w3.heap.size]? = some (.cells (hc dgA).toArray 28 (0, 0))) := set_blockB hz0
  have ct : (w3.alloc (.cells (hc zero32).toArray 28)).there w3.heap.size 0 32 := there_newB (by rw [hc_len, zero32_len])
  have H4 := Lib.hid (hS.on b4)
  have O4 := Lib.hid (own_on hO b4)
  have BB4 := Lib.hid (BB3.out.trans (b4.mono BB3.out.size))
  have cr := row_of X4.out (n := 32) (by rw [hc_len, dgA_len])
  have hsz : ((w3.alloc (.cells (hc zero32).toArray 28)).setCells w3.heap.size 0 (hc dgA)).heap.size = w3.heap.size + 1 := by rw [size_setCells]; simp
  have b5 := mk1_below ((w3.alloc (.cells (hc zero32).toArray 28)).setCells w3.heap.size 0 (hc dgA)) 98
  have cm := conv_mark ((w3.alloc (.cells (hc zero32).toArray 28)).setCells w3.heap.size 0 (hc dgA)) 98
  have R5 : Hid (RdC (mk1 ((w3.alloc (.cells (hc zero32).toArray 28)).setCells w3.heap.size 0 (hc dgA)) 98) (.slice (some ⟨((w3.alloc (.cells (hc zero32).toArray 28)).setCells w3.heap.size 0 (hc dgA)).heap.size, 0, none⟩) 1 1) [98]) := mk1_rd ((w3.alloc (.cells (hc zero32).toArray 28)).setCells w3.heap.size 0 (hc dgA)) 98
  have H5 := Lib.hid (H4.out.on b5)
  have O5 := Lib.hid (own_on O4.out b5)
  have X5 := Lib.hid (blk_onB X4.out b5)
  have BB5 := Lib.hid (BB4.out.trans (b5.mono BB4.out.size))
  rw [hsz] at cm R5
  clear hC hS hO hF b4 b5 hz0 H2 R2 HT2 BB2 BB3 H4 O4 X4 BB4
  go_wp2_with fail
  clear ct cm cr hsz
  generalize mk1 ((w3.alloc (.cells (hc zero32).toArray 28)).setCells w3.heap.size 0 (hc dgA)) 98 = W5 at *
  generalize w3.heap.size + 1 = b3 at *
  generalize w3.heap.size = b2 at *
  refine (PutB_any H5.out O5.out R5.out.rd).mono ?_
  rintro e w6 ⟨rfl, hC, q2, k2, hS, hO⟩
  have hn : ∀ x, x ∈ [p, S, T] ++ (Value.slice q 1 k).ownBlock.toList → w.heap.size ≤ x := fun x hx => by
    rcases List.mem_append.1 hx with hx | hx
    · exact N3.out x hx
    · exact F3.out x (by simpa using hx)
  have X6 : Hid (w6.heap[b2]? = some (.cells (hc dgA).toArray 28 (0, 0))) := (hC.block b2 (lt_blk X5.out) (fun hm => by
    rcases List.mem_append.1 hm with hm | hm
    · exact mem3 H5.out X5.out (by decide) hm
    · exact own_ne O5.out X5.out (by decide) (by simpa using hm))).trans X5.out
  have BB6 := Lib.hid (BB5.out.trans (hC.toBelow BB5.out.size hn))
  have H6 := Lib.hid hS
  have O6 := Lib.hid hO
  clear hC hS hO hn H5 O5 X5 BB5 R5 F3
  go_wp2_with fail
  refine (Clash_bk H6.out O6.out).mono ?_
  rintro e w7 ⟨u, v, rfl, ru, rv, hb7⟩
  obtain ⟨qu, cu, rfl⟩ := ru.len
  obtain ⟨qv, cv, rfl⟩ := rv.len
  have su : (convert 22 9 (.slice qu 1 cu)).run Tryd.prog w7 = .ok (.string ⟨#[97]⟩) w7 := ru.str (P := Tryd.prog) Tryd.underlying22 Tryd.underlying5 Tryd.underlying9
  have sv : (convert 22 9 (.slice qv 1 cv)).run Tryd.prog w7 = .ok (.string ⟨#[98]⟩) w7 := rv.str (P := Tryd.prog) Tryd.underlying22 Tryd.underlying5 Tryd.underlying9
  have c0 : w7.cell? ⟨b2, 0, none⟩ = some (.int .u8 202) := (Joins.cell_of_block (blk_onB X6.out hb7) 0).trans rfl
  have BB7 := Lib.hid (BB6.out.trans (hb7.mono BB6.out.size))
  have H7 := Lib.hid (H6.out.on hb7)
  clear ru rv hb7 X6 BB6 H6 O6
  go_wp2_with fail
  refine (num_bk w7 0).mono ?_
  rintro e wn ⟨rfl, hwn⟩
  obtain rfl := hwn.symm
  go_wp2_with fail
  refine (Len_bk H7.out).mono ?_
  rintro e wn ⟨rfl, hwn⟩
  obtain rfl := hwn.symm
  go_wp2_with fail
  go_ret
  exact ⟨rfl, BB7.out⟩
end Go.Proofs.YtimcjnocmbbahaaDoor
