/-
  The walks of package codec: a reader that was made, while there is enough to be read.; The document's reader, with errors.
-/
import Derived.Laws.Cover3
import Derived.Laws.Bits64b
import Derived.Test.YtebeacejlkiglaaDoorMa1
import Derived.Test.YtebeacejlkiglaaDoorMa3
import Derived.Test.YtebeacejlkiglaaDoorMa4
import Derived.Test.YtebeacejlkiglaaDoorMa5
import Derived.Test.YtebeacejlkiglaaDoorMa9
import Derived.Test.YtebeacejlkiglaaDoorMa14
namespace Go.Proofs.YtebeacejlkiglaaDoor
set_option maxRecDepth 100000
open Go.RowKit

/-- Block p holds a Reader that was made, of the bytes xs, of which pos were passed; v is its slice; there was no error. -/
structure RrV (w : World) (p : Nat) (v : Value) (xs : List Int) (pos : Nat) : Prop where
  blk : w.heap[p]? = some (.cells #[.bool true, v, .int .i64 pos, .int .i64 0] 103 (0, 0))
  own : w.ownsRow 0 5 1 v xs.length (bc xs)
  le : pos ≤ xs.length
  len : xs.length ≤ 140737488355328
section
variable {w w' : World} {p : Nat} {v : Value} {xs : List Int} {pos : Nat}
theorem RrV.lt (h : RrV w p v xs pos) : p < w.heap.size := (Array.getElem?_eq_some_iff.1 h.blk).1
theorem RrV.ne (h : RrV w p v xs pos) : v.ownBlock ≠ some p := by
  rcases h.own.2 with ⟨rfl, _⟩ | ⟨g, cap, cur, rfl, _, hg, _⟩
  · simp [Value.ownBlock]
  · intro e
    obtain rfl : g = p := by simpa [Value.ownBlock] using e
    rw [h.blk] at hg
    simp at hg
theorem own_chg {e : TypeId} {size n : Nat} {ys : List Value} {S : List Nat} (h : w.ownsRow 0 e size v n ys) (hc : Chg w w' S) (hv : ∀ g, v.ownBlock = some g → g ∉ S) : w'.ownsRow 0 e size v n ys := by
  refine ⟨h.1, ?_⟩
  rcases h.2 with hn | ⟨g, cap, cur, rfl, hb, hg, r⟩
  · exact .inl hn
  · exact .inr ⟨g, cap, cur, rfl, hb, by rw [hc.block g (Array.getElem?_eq_some_iff.1 hg).1 (hv g rfl)]; exact hg, r⟩
theorem RrV.chg {S : List Nat} (h : RrV w p v xs pos) (hc : Chg w w' S) (hp : p ∉ S) (hv : ∀ g, v.ownBlock = some g → g ∉ S) : RrV w' p v xs pos :=
  ⟨by rw [hc.block p h.lt hp]; exact h.blk, own_chg h.own hc hv, h.le, h.len⟩
theorem RrV.on (h : RrV w p v xs pos) (hb : Below w.heap.size w w') : RrV w' p v xs pos := h.chg (S := []) (Chg.below hb (Nat.le_refl _) []) (by simp) (fun _ _ => by simp)
theorem RrV.cells (h : RrV w p v xs pos) : w.cell? ⟨p, 0, none⟩ = some (.bool true) ∧ w.cell? ⟨p, 1, none⟩ = some v ∧ w.cell? ⟨p, 2, none⟩ = some (.int .i64 pos) ∧ w.cell? ⟨p, 3, none⟩ = some (.int .i64 0) ∧ w.frozen? ⟨p, 2, none⟩ = false ∧ w.frozen? ⟨p, 3, none⟩ = false :=
  ⟨by rw [Joins.cell_of_block h.blk]; rfl, by rw [Joins.cell_of_block h.blk]; rfl, by rw [Joins.cell_of_block h.blk]; rfl, by rw [Joins.cell_of_block h.blk]; rfl, Joins.unfrozen_of_block h.blk 2, Joins.unfrozen_of_block h.blk 3⟩
theorem RrV.pass (h : RrV w p v xs pos) {q : Nat} (hq : q ≤ xs.length) : RrV (w.setCell ⟨p, 2, none⟩ (.int .i64 q)) p v xs q := by
  refine ⟨by rw [Joins.block_setCell (i := 2) h.blk]; rfl, own_chg h.own ((Chg.refl w [p]).setCell (.inl (by simp)) _) (fun g hg => ?_), hq, h.len⟩
  intro hm
  obtain rfl := List.mem_singleton.1 hm
  exact h.ne hg
end

set_option maxHeartbeats 1000000 in
theorem NewReader_any {w : World} {a : Value} {xs : List Int} (h : Rd w a xs) (hl : xs.length ≤ 140737488355328) :
    Calls Tryd.prog 46 #[a] w fun e w' => ∃ p v, e = .returned (.pointer (some ⟨p, 0, none⟩)) ∧ RrV w' p v xs 0 ∧ w.heap.size ≤ p ∧ Below w.heap.size w w' ∧ ∀ k, v.ownBlock = some k → w.heap.size ≤ k := by
  obtain ⟨i0, hi, hz0, hz1, hz2⟩ := info_parts Tryd.infoU8
  obtain ⟨qv, kv, rfl⟩ := h.len
  have hs := Lib.hid (h.src (P := Tryd.prog) Tryd.underlying42)
  clear h
  replace hi := Lib.hid hi
  replace hz0 := Lib.hid hz0
  replace hz1 := Lib.hid hz1
  replace hz2 := Lib.hid hz2
  go_enter Tryd.func46, Tryd.ntmps46
  go_wp2_with (at_builtin; refine wpList_append_row rfl _ _ rfl Tryd.underlying42 hi.out hz0.out hz1.out hz2.out rfl (World.ownsRow_nil w 0 _ 1) hs.out ?b1 ?b2 ?_)
  case b1 => unfold maxLen; omega
  case b2 => omega
  intro q2 k2 w2 own2 grow2 fr2
  try simp only [Nat.zero_add, List.nil_append] at own2
  try simp only [Nat.zero_add, List.nil_append] at fr2
  try simp only [Nat.zero_add]
  have H2 := Lib.hid own2
  have HB := Lib.hid ((Below.refl w.heap.size w).grown grow2 (Nat.le_refl _) (by intro k hk; simp [Value.ownBlock] at hk))
  have HF : Hid (∀ k, (Value.slice q2 xs.length k2).ownBlock = some k → w.heap.size ≤ k) := fun k hk => by
    rcases fr2 with e | e
    · rw [e] at hk; simp [Value.ownBlock] at hk
    · rw [e] at hk; simp at hk; omega
  clear own2 grow2 fr2 hs
  have hz := HB.out.size
  go_wp2_with fail
  go_ret
  exact ⟨_, _, rfl, ⟨heap_alloc_new w2 _, own_chg H2.out (Chg.below ((Below.refl _ _).alloc (Nat.le_refl _) _) (Nat.le_refl _) []) (fun _ _ => by simp), by omega, hl⟩, hz, HB.out.alloc hz _, HF.out⟩

theorem ready_ok {w : World} {p : Nat} {v : Value} {xs : List Int} {pos : Nat} (h : RrV w p v xs pos) :
    Calls Tryd.prog 63 #[.pointer (some ⟨p, 0, none⟩)] w fun e w' => e = .returned (.bool true) ∧ w = w' := by
  obtain ⟨c0, -, -, c3, -, -⟩ := h.cells
  clear h
  go_enter Tryd.func63, Tryd.ntmps63
  go_wp2_with fail
  go_ret
  exact ⟨rfl, rfl⟩

set_option maxHeartbeats 1000000 in
theorem look_ok {w : World} {p : Nat} {v : Value} {xs : List Int} {pos : Nat} (h : RrV w p v xs pos) {n : Nat} (hn : 0 < n) (hf : pos + n ≤ xs.length) :
    Calls Tryd.prog 65 #[.pointer (some ⟨p, 0, none⟩), .int .i64 n] w fun e w' => ∃ b off c m, e = .returned (.tuple #[.slice (some ⟨b, off, none⟩) n c, .bool true]) ∧ v.ownBlock = some b ∧ n ≤ c ∧ (∀ i, i < n → w.cell? ⟨b, off + i, none⟩ = some (.int .u8 (xs.getD (pos + i) 0))) ∧ w' = w.drewN m := by
  have hlen := h.len
  rcases h.own.2 with ⟨rfl, h0⟩ | ⟨g, cap, cur, rfl, _, hg, hcap, hcm, hcs, htake⟩
  · omega
  have HC : Hid (∀ i, i < n → w.cell? ⟨g, pos + i, none⟩ = some (.int .u8 (xs.getD (pos + i) 0))) := fun i hi => by
    have := h.own.cells (g := g) rfl (pos + i) (.int .u8 (xs.getD (pos + i) 0)) (by simp [bc, List.getD, show pos + i < xs.length by omega])
    rw [addr_add] at this
    simpa using this
  obtain ⟨-, c1, c2, -, -, -⟩ := h.cells
  clear h hg hcs htake
  unfold maxLen at hcm
  have hne : ¬ cap = pos := by omega
  go_enter Tryd.func65, Tryd.ntmps65
  go_wp2_with fail
  go_quiet (fail)
  go_wp2_with fail
  go_quiet (fail)
  go_wp2_with fail
  go_ret2
  refine ⟨g, pos, cap - pos, _, by rw [Nat.add_sub_cancel_left]; rfl, rfl, by omega, HC.out, World.drewN_drewN _ _ _⟩

theorem or_low {a c : Int} (ha : 0 ≤ a ∧ a < 72057594037927936) (hc : 0 ≤ c ∧ c < 256) : bits .or .u64 (a * 256) c = a * 256 + c := by
  obtain ⟨A, rfl⟩ : ∃ A : Nat, a = A := ⟨a.toNat, by omega⟩
  obtain ⟨C, rfl⟩ : ∃ C : Nat, c = C := ⟨c.toNat, by omega⟩
  rw [show ((A : Int) * 256) = ((A * 256 : Nat) : Int) by push_cast; rfl, bits_or_u64_nat _ _ (by omega) (by omega)]
  have := Nat.two_pow_add_eq_or_of_lt (i := 8) (b := C) (by omega) A
  rw [show 2 ^ 8 * A = A * 256 by omega] at this
  rw [← this]
  push_cast
  rfl
theorem num_take {xs : List Int} {k : Nat} (hk : k < xs.length) : num (xs.take (k + 1)) = num (xs.take k) * 256 + xs.getD k 0 := by
  have e : xs.take (k + 1) = xs.take k ++ [xs.getD k 0] := by
    rw [List.take_add_one]
    simp [List.getD, hk]
  rw [e, num, List.foldl_append]
  rfl
theorem num_bd {xs : List Int} (h : Bytes xs) : ∀ k, k ≤ xs.length → 0 ≤ num (xs.take k) ∧ num (xs.take k) < 256 ^ k
  | 0, _ => by simp [num]
  | k + 1, hk => by
    obtain ⟨a, b⟩ := num_bd h k (by omega)
    have hx := h (xs.getD k 0) (by simp [List.getD, show k < xs.length by omega])
    rw [num_take (by omega), Int.pow_succ]
    omega

set_option maxHeartbeats 1000000 in
theorem lookUint_ok {w : World} {p : Nat} {v : Value} {xs : List Int} {pos : Nat} (h : RrV w p v xs pos) (hx : Bytes xs) (hf : pos + 8 ≤ xs.length) :
    Calls Tryd.prog 64 #[.pointer (some ⟨p, 0, none⟩)] w fun e w' => ∃ m, e = .returned (.tuple #[.int .u64 (num ((xs.drop pos).take 8)), .bool true]) ∧ w' = w.drewN m := by
  have H := Lib.hid h
  have hlen := h.len
  have HB : Hid (Bytes ((xs.drop pos).take 8)) := fun x hx' => hx x (List.mem_of_mem_drop (List.mem_of_mem_take hx'))
  have hl8 : ((xs.drop pos).take 8).length = 8 := by simp; omega
  have HG : Hid (∀ i, i < 8 → ((xs.drop pos).take 8).getD i 0 = xs.getD (pos + i) 0) := fun i hi => by simp [List.getD, hi]
  generalize (xs.drop pos).take 8 = ys at HB hl8 HG
  replace hl8 := Lib.hid hl8
  clear h hx
  go_enter Tryd.func64, Tryd.ntmps64
  go_wp2_with fail
  refine (look_ok H.out (n := 8) (by omega) hf).mono ?_
  rintro e w1 ⟨b, off, c, m, rfl, -, hc8, hcell, rfl⟩
  have HC := Lib.hid hcell
  clear hcell
  go_wp2_with fail
  go_loopw [6, 8, 16] (fun nv _ iv wr => ∃ k : Nat, iv = .int .i64 k ∧ k ≤ 8 ∧ nv = .int .u64 (num (ys.take k)) ∧ wr = w.drewN m) (fun _ _ iv _ => 8 - (intOf iv).toNat)
  case atStart => exact ⟨0, rfl, by omega, by simp [num], rfl⟩
  case round =>
    obtain ⟨k, rfl, hk, rfl, rfl⟩ := hrel
    by_cases hlt : k < 8
    · have hc1 := HC.out k hlt
      rw [← HG.out k hlt] at hc1
      have hb := num_bd HB.out k (by rw [hl8.out]; omega)
      have hp : (256 : Int) ^ k ≤ 72057594037927936 := by
        have e : k = 0 ∨ k = 1 ∨ k = 2 ∨ k = 3 ∨ k = 4 ∨ k = 5 ∨ k = 6 ∨ k = 7 := by omega
        rcases e with rfl | rfl | rfl | rfl | rfl | rfl | rfl | rfl <;> decide
      have hy := HB.out (ys.getD k 0) (by simp [List.getD, show k < ys.length by rw [hl8.out]; exact hlt])
      have HN := Lib.hid (num_take (xs := ys) (k := k) (by rw [hl8.out]; exact hlt))
      have HO := Lib.hid (or_low (a := num (ys.take k)) (c := ys.getD k 0) ⟨hb.1, by omega⟩ hy)
      obtain ⟨hn0, hn1⟩ := hb
      have hn2 : num (ys.take k) < 72057594037927936 := by omega
      obtain ⟨hy0, hy1⟩ := hy
      clear hn1 hp
      generalize num (ys.take k) = nk at *
      generalize ys.getD k 0 = yk at *
      go_wp2_with fail
      go_roundw
      case rel => exact ⟨k + 1, by go_num, by omega, by rw [HO.out, ← HN.out], trivial⟩
      case measure => simp [intOf]; omega
    · obtain rfl : k = 8 := by omega
      rw [List.take_of_length_le (by rw [hl8.out]; omega)]
      clear hlt hk
      go_wp2_with fail
      go_ret2
      exact ⟨m, rfl, rfl⟩

theorem Left_ok {w : World} {p : Nat} {v : Value} {xs : List Int} {pos : Nat} (h : RrV w p v xs pos) :
    Calls Tryd.prog 66 #[.pointer (some ⟨p, 0, none⟩)] w fun e w' => ∃ m, e = .returned (.int .i64 ((xs.length : Int) - (pos : Int))) ∧ w' = w.drewN m := by
  have hlen := h.len
  have hle := h.le
  obtain ⟨qv, kv, rfl⟩ := (rd_of_row h.own).len
  obtain ⟨c0, c1, c2, -, -, -⟩ := h.cells
  clear h
  go_enter Tryd.func66, Tryd.ntmps66
  go_wp2_with fail
  go_quiet (fail)
  go_wp2_with fail
  go_ret
  exact ⟨_, rfl, rfl⟩

theorem Done_all {w : World} {p : Nat} {v : Value} {xs : List Int} (h : RrV w p v xs xs.length) :
    Calls Tryd.prog 49 #[.pointer (some ⟨p, 0, none⟩)] w fun e w' => ∃ m, e = .returned (.int .i64 0) ∧ w' = w.drewN m := by
  have H := Lib.hid h
  obtain ⟨c0, -, -, c3, -, -⟩ := h.cells
  clear h
  go_enter Tryd.func49, Tryd.ntmps49
  go_wp2_with fail
  refine (Left_ok H.out).mono ?_
  rintro e w1 ⟨m, rfl, rfl⟩
  rw [Int.sub_self]
  go_wp2_with fail
  go_ret
  exact ⟨m, rfl, rfl⟩

theorem chg_setCells (b : Nat) : ∀ (vs : List Value) (o : Nat) {a w : World}, Chg a w [b] → Chg a (w.setCells b o vs) [b]
  | [], _, _, _, h => h
  | v :: vs, o, _, _, h => chg_setCells b vs (o + 1) (h.setCell (p := ⟨b, o, none⟩) (.inl (by simp)) v)
theorem RrV.drewN {w : World} {p : Nat} {v : Value} {xs : List Int} {pos : Nat} (h : RrV w p v xs pos) (m : Nat) : RrV (w.drewN m) p v xs pos := ⟨h.blk, h.own, h.le, h.len⟩


set_option maxHeartbeats 4000000 in
theorem RHash_ok {w : World} {p : Nat} {v : Value} {xs : List Int} {pos : Nat} (h : RrV w p v xs pos) {ys : List Int} (hl : ys.length = 32) (hf : pos + 32 ≤ xs.length) (hy : (xs.drop pos).take 32 = ys) :
    Calls Tryd.prog 48 #[.pointer (some ⟨p, 0, none⟩)] w fun e w' => e = .returned (.agg (hc ys).toArray) ∧ RrV w' p v xs (pos + 32) ∧ Chg w w' [p] := by
  have hb0 : Below w.heap.size w (w.alloc (.cells (hc zero32).toArray 36)) := (Below.refl _ _).alloc (Nat.le_refl _) _
  have B0 := Lib.hid hb0
  have R0 := Lib.hid (HashAt.new w zero32)
  have H := Lib.hid (h.on hb0)
  have hpl := h.lt
  have hlen := h.len
  have HV : Hid (∀ g, v.ownBlock = some g → g < w.heap.size) := fun g hg => own_lt h.own hg
  have HG : Hid (∀ i, i < 32 → xs.getD (pos + i) 0 = ys.getD i 0) := fun i hi => by
    rw [← hy]; simp [List.getD, hi]
  clear h hy hb0
  go_enter Tryd.func48, Tryd.ntmps48
  go_wp2_with fail
  refine (ready_ok H.out).mono ?_
  rintro e w1 ⟨rfl, rfl⟩
  generalize hW0 : w.alloc (.cells (hc zero32).toArray 36) = W0 at *
  have hs0 : W0.heap.size = w.heap.size + 1 := by rw [← hW0]; simp
  clear hW0
  go_wp2_with fail
  refine (look_ok H.out (n := 32) (by omega) hf).mono ?_
  rintro e w2 ⟨b, off, c, m, rfl, hvb, hc8, hcell, rfl⟩
  have H1 := Lib.hid (H.out.drewN m)
  obtain ⟨-, -, c2, -, f2, -⟩ := H1.out.cells
  have hbp : b ≠ p := fun e => H.out.ne (by rw [hvb, e])
  have hbs := HV.out b hvb
  have HP : Hid (RrV ((W0.drewN m).setCell ⟨p, 2, none⟩ (.int .i64 ((pos : Int) + 32))) p v xs (pos + 32)) := by
    have := H1.out.pass (q := pos + 32) hf
    rw [show ((pos + 32 : Nat) : Int) = (pos : Int) + 32 by push_cast; rfl] at this
    exact this
  have HC : Hid (Chg w ((W0.drewN m).setCell ⟨p, 2, none⟩ (.int .i64 ((pos : Int) + 32))) [p]) :=
    ((Chg.below B0.out (Nat.le_refl _) [p]).trans (show Chg W0 (W0.drewN m) [p] from ⟨rfl, rfl, rfl, Nat.le_refl _, fun _ _ _ => rfl⟩) (fun x hx _ => hx)).setCell (.inl (by simp)) _
  have HCe : Hid (∀ i, i < 32 → ((W0.drewN m).setCell ⟨p, 2, none⟩ (.int .i64 ((pos : Int) + 32))).cell? ⟨b, off + i, none⟩ = some (.int .u8 (ys.getD i 0))) := fun i hi => by
    rw [World.cell?_of_block (w := W0.drewN m) (Below.heap_setCell _ _ _ _ hbp), ← HG.out i hi]
    exact hcell i hi
  have R1 : Hid (HashAt ((W0.drewN m).setCell ⟨p, 2, none⟩ (.int .i64 ((pos : Int) + 32))) w.heap.size zero32) := by
    show _ = _
    rw [Below.heap_setCell _ _ _ _ (by show w.heap.size ≠ p; omega)]; exact R0.out
  have hpn : p ≠ w.heap.size := by omega
  have R1h : HashAt ((W0.drewN m).setCell ⟨p, 2, none⟩ (.int .i64 ((pos : Int) + 32))) w.heap.size zero32 := R1.out
  have hrow : rowOf ((W0.drewN m).setCell ⟨p, 2, none⟩ (.int .i64 ((pos : Int) + 32))) b off 32 = hc ys := by
    have hR := rowOf_cells (w := (W0.drewN m).setCell ⟨p, 2, none⟩ (.int .i64 ((pos : Int) + 32))) (b := b) (o := off) (F := ys) (fun i hi => HCe.out i (by omega))
    rw [hl] at hR
    exact hR
  have hlen2 : (hc ys).length = 32 := by rw [hc_len, hl]
  have hth := R1h.there zero32_len
  have hput := (R1h.put zero32_len hl).row hl
  have X1 : Hid (Chg ((W0.drewN m).setCell ⟨p, 2, none⟩ (.int .i64 ((pos : Int) + 32))) (((W0.drewN m).setCell ⟨p, 2, none⟩ (.int .i64 ((pos : Int) + 32))).setCells w.heap.size 0 (hc ys)) [w.heap.size]) := chg_setCells w.heap.size (hc ys) 0 (Chg.refl _ _)
  have hR := run_arrayAt (P := Tryd.prog) (w := (W0.drewN m).setCell ⟨p, 2, none⟩ (.int .i64 ((pos : Int) + 32))) 36 5 32 (some ⟨b, off, none⟩) 32 c Tryd.underlying36 (Nat.le_refl _)
  clear hcell H1 H B0 R0 HG hvb R1 R1h HCe
  go_wp2_with fail
  refine bodyPost_ret (v := .agg (hc ys).toArray) (by simp [results, Tryd.results48, go_sem, hput, hl]) rfl ⟨rfl, HP.out.chg X1.out (by simpa using hpn) (fun g hg hm => by have := HV.out g hg; simp at hm; omega), HC.out.trans X1.out (fun y hy hl => by simp at hy; omega)⟩

/-- A reader that met an error. -/
def RrF (w : World) (p : Nat) : Prop := ∃ (v : Value) (pos : Nat) (f : Int), f ≠ 0 ∧ w.heap[p]? = some (.cells #[.bool true, v, .int .i64 pos, .int .i64 f] 103 (0, 0))
theorem RrF.on {w w' : World} {p : Nat} (h : RrF w p) (hb : Below w.heap.size w w') : RrF w' p := by
  obtain ⟨v, pos, f, h1, h2⟩ := h
  exact ⟨v, pos, f, h1, by rw [hb.block p (Array.getElem?_eq_some_iff.1 h2).1]; exact h2⟩
theorem RrF.lt {w : World} {p : Nat} (h : RrF w p) : p < w.heap.size := by
  obtain ⟨v, pos, f, h1, h2⟩ := h
  exact (Array.getElem?_eq_some_iff.1 h2).1
theorem RrV.fail {w : World} {p : Nat} {v : Value} {xs : List Int} {pos : Nat} (h : RrV w p v xs pos) {f : Int} (hf : f ≠ 0) : RrF (w.setCell ⟨p, 3, none⟩ (.int .i64 f)) p :=
  ⟨v, pos, f, hf, by rw [Joins.block_setCell (i := 3) h.blk]; rfl⟩
theorem ready_bad {w : World} {p : Nat} (h : RrF w p) :
    Calls Tryd.prog 63 #[.pointer (some ⟨p, 0, none⟩)] w fun e w' => e = .returned (.bool false) ∧ w = w' := by
  obtain ⟨v, pos, f, h1, h2⟩ := h
  have c0 := (Joins.cell_of_block h2 0).trans (rfl : _ = some _)
  have c3 := (Joins.cell_of_block h2 3).trans (rfl : _ = some _)
  have d0 : (f == 0) = false := by simpa using h1
  clear h2
  go_enter Tryd.func63, Tryd.ntmps63
  go_wp2_with fail
  go_ret
  exact ⟨rfl, rfl⟩
set_option maxHeartbeats 1000000 in
theorem look_bad {w : World} {p : Nat} {v : Value} {xs : List Int} {pos : Nat} (h : RrV w p v xs pos) {n : Nat} (hn : n ≤ 64) (hf : xs.length < pos + n) :
    Calls Tryd.prog 65 #[.pointer (some ⟨p, 0, none⟩), .int .i64 n] w fun e w' => e = .returned (.tuple #[.slice none 0 0, .bool false]) ∧ RrF w' p ∧ Chg w w' [p] := by
  have hlen := h.len
  have hle := h.le
  have H := Lib.hid h
  obtain ⟨qv, kv, rfl⟩ := (rd_of_row h.own).len
  obtain ⟨-, c1, c2, -, -, f3⟩ := h.cells
  have hg : (xs.length : Int) - (pos : Int) < (n : Int) := by omega
  have c3 := h.cells.2.2.2.1
  clear h
  go_enter Tryd.func65, Tryd.ntmps65
  go_wp2_with fail
  go_quiet (fail)
  go_wp2_with fail
  have HF : Hid (∀ m, RrF ((w.drewN m).setCell ⟨p, 3, none⟩ (.int .i64 20)) p) := fun m => (H.out.drewN m).fail (by decide)
  have HC : Hid (∀ m, Chg w ((w.drewN m).setCell ⟨p, 3, none⟩ (.int .i64 20)) [p]) := fun m => (show Chg w (w.drewN m) [p] from ⟨rfl, rfl, rfl, Nat.le_refl _, fun _ _ _ => rfl⟩).setCell (.inl (by simp)) _
  go_ret2
  exact ⟨rfl, HF.out _, HC.out _⟩
set_option maxHeartbeats 1000000 in
theorem lookUint_bad {w : World} {p : Nat} {v : Value} {xs : List Int} {pos : Nat} (h : RrV w p v xs pos) (hf : xs.length < pos + 8) :
    Calls Tryd.prog 64 #[.pointer (some ⟨p, 0, none⟩)] w fun e w' => e = .returned (.tuple #[.int .u64 0, .bool false]) ∧ RrF w' p ∧ Chg w w' [p] := by
  have H := Lib.hid h
  clear h
  go_enter Tryd.func64, Tryd.ntmps64
  go_wp2_with fail
  refine (look_bad H.out (n := 8) (by omega) hf).mono ?_
  rintro e w1 ⟨rfl, hF, hC⟩
  have HF := Lib.hid hF
  have HC := Lib.hid hC
  clear hF hC
  go_wp2_with fail
  refine wp_loop_rounds 1 ?_
  rw [rounds_succ]
  go_wp2_with fail
  go_ret2
  exact ⟨rfl, HF.out, HC.out⟩

/-! ### Count -/
theorem Count_bad {w : World} {p : Nat} {most : Int} (h : RrF w p) :
    Calls Tryd.prog 47 #[.pointer (some ⟨p, 0, none⟩), .int .i64 most] w fun e w' => e = .returned (.int .i64 0) ∧ RrF w' p ∧ Chg w w' [p] := by
  have H := Lib.hid h
  clear h
  go_enter Tryd.func47, Tryd.ntmps47
  go_wp2_with fail
  refine (ready_bad H.out).mono ?_
  rintro e w1 ⟨rfl, rfl⟩
  go_wp2_with fail
  go_ret
  exact ⟨rfl, H.out, Chg.refl _ _⟩
theorem Count_end {w : World} {p : Nat} {v : Value} {xs : List Int} {pos : Nat} {most : Int} (h : RrV w p v xs pos) (hf : xs.length < pos + 8) :
    Calls Tryd.prog 47 #[.pointer (some ⟨p, 0, none⟩), .int .i64 most] w fun e w' => e = .returned (.int .i64 0) ∧ RrF w' p ∧ Chg w w' [p] := by
  have H := Lib.hid h
  clear h
  go_enter Tryd.func47, Tryd.ntmps47
  go_wp2_with fail
  refine (ready_ok H.out).mono ?_
  rintro e w1 ⟨rfl, rfl⟩
  go_wp2_with fail
  refine (lookUint_bad H.out hf).mono ?_
  rintro e w1 ⟨rfl, hF, hC⟩
  have HF := Lib.hid hF
  have HC := Lib.hid hC
  clear hF hC
  go_wp2_with fail
  go_ret
  exact ⟨rfl, HF.out, HC.out⟩
set_option maxHeartbeats 2000000 in
theorem Count_big {w : World} {p : Nat} {v : Value} {xs : List Int} {pos : Nat} {most : Nat} (h : RrV w p v xs pos) (hx : Bytes xs) (hm : most ≤ 1000000) (hf : pos + 8 ≤ xs.length) (hz : (most : Int) < num ((xs.drop pos).take 8)) :
    Calls Tryd.prog 47 #[.pointer (some ⟨p, 0, none⟩), .int .i64 most] w fun e w' => e = .returned (.int .i64 0) ∧ RrF w' p ∧ Chg w w' [p] := by
  have H := Lib.hid h
  have HX := Lib.hid hx
  have u0 : IntKind.u64.wrap (most : Int) = (most : Int) := by rw [IntKind.wrap_u64]; omega
  clear h hx
  go_enter Tryd.func47, Tryd.ntmps47
  go_wp2_with fail
  refine (ready_ok H.out).mono ?_
  rintro e w1 ⟨rfl, rfl⟩
  go_wp2_with fail
  refine (lookUint_ok H.out HX.out hf).mono ?_
  rintro e w2 ⟨m, rfl, rfl⟩
  have H1 := Lib.hid (H.out.drewN m)
  have HF : Hid (RrF ((w.drewN m).setCell ⟨p, 3, none⟩ (.int .i64 21)) p) := H1.out.fail (by decide)
  have HC : Hid (Chg w ((w.drewN m).setCell ⟨p, 3, none⟩ (.int .i64 21)) [p]) := (show Chg w (w.drewN m) [p] from ⟨rfl, rfl, rfl, Nat.le_refl _, fun _ _ _ => rfl⟩).setCell (.inl (by simp)) _
  obtain ⟨-, -, -, c3, -, f3⟩ := H1.out.cells
  generalize num ((xs.drop pos).take 8) = z at *
  clear H H1
  go_wp2_with fail
  go_ret
  exact ⟨rfl, HF.out, HC.out⟩
set_option maxHeartbeats 2000000 in
theorem Count_ok {w : World} {p : Nat} {v : Value} {xs : List Int} {pos : Nat} {most : Nat} (h : RrV w p v xs pos) (hx : Bytes xs) (hm : most ≤ 1000000) (hf : pos + 8 ≤ xs.length) {z : Nat} (hz : num ((xs.drop pos).take 8) = z) (hzm : z ≤ most) :
    Calls Tryd.prog 47 #[.pointer (some ⟨p, 0, none⟩), .int .i64 most] w fun e w' => e = .returned (.int .i64 z) ∧ RrV w' p v xs (pos + 8) ∧ Chg w w' [p] := by
  have H := Lib.hid h
  have HX := Lib.hid hx
  have hlen := h.len
  have u0 : IntKind.u64.wrap (most : Int) = (most : Int) := by rw [IntKind.wrap_u64]; omega
  have hzI : ¬ (most : Int) < (z : Int) := by omega
  clear h hx
  go_enter Tryd.func47, Tryd.ntmps47
  go_wp2_with fail
  refine (ready_ok H.out).mono ?_
  rintro e w1 ⟨rfl, rfl⟩
  go_wp2_with fail
  refine (lookUint_ok H.out HX.out hf).mono ?_
  rintro e w2 ⟨m, rfl, rfl⟩
  rw [hz]
  have H1 := Lib.hid (H.out.drewN m)
  have HP : Hid (RrV ((w.drewN m).setCell ⟨p, 2, none⟩ (.int .i64 ((pos : Int) + 8))) p v xs (pos + 8)) := by
    have := H1.out.pass (q := pos + 8) hf
    rw [show ((pos + 8 : Nat) : Int) = (pos : Int) + 8 by push_cast; rfl] at this
    exact this
  have HC : Hid (Chg w ((w.drewN m).setCell ⟨p, 2, none⟩ (.int .i64 ((pos : Int) + 8))) [p]) := (show Chg w (w.drewN m) [p] from ⟨rfl, rfl, rfl, Nat.le_refl _, fun _ _ _ => rfl⟩).setCell (.inl (by simp)) _
  obtain ⟨-, -, c2, -, f2, -⟩ := H1.out.cells
  clear H H1 hz
  go_wp2_with fail
  go_ret
  exact ⟨rfl, HP.out, HC.out⟩

/-! ### Hash, where there is an error; Done -/
theorem Hash_bad {w : World} {p : Nat} (h : RrF w p) :
    Calls Tryd.prog 48 #[.pointer (some ⟨p, 0, none⟩)] w fun e w' => e = .returned (.agg (hc zero32).toArray) ∧ RrF w' p ∧ Chg w w' [p] := by
  have b0 : Below w.heap.size w (w.alloc (.cells (hc zero32).toArray 36)) := (Below.refl _ _).alloc (Nat.le_refl _) _
  have R0 := HashAt.new w zero32
  have H := Lib.hid (h.on b0)
  have hpl := h.lt
  have B0 := Lib.hid b0
  have ct := R0.there zero32_len
  have hput := (R0.put zero32_len zero32_len).row zero32_len
  have lz := hc_len zero32
  have HS : Hid (Chg (w.alloc (.cells (hc zero32).toArray 36)) ((w.alloc (.cells (hc zero32).toArray 36)).setCells w.heap.size 0 (hc zero32)) [w.heap.size]) := chg_setCells w.heap.size (hc zero32) 0 (Chg.refl _ _)
  clear h b0 R0
  go_enter Tryd.func48, Tryd.ntmps48
  go_wp2_with fail
  refine (ready_bad H.out).mono ?_
  rintro e w1 ⟨rfl, rfl⟩
  go_wp2_with fail
  refine bodyPost_ret (v := .agg (hc zero32).toArray) (by simp [results, Tryd.results48, go_sem, hput]) rfl ⟨rfl, ?_, ?_⟩
  · obtain ⟨v, pos, f, h1, h2⟩ := H.out
    exact ⟨v, pos, f, h1, by rw [setCells_other (by omega)]; exact h2⟩
  · exact (Chg.below B0.out (Nat.le_refl _) [p]).trans HS.out (fun x hx hl => by simp at hx; omega)
set_option maxHeartbeats 2000000 in
theorem Hash_end {w : World} {p : Nat} {v : Value} {xs : List Int} {pos : Nat} (h : RrV w p v xs pos) (hf : xs.length < pos + 32) :
    Calls Tryd.prog 48 #[.pointer (some ⟨p, 0, none⟩)] w fun e w' => e = .returned (.agg (hc zero32).toArray) ∧ RrF w' p ∧ Chg w w' [p] := by
  have b0 : Below w.heap.size w (w.alloc (.cells (hc zero32).toArray 36)) := (Below.refl _ _).alloc (Nat.le_refl _) _
  have R0 := Lib.hid (HashAt.new w zero32)
  have H := Lib.hid (h.on b0)
  have hpl := h.lt
  have B0 := Lib.hid b0
  have lz := hc_len zero32
  clear h b0
  go_enter Tryd.func48, Tryd.ntmps48
  go_wp2_with fail
  refine (ready_ok H.out).mono ?_
  rintro e w1 ⟨rfl, rfl⟩
  go_wp2_with fail
  refine (look_bad H.out (n := 32) (by omega) hf).mono ?_
  rintro e w2 ⟨rfl, hF, hC⟩
  have R2 := Lib.hid (R0.out.chg hC (by simp; omega))
  have ct := R2.out.there zero32_len
  have hput := (R2.out.put zero32_len zero32_len).row zero32_len
  have HF := Lib.hid hF
  have HC : Hid (Chg w w2 [p]) := (Chg.below B0.out (Nat.le_refl _) [p]).trans hC (fun x hx _ => hx)
  have HS : Hid (Chg w2 (w2.setCells w.heap.size 0 (hc zero32)) [w.heap.size]) := chg_setCells w.heap.size (hc zero32) 0 (Chg.refl _ _)
  clear hF hC
  go_wp2_with fail
  refine bodyPost_ret (v := .agg (hc zero32).toArray) (by simp [results, Tryd.results48, go_sem, hput]) rfl ⟨rfl, ?_, ?_⟩
  · obtain ⟨v, pos, f, h1, h2⟩ := HF.out
    exact ⟨v, pos, f, h1, by rw [setCells_other (by omega)]; exact h2⟩
  · exact HC.out.trans HS.out (fun x hx hl => by simp at hx; omega)
theorem Done_bad {w : World} {p : Nat} (h : RrF w p) :
    Calls Tryd.prog 49 #[.pointer (some ⟨p, 0, none⟩)] w fun e w' => ∃ f : Int, f ≠ 0 ∧ e = .returned (.int .i64 f) ∧ w' = w := by
  obtain ⟨v, pos, f, h1, h2⟩ := h
  have c0 := (Joins.cell_of_block h2 0).trans (rfl : _ = some _)
  have c3 := (Joins.cell_of_block h2 3).trans (rfl : _ = some _)
  have d0 : (f == 0) = false := by simpa using h1
  have HN := Lib.hid h1
  clear h2 h1
  go_enter Tryd.func49, Tryd.ntmps49
  go_wp2_with fail
  go_ret
  exact ⟨f, HN.out, rfl, rfl⟩
theorem Done_left {w : World} {p : Nat} {v : Value} {xs : List Int} {pos : Nat} (h : RrV w p v xs pos) (hlt : pos < xs.length) :
    Calls Tryd.prog 49 #[.pointer (some ⟨p, 0, none⟩)] w fun e w' => ∃ m, e = .returned (.int .i64 21) ∧ w' = w.drewN m := by
  have H := Lib.hid h
  have hg : (0 : Int) < (xs.length : Int) - (pos : Int) := by omega
  obtain ⟨c0, -, -, c3, -, -⟩ := h.cells
  clear h
  go_enter Tryd.func49, Tryd.ntmps49
  go_wp2_with fail
  refine (Left_ok H.out).mono ?_
  rintro e w1 ⟨m, rfl, rfl⟩
  go_wp2_with fail
  go_ret
  exact ⟨m, rfl, rfl⟩
end Go.Proofs.YtebeacejlkiglaaDoor
namespace Go.Proofs.YtebeacejlkiglaaDoor
set_option maxRecDepth 100000
open Go.RowKit

structure DrV (w : World) (p : Nat) (v : Value) (xs : List Int) (pos : Nat) : Prop where
  blk : w.heap[p]? = some (.cells #[v, .int .i64 pos, .int .i64 0] 109 (0, 0))
  own : w.ownsRow 0 5 1 v xs.length (bc xs)
  le : pos ≤ xs.length
  len : xs.length ≤ 140737488355328
section
variable {w w' : World} {p : Nat} {v : Value} {xs : List Int} {pos : Nat}
theorem DrV.lt (h : DrV w p v xs pos) : p < w.heap.size := (Array.getElem?_eq_some_iff.1 h.blk).1
theorem DrV.ne (h : DrV w p v xs pos) : v.ownBlock ≠ some p := own_ne h.own h.blk (by decide)
theorem DrV.chg {S : List Nat} (h : DrV w p v xs pos) (hc : Chg w w' S) (hp : p ∉ S) (hv : ∀ g, v.ownBlock = some g → g ∉ S) : DrV w' p v xs pos :=
  ⟨by rw [hc.block p h.lt hp]; exact h.blk, own_chg h.own hc hv, h.le, h.len⟩
theorem DrV.on (h : DrV w p v xs pos) (hb : Below w.heap.size w w') : DrV w' p v xs pos := h.chg (S := []) (Chg.below hb (Nat.le_refl _) []) (by simp) (fun _ _ => by simp)
theorem DrV.drewN (h : DrV w p v xs pos) (m : Nat) : DrV (w.drewN m) p v xs pos := ⟨h.blk, h.own, h.le, h.len⟩
theorem DrV.pass (h : DrV w p v xs pos) {q : Nat} (hq : q ≤ xs.length) : DrV (w.setCell ⟨p, 1, none⟩ (.int .i64 q)) p v xs q := by
  refine ⟨by rw [Joins.block_setCell (i := 1) h.blk]; rfl, own_chg h.own ((Chg.refl w [p]).setCell (.inl (by simp)) _) (fun g hg => ?_), hq, h.len⟩
  intro hm
  obtain rfl := List.mem_singleton.1 hm
  exact h.ne hg
end
def DrF (w : World) (p : Nat) : Prop := ∃ (v : Value) (pos : Int) (f : Int), f ≠ 0 ∧ w.heap[p]? = some (.cells #[v, .int .i64 pos, .int .i64 f] 109 (0, 0))
theorem DrF.on {w w' : World} {p : Nat} (h : DrF w p) (hb : Below w.heap.size w w') : DrF w' p := by
  obtain ⟨v, pos, f, h1, h2⟩ := h
  exact ⟨v, pos, f, h1, by rw [hb.block p (Array.getElem?_eq_some_iff.1 h2).1]; exact h2⟩
theorem DrF.lt {w : World} {p : Nat} (h : DrF w p) : p < w.heap.size := by
  obtain ⟨v, pos, f, h1, h2⟩ := h
  exact (Array.getElem?_eq_some_iff.1 h2).1

set_option maxHeartbeats 1000000 in
theorem rdNew_any {w : World} {a : Value} {xs : List Int} (h : Rd w a xs) (hl : xs.length ≤ 140737488355328) :
    Calls Tryd.prog 50 #[a] w fun e w' => ∃ p v, e = .returned (.pointer (some ⟨p, 0, none⟩)) ∧ DrV w' p v xs 0 ∧ w.heap.size ≤ p ∧ Below w.heap.size w w' ∧ ∀ k, v.ownBlock = some k → w.heap.size ≤ k := by
  obtain ⟨i0, hi, hz0, hz1, hz2⟩ := info_parts Tryd.infoU8
  obtain ⟨qv, kv, rfl⟩ := h.len
  have b1 : Below w.heap.size w (w.alloc (.cells #[] 5)) := (Below.refl _ _).alloc (Nat.le_refl _) _
  have hs := Lib.hid ((h.on b1).src (P := Tryd.prog) Tryd.underlying42)
  have E1 := own_empty w 5 1
  clear h
  replace hi := Lib.hid hi
  replace hz0 := Lib.hid hz0
  replace hz1 := Lib.hid hz1
  replace hz2 := Lib.hid hz2
  go_enter Tryd.func50, Tryd.ntmps50
  go_wp2_with (at_builtin; refine wpList_append_row rfl _ _ rfl Tryd.underlying42 hi.out hz0.out hz1.out hz2.out rfl E1 hs.out ?b1 ?b2 ?_)
  case b1 => unfold maxLen; omega
  case b2 => omega
  intro q2 k2 w2 own2 grow2 fr2
  try simp only [Nat.zero_add, List.nil_append] at own2
  try simp only [Nat.zero_add, List.nil_append] at fr2
  try simp only [Nat.zero_add]
  have H2 := Lib.hid own2
  have HB := Lib.hid (b1.grown grow2 b1.size (by intro k hk; simp [Value.ownBlock] at hk; omega))
  have HF : Hid (∀ k, (Value.slice q2 xs.length k2).ownBlock = some k → w.heap.size ≤ k) := fun k hk => by
    rcases fr2 with e | e
    · rw [e] at hk; simp [Value.ownBlock] at hk; omega
    · rw [e] at hk; simp at hk; omega
  clear own2 grow2 fr2 hs E1 b1
  have hz := HB.out.size
  go_wp2_with fail
  go_ret
  exact ⟨_, _, rfl, ⟨heap_alloc_new w2 _, own_chg H2.out (Chg.below ((Below.refl _ _).alloc (Nat.le_refl _) _) (Nat.le_refl _) []) (fun _ _ => by simp), by omega, hl⟩, hz, HB.out.alloc hz _, HF.out⟩

theorem rdLeft_ok {w : World} {p : Nat} {v : Value} {xs : List Int} {pos : Nat} (h : DrV w p v xs pos) :
    Calls Tryd.prog 69 #[.pointer (some ⟨p, 0, none⟩)] w fun e w' => ∃ m, e = .returned (.int .i64 ((xs.length : Int) - (pos : Int))) ∧ w' = w.drewN m := by
  have hlen := h.len
  have hle := h.le
  obtain ⟨qv, kv, rfl⟩ := (rd_of_row h.own).len
  have c0 := (Joins.cell_of_block h.blk 0).trans (rfl : _ = some _)
  have c1 := (Joins.cell_of_block h.blk 1).trans (rfl : _ = some _)
  clear h
  go_enter Tryd.func69, Tryd.ntmps69
  go_wp2_with fail
  go_quiet (fail)
  go_wp2_with fail
  go_ret
  exact ⟨_, rfl, rfl⟩

theorem rdTake_bad {w : World} {p : Nat} {n : Int} (h : DrF w p) :
    Calls Tryd.prog 76 #[.pointer (some ⟨p, 0, none⟩), .int .i64 n] w fun e w' => e = .returned (.slice none 0 0) ∧ w' = w := by
  obtain ⟨v, pos, f, h1, h2⟩ := h
  have c2 := (Joins.cell_of_block h2 2).trans (rfl : _ = some _)
  have d0 : (f == 0) = false := by simpa using h1
  clear h2 h1
  go_enter Tryd.func76, Tryd.ntmps76
  go_wp2_with fail
  go_ret
  exact ⟨rfl, rfl⟩
set_option maxHeartbeats 1000000 in
theorem rdTake_end {w : World} {p : Nat} {v : Value} {xs : List Int} {pos n : Nat} (h : DrV w p v xs pos) (_hn : n ≤ 64) (hf : xs.length < pos + n) :
    Calls Tryd.prog 76 #[.pointer (some ⟨p, 0, none⟩), .int .i64 n] w fun e w' => e = .returned (.slice none 0 0) ∧ DrF w' p ∧ Chg w w' [p] := by
  have H := Lib.hid h
  have hlen := h.len
  have hle := h.le
  have hg : (xs.length : Int) - (pos : Int) < (n : Int) := by omega
  have c2 := (Joins.cell_of_block h.blk 2).trans (rfl : _ = some _)
  clear h
  go_enter Tryd.func76, Tryd.ntmps76
  go_wp2_with fail
  refine (rdLeft_ok H.out).mono ?_
  rintro e w1 ⟨m, rfl, rfl⟩
  have H1 := H.out.drewN m
  have c2 := (Joins.cell_of_block H1.blk 2).trans (rfl : _ = some _)
  have f2 := Joins.unfrozen_of_block H1.blk 2
  have HF : Hid (DrF ((w.drewN m).setCell ⟨p, 2, none⟩ (.int .i64 20)) p) := ⟨v, pos, 20, by decide, by rw [Joins.block_setCell (i := 2) H1.blk]; rfl⟩
  have HC : Hid (Chg w ((w.drewN m).setCell ⟨p, 2, none⟩ (.int .i64 20)) [p]) := (show Chg w (w.drewN m) [p] from ⟨rfl, rfl, rfl, Nat.le_refl _, fun _ _ _ => rfl⟩).setCell (.inl (by simp)) _
  clear H1
  go_wp2_with fail
  go_ret
  exact ⟨rfl, HF.out, HC.out⟩
set_option maxHeartbeats 4000000 in
theorem rdTake_ok {w : World} {p : Nat} {v : Value} {xs : List Int} {pos n : Nat} (h : DrV w p v xs pos) (hn0 : 0 < n) (hn : n ≤ 64) (hf : pos + n ≤ xs.length) :
    Calls Tryd.prog 76 #[.pointer (some ⟨p, 0, none⟩), .int .i64 n] w fun e w' => ∃ q c, e = .returned (.slice q n c) ∧ Rd w' (.slice q n c) ((xs.drop pos).take n) ∧ DrV w' p v xs (pos + n) ∧ Chg w w' [p] ∧ ∀ a, q = some a → w.heap.size ≤ a.block := by
  obtain ⟨i0, hi, hz0, hz1, hz2⟩ := info_parts Tryd.infoU8
  replace hi := Lib.hid hi
  replace hz0 := Lib.hid hz0
  replace hz1 := Lib.hid hz1
  replace hz2 := Lib.hid hz2
  have hlen := h.len
  have hpl := h.lt
  rcases h.own.2 with ⟨rfl, h0⟩ | ⟨g, cap, cur, rfl, _, hg, hcap, hcm, hcs, htake⟩
  · omega
  have H := Lib.hid h
  have lT : ((xs.drop pos).take n).length = n := by simp; omega
  have c2 := (Joins.cell_of_block h.blk 2).trans (rfl : _ = some _)
  have hle : ¬ (xs.length : Int) - (pos : Int) < (n : Int) := by omega
  unfold maxLen at hcm
  have hne : ¬ cap = pos := by omega
  clear h hg hcs htake
  go_enter Tryd.func76, Tryd.ntmps76
  go_wp2_with fail
  refine (rdLeft_ok H.out).mono ?_
  rintro e w0 ⟨m, rfl, rfl⟩
  have H1 := Lib.hid (H.out.drewN m)
  have c1 := (Joins.cell_of_block H1.out.blk 1).trans (rfl : _ = some _)
  have c2 := (Joins.cell_of_block H1.out.blk 2).trans (rfl : _ = some _)
  have f1 := Joins.unfrozen_of_block H1.out.blk 1
  have D1 : Hid (DrV ((w.drewN m).setCell ⟨p, 1, none⟩ (.int .i64 ((pos : Int) + (n : Int)))) p (.slice (some ⟨g, 0, none⟩) xs.length cap) xs (pos + n)) := by
    have := H1.out.pass (q := pos + n) hf
    rw [show ((pos + n : Nat) : Int) = (pos : Int) + (n : Int) by push_cast; rfl] at this
    exact this
  have C1 : Hid (Chg w ((w.drewN m).setCell ⟨p, 1, none⟩ (.int .i64 ((pos : Int) + (n : Int)))) [p]) := (show Chg w (w.drewN m) [p] from ⟨rfl, rfl, rfl, Nat.le_refl _, fun _ _ _ => rfl⟩).setCell (.inl (by simp)) _
  clear H
  go_wp2_with fail
  clear c1 c2 f1 H1
  generalize hw1 : (w.drewN m).setCell ⟨p, 1, none⟩ (.int .i64 ((pos : Int) + (n : Int))) = w1 at *
  clear hw1
  have HP1 : Hid (w1.heap[p]? = some (.cells #[.slice (some ⟨g, 0, none⟩) xs.length cap, .int .i64 ((pos : Int) + (n : Int)), .int .i64 0] 109 (0, 0))) := by
    have := D1.out.blk
    rw [show ((pos + n : Nat) : Int) = (pos : Int) + (n : Int) by push_cast; rfl] at this
    exact this
  have HRD : Hid (Rd w1 (.slice (some ⟨g, pos, none⟩) n (cap - pos)) ((xs.drop pos).take n)) := by
    refine ⟨_, cap - pos, by rw [lT], .inr ⟨g, pos, rfl, fun i hi => ?_⟩⟩
    rw [lT] at hi
    have := D1.out.own.cells (g := g) rfl (pos + i) (.int .u8 (xs.getD (pos + i) 0)) (by simp [bc, List.getD, show pos + i < xs.length by omega])
    rw [addr_add, Nat.zero_add] at this
    rw [this]
    simp [List.getD, hi]
  have k1 : IntKind.i64.wrap ((pos : Int) + (n : Int) - (n : Int)) = (pos : Int) := by rw [Int.add_sub_cancel]; exact IntWalk.i64_in _ (by omega)
  have k2 : IntKind.i64.wrap (pos : Int) = (pos : Int) := IntWalk.i64_in _ (by omega)
  have j5 : (0 : Int) ≤ (pos : Int) + (n : Int) := by omega
  have j0 : (0 : Int) ≤ (pos : Int) := by omega
  have j1 : (pos : Int) ≤ (pos : Int) + (n : Int) := by omega
  have j2 : (pos : Int) + (n : Int) ≤ (cap : Int) := by omega
  have j3 : ((pos : Int) + (n : Int)).toNat = pos + n := by omega
  have j4 : pos + n - pos = n := by omega
  refine wp_region_held_drew (S := fun W => W.heap[p]? = some (.cells #[.slice (some ⟨g, 0, none⟩) xs.length cap, .int .i64 ((pos : Int) + (n : Int)), .int .i64 0] 109 (0, 0))) (by kernel_rfl) (HP1.out) (fun h0 => ?_)
  refine wpAnyH_take (i := 1) (v := ?_) (by rw [List.getElem?_toArray]; rfl) (by kernel_rfl) (by kernel_rfl) (by kernel_rfl) (by exact fun _ _ _ h => h) (Or.inl ⟨by rfl, ?_⟩) h0 ?_
  rotate_left
  · intro W hW
    go_simp
    all_goals with_reducible rfl
  try simp only [Act.put, List.setIfInBounds_toArray, List.set_cons_zero, List.set_cons_succ]
  refine wpAnyH_take (i := 2) (v := ?_) (by rw [List.getElem?_toArray]; rfl) (by kernel_rfl) (by kernel_rfl) (by kernel_rfl) (by exact fun _ _ _ h => h) (Or.inl ⟨by rfl, ?_⟩) h0 ?_
  rotate_left
  · intro W hW
    go_simp
    all_goals with_reducible rfl
  try simp only [Act.put, List.setIfInBounds_toArray, List.set_cons_zero, List.set_cons_succ]
  refine wpAnyH_take (i := 3) (v := ?_) (by rw [List.getElem?_toArray]; rfl) (by kernel_rfl) (by kernel_rfl) (by kernel_rfl) (by exact fun _ _ _ h => h) (Or.inl ⟨by rfl, ?_⟩) h0 ?_
  rotate_left
  · intro W hW
    go_simp
    all_goals with_reducible rfl
  try simp only [Act.put, List.setIfInBounds_toArray, List.set_cons_zero, List.set_cons_succ]
  refine wpAnyH_take (i := 4) (v := ?_) (by rw [List.getElem?_toArray]; rfl) (by kernel_rfl) (by kernel_rfl) (by kernel_rfl) (by exact fun _ _ _ h => h) (Or.inl ⟨by rfl, ?_⟩) h0 ?_
  rotate_left
  · intro W hW
    have cc := (Joins.cell_of_block hW 0).trans (rfl : _ = some _)
    go_simp
    all_goals with_reducible rfl
  try simp only [Act.put, List.setIfInBounds_toArray, List.set_cons_zero, List.set_cons_succ]
  refine wpAnyH_take (i := 5) (v := ?_) (by rw [List.getElem?_toArray]; rfl) (by kernel_rfl) (by kernel_rfl) (by kernel_rfl) (by exact fun _ _ _ h => h) (Or.inl ⟨by rfl, ?_⟩) h0 ?_
  rotate_left
  · intro W hW
    go_simp
    all_goals with_reducible rfl
  try simp only [Act.put, List.setIfInBounds_toArray, List.set_cons_zero, List.set_cons_succ]
  refine wpAnyH_take (i := 6) (v := ?_) (by rw [List.getElem?_toArray]; rfl) (by kernel_rfl) (by kernel_rfl) (by kernel_rfl) (by exact fun _ _ _ h => h) (Or.inl ⟨by rfl, ?_⟩) h0 ?_
  rotate_left
  · intro W hW
    go_simp
    all_goals with_reducible rfl
  try simp only [Act.put, List.setIfInBounds_toArray, List.set_cons_zero, List.set_cons_succ]
  refine wpAnyH_take (i := 7) (v := ?_) (by rw [List.getElem?_toArray]; rfl) (by kernel_rfl) (by kernel_rfl) (by kernel_rfl) (by exact fun _ _ _ h => h) (Or.inl ⟨by rfl, ?_⟩) h0 ?_
  rotate_left
  · intro W hW
    go_simp
    all_goals with_reducible rfl
  try simp only [Act.put, List.setIfInBounds_toArray, List.set_cons_zero, List.set_cons_succ]
  refine wpAnyH_take (i := 8) (v := ?_) (by rw [List.getElem?_toArray]; rfl) (by kernel_rfl) (by kernel_rfl) (by kernel_rfl) (by exact fun _ _ _ h => h) (Or.inl ⟨by rfl, ?_⟩) h0 ?_
  rotate_left
  · intro W hW
    have cc := (Joins.cell_of_block hW 1).trans (rfl : _ = some _)
    go_simp
    all_goals with_reducible rfl
  try simp only [Act.put, List.setIfInBounds_toArray, List.set_cons_zero, List.set_cons_succ]
  refine wpAnyH_take (i := 9) (v := ?_) (by rw [List.getElem?_toArray]; rfl) (by kernel_rfl) (by kernel_rfl) (by kernel_rfl) (by exact fun _ _ _ h => h) (Or.inl ⟨by rfl, ?_⟩) h0 ?_
  rotate_left
  · intro W hW
    go_simp
    all_goals with_reducible rfl
  try simp only [Act.put, List.setIfInBounds_toArray, List.set_cons_zero, List.set_cons_succ]
  refine wpAnyH_take (i := 10) (v := ?_) (by rw [List.getElem?_toArray]; rfl) (by kernel_rfl) (by kernel_rfl) (by kernel_rfl) (by exact fun _ _ _ h => h) (Or.inl ⟨by rfl, ?_⟩) h0 ?_
  rotate_left
  · intro W hW
    go_simp
    all_goals with_reducible rfl
  try simp only [Act.put, List.setIfInBounds_toArray, List.set_cons_zero, List.set_cons_succ]
  refine wpAnyH_take (i := 11) (v := ?_) (by rw [List.getElem?_toArray]; rfl) (by kernel_rfl) (by kernel_rfl) (by kernel_rfl) (by exact fun _ _ _ h => h) (Or.inl ⟨by rfl, ?_⟩) h0 ?_
  rotate_left
  · intro W hW
    go_simp
    all_goals with_reducible rfl
  try simp only [Act.put, List.setIfInBounds_toArray, List.set_cons_zero, List.set_cons_succ]
  refine wpAnyH_take (i := 12) (v := ?_) (by rw [List.getElem?_toArray]; rfl) (by kernel_rfl) (by kernel_rfl) (by kernel_rfl) (by exact fun _ _ _ h => h) (Or.inl ⟨by rfl, ?_⟩) h0 ?_
  rotate_left
  · intro W hW
    go_simp
    all_goals with_reducible rfl
  try simp only [Act.put, List.setIfInBounds_toArray, List.set_cons_zero, List.set_cons_succ]
  refine wpAnyH_take (i := 13) (v := ?_) (by rw [List.getElem?_toArray]; rfl) (by kernel_rfl) (by kernel_rfl) (by kernel_rfl) (by exact fun _ _ _ h => h) (Or.inl ⟨by rfl, ?_⟩) h0 ?_
  rotate_left
  · intro W hW
    go_simp
    all_goals with_reducible rfl
  try simp only [Act.put, List.setIfInBounds_toArray, List.set_cons_zero, List.set_cons_succ]
  refine wpAnyH_take (i := 14) (v := ?_) (by rw [List.getElem?_toArray]; rfl) (by kernel_rfl) (by kernel_rfl) (by kernel_rfl) (by exact fun _ _ _ h => h) (Or.inl ⟨by rfl, ?_⟩) h0 ?_
  rotate_left
  · intro W hW
    have cc := (Joins.cell_of_block hW 1).trans (rfl : _ = some _)
    go_simp
    all_goals with_reducible rfl
  try simp only [Act.put, List.setIfInBounds_toArray, List.set_cons_zero, List.set_cons_succ]
  refine wpAnyH_take (i := 15) (v := ?_) (by rw [List.getElem?_toArray]; rfl) (by kernel_rfl) (by kernel_rfl) (by kernel_rfl) (by exact fun _ _ _ h => h) (Or.inl ⟨by rfl, ?_⟩) h0 ?_
  rotate_left
  · intro W hW
    go_simp
    all_goals with_reducible rfl
  try simp only [Act.put, List.setIfInBounds_toArray, List.set_cons_zero, List.set_cons_succ]
  refine wpAnyH_ready (rs := [0]) (by kernel_rfl) (by simp) ?_
  refine AllReadyH.cons (by rw [List.getElem?_toArray]; rfl) (fun K hK => ?_) AllReadyH.nil
  rw [if_pos (by rfl)]
  have b3 : Below w1.heap.size w1 (w1.alloc (.cells #[] 5)) := (Below.refl _ _).alloc (Nat.le_refl _) _
  have D3 := Lib.hid (D1.out.on b3)
  have B3 := Lib.hid b3
  have E3 := Lib.hid (own_empty w1 5 1)
  have P3 : Hid ((w1.alloc (.cells #[] 5)).heap[p]? = some (.cells #[.slice (some ⟨g, 0, none⟩) xs.length cap, .int .i64 ((pos : Int) + (n : Int)), .int .i64 0] 109 (0, 0))) := Lib.hid (blk_onB2 HP1.out b3)
  have V3 : Hid (Rd (w1.alloc (.cells #[] 5)) (.slice (some ⟨g, pos, none⟩) n (cap - pos)) ((xs.drop pos).take n)) := HRD.out.on b3
  clear b3
  go_wp2_with fail
  refine hK.out _ _ (P3.out) (fun h3 => ?_)
  clear hK K
  try simp only [Act.put, List.setIfInBounds_toArray, List.set_cons_zero, List.set_cons_succ]
  generalize hw3 : (w1.alloc (.cells #[] 5)) = w3 at *
  clear hw3
  refine wpAnyH_ready (rs := [16]) (by kernel_rfl) (by simp) ?_
  refine AllReadyH.cons (by rw [List.getElem?_toArray]; rfl) (fun K hK => ?_) AllReadyH.nil
  rw [if_pos (by rfl)]
  refine wp_append_row _ _ rfl Tryd.underlying42 hi.out hz0.out hz1.out hz2.out rfl (show w3.drew.ownsRow 0 _ 1 (.slice (some ⟨w1.heap.size, 0, none⟩) 0 0) 0 [] from E3.out) ((show Rd w3.drew (.slice (some ⟨g, pos, none⟩) n (cap - pos)) ((xs.drop pos).take n) from V3.out).src (P := Tryd.prog) Tryd.underlying42) (by rw [lT]; unfold maxLen; omega) (by rw [lT]; omega) ?_
  intro q6 k6 w6 own6' grow6' fr6'
  have grow6 : w3.drew.grownBy w6 (Value.slice (some ⟨w1.heap.size, 0, none⟩) 0 0).ownBlock := grow6'
  have own6 : w6.ownsRow 0 5 1 (.slice q6 n k6) n (bc ((xs.drop pos).take n)) := by have := own6'; simp only [lT, Nat.zero_add, List.nil_append] at this; exact this
  have G6 : Hid (Below w1.heap.size w1 w6) := B3.out.drew.grown grow6 B3.out.drew.size (fun j hj => by simp [Value.ownBlock] at hj; omega)
  have D6 := Lib.hid (D1.out.on G6.out)
  have P6 : Hid (w6.heap[p]? = some (.cells #[.slice (some ⟨g, 0, none⟩) xs.length cap, .int .i64 ((pos : Int) + (n : Int)), .int .i64 0] 109 (0, 0))) := Lib.hid (blk_onB2 HP1.out G6.out)
  have R6 := Lib.hid (rd_of_row own6)
  have F6 : Hid (∀ a, q6 = some a → w1.heap.size ≤ a.block) := fun a ha => by
    subst ha
    rcases fr6' with e | e
    · have e' : (Value.slice (some a) (0 + ((xs.drop pos).take n).length) k6).ownBlock = (Value.slice (some ⟨w1.heap.size, 0, none⟩) 0 0).ownBlock := e
      simp [Value.ownBlock] at e'; omega
    · have e' : (Value.slice (some a) (0 + ((xs.drop pos).take n).length) k6).ownBlock = some w3.drew.heap.size := e
      have := B3.out.drew.size
      simp [Value.ownBlock] at e' this; omega
  simp only [lT, Nat.zero_add]
  clear own6' grow6' fr6' own6 grow6
  refine hK.out _ _ (P6.out) (fun h6 => ?_)
  clear hK K
  try simp only [Act.put, List.setIfInBounds_toArray, List.set_cons_zero, List.set_cons_succ]
  refine wpAnyH_take (i := 17) (v := ?_) (by rw [List.getElem?_toArray]; rfl) (by kernel_rfl) (by kernel_rfl) (by kernel_rfl) (by exact fun _ _ _ h => h) (Or.inl ⟨by rfl, ?_⟩) h6 ?_
  rotate_left
  · intro W hW
    go_simp
    all_goals with_reducible rfl
  try simp only [Act.put, List.setIfInBounds_toArray, List.set_cons_zero, List.set_cons_succ]
  refine wpAnyH_done (by kernel_rfl) ?_ _
  go_wp2_with fail
  go_ret
  exact ⟨q6, k6, rfl, R6.out, D6.out, C1.out.trans (Chg.below G6.out (Nat.le_refl _) [p]) (fun x hx _ => hx), fun a ha => Nat.le_trans C1.out.size (F6.out a ha)⟩
end Go.Proofs.YtebeacejlkiglaaDoor
