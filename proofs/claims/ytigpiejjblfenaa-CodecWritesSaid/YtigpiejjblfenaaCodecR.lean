/-
  The walks of package codec: a reader that was made, while there is enough to be read.
-/
import Derived.Test.YtigpiejjblfenaaCodecB
import Derived.Laws.Bits64b
namespace Go.Proofs.Ytigpiejjblfenaa
set_option maxRecDepth 100000
open Go.RowKit

/-- Block p holds a Reader that was made, of the bytes xs, of which pos were passed; v is its slice; there was no error. -/
structure RrV (w : World) (p : Nat) (v : Value) (xs : List Int) (pos : Nat) : Prop where
  blk : w.heap[p]? = some (.cells #[.bool true, v, .int .i64 pos, .int .i64 0] 58 (0, 0))
  own : w.ownsRow 0 5 1 v xs.length (bc xs)
  le : pos ≤ xs.length
  len : xs.length ≤ 1000000
section
variable {w w' : World} {p : Nat} {v : Value} {xs : List Int} {pos : Nat}
theorem RrV.lt (h : RrV w p v xs pos) : p < w.heap.size := (Array.getElem?_eq_some_iff.1 h.blk).1
theorem RrV.ne (h : RrV w p v xs pos) : v.ownBlock ≠ some p := by
  rcases h.own.2 with ⟨rfl, _⟩ | ⟨g, cap, cur, rfl, _, hg, _⟩
  · simp [Value.ownBlock]
  · intro e
    obtain rfl : g = p := by simpa [Value.ownBlock] using e
    rw [h.blk] at hg
    simp at hg
theorem own_chg {e : TypeId} {size n : Nat} {ys : List Value} {S : List Nat} (h : w.ownsRow 0 e size v n ys) (hc : Chg w w' S) (hv : ∀ g, v.ownBlock = some g → g ∉ S) : w'.ownsRow 0 e size v n ys := by
  refine ⟨h.1, ?_⟩
  rcases h.2 with hn | ⟨g, cap, cur, rfl, hb, hg, r⟩
  · exact .inl hn
  · exact .inr ⟨g, cap, cur, rfl, hb, by rw [hc.block g (Array.getElem?_eq_some_iff.1 hg).1 (hv g rfl)]; exact hg, r⟩
theorem RrV.chg {S : List Nat} (h : RrV w p v xs pos) (hc : Chg w w' S) (hp : p ∉ S) (hv : ∀ g, v.ownBlock = some g → g ∉ S) : RrV w' p v xs pos :=
  ⟨by rw [hc.block p h.lt hp]; exact h.blk, own_chg h.own hc hv, h.le, h.len⟩
theorem RrV.on (h : RrV w p v xs pos) (hb : Below w.heap.size w w') : RrV w' p v xs pos := h.chg (S := []) (Chg.below hb (Nat.le_refl _) []) (by simp) (fun _ _ => by simp)
theorem RrV.cells (h : RrV w p v xs pos) : w.cell? ⟨p, 0, none⟩ = some (.bool true) ∧ w.cell? ⟨p, 1, none⟩ = some v ∧ w.cell? ⟨p, 2, none⟩ = some (.int .i64 pos) ∧ w.cell? ⟨p, 3, none⟩ = some (.int .i64 0) ∧ w.frozen? ⟨p, 2, none⟩ = false ∧ w.frozen? ⟨p, 3, none⟩ = false :=
  ⟨by rw [Joins.cell_of_block h.blk]; rfl, by rw [Joins.cell_of_block h.blk]; rfl, by rw [Joins.cell_of_block h.blk]; rfl, by rw [Joins.cell_of_block h.blk]; rfl, Joins.unfrozen_of_block h.blk 2, Joins.unfrozen_of_block h.blk 3⟩
theorem RrV.pass (h : RrV w p v xs pos) {q : Nat} (hq : q ≤ xs.length) : RrV (w.setCell ⟨p, 2, none⟩ (.int .i64 q)) p v xs q := by
  refine ⟨by rw [Joins.block_setCell (i := 2) h.blk]; rfl, own_chg h.own ((Chg.refl w [p]).setCell (.inl (by simp)) _) (fun g hg => ?_), hq, h.len⟩
  intro hm
  obtain rfl := List.mem_singleton.1 hm
  exact h.ne hg
end

set_option maxHeartbeats 1000000 in
theorem NewReader_any {w : World} {a : Value} {xs : List Int} (h : Rd w a xs) (hl : xs.length ≤ 1000000) :
    Calls Try.prog 20 #[a] w fun e w' => ∃ p v, e = .returned (.pointer (some ⟨p, 0, none⟩)) ∧ RrV w' p v xs 0 ∧ w.heap.size ≤ p ∧ Below w.heap.size w w' ∧ ∀ k, v.ownBlock = some k → w.heap.size ≤ k := by
  obtain ⟨i0, hi, hz0, hz1, hz2⟩ := info_parts Try.infoU8
  obtain ⟨qv, kv, rfl⟩ := h.len
  have hs := Lib.hid (h.src (P := Try.prog) Try.underlying26)
  clear h
  replace hi := Lib.hid hi
  replace hz0 := Lib.hid hz0
  replace hz1 := Lib.hid hz1
  replace hz2 := Lib.hid hz2
  go_enter Try.func20, Try.ntmps20
  go_wp2_with (at_builtin; refine wpList_append_row rfl _ _ rfl Try.underlying26 hi.out hz0.out hz1.out hz2.out rfl (World.ownsRow_nil w 0 _ 1) hs.out ?b1 ?b2 ?_)
  case b1 => unfold maxLen; omega
  case b2 => omega
  intro q2 k2 w2 own2 grow2 fr2
  try simp only [Nat.zero_add, List.nil_append] at own2
  try simp only [Nat.zero_add, List.nil_append] at fr2
  try simp only [Nat.zero_add]
  have H2 := Lib.hid own2
  have HB := Lib.hid ((Below.refl w.heap.size w).grown grow2 (Nat.le_refl _) (by intro k hk; simp [Value.ownBlock] at hk))
  have HF : Hid (∀ k, (Value.slice q2 xs.length k2).ownBlock = some k → w.heap.size ≤ k) := fun k hk => by
    rcases fr2 with e | e
    · rw [e] at hk; simp [Value.ownBlock] at hk
    · rw [e] at hk; simp at hk; omega
  clear own2 grow2 fr2 hs
  have hz := HB.out.size
  go_wp2_with fail
  go_ret
  exact ⟨_, _, rfl, ⟨heap_alloc_new w2 _, own_chg H2.out (Chg.below ((Below.refl _ _).alloc (Nat.le_refl _) _) (Nat.le_refl _) []) (fun _ _ => by simp), by omega, hl⟩, hz, HB.out.alloc hz _, HF.out⟩

theorem ready_ok {w : World} {p : Nat} {v : Value} {xs : List Int} {pos : Nat} (h : RrV w p v xs pos) :
    Calls Try.prog 29 #[.pointer (some ⟨p, 0, none⟩)] w fun e w' => e = .returned (.bool true) ∧ w = w' := by
  obtain ⟨c0, -, -, c3, -, -⟩ := h.cells
  clear h
  go_enter Try.func29, Try.ntmps29
  go_wp2_with fail
  go_ret
  exact ⟨rfl, rfl⟩

set_option maxHeartbeats 1000000 in
theorem look_ok {w : World} {p : Nat} {v : Value} {xs : List Int} {pos : Nat} (h : RrV w p v xs pos) {n : Nat} (hn : 0 < n) (hf : pos + n ≤ xs.length) :
    Calls Try.prog 31 #[.pointer (some ⟨p, 0, none⟩), .int .i64 n] w fun e w' => ∃ b off c m, e = .returned (.tuple #[.slice (some ⟨b, off, none⟩) n c, .bool true]) ∧ v.ownBlock = some b ∧ n ≤ c ∧ (∀ i, i < n → w.cell? ⟨b, off + i, none⟩ = some (.int .u8 (xs.getD (pos + i) 0))) ∧ w' = w.drewN m := by
  have hlen := h.len
  rcases h.own.2 with ⟨rfl, h0⟩ | ⟨g, cap, cur, rfl, _, hg, hcap, hcm, hcs, htake⟩
  · omega
  have HC : Hid (∀ i, i < n → w.cell? ⟨g, pos + i, none⟩ = some (.int .u8 (xs.getD (pos + i) 0))) := fun i hi => by
    have := h.own.cells (g := g) rfl (pos + i) (.int .u8 (xs.getD (pos + i) 0)) (by simp [bc, List.getD, show pos + i < xs.length by omega])
    rw [addr_add] at this
    simpa using this
  obtain ⟨-, c1, c2, -, -, -⟩ := h.cells
  clear h hg hcs htake
  unfold maxLen at hcm
  have hne : ¬ cap = pos := by omega
  go_enter Try.func31, Try.ntmps31
  go_wp2_with fail
  go_quiet (fail)
  go_wp2_with fail
  go_quiet (fail)
  go_wp2_with fail
  go_ret2
  refine ⟨g, pos, cap - pos, _, by rw [Nat.add_sub_cancel_left]; rfl, rfl, by omega, HC.out, World.drewN_drewN _ _ _⟩

theorem or_low {a c : Int} (ha : 0 ≤ a ∧ a < 72057594037927936) (hc : 0 ≤ c ∧ c < 256) : bits .or .u64 (a * 256) c = a * 256 + c := by
  obtain ⟨A, rfl⟩ : ∃ A : Nat, a = A := ⟨a.toNat, by omega⟩
  obtain ⟨C, rfl⟩ : ∃ C : Nat, c = C := ⟨c.toNat, by omega⟩
  rw [show ((A : Int) * 256) = ((A * 256 : Nat) : Int) by push_cast; rfl, bits_or_u64_nat _ _ (by omega) (by omega)]
  have := Nat.two_pow_add_eq_or_of_lt (i := 8) (b := C) (by omega) A
  rw [show 2 ^ 8 * A = A * 256 by omega] at this
  rw [← this]
  push_cast
  rfl
theorem num_take {xs : List Int} {k : Nat} (hk : k < xs.length) : num (xs.take (k + 1)) = num (xs.take k) * 256 + xs.getD k 0 := by
  have e : xs.take (k + 1) = xs.take k ++ [xs.getD k 0] := by
    rw [List.take_add_one]
    simp [List.getD, hk]
  rw [e, num, List.foldl_append]
  rfl
theorem num_bd {xs : List Int} (h : Bytes xs) : ∀ k, k ≤ xs.length → 0 ≤ num (xs.take k) ∧ num (xs.take k) < 256 ^ k
  | 0, _ => by simp [num]
  | k + 1, hk => by
    obtain ⟨a, b⟩ := num_bd h k (by omega)
    have hx := h (xs.getD k 0) (by simp [List.getD, show k < xs.length by omega])
    rw [num_take (by omega), Int.pow_succ]
    omega

set_option maxHeartbeats 1000000 in
theorem lookUint_ok {w : World} {p : Nat} {v : Value} {xs : List Int} {pos : Nat} (h : RrV w p v xs pos) (hx : Bytes xs) (hf : pos + 8 ≤ xs.length) :
    Calls Try.prog 30 #[.pointer (some ⟨p, 0, none⟩)] w fun e w' => ∃ m, e = .returned (.tuple #[.int .u64 (num ((xs.drop pos).take 8)), .bool true]) ∧ w' = w.drewN m := by
  have H := Lib.hid h
  have hlen := h.len
  have HB : Hid (Bytes ((xs.drop pos).take 8)) := fun x hx' => hx x (List.mem_of_mem_drop (List.mem_of_mem_take hx'))
  have hl8 : ((xs.drop pos).take 8).length = 8 := by simp; omega
  have HG : Hid (∀ i, i < 8 → ((xs.drop pos).take 8).getD i 0 = xs.getD (pos + i) 0) := fun i hi => by simp [List.getD, hi]
  generalize (xs.drop pos).take 8 = ys at HB hl8 HG
  replace hl8 := Lib.hid hl8
  clear h hx
  go_enter Try.func30, Try.ntmps30
  go_wp2_with fail
  refine (look_ok H.out (n := 8) (by omega) hf).mono ?_
  rintro e w1 ⟨b, off, c, m, rfl, -, hc8, hcell, rfl⟩
  have HC := Lib.hid hcell
  clear hcell
  go_wp2_with fail
  go_loopw [6, 8, 16] (fun nv _ iv wr => ∃ k : Nat, iv = .int .i64 k ∧ k ≤ 8 ∧ nv = .int .u64 (num (ys.take k)) ∧ wr = w.drewN m) (fun _ _ iv _ => 8 - (intOf iv).toNat)
  case atStart => exact ⟨0, rfl, by omega, by simp [num], rfl⟩
  case round =>
    obtain ⟨k, rfl, hk, rfl, rfl⟩ := hrel
    by_cases hlt : k < 8
    · have hc1 := HC.out k hlt
      rw [← HG.out k hlt] at hc1
      have hb := num_bd HB.out k (by rw [hl8.out]; omega)
      have hp : (256 : Int) ^ k ≤ 72057594037927936 := by
        have e : k = 0 ∨ k = 1 ∨ k = 2 ∨ k = 3 ∨ k = 4 ∨ k = 5 ∨ k = 6 ∨ k = 7 := by omega
        rcases e with rfl | rfl | rfl | rfl | rfl | rfl | rfl | rfl <;> decide
      have hy := HB.out (ys.getD k 0) (by simp [List.getD, show k < ys.length by rw [hl8.out]; exact hlt])
      have HN := Lib.hid (num_take (xs := ys) (k := k) (by rw [hl8.out]; exact hlt))
      have HO := Lib.hid (or_low (a := num (ys.take k)) (c := ys.getD k 0) ⟨hb.1, by omega⟩ hy)
      obtain ⟨hn0, hn1⟩ := hb
      have hn2 : num (ys.take k) < 72057594037927936 := by omega
      obtain ⟨hy0, hy1⟩ := hy
      clear hn1 hp
      generalize num (ys.take k) = nk at *
      generalize ys.getD k 0 = yk at *
      go_wp2_with fail
      go_roundw
      case rel => exact ⟨k + 1, by go_num, by omega, by rw [HO.out, ← HN.out], trivial⟩
      case measure => simp [intOf]; omega
    · obtain rfl : k = 8 := by omega
      rw [List.take_of_length_le (by rw [hl8.out]; omega)]
      clear hlt hk
      go_wp2_with fail
      go_ret2
      exact ⟨m, rfl, rfl⟩

theorem Left_ok {w : World} {p : Nat} {v : Value} {xs : List Int} {pos : Nat} (h : RrV w p v xs pos) :
    Calls Try.prog 19 #[.pointer (some ⟨p, 0, none⟩)] w fun e w' => ∃ m, e = .returned (.int .i64 ((xs.length : Int) - (pos : Int))) ∧ w' = w.drewN m := by
  have hlen := h.len
  have hle := h.le
  obtain ⟨qv, kv, rfl⟩ := (rd_of_row h.own).len
  obtain ⟨c0, c1, c2, -, -, -⟩ := h.cells
  clear h
  go_enter Try.func19, Try.ntmps19
  go_wp2_with fail
  go_quiet (fail)
  go_wp2_with fail
  go_ret
  exact ⟨_, rfl, rfl⟩

theorem Done_all {w : World} {p : Nat} {v : Value} {xs : List Int} (h : RrV w p v xs xs.length) :
    Calls Try.prog 13 #[.pointer (some ⟨p, 0, none⟩)] w fun e w' => ∃ m, e = .returned (.int .i64 0) ∧ w' = w.drewN m := by
  have H := Lib.hid h
  obtain ⟨c0, -, -, c3, -, -⟩ := h.cells
  clear h
  go_enter Try.func13, Try.ntmps13
  go_wp2_with fail
  refine (Left_ok H.out).mono ?_
  rintro e w1 ⟨m, rfl, rfl⟩
  rw [Int.sub_self]
  go_wp2_with fail
  go_ret
  exact ⟨m, rfl, rfl⟩

/-- The reader behind a Blob, and what was read. -/
def BlobP (w : World) (p : Nat) (v : Value) (xs : List Int) (pos : Nat) (ys : List Int) (e : Ending) (w' : World) : Prop :=
  ∃ q c, e = .returned (.slice q ys.length c) ∧ w'.ownsRow 0 5 1 (.slice q ys.length c) ys.length (bc ys) ∧ RrV w' p v xs (pos + 8 + ys.length) ∧ Chg w w' [p] ∧ ∀ k, (Value.slice q ys.length c).ownBlock = some k → w.heap.size ≤ k

set_option maxHeartbeats 2000000 in
theorem RBlob_ok {w : World} {p : Nat} {v : Value} {xs : List Int} {pos : Nat} (h : RrV w p v xs pos) (hx : Bytes xs) {ys rest : List Int} (hd : xs.drop pos = be8 ys.length ++ ys ++ rest) (hy : ys.length ≤ 65536) :
    Calls Try.prog 17 #[.pointer (some ⟨p, 0, none⟩)] w (BlobP w p v xs pos ys) := by
  obtain ⟨i0, hi, hz0, hz1, hz2⟩ := info_parts Try.infoU8
  have H := Lib.hid h
  have HX := Lib.hid hx
  have hlen := h.len
  have hdl : xs.length - pos = 8 + ys.length + rest.length := by
    have := congrArg List.length hd
    simp at this; omega
  have hpos := h.le
  have hfit : pos + (8 + ys.length) ≤ xs.length := by omega
  have hnum : Hid (num ((xs.drop pos).take 8) = (ys.length : Int)) := by
    show _ = _
    rw [hd, List.append_assoc, List.take_left' (by simp), num_be8 (by omega) (by omega)]
  have HY : Hid (∀ i, i < ys.length → xs.getD (pos + 8 + i) 0 = ys.getD i 0) := fun i hi => by
    have e : xs.getD (pos + 8 + i) 0 = (xs.drop pos).getD (8 + i) 0 := by simp [List.getD, Nat.add_assoc]
    rw [e, hd, List.append_assoc]
    have e2 : (be8 (ys.length : Int) ++ (ys ++ rest))[8 + i]? = ys[i]? := by
      rw [List.getElem?_append_right (by simp), be8_len, Nat.add_sub_cancel_left, List.getElem?_append_left hi]
    simp only [List.getD, e2]
  clear hdl hd h hx
  replace hi := Lib.hid hi
  replace hz0 := Lib.hid hz0
  replace hz1 := Lib.hid hz1
  replace hz2 := Lib.hid hz2
  go_enter Try.func17, Try.ntmps17
  go_wp2_with fail
  refine (ready_ok H.out).mono ?_
  rintro e w1 ⟨rfl, rfl⟩
  go_wp2_with fail
  refine (lookUint_ok H.out HX.out (by omega)).mono ?_
  rintro e w1 ⟨m, rfl, rfl⟩
  rw [hnum.out]
  have H1 := Lib.hid (show RrV (w.drewN m) p v xs pos from ⟨H.out.blk, H.out.own, H.out.le, H.out.len⟩)
  go_wp2_with fail
  rw [show (8 + (ys.length : Int)) = ((8 + ys.length : Nat) : Int) from by push_cast; rfl]
  refine (look_ok H1.out (n := 8 + ys.length) (by omega) hfit).mono ?_
  rintro e w2 ⟨b, off, c, m2, rfl, hvb, hc8, hcell, rfl⟩
  have hbp : b ≠ p := fun e => H.out.ne (by rw [hvb, e])
  have HW := Lib.hid (show RrV ((w.drewN m).drewN m2) p v xs pos from ⟨H.out.blk, H.out.own, H.out.le, H.out.len⟩)
  have HCh := Lib.hid (show Chg w ((w.drewN m).drewN m2) [p] from ⟨rfl, rfl, rfl, Nat.le_refl _, fun _ _ _ => rfl⟩)
  have HC : Hid (∀ i, i < ys.length → ((w.drewN m).drewN m2).cell? ⟨b, off + 8 + i, none⟩ = some (.int .u8 (ys.getD i 0))) := fun i hi => by
    have := hcell (8 + i) (by omega)
    rw [← Nat.add_assoc, ← Nat.add_assoc, HY.out i hi] at this
    exact this
  clear hcell H1 hnum HY hvb
  generalize (w.drewN m).drewN m2 = W at HW HCh HC ⊢
  obtain ⟨-, -, c2, -, f2, -⟩ := HW.out.cells
  have hp := HW.out.lt
  by_cases hcc : c = 8
  · obtain rfl : c = 8 := hcc
    obtain rfl : ys = [] := List.eq_nil_of_length_eq_zero (by omega)
    have HP : Hid (RrV (W.setCell ⟨p, 2, none⟩ (.int .i64 ((pos : Int) + 8))) p v xs (pos + 8 + 0)) := by
      have := HW.out.pass (q := pos + 8 + 0) (by simp only [List.length_nil] at hfit; omega)
      rw [show ((pos + 8 + 0 : Nat) : Int) = (pos : Int) + 8 by simp] at this
      exact this
    have HPc := Lib.hid (HCh.out.setCell (p := ⟨p, 2, none⟩) (.inl (by simp)) (.int .i64 ((pos : Int) + 8)))
    have HS : Hid (Rd (W.setCell ⟨p, 2, none⟩ (.int .i64 ((pos : Int) + 8))) (.slice (some ⟨b, off, none⟩) 0 0) []) := ⟨_, _, rfl, .inr ⟨b, _, rfl, fun i hi => by
      simp at hi⟩⟩
    have hsz : (W.setCell ⟨p, 2, none⟩ (.int .i64 ((pos : Int) + 8))).heap.size = W.heap.size := by simp [World.setCell]
    replace hsz := Lib.hid hsz
    have hcs := HCh.out.size
    go_wp2_with (at_builtin; refine wpList_append_row rfl _ _ rfl Try.underlying26 hi.out hz0.out hz1.out hz2.out rfl (World.ownsRow_nil _ 0 _ 1) (Rd.src (P := Try.prog) (xs := []) Try.underlying26 HS.out) ?b1 ?b2 ?_)
    case b1 => (try simp only [List.length_nil]); unfold maxLen; omega
    case b2 => (try simp only [List.length_nil]); omega
    intro q2 k2 w2 own2 grow2 fr2
    try simp only [Nat.zero_add, List.nil_append] at own2
    try simp only [Nat.zero_add, List.nil_append] at fr2
    try simp only [Nat.zero_add]
    have H2 := Lib.hid own2
    have HB := Lib.hid ((Below.refl (W.setCell ⟨p, 2, none⟩ (.int .i64 ((pos : Int) + 8))).heap.size _).grown grow2 (Nat.le_refl _) (by intro k hk; simp [Value.ownBlock] at hk))
    have HF : Hid (∀ k, (Value.slice q2 0 k2).ownBlock = some k → w.heap.size ≤ k) := fun k hk => by
      rcases fr2 with e | e
      · rw [show (Value.slice q2 0 k2).ownBlock = none from e] at hk; simp at hk
      · rw [show (Value.slice q2 0 k2).ownBlock = some _ from e] at hk
        have := hsz.out
        simp at hk
        omega
    clear own2 grow2 fr2 c2 f2
    go_wp2_with fail
    go_ret
    exact ⟨_, _, rfl, H2.out, HP.out.on HB.out, HPc.out.trans (Chg.below HB.out (Nat.le_refl _) []) (fun _ h => by cases h), HF.out⟩
  · have hlt : ¬ (8 = c) := fun e => hcc e.symm
    have HP : Hid (RrV (W.setCell ⟨p, 2, none⟩ (.int .i64 ((pos : Int) + (8 + (ys.length : Int))))) p v xs (pos + 8 + ys.length)) := by
      have := HW.out.pass (q := pos + 8 + ys.length) (by omega)
      rw [show ((pos + 8 + ys.length : Nat) : Int) = (pos : Int) + (8 + (ys.length : Int)) by push_cast; omega] at this
      exact this
    have HPc := Lib.hid (HCh.out.setCell (p := ⟨p, 2, none⟩) (.inl (by simp)) (.int .i64 ((pos : Int) + (8 + (ys.length : Int)))))
    have HS : Hid (Rd (W.setCell ⟨p, 2, none⟩ (.int .i64 ((pos : Int) + (8 + (ys.length : Int))))) (.slice (some ⟨b, off + 8, none⟩) ys.length (c - 8)) ys) := ⟨_, _, rfl, .inr ⟨b, _, rfl, fun i hi => by
      rw [World.cell?_of_block (w := W) (Below.heap_setCell _ _ _ _ hbp)]; exact HC.out i hi⟩⟩
    have hsz : (W.setCell ⟨p, 2, none⟩ (.int .i64 ((pos : Int) + (8 + (ys.length : Int))))).heap.size = W.heap.size := by simp [World.setCell]
    replace hsz := Lib.hid hsz
    have hcs := HCh.out.size
    go_wp2_with (at_builtin; refine wpList_append_row rfl _ _ rfl Try.underlying26 hi.out hz0.out hz1.out hz2.out rfl (World.ownsRow_nil _ 0 _ 1) (Rd.src (P := Try.prog) (xs := ys) Try.underlying26 HS.out) ?b1x ?b2x ?_)
    case b1x => (try simp only [List.length_nil]); unfold maxLen; omega
    case b2x => (try simp only [List.length_nil]); omega
    intro q2 k2 w2 own2 grow2 fr2
    try simp only [Nat.zero_add, List.nil_append] at own2
    try simp only [Nat.zero_add, List.nil_append] at fr2
    try simp only [Nat.zero_add]
    have H2 := Lib.hid own2
    have HB := Lib.hid ((Below.refl (W.setCell ⟨p, 2, none⟩ (.int .i64 ((pos : Int) + (8 + (ys.length : Int))))).heap.size _).grown grow2 (Nat.le_refl _) (by intro k hk; simp [Value.ownBlock] at hk))
    have HF : Hid (∀ k, (Value.slice q2 ys.length k2).ownBlock = some k → w.heap.size ≤ k) := fun k hk => by
      rcases fr2 with e | e
      · rw [show (Value.slice q2 ys.length k2).ownBlock = none from e] at hk; simp at hk
      · rw [show (Value.slice q2 ys.length k2).ownBlock = some _ from e] at hk
        have := hsz.out
        simp at hk
        omega
    clear own2 grow2 fr2 c2 f2
    go_wp2_with fail
    go_ret
    exact ⟨_, _, rfl, H2.out, HP.out.on HB.out, HPc.out.trans (Chg.below HB.out (Nat.le_refl _) []) (fun _ h => by cases h), HF.out⟩
end Go.Proofs.Ytigpiejjblfenaa
