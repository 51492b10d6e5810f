/-
  The program's reader: numbers, wide ones and blobs, with errors.; What a region's held predicate may become on the way: a stronger one.
-/
import Derived.Test.YtcpoaalhpjipaaaDoorRows
import Derived.OrdersHeld
import Derived.Deep.RegionHeld3
import Derived.Test.YtcpoaalhpjipaaaDoorMd3
import Derived.Test.YtcpoaalhpjipaaaDoorMd4
namespace Go.Proofs.YtcpoaalhpjipaaaDoor
set_option maxRecDepth 100000
open Go.RowKit

theorem size_setCell (w : World) (a : Addr) (v : Value) : (w.setCell a v).heap.size = w.heap.size := by simp [World.setCell]
set_option maxHeartbeats 1000000 in
theorem RUint_ok {w : World} {p : Nat} {v : Value} {xs : List Int} {pos : Nat} (h : RrV w p v xs pos) (hx : Bytes xs) (hf : pos + 8 ≤ xs.length) {z : Int} (hz : num ((xs.drop pos).take 8) = z) :
    Calls Tryd.prog 111 #[.pointer (some ⟨p, 0, none⟩)] w fun e w' => e = .returned (.int .u64 z) ∧ RrV w' p v xs (pos + 8) ∧ Chg w w' [p] := by
  have H := Lib.hid h
  have HX := Lib.hid hx
  have hlen := h.len
  clear h hx
  go_enter Tryd.func111, Tryd.ntmps111
  go_wp2_with fail
  refine (ready_ok H.out).mono ?_
  rintro e w1 ⟨rfl, rfl⟩
  go_wp2_with fail
  refine (lookUint_ok H.out HX.out hf).mono ?_
  rintro e w1 ⟨m, rfl, rfl⟩
  rw [hz]
  clear hz
  have H1 := Lib.hid (H.out.drewN m)
  obtain ⟨-, -, c2, -, f2, -⟩ := H1.out.cells
  have HP : Hid (RrV ((w.drewN m).setCell ⟨p, 2, none⟩ (.int .i64 ((pos : Int) + 8))) p v xs (pos + 8)) := by
    have := H1.out.pass (q := pos + 8) hf
    rw [show ((pos + 8 : Nat) : Int) = (pos : Int) + 8 by push_cast; rfl] at this
    exact this
  have HC : Hid (Chg w ((w.drewN m).setCell ⟨p, 2, none⟩ (.int .i64 ((pos : Int) + 8))) [p]) :=
    (show Chg w (w.drewN m) [p] from ⟨rfl, rfl, rfl, Nat.le_refl _, fun _ _ _ => rfl⟩).setCell (.inl (by simp)) _
  go_wp2_with fail
  go_ret
  exact ⟨rfl, HP.out, HC.out⟩

set_option maxHeartbeats 2000000 in
theorem RWide_ok {w : World} {p : Nat} {v : Value} {xs : List Int} {pos : Nat} (h : RrV w p v xs pos) {x : W4} (hd4 : D4 x.a x.b x.c x.d) (hf : pos + 32 ≤ xs.length) (hy : (xs.drop pos).take 32 = x.bytes) :
    Calls Tryd.prog 112 #[.pointer (some ⟨p, 0, none⟩)] w fun e w' => e = .returned (.agg #[.int .u64 x.a, .int .u64 x.b, .int .u64 x.c, .int .u64 x.d]) ∧ RrV w' p v xs (pos + 32) ∧ Chg w w' [p] := by
  have hb0 : Below w.heap.size w (w.alloc (.cells #[.int .u64 0, .int .u64 0, .int .u64 0, .int .u64 0] 24)) := (Below.refl _ _).alloc (Nat.le_refl _) _
  have B0 := Lib.hid hb0
  have R0 := Lib.hid (heap_alloc_new w (.cells #[.int .u64 0, .int .u64 0, .int .u64 0, .int .u64 0] 24))
  have H := Lib.hid (h.on hb0)
  have hpl := h.lt
  have hlen := h.len
  have HV : Hid (∀ g, v.ownBlock = some g → g < w.heap.size) := fun g hg => own_lt h.own hg
  have HG : Hid (∀ i, i < 32 → xs.getD (pos + i) 0 = by_ (V x.a x.b x.c x.d) (31 - i)) := fun i hi => by
    have e1 : ((xs.drop pos).take 32).getD i 0 = xs.getD (pos + i) 0 := by simp [List.getD, hi]
    rw [← e1, hy]
    unfold W4.bytes
    rw [bys_at _ i hi]
  have HD := Lib.hid hd4
  clear h hy hb0 hd4
  go_enter Tryd.func112, Tryd.ntmps112
  go_wp2_with fail
  refine (ready_ok H.out).mono ?_
  rintro e w1 ⟨rfl, rfl⟩
  generalize hW0 : w.alloc (.cells #[.int .u64 0, .int .u64 0, .int .u64 0, .int .u64 0] 24) = W0 at *
  have hs0 : W0.heap.size = w.heap.size + 1 := by rw [← hW0]; simp
  clear hW0
  go_wp2_with fail
  refine (look_ok H.out (n := 32) (by omega) hf).mono ?_
  rintro e w2 ⟨b, off, c, m, rfl, hvb, hc8, hcell, rfl⟩
  have H1 := Lib.hid (H.out.drewN m)
  obtain ⟨-, -, c2, -, f2, -⟩ := H1.out.cells
  have hbp : b ≠ p := fun e => H.out.ne (by rw [hvb, e])
  have HP : Hid (RrV ((W0.drewN m).setCell ⟨p, 2, none⟩ (.int .i64 ((pos : Int) + 32))) p v xs (pos + 32)) := by
    have := H1.out.pass (q := pos + 32) hf
    rw [show ((pos + 32 : Nat) : Int) = (pos : Int) + 32 by push_cast; rfl] at this
    exact this
  have HC : Hid (Chg w ((W0.drewN m).setCell ⟨p, 2, none⟩ (.int .i64 ((pos : Int) + 32))) [p]) :=
    ((Chg.below B0.out (Nat.le_refl _) [p]).trans (show Chg W0 (W0.drewN m) [p] from ⟨rfl, rfl, rfl, Nat.le_refl _, fun _ _ _ => rfl⟩) (fun x hx _ => hx)).setCell (.inl (by simp)) _
  have HCe : Hid (∀ i, i < 32 → ((W0.drewN m).setCell ⟨p, 2, none⟩ (.int .i64 ((pos : Int) + 32))).cell? ⟨b, off + i, none⟩ = some (.int .u8 (by_ (V x.a x.b x.c x.d) (31 - i)))) := fun i hi => by
    rw [World.cell?_of_block (w := W0.drewN m) (Below.heap_setCell _ _ _ _ hbp), ← HG.out i hi]
    exact hcell i hi
  have R1 : Hid (((W0.drewN m).setCell ⟨p, 2, none⟩ (.int .i64 ((pos : Int) + 32))).heap[w.heap.size]? = some (.cells #[.int .u64 0, .int .u64 0, .int .u64 0, .int .u64 0] 24 (0, 0))) := by
    show _ = _
    rw [Below.heap_setCell _ _ _ _ (by show w.heap.size ≠ p; omega)]; exact R0.out
  have hblt : b < ((W0.drewN m).setCell ⟨p, 2, none⟩ (.int .i64 ((pos : Int) + 32))).heap.size := lt_of_cell (HCe.out 0 (by omega))
  clear hcell H1 H B0 R0 HG hvb
  go_wp2_with fail
  generalize (W0.drewN m).setCell ⟨p, 2, none⟩ (.int .i64 ((pos : Int) + 32)) = W at *
  refine (From_any (By_by (V x.a x.b x.c x.d)) W b off c hblt HCe.out).mono ?_
  rintro e w3 ⟨_, _, _, _, _, rfl, ⟨rfl, rfl, rfl, rfl, rfl⟩, hb3⟩
  obtain ⟨e0, e1, e2, e3⟩ := pd_V HD.out
  rw [e0, e1, e2, e3]
  have R3 := R1.out
  rw [← hb3.block _ (lt_of_block R3)] at R3
  have HP3 := Lib.hid (HP.out.on hb3)
  have HC3 := Lib.hid (HC.out.trans (Chg.below hb3 (Nat.le_refl _) [p]) (fun x hx _ => hx))
  have hlt3 := lt_of_block R3
  have c0 : w3.cell? ⟨w.heap.size, 0, none⟩ = some (.int .u64 0) := Joins.cell_of_block R3 0
  have c1 : w3.cell? ⟨w.heap.size, 1, none⟩ = some (.int .u64 0) := Joins.cell_of_block R3 1
  have c2 : w3.cell? ⟨w.heap.size, 2, none⟩ = some (.int .u64 0) := Joins.cell_of_block R3 2
  have c3 : w3.cell? ⟨w.heap.size, 3, none⟩ = some (.int .u64 0) := Joins.cell_of_block R3 3
  have f0 := Joins.unfrozen_of_block R3 0
  have f1 := Joins.unfrozen_of_block R3 1
  have f2' := Joins.unfrozen_of_block R3 2
  have f3 := Joins.unfrozen_of_block R3 3
  have hne : w.heap.size ≠ w3.heap.size := by omega
  have hpn : p ≠ w.heap.size := by omega
  clear e0 e1 e2 e3 HP HC R1 HCe hb3 R3
  go_wp2_with fail
  have X1 : Chg w3 (((((w3.setCell ⟨w.heap.size, 0, none⟩ (.int .u64 x.a)).setCell ⟨w.heap.size, 1, none⟩ (.int .u64 x.b)).setCell ⟨w.heap.size, 2, none⟩ (.int .u64 x.c)).setCell ⟨w.heap.size, 3, none⟩ (.int .u64 x.d)).alloc (.cells #[.int .u64 x.a, .int .u64 x.b, .int .u64 x.c, .int .u64 x.d] 24)) [w.heap.size] :=
    (((((Chg.refl w3 [w.heap.size]).setCell (p := ⟨w.heap.size, 0, none⟩) (.inl (by simp)) _).setCell (p := ⟨w.heap.size, 1, none⟩) (.inl (by simp)) _).setCell (p := ⟨w.heap.size, 2, none⟩) (.inl (by simp)) _).setCell (p := ⟨w.heap.size, 3, none⟩) (.inl (by simp)) _).trans (Chg.below ((Below.refl _ _).alloc (Nat.le_refl _) _) (Nat.le_refl _) [w.heap.size]) (fun x hx _ => hx)
  have hsz : ((((w3.setCell ⟨w.heap.size, 0, none⟩ (.int .u64 x.a)).setCell ⟨w.heap.size, 1, none⟩ (.int .u64 x.b)).setCell ⟨w.heap.size, 2, none⟩ (.int .u64 x.c)).setCell ⟨w.heap.size, 3, none⟩ (.int .u64 x.d)).heap.size = w3.heap.size := by simp only [size_setCell]
  refine bodyPost_ret (v := .agg #[.int .u64 x.a, .int .u64 x.b, .int .u64 x.c, .int .u64 x.d]) (by simp [results, Tryd.results112, go_sem, c0, c1, c2, c3, hlt3, hsz]) rfl ⟨rfl, HP3.out.chg X1 (by simpa using hpn) (fun g hg hm => by have := HV.out g hg; simp at hm; omega), HC3.out.trans X1 (fun y hy hl => by simp at hy; omega)⟩

/-- The reader behind a Blob, and what was read. -/
def BlobP (w : World) (p : Nat) (v : Value) (xs : List Int) (pos : Nat) (ys : List Int) (e : Ending) (w' : World) : Prop :=
  ∃ q c, e = .returned (.slice q ys.length c) ∧ w'.ownsRow 0 5 1 (.slice q ys.length c) ys.length (bc ys) ∧ RrV w' p v xs (pos + 8 + ys.length) ∧ Chg w w' [p] ∧ ∀ k, (Value.slice q ys.length c).ownBlock = some k → w.heap.size ≤ k

set_option maxHeartbeats 2000000 in
theorem RBlob_ok {w : World} {p : Nat} {v : Value} {xs : List Int} {pos : Nat} (h : RrV w p v xs pos) (hx : Bytes xs) {ys rest : List Int} (hd : xs.drop pos = be8 ys.length ++ ys ++ rest) (hy : ys.length ≤ 65536) :
    Calls Tryd.prog 113 #[.pointer (some ⟨p, 0, none⟩)] w (BlobP w p v xs pos ys) := by
  obtain ⟨i0, hi, hz0, hz1, hz2⟩ := info_parts Tryd.infoU8
  have H := Lib.hid h
  have HX := Lib.hid hx
  have hlen := h.len
  have hdl : xs.length - pos = 8 + ys.length + rest.length := by
    have := congrArg List.length hd
    simp at this; omega
  have hpos := h.le
  have hfit : pos + (8 + ys.length) ≤ xs.length := by omega
  have hnum : Hid (num ((xs.drop pos).take 8) = (ys.length : Int)) := by
    show _ = _
    rw [hd, List.append_assoc, List.take_left' (by simp), num_be8 (by omega) (by omega)]
  have HY : Hid (∀ i, i < ys.length → xs.getD (pos + 8 + i) 0 = ys.getD i 0) := fun i hi => by
    have e : xs.getD (pos + 8 + i) 0 = (xs.drop pos).getD (8 + i) 0 := by simp [List.getD, Nat.add_assoc]
    rw [e, hd, List.append_assoc]
    have e2 : (be8 (ys.length : Int) ++ (ys ++ rest))[8 + i]? = ys[i]? := by
      rw [List.getElem?_append_right (by simp), be8_len, Nat.add_sub_cancel_left, List.getElem?_append_left hi]
    simp only [List.getD, e2]
  clear hdl hd h hx
  replace hi := Lib.hid hi
  replace hz0 := Lib.hid hz0
  replace hz1 := Lib.hid hz1
  replace hz2 := Lib.hid hz2
  go_enter Tryd.func113, Tryd.ntmps113
  go_wp2_with fail
  refine (ready_ok H.out).mono ?_
  rintro e w1 ⟨rfl, rfl⟩
  go_wp2_with fail
  refine (lookUint_ok H.out HX.out (by omega)).mono ?_
  rintro e w1 ⟨m, rfl, rfl⟩
  rw [hnum.out]
  have H1 := Lib.hid (show RrV (w.drewN m) p v xs pos from ⟨H.out.blk, H.out.own, H.out.le, H.out.len⟩)
  go_wp2_with fail
  rw [show (8 + (ys.length : Int)) = ((8 + ys.length : Nat) : Int) from by push_cast; rfl]
  refine (look_ok H1.out (n := 8 + ys.length) (by omega) hfit).mono ?_
  rintro e w2 ⟨b, off, c, m2, rfl, hvb, hc8, hcell, rfl⟩
  have hbp : b ≠ p := fun e => H.out.ne (by rw [hvb, e])
  have HW := Lib.hid (show RrV ((w.drewN m).drewN m2) p v xs pos from ⟨H.out.blk, H.out.own, H.out.le, H.out.len⟩)
  have HCh := Lib.hid (show Chg w ((w.drewN m).drewN m2) [p] from ⟨rfl, rfl, rfl, Nat.le_refl _, fun _ _ _ => rfl⟩)
  have HC : Hid (∀ i, i < ys.length → ((w.drewN m).drewN m2).cell? ⟨b, off + 8 + i, none⟩ = some (.int .u8 (ys.getD i 0))) := fun i hi => by
    have := hcell (8 + i) (by omega)
    rw [← Nat.add_assoc, ← Nat.add_assoc, HY.out i hi] at this
    exact this
  clear hcell H1 hnum HY hvb
  generalize (w.drewN m).drewN m2 = W at HW HCh HC ⊢
  obtain ⟨-, -, c2, -, f2, -⟩ := HW.out.cells
  have hp := HW.out.lt
  by_cases hcc : c = 8
  · obtain rfl : c = 8 := hcc
    obtain rfl : ys = [] := List.eq_nil_of_length_eq_zero (by omega)
    have HP : Hid (RrV (W.setCell ⟨p, 2, none⟩ (.int .i64 ((pos : Int) + 8))) p v xs (pos + 8 + 0)) := by
      have := HW.out.pass (q := pos + 8 + 0) (by simp only [List.length_nil] at hfit; omega)
      rw [show ((pos + 8 + 0 : Nat) : Int) = (pos : Int) + 8 by simp] at this
      exact this
    have HPc := Lib.hid (HCh.out.setCell (p := ⟨p, 2, none⟩) (.inl (by simp)) (.int .i64 ((pos : Int) + 8)))
    have HS : Hid (Rd (W.setCell ⟨p, 2, none⟩ (.int .i64 ((pos : Int) + 8))) (.slice (some ⟨b, off, none⟩) 0 0) []) := ⟨_, _, rfl, .inr ⟨b, _, rfl, fun i hi => by
      simp at hi⟩⟩
    have hsz : (W.setCell ⟨p, 2, none⟩ (.int .i64 ((pos : Int) + 8))).heap.size = W.heap.size := by simp [World.setCell]
    replace hsz := Lib.hid hsz
    have hcs := HCh.out.size
    go_wp2_with (at_builtin; refine wpList_append_row rfl _ _ rfl Tryd.underlying25 hi.out hz0.out hz1.out hz2.out rfl (World.ownsRow_nil _ 0 _ 1) (Rd.src (P := Tryd.prog) (xs := []) Tryd.underlying25 HS.out) ?b1 ?b2 ?_)
    case b1 => (try simp only [List.length_nil]); unfold maxLen; omega
    case b2 => (try simp only [List.length_nil]); omega
    intro q2 k2 w2 own2 grow2 fr2
    try simp only [Nat.zero_add, List.nil_append] at own2
    try simp only [Nat.zero_add, List.nil_append] at fr2
    try simp only [Nat.zero_add]
    have H2 := Lib.hid own2
    have HB := Lib.hid ((Below.refl (W.setCell ⟨p, 2, none⟩ (.int .i64 ((pos : Int) + 8))).heap.size _).grown grow2 (Nat.le_refl _) (by intro k hk; simp [Value.ownBlock] at hk))
    have HF : Hid (∀ k, (Value.slice q2 0 k2).ownBlock = some k → w.heap.size ≤ k) := fun k hk => by
      rcases fr2 with e | e
      · rw [show (Value.slice q2 0 k2).ownBlock = none from e] at hk; simp at hk
      · rw [show (Value.slice q2 0 k2).ownBlock = some _ from e] at hk
        have := hsz.out
        simp at hk
        omega
    clear own2 grow2 fr2 c2 f2
    go_wp2_with fail
    go_ret
    exact ⟨_, _, rfl, H2.out, HP.out.on HB.out, HPc.out.trans (Chg.below HB.out (Nat.le_refl _) []) (fun _ h => by cases h), HF.out⟩
  · have hlt : ¬ (8 = c) := fun e => hcc e.symm
    have HP : Hid (RrV (W.setCell ⟨p, 2, none⟩ (.int .i64 ((pos : Int) + (8 + (ys.length : Int))))) p v xs (pos + 8 + ys.length)) := by
      have := HW.out.pass (q := pos + 8 + ys.length) (by omega)
      rw [show ((pos + 8 + ys.length : Nat) : Int) = (pos : Int) + (8 + (ys.length : Int)) by push_cast; omega] at this
      exact this
    have HPc := Lib.hid (HCh.out.setCell (p := ⟨p, 2, none⟩) (.inl (by simp)) (.int .i64 ((pos : Int) + (8 + (ys.length : Int)))))
    have HS : Hid (Rd (W.setCell ⟨p, 2, none⟩ (.int .i64 ((pos : Int) + (8 + (ys.length : Int))))) (.slice (some ⟨b, off + 8, none⟩) ys.length (c - 8)) ys) := ⟨_, _, rfl, .inr ⟨b, _, rfl, fun i hi => by
      rw [World.cell?_of_block (w := W) (Below.heap_setCell _ _ _ _ hbp)]; exact HC.out i hi⟩⟩
    have hsz : (W.setCell ⟨p, 2, none⟩ (.int .i64 ((pos : Int) + (8 + (ys.length : Int))))).heap.size = W.heap.size := by simp [World.setCell]
    replace hsz := Lib.hid hsz
    have hcs := HCh.out.size
    go_wp2_with (at_builtin; refine wpList_append_row rfl _ _ rfl Tryd.underlying25 hi.out hz0.out hz1.out hz2.out rfl (World.ownsRow_nil _ 0 _ 1) (Rd.src (P := Tryd.prog) (xs := ys) Tryd.underlying25 HS.out) ?b1x ?b2x ?_)
    case b1x => (try simp only [List.length_nil]); unfold maxLen; omega
    case b2x => (try simp only [List.length_nil]); omega
    intro q2 k2 w2 own2 grow2 fr2
    try simp only [Nat.zero_add, List.nil_append] at own2
    try simp only [Nat.zero_add, List.nil_append] at fr2
    try simp only [Nat.zero_add]
    have H2 := Lib.hid own2
    have HB := Lib.hid ((Below.refl (W.setCell ⟨p, 2, none⟩ (.int .i64 ((pos : Int) + (8 + (ys.length : Int))))).heap.size _).grown grow2 (Nat.le_refl _) (by intro k hk; simp [Value.ownBlock] at hk))
    have HF : Hid (∀ k, (Value.slice q2 ys.length k2).ownBlock = some k → w.heap.size ≤ k) := fun k hk => by
      rcases fr2 with e | e
      · rw [show (Value.slice q2 ys.length k2).ownBlock = none from e] at hk; simp at hk
      · rw [show (Value.slice q2 ys.length k2).ownBlock = some _ from e] at hk
        have := hsz.out
        simp at hk
        omega
    clear own2 grow2 fr2 c2 f2
    go_wp2_with fail
    go_ret
    exact ⟨_, _, rfl, H2.out, HP.out.on HB.out, HPc.out.trans (Chg.below HB.out (Nat.le_refl _) []) (fun _ h => by cases h), HF.out⟩

/-! ### With errors -/
theorem Uint_bad {w : World} {p : Nat} (h : RrF w p) :
    Calls Tryd.prog 111 #[.pointer (some ⟨p, 0, none⟩)] w fun e w' => e = .returned (.int .u64 0) ∧ RrF w' p ∧ Chg w w' [p] := by
  have H := Lib.hid h
  clear h
  go_enter Tryd.func111, Tryd.ntmps111
  go_wp2_with fail
  refine (ready_bad H.out).mono ?_
  rintro e w1 ⟨rfl, rfl⟩
  go_wp2_with fail
  go_ret
  exact ⟨rfl, H.out, Chg.refl _ _⟩
theorem Uint_end {w : World} {p : Nat} {v : Value} {xs : List Int} {pos : Nat} (h : RrV w p v xs pos) (hf : xs.length < pos + 8) :
    Calls Tryd.prog 111 #[.pointer (some ⟨p, 0, none⟩)] w fun e w' => e = .returned (.int .u64 0) ∧ RrF w' p ∧ Chg w w' [p] := by
  have H := Lib.hid h
  clear h
  go_enter Tryd.func111, Tryd.ntmps111
  go_wp2_with fail
  refine (ready_ok H.out).mono ?_
  rintro e w1 ⟨rfl, rfl⟩
  go_wp2_with fail
  refine (lookUint_bad H.out hf).mono ?_
  rintro e w1 ⟨rfl, hF, hC⟩
  have HF := Lib.hid hF
  have HC := Lib.hid hC
  clear hF hC
  go_wp2_with fail
  go_ret
  exact ⟨rfl, HF.out, HC.out⟩
theorem Blob_bad {w : World} {p : Nat} (h : RrF w p) :
    Calls Tryd.prog 113 #[.pointer (some ⟨p, 0, none⟩)] w fun e w' => e = .returned (.slice none 0 0) ∧ RrF w' p ∧ Chg w w' [p] := by
  have H := Lib.hid h
  clear h
  go_enter Tryd.func113, Tryd.ntmps113
  go_wp2_with fail
  refine (ready_bad H.out).mono ?_
  rintro e w1 ⟨rfl, rfl⟩
  go_wp2_with fail
  go_ret
  exact ⟨rfl, H.out, Chg.refl _ _⟩
theorem Blob_end {w : World} {p : Nat} {v : Value} {xs : List Int} {pos : Nat} (h : RrV w p v xs pos) (hf : xs.length < pos + 8) :
    Calls Tryd.prog 113 #[.pointer (some ⟨p, 0, none⟩)] w fun e w' => e = .returned (.slice none 0 0) ∧ RrF w' p ∧ Chg w w' [p] := by
  have H := Lib.hid h
  clear h
  go_enter Tryd.func113, Tryd.ntmps113
  go_wp2_with fail
  refine (ready_ok H.out).mono ?_
  rintro e w1 ⟨rfl, rfl⟩
  go_wp2_with fail
  refine (lookUint_bad H.out hf).mono ?_
  rintro e w1 ⟨rfl, hF, hC⟩
  have HF := Lib.hid hF
  have HC := Lib.hid hC
  clear hF hC
  go_wp2_with fail
  go_ret
  exact ⟨rfl, HF.out, HC.out⟩
set_option maxHeartbeats 2000000 in
theorem Blob_big {w : World} {p : Nat} {v : Value} {xs : List Int} {pos : Nat} (h : RrV w p v xs pos) (hx : Bytes xs) (hf : pos + 8 ≤ xs.length) (hz : 65536 < num ((xs.drop pos).take 8)) :
    Calls Tryd.prog 113 #[.pointer (some ⟨p, 0, none⟩)] w fun e w' => e = .returned (.slice none 0 0) ∧ RrF w' p ∧ Chg w w' [p] := by
  have H := Lib.hid h
  have HX := Lib.hid hx
  clear h hx
  go_enter Tryd.func113, Tryd.ntmps113
  go_wp2_with fail
  refine (ready_ok H.out).mono ?_
  rintro e w1 ⟨rfl, rfl⟩
  go_wp2_with fail
  refine (lookUint_ok H.out HX.out hf).mono ?_
  rintro e w2 ⟨m, rfl, rfl⟩
  have H1 := Lib.hid (H.out.drewN m)
  have HF : Hid (RrF ((w.drewN m).setCell ⟨p, 3, none⟩ (.int .i64 21)) p) := H1.out.fail (by decide)
  have HC : Hid (Chg w ((w.drewN m).setCell ⟨p, 3, none⟩ (.int .i64 21)) [p]) := (show Chg w (w.drewN m) [p] from ⟨rfl, rfl, rfl, Nat.le_refl _, fun _ _ _ => rfl⟩).setCell (.inl (by simp)) _
  obtain ⟨-, -, -, c3, -, f3⟩ := H1.out.cells
  generalize num ((xs.drop pos).take 8) = z at *
  clear H H1
  go_wp2_with fail
  go_ret
  exact ⟨rfl, HF.out, HC.out⟩
set_option maxHeartbeats 2000000 in
theorem Blob_short {w : World} {p : Nat} {v : Value} {xs : List Int} {pos z : Nat} (h : RrV w p v xs pos) (hx : Bytes xs) (hf : pos + 8 ≤ xs.length) (hz : num ((xs.drop pos).take 8) = z) (hzm : z ≤ 65536) (hs : xs.length < pos + (8 + z)) :
    Calls Tryd.prog 113 #[.pointer (some ⟨p, 0, none⟩)] w fun e w' => e = .returned (.slice none 0 0) ∧ RrF w' p ∧ Chg w w' [p] := by
  have H := Lib.hid h
  have HX := Lib.hid hx
  have hzI : ¬ (65536 : Int) < (z : Int) := by omega
  clear h hx
  go_enter Tryd.func113, Tryd.ntmps113
  go_wp2_with fail
  refine (ready_ok H.out).mono ?_
  rintro e w1 ⟨rfl, rfl⟩
  go_wp2_with fail
  refine (lookUint_ok H.out HX.out hf).mono ?_
  rintro e w2 ⟨m, rfl, rfl⟩
  rw [hz]
  have H1 := Lib.hid (H.out.drewN m)
  go_wp2_with fail
  rw [show (8 + (z : Int)) = ((8 + z : Nat) : Int) from by push_cast; rfl]
  refine (look_bad H1.out (n := 8 + z) (by omega) hs).mono ?_
  rintro e w3 ⟨rfl, hF, hC⟩
  have HF := Lib.hid hF
  have HC : Hid (Chg w w3 [p]) := (show Chg w (w.drewN m) [p] from ⟨rfl, rfl, rfl, Nat.le_refl _, fun _ _ _ => rfl⟩).trans hC (fun x hx _ => hx)
  clear hF hC
  go_wp2_with fail
  go_ret
  exact ⟨rfl, HF.out, HC.out⟩
def wz : Array Value := #[.int .u64 0, .int .u64 0, .int .u64 0, .int .u64 0]
set_option maxHeartbeats 2000000 in
theorem Wide_bad {w : World} {p : Nat} (h : RrF w p) :
    Calls Tryd.prog 112 #[.pointer (some ⟨p, 0, none⟩)] w fun e w' => e = .returned (.agg #[.int .u64 0, .int .u64 0, .int .u64 0, .int .u64 0]) ∧ RrF w' p ∧ Chg w w' [p] := by
  have b0 : Below w.heap.size w (w.alloc (.cells #[.int .u64 0, .int .u64 0, .int .u64 0, .int .u64 0] 24)) := (Below.refl _ _).alloc (Nat.le_refl _) _
  have R0 := heap_alloc_new w (.cells #[.int .u64 0, .int .u64 0, .int .u64 0, .int .u64 0] 24)
  have H := Lib.hid (h.on b0)
  have hpl := h.lt
  have C0 : Hid (Chg w (w.alloc (.cells #[.int .u64 0, .int .u64 0, .int .u64 0, .int .u64 0] 24)) [p]) := Chg.below b0 (Nat.le_refl _) [p]
  clear h b0
  go_enter Tryd.func112, Tryd.ntmps112
  go_wp2_with fail
  generalize w.alloc (.cells #[.int .u64 0, .int .u64 0, .int .u64 0, .int .u64 0] 24) = W0 at *
  refine (ready_bad H.out).mono ?_
  rintro e w1 ⟨rfl, rfl⟩
  have c0 := (Joins.cell_of_block R0 0).trans (rfl : _ = some _)
  have c1 := (Joins.cell_of_block R0 1).trans (rfl : _ = some _)
  have c2 := (Joins.cell_of_block R0 2).trans (rfl : _ = some _)
  have c3 := (Joins.cell_of_block R0 3).trans (rfl : _ = some _)
  have f0 := Joins.unfrozen_of_block R0 0
  have f1 := Joins.unfrozen_of_block R0 1
  have f2 := Joins.unfrozen_of_block R0 2
  have f3 := Joins.unfrozen_of_block R0 3
  have cS : Chg W0 ((((W0.setCell ⟨w.heap.size, 0, none⟩ (.int .u64 0)).setCell ⟨w.heap.size, 1, none⟩ (.int .u64 0)).setCell ⟨w.heap.size, 2, none⟩ (.int .u64 0)).setCell ⟨w.heap.size, 3, none⟩ (.int .u64 0)) [w.heap.size] := ((((Chg.refl W0 [w.heap.size]).setCell (p := ⟨w.heap.size, 0, none⟩) (.inl (by simp)) _).setCell (p := ⟨w.heap.size, 1, none⟩) (.inl (by simp)) _).setCell (p := ⟨w.heap.size, 2, none⟩) (.inl (by simp)) _).setCell (p := ⟨w.heap.size, 3, none⟩) (.inl (by simp)) _
  have HF : Hid (RrF ((((W0.setCell ⟨w.heap.size, 0, none⟩ (.int .u64 0)).setCell ⟨w.heap.size, 1, none⟩ (.int .u64 0)).setCell ⟨w.heap.size, 2, none⟩ (.int .u64 0)).setCell ⟨w.heap.size, 3, none⟩ (.int .u64 0)) p) := by
    have hlt := H.out.lt
    obtain ⟨v, pos, f, h1, h2⟩ := H.out
    exact ⟨v, pos, f, h1, by rw [cS.block p hlt (by simp; omega)]; exact h2⟩
  have HC : Hid (Chg w ((((W0.setCell ⟨w.heap.size, 0, none⟩ (.int .u64 0)).setCell ⟨w.heap.size, 1, none⟩ (.int .u64 0)).setCell ⟨w.heap.size, 2, none⟩ (.int .u64 0)).setCell ⟨w.heap.size, 3, none⟩ (.int .u64 0)) [p]) := C0.out.trans cS (fun x hx hl => by simp at hx; omega)
  clear cS R0
  go_wp2_with fail
  refine bodyPost_ret (v := .agg #[.int .u64 0, .int .u64 0, .int .u64 0, .int .u64 0]) (by simp [results, Tryd.results112, go_sem, c0, c1, c2, c3]) rfl ⟨rfl, HF.out, HC.out⟩
set_option maxHeartbeats 2000000 in
theorem Wide_end {w : World} {p : Nat} {v : Value} {xs : List Int} {pos : Nat} (h : RrV w p v xs pos) (hf : xs.length < pos + 32) :
    Calls Tryd.prog 112 #[.pointer (some ⟨p, 0, none⟩)] w fun e w' => e = .returned (.agg #[.int .u64 0, .int .u64 0, .int .u64 0, .int .u64 0]) ∧ RrF w' p ∧ Chg w w' [p] := by
  have b0 : Below w.heap.size w (w.alloc (.cells #[.int .u64 0, .int .u64 0, .int .u64 0, .int .u64 0] 24)) := (Below.refl _ _).alloc (Nat.le_refl _) _
  have R9 := heap_alloc_new w (.cells #[.int .u64 0, .int .u64 0, .int .u64 0, .int .u64 0] 24)
  have H9 := Lib.hid (h.on b0)
  have hpl := h.lt
  have C9 : Hid (Chg w (w.alloc (.cells #[.int .u64 0, .int .u64 0, .int .u64 0, .int .u64 0] 24)) [p]) := Chg.below b0 (Nat.le_refl _) [p]
  clear h b0
  go_enter Tryd.func112, Tryd.ntmps112
  go_wp2_with fail
  generalize w.alloc (.cells #[.int .u64 0, .int .u64 0, .int .u64 0, .int .u64 0] 24) = w0 at *
  refine (ready_ok H9.out).mono ?_
  rintro e w1 ⟨rfl, rfl⟩
  go_wp2_with fail
  refine (look_bad H9.out (n := 32) (by omega) hf).mono ?_
  rintro e W0 ⟨rfl, hF, hC⟩
  have R0 : W0.heap[w.heap.size]? = some (.cells #[.int .u64 0, .int .u64 0, .int .u64 0, .int .u64 0] 24 (0, 0)) := by
    rw [hC.block _ (Array.getElem?_eq_some_iff.1 R9).1 (by simp; omega)]; exact R9
  have H := Lib.hid hF
  have C0 : Hid (Chg w W0 [p]) := C9.out.trans hC (fun x hx _ => hx)
  clear hF hC R9 H9 C9
  have c0 := (Joins.cell_of_block R0 0).trans (rfl : _ = some _)
  have c1 := (Joins.cell_of_block R0 1).trans (rfl : _ = some _)
  have c2 := (Joins.cell_of_block R0 2).trans (rfl : _ = some _)
  have c3 := (Joins.cell_of_block R0 3).trans (rfl : _ = some _)
  have f0 := Joins.unfrozen_of_block R0 0
  have f1 := Joins.unfrozen_of_block R0 1
  have f2 := Joins.unfrozen_of_block R0 2
  have f3 := Joins.unfrozen_of_block R0 3
  have cS : Chg W0 ((((W0.setCell ⟨w.heap.size, 0, none⟩ (.int .u64 0)).setCell ⟨w.heap.size, 1, none⟩ (.int .u64 0)).setCell ⟨w.heap.size, 2, none⟩ (.int .u64 0)).setCell ⟨w.heap.size, 3, none⟩ (.int .u64 0)) [w.heap.size] := ((((Chg.refl W0 [w.heap.size]).setCell (p := ⟨w.heap.size, 0, none⟩) (.inl (by simp)) _).setCell (p := ⟨w.heap.size, 1, none⟩) (.inl (by simp)) _).setCell (p := ⟨w.heap.size, 2, none⟩) (.inl (by simp)) _).setCell (p := ⟨w.heap.size, 3, none⟩) (.inl (by simp)) _
  have HF : Hid (RrF ((((W0.setCell ⟨w.heap.size, 0, none⟩ (.int .u64 0)).setCell ⟨w.heap.size, 1, none⟩ (.int .u64 0)).setCell ⟨w.heap.size, 2, none⟩ (.int .u64 0)).setCell ⟨w.heap.size, 3, none⟩ (.int .u64 0)) p) := by
    have hlt := H.out.lt
    obtain ⟨v, pos, f, h1, h2⟩ := H.out
    exact ⟨v, pos, f, h1, by rw [cS.block p hlt (by simp; omega)]; exact h2⟩
  have HC : Hid (Chg w ((((W0.setCell ⟨w.heap.size, 0, none⟩ (.int .u64 0)).setCell ⟨w.heap.size, 1, none⟩ (.int .u64 0)).setCell ⟨w.heap.size, 2, none⟩ (.int .u64 0)).setCell ⟨w.heap.size, 3, none⟩ (.int .u64 0)) [p]) := C0.out.trans cS (fun x hx hl => by simp at hx; omega)
  clear cS R0
  go_wp2_with fail
  refine bodyPost_ret (v := .agg #[.int .u64 0, .int .u64 0, .int .u64 0, .int .u64 0]) (by simp [results, Tryd.results112, go_sem, c0, c1, c2, c3]) rfl ⟨rfl, HF.out, HC.out⟩
end Go.Proofs.YtcpoaalhpjipaaaDoor
namespace Go.Proofs.YtcpoaalhpjipaaaDoor

theorem wpAnyH_strong {P : Program} {md : Region.Mode} {ops : Array Oper} {Q : Exit → Act → World → Prop} {S S' : World → Prop} (hS : ∀ w, S' w → S w) : ∀ {fuel : Nat} {listed : Array Bool} {a : Act} {w : World}, wpAnyH P md ops Q S' fuel listed a w → wpAnyH P md ops Q S fuel listed a w
  | 0, _, _, _, h => h
  | _ + 1, _, _, _, h => ⟨h.1, fun i hi => wpOp_mono (fun _ _ h' => ⟨hS _ h'.1, wpAnyH_strong hS h'.2⟩) (h.2 i hi)⟩
end Go.Proofs.YtcpoaalhpjipaaaDoor
