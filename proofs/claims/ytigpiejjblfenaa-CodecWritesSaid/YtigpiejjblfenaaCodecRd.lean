/-
  The reader's Uint, Wide and Hash, while there is enough to be read.
-/
import Derived.Test.YtigpiejjblfenaaCodecR
import Derived.Test.YtigpiejjblfenaaCodecWd
import Derived.Test.YtigpiejjblfenaaCodecH
import Derived.Test.YtigpiejjblfenaaFromO
import Derived.Test.YtigpiejjblfenaaCodecP
import Derived.Laws.Cover3
import Derived.RangeFuncOwn
namespace Go.Proofs.Ytigpiejjblfenaa
set_option maxRecDepth 100000
open Go.RowKit

theorem size_setCell (w : World) (a : Addr) (v : Value) : (w.setCell a v).heap.size = w.heap.size := by simp [World.setCell]
theorem HashAt.there {w : World} {b : Nat} {G : List Int} (h : HashAt w b G) (hG : G.length = 32) : w.there b 0 32 := fun j hj => by
  refine ⟨?_, Joins.unfrozen_of_block h _⟩
  rw [cell_of_row _ _ _ _ _ _ h]
  simp [hc_len, hG, hj]
theorem HashAt.put {w : World} {b : Nat} {G : List Int} (h : HashAt w b G) (hG : G.length = 32) {F : List Int} (hF : F.length = 32) : HashAt (w.setCells b 0 (hc F)) b F := by
  have := setCells_block (b := b) (t := 47) (fr := (0, 0)) (hc F) (o := 0) (w := w) (pre := []) (mid := hc G) (post := []) (by simp only [List.nil_append, List.append_nil]; exact h) rfl (by rw [hc_len, hc_len, hF, hG])
  simpa only [HashAt, List.nil_append, List.append_nil] using this
theorem chg_setCells (b : Nat) : ∀ (vs : List Value) (o : Nat) {a w : World}, Chg a w [b] → Chg a (w.setCells b o vs) [b]
  | [], _, _, _, h => h
  | v :: vs, o, _, _, h => chg_setCells b vs (o + 1) (h.setCell (p := ⟨b, o, none⟩) (.inl (by simp)) v)
theorem rowOf_cells {w : World} {b o : Nat} {F : List Int} (h : ∀ i, i < F.length → w.cell? ⟨b, o + i, none⟩ = some (.int .u8 (F.getD i 0))) : rowOf w b o F.length = hc F := by
  by_cases h0 : F.length = 0
  · obtain rfl := List.eq_nil_of_length_eq_zero h0
    unfold rowOf
    split <;> simp [hc]
  · obtain ⟨x, hb, hx⟩ := cells_of_cell (h 0 (by omega))
    obtain ⟨cs, t, fr, rfl⟩ : ∃ cs t fr, x = .cells cs t fr := by
      cases x <;> first | exact ⟨_, _, _, rfl⟩ | simp [Obj.isCells] at hx
    rw [rowOf_block hb]
    apply List.ext_getElem?
    intro i
    by_cases hi : i < F.length
    · have := h i hi
      rw [Joins.cell_of_block hb] at this
      have e1 : (cs.extract o (o + F.length)).toList[i]? = cs[o + i]? := by
        simp [List.getElem?_take, List.getElem?_drop, hi]
      rw [e1, this]
      simp [hc, List.getD, hi]
    · have hs : cs.size ≥ o + F.length := by
        have := h (F.length - 1) (by omega)
        rw [Joins.cell_of_block hb] at this
        have := (Array.getElem?_eq_some_iff.1 this).1
        omega
      rw [List.getElem?_eq_none (by simp; omega), List.getElem?_eq_none (by rw [hc_len]; omega)]
theorem RrV.drewN {w : World} {p : Nat} {v : Value} {xs : List Int} {pos : Nat} (h : RrV w p v xs pos) (m : Nat) : RrV (w.drewN m) p v xs pos := ⟨h.blk, h.own, h.le, h.len⟩

set_option maxHeartbeats 1000000 in
theorem RUint_ok {w : World} {p : Nat} {v : Value} {xs : List Int} {pos : Nat} (h : RrV w p v xs pos) (hx : Bytes xs) (hf : pos + 8 ≤ xs.length) {z : Int} (hz : num ((xs.drop pos).take 8) = z) :
    Calls Try.prog 14 #[.pointer (some ⟨p, 0, none⟩)] w fun e w' => e = .returned (.int .u64 z) ∧ RrV w' p v xs (pos + 8) ∧ Chg w w' [p] := by
  have H := Lib.hid h
  have HX := Lib.hid hx
  have hlen := h.len
  clear h hx
  go_enter Try.func14, Try.ntmps14
  go_wp2_with fail
  refine (ready_ok H.out).mono ?_
  rintro e w1 ⟨rfl, rfl⟩
  go_wp2_with fail
  refine (lookUint_ok H.out HX.out hf).mono ?_
  rintro e w1 ⟨m, rfl, rfl⟩
  rw [hz]
  clear hz
  have H1 := Lib.hid (H.out.drewN m)
  obtain ⟨-, -, c2, -, f2, -⟩ := H1.out.cells
  have HP : Hid (RrV ((w.drewN m).setCell ⟨p, 2, none⟩ (.int .i64 ((pos : Int) + 8))) p v xs (pos + 8)) := by
    have := H1.out.pass (q := pos + 8) hf
    rw [show ((pos + 8 : Nat) : Int) = (pos : Int) + 8 by push_cast; rfl] at this
    exact this
  have HC : Hid (Chg w ((w.drewN m).setCell ⟨p, 2, none⟩ (.int .i64 ((pos : Int) + 8))) [p]) :=
    (show Chg w (w.drewN m) [p] from ⟨rfl, rfl, rfl, Nat.le_refl _, fun _ _ _ => rfl⟩).setCell (.inl (by simp)) _
  go_wp2_with fail
  go_ret
  exact ⟨rfl, HP.out, HC.out⟩

set_option maxHeartbeats 2000000 in
theorem RWide_ok {w : World} {p : Nat} {v : Value} {xs : List Int} {pos : Nat} (h : RrV w p v xs pos) {x : W4} (hd4 : D4 x.a x.b x.c x.d) (hf : pos + 32 ≤ xs.length) (hy : (xs.drop pos).take 32 = x.bytes) :
    Calls Try.prog 15 #[.pointer (some ⟨p, 0, none⟩)] w fun e w' => e = .returned (.agg #[.int .u64 x.a, .int .u64 x.b, .int .u64 x.c, .int .u64 x.d]) ∧ RrV w' p v xs (pos + 32) ∧ Chg w w' [p] := by
  have hb0 : Below w.heap.size w (w.alloc (.cells #[.int .u64 0, .int .u64 0, .int .u64 0, .int .u64 0] 44)) := (Below.refl _ _).alloc (Nat.le_refl _) _
  have B0 := Lib.hid hb0
  have R0 := Lib.hid (heap_alloc_new w (.cells #[.int .u64 0, .int .u64 0, .int .u64 0, .int .u64 0] 44))
  have H := Lib.hid (h.on hb0)
  have hpl := h.lt
  have hlen := h.len
  have HV : Hid (∀ g, v.ownBlock = some g → g < w.heap.size) := fun g hg => own_lt h.own hg
  have HG : Hid (∀ i, i < 32 → xs.getD (pos + i) 0 = by_ (V x.a x.b x.c x.d) (31 - i)) := fun i hi => by
    have e1 : ((xs.drop pos).take 32).getD i 0 = xs.getD (pos + i) 0 := by simp [List.getD, hi]
    rw [← e1, hy]
    unfold W4.bytes
    rw [bys_at _ i hi]
  have HD := Lib.hid hd4
  clear h hy hb0 hd4
  go_enter Try.func15, Try.ntmps15
  go_wp2_with fail
  refine (ready_ok H.out).mono ?_
  rintro e w1 ⟨rfl, rfl⟩
  generalize hW0 : w.alloc (.cells #[.int .u64 0, .int .u64 0, .int .u64 0, .int .u64 0] 44) = W0 at *
  have hs0 : W0.heap.size = w.heap.size + 1 := by rw [← hW0]; simp
  clear hW0
  go_wp2_with fail
  refine (look_ok H.out (n := 32) (by omega) hf).mono ?_
  rintro e w2 ⟨b, off, c, m, rfl, hvb, hc8, hcell, rfl⟩
  have H1 := Lib.hid (H.out.drewN m)
  obtain ⟨-, -, c2, -, f2, -⟩ := H1.out.cells
  have hbp : b ≠ p := fun e => H.out.ne (by rw [hvb, e])
  have HP : Hid (RrV ((W0.drewN m).setCell ⟨p, 2, none⟩ (.int .i64 ((pos : Int) + 32))) p v xs (pos + 32)) := by
    have := H1.out.pass (q := pos + 32) hf
    rw [show ((pos + 32 : Nat) : Int) = (pos : Int) + 32 by push_cast; rfl] at this
    exact this
  have HC : Hid (Chg w ((W0.drewN m).setCell ⟨p, 2, none⟩ (.int .i64 ((pos : Int) + 32))) [p]) :=
    ((Chg.below B0.out (Nat.le_refl _) [p]).trans (show Chg W0 (W0.drewN m) [p] from ⟨rfl, rfl, rfl, Nat.le_refl _, fun _ _ _ => rfl⟩) (fun x hx _ => hx)).setCell (.inl (by simp)) _
  have HCe : Hid (∀ i, i < 32 → ((W0.drewN m).setCell ⟨p, 2, none⟩ (.int .i64 ((pos : Int) + 32))).cell? ⟨b, off + i, none⟩ = some (.int .u8 (by_ (V x.a x.b x.c x.d) (31 - i)))) := fun i hi => by
    rw [World.cell?_of_block (w := W0.drewN m) (Below.heap_setCell _ _ _ _ hbp), ← HG.out i hi]
    exact hcell i hi
  have R1 : Hid (((W0.drewN m).setCell ⟨p, 2, none⟩ (.int .i64 ((pos : Int) + 32))).heap[w.heap.size]? = some (.cells #[.int .u64 0, .int .u64 0, .int .u64 0, .int .u64 0] 44 (0, 0))) := by
    show _ = _
    rw [Below.heap_setCell _ _ _ _ (by show w.heap.size ≠ p; omega)]; exact R0.out
  have hblt : b < ((W0.drewN m).setCell ⟨p, 2, none⟩ (.int .i64 ((pos : Int) + 32))).heap.size := lt_of_cell (HCe.out 0 (by omega))
  clear hcell H1 H B0 R0 HG hvb
  go_wp2_with fail
  generalize (W0.drewN m).setCell ⟨p, 2, none⟩ (.int .i64 ((pos : Int) + 32)) = W at *
  refine (From_any (By_by (V x.a x.b x.c x.d)) W b off c hblt HCe.out).mono ?_
  rintro e w3 ⟨_, _, _, _, _, rfl, ⟨rfl, rfl, rfl, rfl, rfl⟩, hb3⟩
  obtain ⟨e0, e1, e2, e3⟩ := pd_V HD.out
  rw [e0, e1, e2, e3]
  have R3 := R1.out
  rw [← hb3.block _ (lt_of_block R3)] at R3
  have HP3 := Lib.hid (HP.out.on hb3)
  have HC3 := Lib.hid (HC.out.trans (Chg.below hb3 (Nat.le_refl _) [p]) (fun x hx _ => hx))
  have hlt3 := lt_of_block R3
  have c0 : w3.cell? ⟨w.heap.size, 0, none⟩ = some (.int .u64 0) := Joins.cell_of_block R3 0
  have c1 : w3.cell? ⟨w.heap.size, 1, none⟩ = some (.int .u64 0) := Joins.cell_of_block R3 1
  have c2 : w3.cell? ⟨w.heap.size, 2, none⟩ = some (.int .u64 0) := Joins.cell_of_block R3 2
  have c3 : w3.cell? ⟨w.heap.size, 3, none⟩ = some (.int .u64 0) := Joins.cell_of_block R3 3
  have f0 := Joins.unfrozen_of_block R3 0
  have f1 := Joins.unfrozen_of_block R3 1
  have f2' := Joins.unfrozen_of_block R3 2
  have f3 := Joins.unfrozen_of_block R3 3
  have hne : w.heap.size ≠ w3.heap.size := by omega
  have hpn : p ≠ w.heap.size := by omega
  clear e0 e1 e2 e3 HP HC R1 HCe hb3 R3
  go_wp2_with fail
  have X1 : Chg w3 (((((w3.setCell ⟨w.heap.size, 0, none⟩ (.int .u64 x.a)).setCell ⟨w.heap.size, 1, none⟩ (.int .u64 x.b)).setCell ⟨w.heap.size, 2, none⟩ (.int .u64 x.c)).setCell ⟨w.heap.size, 3, none⟩ (.int .u64 x.d)).alloc (.cells #[.int .u64 x.a, .int .u64 x.b, .int .u64 x.c, .int .u64 x.d] 44)) [w.heap.size] :=
    (((((Chg.refl w3 [w.heap.size]).setCell (p := ⟨w.heap.size, 0, none⟩) (.inl (by simp)) _).setCell (p := ⟨w.heap.size, 1, none⟩) (.inl (by simp)) _).setCell (p := ⟨w.heap.size, 2, none⟩) (.inl (by simp)) _).setCell (p := ⟨w.heap.size, 3, none⟩) (.inl (by simp)) _).trans (Chg.below ((Below.refl _ _).alloc (Nat.le_refl _) _) (Nat.le_refl _) [w.heap.size]) (fun x hx _ => hx)
  have hsz : ((((w3.setCell ⟨w.heap.size, 0, none⟩ (.int .u64 x.a)).setCell ⟨w.heap.size, 1, none⟩ (.int .u64 x.b)).setCell ⟨w.heap.size, 2, none⟩ (.int .u64 x.c)).setCell ⟨w.heap.size, 3, none⟩ (.int .u64 x.d)).heap.size = w3.heap.size := by simp only [size_setCell]
  refine bodyPost_ret (v := .agg #[.int .u64 x.a, .int .u64 x.b, .int .u64 x.c, .int .u64 x.d]) (by simp [results, Try.results15, go_sem, c0, c1, c2, c3, hlt3, hsz]) rfl ⟨rfl, HP3.out.chg X1 (by simpa using hpn) (fun g hg hm => by have := HV.out g hg; simp at hm; omega), HC3.out.trans X1 (fun y hy hl => by simp at hy; omega)⟩

set_option maxHeartbeats 2000000 in
theorem RHash_ok {w : World} {p : Nat} {v : Value} {xs : List Int} {pos : Nat} (h : RrV w p v xs pos) {ys : List Int} (hl : ys.length = 32) (hf : pos + 32 ≤ xs.length) (hy : (xs.drop pos).take 32 = ys) :
    Calls Try.prog 16 #[.pointer (some ⟨p, 0, none⟩)] w fun e w' => e = .returned (.agg (hc ys).toArray) ∧ RrV w' p v xs (pos + 32) ∧ Chg w w' [p] := by
  have hb0 : Below w.heap.size w (w.alloc (.cells (hc zero32).toArray 47)) := (Below.refl _ _).alloc (Nat.le_refl _) _
  have B0 := Lib.hid hb0
  have R0 := Lib.hid (HashAt.new w zero32)
  have H := Lib.hid (h.on hb0)
  have hpl := h.lt
  have hlen := h.len
  have HV : Hid (∀ g, v.ownBlock = some g → g < w.heap.size) := fun g hg => own_lt h.own hg
  have HG : Hid (∀ i, i < 32 → xs.getD (pos + i) 0 = ys.getD i 0) := fun i hi => by
    rw [← hy]; simp [List.getD, hi]
  clear h hy hb0
  go_enter Try.func16, Try.ntmps16
  go_wp2_with fail
  refine (ready_ok H.out).mono ?_
  rintro e w1 ⟨rfl, rfl⟩
  generalize hW0 : w.alloc (.cells (hc zero32).toArray 47) = W0 at *
  have hs0 : W0.heap.size = w.heap.size + 1 := by rw [← hW0]; simp
  clear hW0
  go_wp2_with fail
  refine (look_ok H.out (n := 32) (by omega) hf).mono ?_
  rintro e w2 ⟨b, off, c, m, rfl, hvb, hc8, hcell, rfl⟩
  have H1 := Lib.hid (H.out.drewN m)
  obtain ⟨-, -, c2, -, f2, -⟩ := H1.out.cells
  have hbp : b ≠ p := fun e => H.out.ne (by rw [hvb, e])
  have hbs := HV.out b hvb
  have HP : Hid (RrV ((W0.drewN m).setCell ⟨p, 2, none⟩ (.int .i64 ((pos : Int) + 32))) p v xs (pos + 32)) := by
    have := H1.out.pass (q := pos + 32) hf
    rw [show ((pos + 32 : Nat) : Int) = (pos : Int) + 32 by push_cast; rfl] at this
    exact this
  have HC : Hid (Chg w ((W0.drewN m).setCell ⟨p, 2, none⟩ (.int .i64 ((pos : Int) + 32))) [p]) :=
    ((Chg.below B0.out (Nat.le_refl _) [p]).trans (show Chg W0 (W0.drewN m) [p] from ⟨rfl, rfl, rfl, Nat.le_refl _, fun _ _ _ => rfl⟩) (fun x hx _ => hx)).setCell (.inl (by simp)) _
  have HCe : Hid (∀ i, i < 32 → ((W0.drewN m).setCell ⟨p, 2, none⟩ (.int .i64 ((pos : Int) + 32))).cell? ⟨b, off + i, none⟩ = some (.int .u8 (ys.getD i 0))) := fun i hi => by
    rw [World.cell?_of_block (w := W0.drewN m) (Below.heap_setCell _ _ _ _ hbp), ← HG.out i hi]
    exact hcell i hi
  have R1 : Hid (HashAt ((W0.drewN m).setCell ⟨p, 2, none⟩ (.int .i64 ((pos : Int) + 32))) w.heap.size zero32) := by
    show _ = _
    rw [Below.heap_setCell _ _ _ _ (by show w.heap.size ≠ p; omega)]; exact R0.out
  have hpn : p ≠ w.heap.size := by omega
  have R1h : HashAt ((W0.drewN m).setCell ⟨p, 2, none⟩ (.int .i64 ((pos : Int) + 32))) w.heap.size zero32 := R1.out
  have hrow : rowOf ((W0.drewN m).setCell ⟨p, 2, none⟩ (.int .i64 ((pos : Int) + 32))) b off 32 = hc ys := by
    have hR := rowOf_cells (w := (W0.drewN m).setCell ⟨p, 2, none⟩ (.int .i64 ((pos : Int) + 32))) (b := b) (o := off) (F := ys) (fun i hi => HCe.out i (by omega))
    rw [hl] at hR
    exact hR
  have hlen2 : (hc ys).length = 32 := by rw [hc_len, hl]
  have hth := R1h.there zero32_len
  have hput := (R1h.put zero32_len hl).row hl
  have X1 : Hid (Chg ((W0.drewN m).setCell ⟨p, 2, none⟩ (.int .i64 ((pos : Int) + 32))) (((W0.drewN m).setCell ⟨p, 2, none⟩ (.int .i64 ((pos : Int) + 32))).setCells w.heap.size 0 (hc ys)) [w.heap.size]) := chg_setCells w.heap.size (hc ys) 0 (Chg.refl _ _)
  have hR := run_arrayAt (P := Try.prog) (w := (W0.drewN m).setCell ⟨p, 2, none⟩ (.int .i64 ((pos : Int) + 32))) 47 5 32 (some ⟨b, off, none⟩) 32 c Try.underlying47 (Nat.le_refl _)
  clear hcell H1 H B0 R0 HG hvb R1 R1h HCe
  go_wp2_with fail
  refine bodyPost_ret (v := .agg (hc ys).toArray) (by simp [results, Try.results16, go_sem, hput, hl]) rfl ⟨rfl, HP.out.chg X1.out (by simpa using hpn) (fun g hg hm => by have := HV.out g hg; simp at hm; omega), HC.out.trans X1.out (fun y hy hl => by simp at hy; omega)⟩
end Go.Proofs.Ytigpiejjblfenaa
