/-
  Package smt: above, Root, New of no pairs, with and without of a map of one pair at most.
-/
import Derived.Test.YtjgfjmkfcippcaaDoorSmClimb
namespace Go.Proofs.YtjgfjmkfcippcaaDoor
open Go.RowKit
set_option maxRecDepth 100000

/-- A map: its block, its values, its top. -/
structure MpS (w : World) (p m : Nat) (es : Array MapEntry) (c : Nat) (top : Option Addr) : Prop where
  blk : w.heap[p]? = some (.cells #[.map (some m), .pointer top] 42 (0, 0))
  mp : w.heap[m]? = some (.map es c)
section
variable {w w' : World} {p m c : Nat} {es : Array MapEntry} {top : Option Addr}
theorem MpS.chg {S : List Nat} (h : MpS w p m es c top) (hc : Chg w w' S) (hp : p ∉ S) (hm : m ∉ S) : MpS w' p m es c top :=
  ⟨by rw [hc.block p (Array.getElem?_eq_some_iff.1 h.blk).1 hp]; exact h.blk, by rw [hc.block m (Array.getElem?_eq_some_iff.1 h.mp).1 hm]; exact h.mp⟩
theorem MpS.on (h : MpS w p m es c top) (hb : Below w.heap.size w w') : MpS w' p m es c top := h.chg (S := []) (Chg.below hb (Nat.le_refl _) []) (by simp) (by simp)
theorem MpS.alloc (h : MpS w p m es c top) (o : Obj) : MpS (w.alloc o) p m es c top := h.on ((Below.refl _ _).alloc (Nat.le_refl _) o)
theorem MpS.c0 (h : MpS w p m es c top) : w.cell? ⟨p, 0, none⟩ = some (.map (some m)) := (Joins.cell_of_block h.blk 0).trans rfl
theorem MpS.c1 (h : MpS w p m es c top) : w.cell? ⟨p, 1, none⟩ = some (.pointer top) := (Joins.cell_of_block h.blk 1).trans rfl
theorem MpS.lp (h : MpS w p m es c top) : p < w.heap.size := (Array.getElem?_eq_some_iff.1 h.blk).1
theorem MpS.lm (h : MpS w p m es c top) : m < w.heap.size := (Array.getElem?_eq_some_iff.1 h.mp).1
theorem MpS.ne (h : MpS w p m es c top) : p ≠ m := by
  rintro rfl
  have := h.blk
  rw [h.mp] at this
  simp at this
theorem MpS.setTop (h : MpS w p m es c top) (t : Option Addr) : MpS (w.setCell ⟨p, 1, none⟩ (.pointer t)) p m es c t := by
  refine ⟨?_, ?_⟩
  · have := setCells_block (b := p) (t := 42) (fr := (0, 0)) [.pointer t] (o := 1) (w := w) (pre := [.map (some m)]) (mid := [.pointer top]) (post := []) (by simpa using h.blk) rfl rfl
    simpa [World.setCells] using this
  · rw [Below.heap_setCell _ _ _ _ h.ne.symm]; exact h.mp
theorem MpS.putMap (h : MpS w p m es c top) (es' : Array MapEntry) (c' : Nat) : MpS (putMap w m es' c') p m es' c' top :=
  ⟨by rw [putMap_other h.ne]; exact h.blk, putMap_there h.lm⟩
theorem Chg.putMap {a w : World} {S : List Nat} (h : Chg a w S) {b : Nat} (hb : b ∈ S ∨ a.heap.size ≤ b) (es : Array MapEntry) (c : Nat) : Chg a (putMap w b es c) S :=
  ⟨h.os, h.tape, h.output, by rw [putMap_size]; exact h.size, fun k hk hn => by
    rw [putMap_other (fun e => by subst e; rcases hb with hb | hb; exact hn hb; omega)]; exact h.block k hk hn⟩
end

set_option maxHeartbeats 4000000 in
theorem above_nil {w : World} {p : Option Addr} {l : Int} : Calls Tryd.prog 52 #[.pointer p, .pointer none, .int .i64 l] w fun e w' => e = .returned (.agg (hc zero32).toArray) ∧ Below w.heap.size w w' := by
  have HZ := HashAt.new w zero32
  have hth := HZ.there zero32_len
  have hput := (HZ.put zero32_len zero32_len).row zero32_len
  have z32 := zero32_len
  have HX := Lib.hid (below_setCells' (B := w.heap.size) w.heap.size (Nat.le_refl _) (hc zero32) 0 ((Below.refl w.heap.size w).alloc (Nat.le_refl _) (.cells (hc zero32).toArray 23)))
  clear HZ
  go_enter Tryd.func52, Tryd.ntmps52
  go_wp2_with fail
  refine bodyPost_ret (v := .agg (hc zero32).toArray) (by simp [results, Tryd.results52, go_sem, hput, z32]) rfl ⟨rfl, HX.out⟩

set_option maxHeartbeats 8000000 in
theorem above_leaf {w : World} {p m b c : Nat} {n : Nd} {V : List Int} {top : Option Addr} (hT : Tbl w) (ok : n.ok) (hk : n.key = K1) (bK : Bytes K1) (hV : V.length = 32) (bV : Bytes V) (hf : n.fork = 256) (ht : n.told = false) (hkn : n.known = false) (hn : NdB w b n) (hM : MpS w p m (M1 (.agg (hc V).toArray)) c top) (hpb : p ≠ b) (hmb : m ≠ b) (hgb : 1 ∉ [b]) :
    Calls Tryd.prog 52 #[.pointer (some ⟨p, 0, none⟩), .pointer (some ⟨b, 0, none⟩), .int .i64 0] w fun e w' => e = .returned (.agg (hc (upH K1 256 (lfH K1 V) 256)).toArray) ∧ Chg w w' [b] ∧ ∃ n', n'.ok ∧ n'.fork = 256 ∧ NdB w' b n' := by
  have HZ := Lib.hid (HashAt.new w zero32)
  have B0 := Lib.hid ((Below.refl w.heap.size w).alloc (Nat.le_refl _) (.cells (hc zero32).toArray 23))
  have hbw : b < w.heap.size := hn.lt
  have hn1 := hn.alloc (.cells (hc zero32).toArray 23)
  have hM1 := hM.alloc (.cells (hc zero32).toArray 23)
  have KH := Lib.hid (climb_leaf (hT.on B0.out hT.pos) ok hk bK hV bV hf ht hn1 hM1.c0 hM1.mp hpb hmb hgb)
  have fk := (hn1.facts ok).2.2.2.2.2.1
  rw [hkn] at fk
  have OK := Lib.hid ok
  have HF := Lib.hid hf
  have HN := Lib.hid hn1
  clear hT hk bK hV bV hf ht hn hM hM1 hn1 hkn
  go_enter Tryd.func52, Tryd.ntmps52
  go_wp2_with fail
  refine KH.out.mono ?_
  rintro e w2 ⟨rfl, hc2, hn2⟩
  have hlF := lfH_len K1 V
  have lX := upH_len K1 256 hlF 256
  obtain ⟨X, hX⟩ : ∃ X, upH K1 256 (lfH K1 V) 256 = X := ⟨_, rfl⟩
  have HX := Lib.hid hX
  rw [hX] at lX ⊢
  clear hX
  have ok2 : Nd.ok { n with own := lfH K1 V, told := true } := ⟨OK.out.key, hlF, OK.out.high⟩
  have C2 := Lib.hid ((Chg.below B0.out (Nat.le_refl _) [b]).trans hc2 (fun x hx _ => hx))
  have Z2 := Lib.hid (HZ.out.chg hc2 (by simp; omega))
  have th2 := hn2.there ok2 (i := 68) (k := 32) (by omega)
  have N3 := Lib.hid (hn2.setHigh ok2 lX)
  have C3 := Lib.hid (C2.out.setCells (b := b) (.inl (by simp)) (hc X) 68)
  have Z3 := Lib.hid (Z2.out.others (k := b) (by omega) 68 (hc X))
  have ok3 : Nd.ok { n with own := lfH K1 V, told := true, high := X } := ⟨OK.out.key, hlF, lX⟩
  have t3 := (N3.out.facts ok3).2.2.2.2.1
  have u3 := N3.out.free 100
  have N4 := Lib.hid (N3.out.setLvl ok3 0)
  have C4 := Lib.hid (C3.out.setCell (p := ⟨b, 100, none⟩) (.inl (by simp)) (.int .i64 0))
  have Z4 := Lib.hid (Z3.out.other (a := ⟨b, 100, none⟩) (by simp; omega) (.int .i64 0))
  have ok4 : Nd.ok { n with own := lfH K1 V, told := true, high := X, lvl := 0 } := ⟨OK.out.key, hlF, lX⟩
  have t4 := (N4.out.facts ok4).2.2.2.2.2.1
  have u4 := N4.out.free 101
  have N5 := Lib.hid (N4.out.setKnown ok4 true)
  have C5 := Lib.hid (C4.out.setCell (p := ⟨b, 101, none⟩) (.inl (by simp)) (.bool true))
  have Z5 := Lib.hid (Z4.out.other (a := ⟨b, 101, none⟩) (by simp; omega) (.bool true))
  have ok5 : Nd.ok { n with own := lfH K1 V, told := true, high := X, lvl := 0, known := true } := ⟨OK.out.key, hlF, lX⟩
  have r5 := (N5.out.facts ok5).2.2.2.2.2.2.2.2
  have z5 := Z5.out.there zero32_len
  have hput := (Z5.out.put zero32_len lX).row lX
  have C6 := Lib.hid (C5.out.setCells (b := w.heap.size) (.inr (Nat.le_refl _)) (hc X) 0)
  have N6 := Lib.hid (N5.out.others (k := w.heap.size) (by omega) 0 (hc X))
  have OK5 := Lib.hid ok5
  have lxx := hc_len X
  clear hc2 hn2 C2 Z2 N3 C3 Z3 N4 C4 Z4 N5 C5 Z5 ok2 ok3 ok4 ok5 KH HN B0 HZ
  go_wp2_with fail
  refine bodyPost_ret (v := .agg (hc X).toArray) (by simp [results, Tryd.results52, go_sem, hput, lX]) rfl ⟨by rw [HX.out], C6.out, _, OK5.out, HF.out, N6.out⟩

set_option maxHeartbeats 4000000 in
theorem Root_nil {w : World} {p m c : Nat} {es : Array MapEntry} (hM : MpS w p m es c none) : Calls Tryd.prog 18 #[.pointer (some ⟨p, 0, none⟩)] w fun e w' => e = .returned (.agg (hc zero32).toArray) ∧ Below w.heap.size w w' := by
  have HZ := Lib.hid (HashAt.new w zero32)
  have B0 := Lib.hid ((Below.refl w.heap.size w).alloc (Nat.le_refl _) (.cells (hc zero32).toArray 23))
  have M1 := hM.alloc (.cells (hc zero32).toArray 23)
  have c0 := M1.c0
  have c1 := M1.c1
  have z32 := zero32_len
  clear hM M1
  go_enter Tryd.func18, Tryd.ntmps18
  go_wp2_with fail
  refine (made_yes c0).mono ?_
  rintro e wn ⟨rfl, h⟩
  obtain rfl := h.symm
  clear h
  go_wp2_with fail
  refine above_nil.mono ?_
  rintro e w2 ⟨rfl, hb2⟩
  have Z2 := Lib.hid (HZ.out.on hb2)
  have B2 := Lib.hid (B0.out.trans (hb2.mono B0.out.size))
  have hth := Z2.out.there zero32_len
  have hput := (Z2.out.put zero32_len zero32_len).row zero32_len
  have HX := Lib.hid (below_setCells' (B := w.heap.size) w.heap.size (Nat.le_refl _) (hc zero32) 0 B2.out)
  clear hb2 Z2 B2 B0 HZ c0 c1
  go_wp2_with fail
  refine bodyPost_ret (v := .agg (hc zero32).toArray) (by simp [results, Tryd.results18, go_sem, hput, z32]) rfl ⟨rfl, HX.out⟩

set_option maxHeartbeats 4000000 in
theorem Root_leaf {w : World} {p m b c : Nat} {n : Nd} {V : List Int} (hT : Tbl w) (ok : n.ok) (hk : n.key = K1) (bK : Bytes K1) (hV : V.length = 32) (bV : Bytes V) (hf : n.fork = 256) (ht : n.told = false) (hkn : n.known = false) (hn : NdB w b n) (hM : MpS w p m (M1 (.agg (hc V).toArray)) c (some ⟨b, 0, none⟩)) (hpb : p ≠ b) (hmb : m ≠ b) (hgb : 1 ∉ [b]) :
    Calls Tryd.prog 18 #[.pointer (some ⟨p, 0, none⟩)] w fun e w' => e = .returned (.agg (hc (upH K1 256 (lfH K1 V) 256)).toArray) ∧ Chg w w' [b] ∧ ∃ n', n'.ok ∧ n'.fork = 256 ∧ NdB w' b n' := by
  have HZ := Lib.hid (HashAt.new w zero32)
  have B0 := Lib.hid ((Below.refl w.heap.size w).alloc (Nat.le_refl _) (.cells (hc zero32).toArray 23))
  have hbw : b < w.heap.size := hn.lt
  have M1 := hM.alloc (.cells (hc zero32).toArray 23)
  have c0 := M1.c0
  have c1 := M1.c1
  have KH := Lib.hid (above_leaf (hT.on B0.out hT.pos) ok hk bK hV bV hf ht hkn (hn.alloc (.cells (hc zero32).toArray 23)) M1 hpb hmb hgb)
  clear hM M1 hT ok hk bK hV bV hf ht hkn hn
  go_enter Tryd.func18, Tryd.ntmps18
  go_wp2_with fail
  refine (made_yes c0).mono ?_
  rintro e wn ⟨rfl, h⟩
  obtain rfl := h.symm
  clear h
  go_wp2_with fail
  refine KH.out.mono ?_
  rintro e w2 ⟨rfl, hc2, n', ok', hf', hn'⟩
  have lX := upH_len K1 256 (lfH_len K1 V) 256
  obtain ⟨X, hX⟩ : ∃ X, upH K1 256 (lfH K1 V) 256 = X := ⟨_, rfl⟩
  have HX := Lib.hid hX
  rw [hX] at lX ⊢
  clear hX
  have Z2 := Lib.hid (HZ.out.chg hc2 (by simp; omega))
  have C2 := Lib.hid ((Chg.below B0.out (Nat.le_refl _) [b]).trans hc2 (fun x hx _ => hx))
  have hth := Z2.out.there zero32_len
  have hput := (Z2.out.put zero32_len lX).row lX
  have C3 := Lib.hid (C2.out.setCells (b := w.heap.size) (.inr (Nat.le_refl _)) (hc X) 0)
  have N3 := Lib.hid (hn'.others (k := w.heap.size) (by omega) 0 (hc X))
  have OK' := Lib.hid ok'
  have HF' := Lib.hid hf'
  have lxx := hc_len X
  clear hc2 hn' ok' hf' Z2 C2 B0 HZ c0 c1 KH
  go_wp2_with fail
  refine bodyPost_ret (v := .agg (hc X).toArray) (by simp [results, Tryd.results18, go_sem, hput, lX]) rfl ⟨by rw [HX.out], C3.out, _, OK'.out, HF'.out, N3.out⟩

set_option maxHeartbeats 4000000 in
theorem with_nil {w : World} {K : List Int} (hK : K.length = 32) : Calls Tryd.prog 55 #[.pointer none, .agg (hc K).toArray] w fun e w' => e = .returned (.pointer (some ⟨w.heap.size + 1, 0, none⟩)) ∧ Below w.heap.size w w' ∧ NdB w' (w.heap.size + 1) ⟨K, 256, none, none, zero32, false, zero32, 0, false⟩ := by
  have H0 := HashAt.new w K
  have r0 := H0.row hK
  have hlK := hc_len K
  have okN : Nd.ok ⟨K, 256, none, none, zero32, false, zero32, 0, false⟩ := ⟨hK, zero32_len, zero32_len⟩
  have hn : NdB ((w.alloc (.cells (hc K).toArray 23)).alloc (.cells (Nd.row ⟨K, 256, none, none, zero32, false, zero32, 0, false⟩).toArray 85)) (w.heap.size + 1) ⟨K, 256, none, none, zero32, false, zero32, 0, false⟩ := by
    have := heap_alloc_new (w.alloc (.cells (hc K).toArray 23)) (.cells (Nd.row ⟨K, 256, none, none, zero32, false, zero32, 0, false⟩).toArray 85)
    simpa [NdB] using this
  have B := Lib.hid (((Below.refl w.heap.size w).alloc (Nat.le_refl _) (.cells (hc K).toArray 23)).alloc (by simp) (.cells (Nd.row ⟨K, 256, none, none, zero32, false, zero32, 0, false⟩).toArray 85))
  have HN := Lib.hid hn
  obtain ⟨R, hR⟩ : ∃ R, Nd.row ⟨K, 256, none, none, zero32, false, zero32, 0, false⟩ = R := ⟨_, rfl⟩
  have hone : R.toArray.all (·.oneCell') = true := by rw [← hR]; exact Nd.one _
  have hrl : R.length = 102 := by rw [← hR]; exact okN.len
  have HRn := Tryd.run_nd
  clear H0 hn okN
  go_enter Tryd.func55, Tryd.ntmps55
  go_wp2_with (simp only [hR])
  go_ret
  exact ⟨rfl, by rw [← hR]; exact B.out, by rw [← hR]; exact HN.out⟩

set_option maxHeartbeats 4000000 in
theorem without_leaf {w : World} {b : Nat} {n : Nd} {K : List Int} (ok : n.ok) (hf : n.fork = 256) (hn : NdB w b n) : Calls Tryd.prog 53 #[.pointer (some ⟨b, 0, none⟩), .agg (hc K).toArray] w fun e w' => e = .returned (.pointer none) ∧ Below w.heap.size w w' := by
  have c0 := ((hn.alloc (.cells (hc K).toArray 23)).facts ok).1
  rw [hf] at c0
  have B := Lib.hid ((Below.refl w.heap.size w).alloc (Nat.le_refl _) (.cells (hc K).toArray 23))
  clear ok hf hn
  go_enter Tryd.func53, Tryd.ntmps53
  go_wp2_with fail
  go_ret
  exact ⟨rfl, B.out⟩

set_option maxHeartbeats 4000000 in
theorem New_nil {w : World} : Calls Tryd.prog 46 #[.slice none 0 0] w fun e w' => ∃ p m, e = .returned (.tuple #[.pointer (some ⟨p, 0, none⟩), .int .i64 0]) ∧ w.heap.size ≤ p ∧ w.heap.size ≤ m ∧ Below w.heap.size w w' ∧ MpS w' p m #[] 0 none := by
  have hmm := @run_makeMap Tryd.prog
  have B := Lib.hid ((((Below.refl w.heap.size w).alloc (Nat.le_refl _) (.map #[] 0)).alloc (by simp) (.cells #[.map (some w.heap.size), .pointer none] 42)).alloc (by simp; omega) (.map #[] 0))
  have M : Hid (MpS (((w.alloc (.map #[] 0)).alloc (.cells #[.map (some w.heap.size), .pointer none] 42)).alloc (.map #[] 0)) (w.heap.size + 1) w.heap.size #[] 0 none) := by
    refine ⟨?_, ?_⟩
    · rw [Below.heap_alloc _ _ _ (by simp)]
      have := heap_alloc_new (w.alloc (.map #[] 0)) (.cells #[.map (some w.heap.size), .pointer none] 42)
      simpa using this
    · rw [Below.heap_alloc _ _ _ (by simp; omega), Below.heap_alloc _ _ _ (by simp)]
      exact heap_alloc_new w _
  go_enter Tryd.func46, Tryd.ntmps46
  go_wp2_with fail
  refine wp_loop_rounds 1 ?_
  rw [rounds_succ]
  go_wp2_with fail
  refine bodyPost_ret (v := .tuple #[.pointer (some ⟨w.heap.size + 1, 0, none⟩), .int .i64 0]) (by simp [results, Tryd.results46, go_sem]) rfl ⟨_, _, rfl, by omega, by omega, B.out, M.out⟩
end Go.Proofs.YtjgfjmkfcippcaaDoor
