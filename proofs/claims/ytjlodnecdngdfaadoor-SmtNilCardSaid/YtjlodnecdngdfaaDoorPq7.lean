/-
  Package smt: above, Root, New of no pairs, with and without of a map of one pair at most.; Package smt: Put and Get in a map of one pair at most.; Package smt: what is taken away again; Get.; The way up from the leaf of one pair, reckoned: part 0.; The way up from the leaf of one pair, reckoned: part 1.; The way up from the leaf of one pair, reckoned: part 2.; The way up from the leaf of one pair, reckoned: part 3.; The root of one pair is not zero.; basculelaw05.knows answers true.
-/
import Derived.Test.YtjlodnecdngdfaaDoorPq5
import Derived.Test.YtjlodnecdngdfaaDoorPq6
namespace Go.Proofs.YtjlodnecdngdfaaDoor
open Go.RowKit
set_option maxRecDepth 100000

/-- A map: its block, its values, its top. -/
structure MpS (w : World) (p m : Nat) (es : Array MapEntry) (c : Nat) (top : Option Addr) : Prop where
  blk : w.heap[p]? = some (.cells #[.map (some m), .pointer top] 56 (0, 0))
  mp : w.heap[m]? = some (.map es c)
section
variable {w w' : World} {p m c : Nat} {es : Array MapEntry} {top : Option Addr}
theorem MpS.chg {S : List Nat} (h : MpS w p m es c top) (hc : Chg w w' S) (hp : p ∉ S) (hm : m ∉ S) : MpS w' p m es c top :=
  ⟨by rw [hc.block p (Array.getElem?_eq_some_iff.1 h.blk).1 hp]; exact h.blk, by rw [hc.block m (Array.getElem?_eq_some_iff.1 h.mp).1 hm]; exact h.mp⟩
theorem MpS.on (h : MpS w p m es c top) (hb : Below w.heap.size w w') : MpS w' p m es c top := h.chg (S := []) (Chg.below hb (Nat.le_refl _) []) (by simp) (by simp)
theorem MpS.alloc (h : MpS w p m es c top) (o : Obj) : MpS (w.alloc o) p m es c top := h.on ((Below.refl _ _).alloc (Nat.le_refl _) o)
theorem MpS.c0 (h : MpS w p m es c top) : w.cell? ⟨p, 0, none⟩ = some (.map (some m)) := (Joins.cell_of_block h.blk 0).trans rfl
theorem MpS.c1 (h : MpS w p m es c top) : w.cell? ⟨p, 1, none⟩ = some (.pointer top) := (Joins.cell_of_block h.blk 1).trans rfl
theorem MpS.lp (h : MpS w p m es c top) : p < w.heap.size := (Array.getElem?_eq_some_iff.1 h.blk).1
theorem MpS.lm (h : MpS w p m es c top) : m < w.heap.size := (Array.getElem?_eq_some_iff.1 h.mp).1
theorem MpS.ne (h : MpS w p m es c top) : p ≠ m := by
  rintro rfl
  have := h.blk
  rw [h.mp] at this
  simp at this
theorem MpS.setTop (h : MpS w p m es c top) (t : Option Addr) : MpS (w.setCell ⟨p, 1, none⟩ (.pointer t)) p m es c t := by
  refine ⟨?_, ?_⟩
  · have := setCells_block (b := p) (t := 56) (fr := (0, 0)) [.pointer t] (o := 1) (w := w) (pre := [.map (some m)]) (mid := [.pointer top]) (post := []) (by simpa using h.blk) rfl rfl
    simpa [World.setCells] using this
  · rw [Below.heap_setCell _ _ _ _ h.ne.symm]; exact h.mp
theorem MpS.putMap (h : MpS w p m es c top) (es' : Array MapEntry) (c' : Nat) : MpS (putMap w m es' c') p m es' c' top :=
  ⟨by rw [putMap_other h.ne]; exact h.blk, putMap_there h.lm⟩
theorem Chg.putMap {a w : World} {S : List Nat} (h : Chg a w S) {b : Nat} (hb : b ∈ S ∨ a.heap.size ≤ b) (es : Array MapEntry) (c : Nat) : Chg a (putMap w b es c) S :=
  ⟨h.os, h.tape, h.output, by rw [putMap_size]; exact h.size, fun k hk hn => by
    rw [putMap_other (fun e => by subst e; rcases hb with hb | hb; exact hn hb; omega)]; exact h.block k hk hn⟩
end

set_option maxHeartbeats 4000000 in
theorem above_nil {w : World} {p : Option Addr} {l : Int} : Calls Tryd.prog 40 #[.pointer p, .pointer none, .int .i64 l] w fun e w' => e = .returned (.agg (hc zero32).toArray) ∧ Below w.heap.size w w' := by
  have HZ := HashAt.new w zero32
  have hth := HZ.there zero32_len
  have hput := (HZ.put zero32_len zero32_len).row zero32_len
  have z32 := zero32_len
  have HX := Lib.hid (below_setCells' (B := w.heap.size) w.heap.size (Nat.le_refl _) (hc zero32) 0 ((Below.refl w.heap.size w).alloc (Nat.le_refl _) (.cells (hc zero32).toArray 24)))
  clear HZ
  go_enter Tryd.func40, Tryd.ntmps40
  go_wp2_with fail
  refine bodyPost_ret (v := .agg (hc zero32).toArray) (by simp [results, Tryd.results40, go_sem, hput, z32]) rfl ⟨rfl, HX.out⟩

set_option maxHeartbeats 8000000 in
theorem above_leaf {w : World} {p m b c : Nat} {n : Nd} {V : List Int} {top : Option Addr} (hT : Tbl w) (ok : n.ok) (hk : n.key = K1) (bK : Bytes K1) (hV : V.length = 32) (bV : Bytes V) (hf : n.fork = 256) (ht : n.told = false) (hkn : n.known = false) (hn : NdB w b n) (hM : MpS w p m (M1 (.agg (hc V).toArray)) c top) (hpb : p ≠ b) (hmb : m ≠ b) (hgb : 1 ∉ [b]) :
    Calls Tryd.prog 40 #[.pointer (some ⟨p, 0, none⟩), .pointer (some ⟨b, 0, none⟩), .int .i64 0] w fun e w' => e = .returned (.agg (hc (upH K1 256 (lfH K1 V) 256)).toArray) ∧ Chg w w' [b] ∧ ∃ n', n'.ok ∧ n'.fork = 256 ∧ NdB w' b n' := by
  have HZ := Lib.hid (HashAt.new w zero32)
  have B0 := Lib.hid ((Below.refl w.heap.size w).alloc (Nat.le_refl _) (.cells (hc zero32).toArray 24))
  have hbw : b < w.heap.size := hn.lt
  have hn1 := hn.alloc (.cells (hc zero32).toArray 24)
  have hM1 := hM.alloc (.cells (hc zero32).toArray 24)
  have KH := Lib.hid (climb_leaf (hT.on B0.out hT.pos) ok hk bK hV bV hf ht hn1 hM1.c0 hM1.mp hpb hmb hgb)
  have fk := (hn1.facts ok).2.2.2.2.2.1
  rw [hkn] at fk
  have OK := Lib.hid ok
  have HF := Lib.hid hf
  have HN := Lib.hid hn1
  clear hT hk bK hV bV hf ht hn hM hM1 hn1 hkn
  go_enter Tryd.func40, Tryd.ntmps40
  go_wp2_with fail
  refine KH.out.mono ?_
  rintro e w2 ⟨rfl, hc2, hn2⟩
  have hlF := lfH_len K1 V
  have lX := upH_len K1 256 hlF 256
  obtain ⟨X, hX⟩ : ∃ X, upH K1 256 (lfH K1 V) 256 = X := ⟨_, rfl⟩
  have HX := Lib.hid hX
  rw [hX] at lX ⊢
  clear hX
  have ok2 : Nd.ok { n with own := lfH K1 V, told := true } := ⟨OK.out.key, hlF, OK.out.high⟩
  have C2 := Lib.hid ((Chg.below B0.out (Nat.le_refl _) [b]).trans hc2 (fun x hx _ => hx))
  have Z2 := Lib.hid (HZ.out.chg hc2 (by simp; omega))
  have th2 := hn2.there ok2 (i := 68) (k := 32) (by omega)
  have N3 := Lib.hid (hn2.setHigh ok2 lX)
  have C3 := Lib.hid (C2.out.setCells (b := b) (.inl (by simp)) (hc X) 68)
  have Z3 := Lib.hid (Z2.out.others (k := b) (by omega) 68 (hc X))
  have ok3 : Nd.ok { n with own := lfH K1 V, told := true, high := X } := ⟨OK.out.key, hlF, lX⟩
  have t3 := (N3.out.facts ok3).2.2.2.2.1
  have u3 := N3.out.free 100
  have N4 := Lib.hid (N3.out.setLvl ok3 0)
  have C4 := Lib.hid (C3.out.setCell (p := ⟨b, 100, none⟩) (.inl (by simp)) (.int .i64 0))
  have Z4 := Lib.hid (Z3.out.other (a := ⟨b, 100, none⟩) (by simp; omega) (.int .i64 0))
  have ok4 : Nd.ok { n with own := lfH K1 V, told := true, high := X, lvl := 0 } := ⟨OK.out.key, hlF, lX⟩
  have t4 := (N4.out.facts ok4).2.2.2.2.2.1
  have u4 := N4.out.free 101
  have N5 := Lib.hid (N4.out.setKnown ok4 true)
  have C5 := Lib.hid (C4.out.setCell (p := ⟨b, 101, none⟩) (.inl (by simp)) (.bool true))
  have Z5 := Lib.hid (Z4.out.other (a := ⟨b, 101, none⟩) (by simp; omega) (.bool true))
  have ok5 : Nd.ok { n with own := lfH K1 V, told := true, high := X, lvl := 0, known := true } := ⟨OK.out.key, hlF, lX⟩
  have r5 := (N5.out.facts ok5).2.2.2.2.2.2.2.2
  have z5 := Z5.out.there zero32_len
  have hput := (Z5.out.put zero32_len lX).row lX
  have C6 := Lib.hid (C5.out.setCells (b := w.heap.size) (.inr (Nat.le_refl _)) (hc X) 0)
  have N6 := Lib.hid (N5.out.others (k := w.heap.size) (by omega) 0 (hc X))
  have OK5 := Lib.hid ok5
  have lxx := hc_len X
  clear hc2 hn2 C2 Z2 N3 C3 Z3 N4 C4 Z4 N5 C5 Z5 ok2 ok3 ok4 ok5 KH HN B0 HZ
  go_wp2_with fail
  refine bodyPost_ret (v := .agg (hc X).toArray) (by simp [results, Tryd.results40, go_sem, hput, lX]) rfl ⟨by rw [HX.out], C6.out, _, OK5.out, HF.out, N6.out⟩

set_option maxHeartbeats 4000000 in
theorem Root_nil {w : World} {p m c : Nat} {es : Array MapEntry} (hM : MpS w p m es c none) : Calls Tryd.prog 19 #[.pointer (some ⟨p, 0, none⟩)] w fun e w' => e = .returned (.agg (hc zero32).toArray) ∧ Below w.heap.size w w' := by
  have HZ := Lib.hid (HashAt.new w zero32)
  have B0 := Lib.hid ((Below.refl w.heap.size w).alloc (Nat.le_refl _) (.cells (hc zero32).toArray 24))
  have M1 := hM.alloc (.cells (hc zero32).toArray 24)
  have c0 := M1.c0
  have c1 := M1.c1
  have z32 := zero32_len
  clear hM M1
  go_enter Tryd.func19, Tryd.ntmps19
  go_wp2_with fail
  refine (made_yes c0).mono ?_
  rintro e wn ⟨rfl, h⟩
  obtain rfl := h.symm
  clear h
  go_wp2_with fail
  refine above_nil.mono ?_
  rintro e w2 ⟨rfl, hb2⟩
  have Z2 := Lib.hid (HZ.out.on hb2)
  have B2 := Lib.hid (B0.out.trans (hb2.mono B0.out.size))
  have hth := Z2.out.there zero32_len
  have hput := (Z2.out.put zero32_len zero32_len).row zero32_len
  have HX := Lib.hid (below_setCells' (B := w.heap.size) w.heap.size (Nat.le_refl _) (hc zero32) 0 B2.out)
  clear hb2 Z2 B2 B0 HZ c0 c1
  go_wp2_with fail
  refine bodyPost_ret (v := .agg (hc zero32).toArray) (by simp [results, Tryd.results19, go_sem, hput, z32]) rfl ⟨rfl, HX.out⟩

set_option maxHeartbeats 4000000 in
theorem Root_leaf {w : World} {p m b c : Nat} {n : Nd} {V : List Int} (hT : Tbl w) (ok : n.ok) (hk : n.key = K1) (bK : Bytes K1) (hV : V.length = 32) (bV : Bytes V) (hf : n.fork = 256) (ht : n.told = false) (hkn : n.known = false) (hn : NdB w b n) (hM : MpS w p m (M1 (.agg (hc V).toArray)) c (some ⟨b, 0, none⟩)) (hpb : p ≠ b) (hmb : m ≠ b) (hgb : 1 ∉ [b]) :
    Calls Tryd.prog 19 #[.pointer (some ⟨p, 0, none⟩)] w fun e w' => e = .returned (.agg (hc (upH K1 256 (lfH K1 V) 256)).toArray) ∧ Chg w w' [b] ∧ ∃ n', n'.ok ∧ n'.fork = 256 ∧ NdB w' b n' := by
  have HZ := Lib.hid (HashAt.new w zero32)
  have B0 := Lib.hid ((Below.refl w.heap.size w).alloc (Nat.le_refl _) (.cells (hc zero32).toArray 24))
  have hbw : b < w.heap.size := hn.lt
  have M1 := hM.alloc (.cells (hc zero32).toArray 24)
  have c0 := M1.c0
  have c1 := M1.c1
  have KH := Lib.hid (above_leaf (hT.on B0.out hT.pos) ok hk bK hV bV hf ht hkn (hn.alloc (.cells (hc zero32).toArray 24)) M1 hpb hmb hgb)
  clear hM M1 hT ok hk bK hV bV hf ht hkn hn
  go_enter Tryd.func19, Tryd.ntmps19
  go_wp2_with fail
  refine (made_yes c0).mono ?_
  rintro e wn ⟨rfl, h⟩
  obtain rfl := h.symm
  clear h
  go_wp2_with fail
  refine KH.out.mono ?_
  rintro e w2 ⟨rfl, hc2, n', ok', hf', hn'⟩
  have lX := upH_len K1 256 (lfH_len K1 V) 256
  obtain ⟨X, hX⟩ : ∃ X, upH K1 256 (lfH K1 V) 256 = X := ⟨_, rfl⟩
  have HX := Lib.hid hX
  rw [hX] at lX ⊢
  clear hX
  have Z2 := Lib.hid (HZ.out.chg hc2 (by simp; omega))
  have C2 := Lib.hid ((Chg.below B0.out (Nat.le_refl _) [b]).trans hc2 (fun x hx _ => hx))
  have hth := Z2.out.there zero32_len
  have hput := (Z2.out.put zero32_len lX).row lX
  have C3 := Lib.hid (C2.out.setCells (b := w.heap.size) (.inr (Nat.le_refl _)) (hc X) 0)
  have N3 := Lib.hid (hn'.others (k := w.heap.size) (by omega) 0 (hc X))
  have OK' := Lib.hid ok'
  have HF' := Lib.hid hf'
  have lxx := hc_len X
  clear hc2 hn' ok' hf' Z2 C2 B0 HZ c0 c1 KH
  go_wp2_with fail
  refine bodyPost_ret (v := .agg (hc X).toArray) (by simp [results, Tryd.results19, go_sem, hput, lX]) rfl ⟨by rw [HX.out], C3.out, _, OK'.out, HF'.out, N3.out⟩

set_option maxHeartbeats 4000000 in
theorem with_nil {w : World} {K : List Int} (hK : K.length = 32) : Calls Tryd.prog 35 #[.pointer none, .agg (hc K).toArray] w fun e w' => e = .returned (.pointer (some ⟨w.heap.size + 1, 0, none⟩)) ∧ Below w.heap.size w w' ∧ NdB w' (w.heap.size + 1) ⟨K, 256, none, none, zero32, false, zero32, 0, false⟩ := by
  have H0 := HashAt.new w K
  have r0 := H0.row hK
  have hlK := hc_len K
  have okN : Nd.ok ⟨K, 256, none, none, zero32, false, zero32, 0, false⟩ := ⟨hK, zero32_len, zero32_len⟩
  have hn : NdB ((w.alloc (.cells (hc K).toArray 24)).alloc (.cells (Nd.row ⟨K, 256, none, none, zero32, false, zero32, 0, false⟩).toArray 88)) (w.heap.size + 1) ⟨K, 256, none, none, zero32, false, zero32, 0, false⟩ := by
    have := heap_alloc_new (w.alloc (.cells (hc K).toArray 24)) (.cells (Nd.row ⟨K, 256, none, none, zero32, false, zero32, 0, false⟩).toArray 88)
    simpa [NdB] using this
  have B := Lib.hid (((Below.refl w.heap.size w).alloc (Nat.le_refl _) (.cells (hc K).toArray 24)).alloc (by simp) (.cells (Nd.row ⟨K, 256, none, none, zero32, false, zero32, 0, false⟩).toArray 88))
  have HN := Lib.hid hn
  obtain ⟨R, hR⟩ : ∃ R, Nd.row ⟨K, 256, none, none, zero32, false, zero32, 0, false⟩ = R := ⟨_, rfl⟩
  have hone : R.toArray.all (·.oneCell') = true := by rw [← hR]; exact Nd.one _
  have hrl : R.length = 102 := by rw [← hR]; exact okN.len
  have HRn := Tryd.run_nd
  clear H0 hn okN
  go_enter Tryd.func35, Tryd.ntmps35
  go_wp2_with (simp only [hR])
  go_ret
  exact ⟨rfl, by rw [← hR]; exact B.out, by rw [← hR]; exact HN.out⟩

set_option maxHeartbeats 4000000 in
theorem without_leaf {w : World} {b : Nat} {n : Nd} {K : List Int} (ok : n.ok) (hf : n.fork = 256) (hn : NdB w b n) : Calls Tryd.prog 33 #[.pointer (some ⟨b, 0, none⟩), .agg (hc K).toArray] w fun e w' => e = .returned (.pointer none) ∧ Below w.heap.size w w' := by
  have c0 := ((hn.alloc (.cells (hc K).toArray 24)).facts ok).1
  rw [hf] at c0
  have B := Lib.hid ((Below.refl w.heap.size w).alloc (Nat.le_refl _) (.cells (hc K).toArray 24))
  clear ok hf hn
  go_enter Tryd.func33, Tryd.ntmps33
  go_wp2_with fail
  go_ret
  exact ⟨rfl, B.out⟩

set_option maxHeartbeats 4000000 in
theorem New_nil {w : World} : Calls Tryd.prog 9 #[.slice none 0 0] w fun e w' => ∃ p m, e = .returned (.tuple #[.pointer (some ⟨p, 0, none⟩), .int .i64 0]) ∧ w.heap.size ≤ p ∧ w.heap.size ≤ m ∧ Below w.heap.size w w' ∧ MpS w' p m #[] 0 none := by
  have hmm := @run_makeMap Tryd.prog
  have B := Lib.hid ((((Below.refl w.heap.size w).alloc (Nat.le_refl _) (.map #[] 0)).alloc (by simp) (.cells #[.map (some w.heap.size), .pointer none] 56)).alloc (by simp; omega) (.map #[] 0))
  have M : Hid (MpS (((w.alloc (.map #[] 0)).alloc (.cells #[.map (some w.heap.size), .pointer none] 56)).alloc (.map #[] 0)) (w.heap.size + 1) w.heap.size #[] 0 none) := by
    refine ⟨?_, ?_⟩
    · rw [Below.heap_alloc _ _ _ (by simp)]
      have := heap_alloc_new (w.alloc (.map #[] 0)) (.cells #[.map (some w.heap.size), .pointer none] 56)
      simpa using this
    · rw [Below.heap_alloc _ _ _ (by simp; omega), Below.heap_alloc _ _ _ (by simp)]
      exact heap_alloc_new w _
  go_enter Tryd.func9, Tryd.ntmps9
  go_wp2_with fail
  refine wp_loop_rounds 1 ?_
  rw [rounds_succ]
  go_wp2_with fail
  refine bodyPost_ret (v := .tuple #[.pointer (some ⟨w.heap.size + 1, 0, none⟩), .int .i64 0]) (by simp [results, Tryd.results9, go_sem]) rfl ⟨_, _, rfl, by omega, by omega, B.out, M.out⟩
end Go.Proofs.YtjlodnecdngdfaaDoor
namespace Go.Proofs.YtjlodnecdngdfaaDoor
open Go.RowKit
set_option maxRecDepth 100000

set_option maxHeartbeats 8000000 in
theorem Put_new {w : World} {p m : Nat} {V : List Int} (hV : V.length = 32) (hv : (V == zero32) = false) (hv2 : (zero32 == V) = false) (hM : MpS w p m #[] 0 none) :
    Calls Tryd.prog 13 #[.pointer (some ⟨p, 0, none⟩), .agg (hc K1).toArray, .agg (hc V).toArray] w fun e w' => e = .returned (.int .i64 0) ∧ Chg w w' [p, m] ∧ ∃ b, w.heap.size ≤ b ∧ MpS w' p m (M1 (.agg (hc V).toArray)) 1 (some ⟨b, 0, none⟩) ∧ NdB w' b ⟨K1, 256, none, none, zero32, false, zero32, 0, false⟩ := by
  have HK := Lib.hid (((HashAt.new w K1).alloc (.cells (hc V).toArray 24)))
  have HV := Lib.hid (HashAt.new (w.alloc (.cells (hc K1).toArray 24)) V)
  have B0 := Lib.hid (((Below.refl w.heap.size w).alloc (Nat.le_refl _) (.cells (hc K1).toArray 24)).alloc (by simp) (.cells (hc V).toArray 24))
  have M0 := Lib.hid ((hM.alloc (.cells (hc K1).toArray 24)).alloc (.cells (hc V).toArray 24))
  have hmp := hM.lp
  have hmm := hM.lm
  have hpm := hM.ne
  have c00 := M0.out.c0
  have k32 := K1_len
  have hlk := hc_len K1
  have hlv := hc_len V
  have z32 := zero32_len
  have hW0 : ((w.alloc (.cells (hc K1).toArray 24)).alloc (.cells (hc V).toArray 24)).heap.size = w.heap.size + 2 := by simp
  simp only [World.size_alloc] at HV
  clear hM
  go_enter Tryd.func13, Tryd.ntmps13
  go_wp2_with fail
  refine (made_yes c00).mono ?_
  rintro e wn ⟨rfl, h⟩
  obtain rfl := h.symm
  clear h
  go_wp2_with fail
  generalize ((w.alloc (.cells (hc K1).toArray 24)).alloc (.cells (hc V).toArray 24)) = w0 at *
  refine wp_region_held_drew (S := fun W => Below w0.drew.heap.size w0.drew W) (by kernel_rfl) (Below.refl _ _) (fun h0 => ?_)
  replace M0 := Lib.hid (M0.out.on ((Below.refl _ _).drew))
  replace HK := Lib.hid (HK.out.on ((Below.refl _ _).drew))
  replace HV := Lib.hid (HV.out.on ((Below.refl _ _).drew))
  replace B0 := Lib.hid B0.out.drew
  replace hW0 : Hid (w0.drew.heap.size = w.heap.size + 2) := hW0
  clear c00
  generalize w0.drew = w0 at *
  refine wpAnyH_take (i := 0) (v := ?_) (by rw [List.getElem?_toArray]; rfl) (by kernel_rfl) (by kernel_rfl) (by kernel_rfl) (by exact fun _ _ _ h => h) (Or.inl ⟨by rfl, ?_⟩) h0 ?_
  rotate_left
  · intro W hW
    go_simp
    all_goals with_reducible rfl
  try simp only [Act.put, List.setIfInBounds_toArray, List.set_cons_zero, List.set_cons_succ]
  refine wpAnyH_take (i := 1) (v := ?_) (by rw [List.getElem?_toArray]; rfl) (by kernel_rfl) (by kernel_rfl) (by kernel_rfl) (by exact fun _ _ _ h => h) (Or.inl ⟨by rfl, ?_⟩) h0 ?_
  rotate_left
  · intro W hW
    go_simp
    all_goals with_reducible rfl
  try simp only [Act.put, List.setIfInBounds_toArray, List.set_cons_zero, List.set_cons_succ]
  refine wpAnyH_take (i := 2) (v := ?_) (by rw [List.getElem?_toArray]; rfl) (by kernel_rfl) (by kernel_rfl) (by kernel_rfl) (by exact fun _ _ _ h => h) (Or.inl ⟨by rfl, ?_⟩) h0 ?_
  rotate_left
  · intro W hW
    go_simp
    all_goals with_reducible rfl
  try simp only [Act.put, List.setIfInBounds_toArray, List.set_cons_zero, List.set_cons_succ]
  refine wpAnyH_take (i := 3) (v := ?_) (by rw [List.getElem?_toArray]; rfl) (by kernel_rfl) (by kernel_rfl) (by kernel_rfl) (by exact fun _ _ _ h => h) (Or.inl ⟨by rfl, ?_⟩) h0 ?_
  rotate_left
  · intro W hW
    have cc := (M0.out.on hW).c0
    go_simp
    all_goals with_reducible rfl
  try simp only [Act.put, List.setIfInBounds_toArray, List.set_cons_zero, List.set_cons_succ]
  refine wpAnyH_take (i := 4) (v := ?_) (by rw [List.getElem?_toArray]; rfl) (by kernel_rfl) (by kernel_rfl) (by kernel_rfl) (by exact fun _ _ _ h => h) (Or.inl ⟨by rfl, ?_⟩) h0 ?_
  rotate_left
  · intro W hW
    have cc := (HK.out.on hW).row K1_len
    go_simp
    all_goals with_reducible rfl
  try simp only [Act.put, List.setIfInBounds_toArray, List.set_cons_zero, List.set_cons_succ]
  refine wpAnyH_take (i := 5) (v := ?_) (by rw [List.getElem?_toArray]; rfl) (by kernel_rfl) (by kernel_rfl) (by kernel_rfl) (by exact fun _ _ _ h => h) (Or.inl ⟨by rfl, ?_⟩) h0 ?_
  rotate_left
  · intro W hW
    have cc := look_m0 true (M0.out.on hW).mp
    go_simp
    all_goals with_reducible rfl
  try simp only [Act.put, List.setIfInBounds_toArray, List.set_cons_zero, List.set_cons_succ]
  refine wpAnyH_take (i := 6) (v := ?_) (by rw [List.getElem?_toArray]; rfl) (by kernel_rfl) (by kernel_rfl) (by kernel_rfl) (by exact fun _ _ _ h => h) (Or.inl ⟨by rfl, ?_⟩) h0 ?_
  rotate_left
  · intro W hW
    go_simp
    all_goals with_reducible rfl
  try simp only [Act.put, List.setIfInBounds_toArray, List.set_cons_zero, List.set_cons_succ]
  refine wpAnyH_take (i := 7) (v := ?_) (by rw [List.getElem?_toArray]; rfl) (by kernel_rfl) (by kernel_rfl) (by kernel_rfl) (by exact fun _ _ _ h => h) (Or.inl ⟨by rfl, ?_⟩) h0 ?_
  rotate_left
  · intro W hW
    go_simp
    all_goals with_reducible rfl
  try simp only [Act.put, List.setIfInBounds_toArray, List.set_cons_zero, List.set_cons_succ]
  refine wpAnyH_take (i := 8) (v := ?_) (by rw [List.getElem?_toArray]; rfl) (by kernel_rfl) (by kernel_rfl) (by kernel_rfl) (by exact fun _ _ _ h => h) (Or.inl ⟨by rfl, ?_⟩) h0 ?_
  rotate_left
  · intro W hW
    go_simp
    all_goals with_reducible rfl
  try simp only [Act.put, List.setIfInBounds_toArray, List.set_cons_zero, List.set_cons_succ]
  refine wpAnyH_ready (rs := [9]) (by kernel_rfl) (by simp) ?_
  refine AllReadyH.cons (by rw [List.getElem?_toArray]; rfl) (fun K hK => ?_) AllReadyH.nil
  rw [if_pos (by rfl)]
  have Z1 := Lib.hid (HashAt.new w0 zero32)
  go_wp2_with fail
  refine hK.out _ _ (h0.alloc h0.size _) (fun h1 => ?_)
  clear hK K
  try simp only [Act.put, List.setIfInBounds_toArray, List.set_cons_zero, List.set_cons_succ]
  refine wpAnyH_ready (rs := [10]) (by kernel_rfl) (by simp) ?_
  refine AllReadyH.cons (by rw [List.getElem?_toArray]; rfl) (fun K hK => ?_) AllReadyH.nil
  rw [if_pos (by rfl)]
  have th1 := Z1.out.there zero32_len
  have P1 := Lib.hid (Z1.out.put zero32_len zero32_len)
  have B1 : Below w0.heap.size w0 ((w0.alloc (.cells (hc zero32).toArray 24)).setCells w0.heap.size 0 (hc zero32)) := below_setCells' _ (Nat.le_refl _) _ _ h1
  have ols := hc_len zero32
  go_wp2_with fail
  refine hK.out _ _ (B1) (fun h2 => ?_)
  clear hK K
  try simp only [Act.put, List.setIfInBounds_toArray, List.set_cons_zero, List.set_cons_succ]
  refine wpAnyH_take (i := 11) (v := ?_) (by rw [List.getElem?_toArray]; rfl) (by kernel_rfl) (by kernel_rfl) (by kernel_rfl) (by exact fun _ _ _ h => h) (Or.inl ⟨by rfl, ?_⟩) h2 ?_
  rotate_left
  · intro W hW
    go_simp
    all_goals with_reducible rfl
  try simp only [Act.put, List.setIfInBounds_toArray, List.set_cons_zero, List.set_cons_succ]
  refine wpAnyH_done (by kernel_rfl) ?_ _
  have rv := (HV.out.on B1).row hV
  have ro := P1.out.row zero32_len
  have Mx := Lib.hid (M0.out.on B1)
  have HKx := Lib.hid (HK.out.on B1)
  have HVx := Lib.hid (HV.out.on B1)
  have cx := Mx.out.c0
  have hln := run_len_at (P := Tryd.prog) 3 Tryd.underlying53 Mx.out.mp
  have Bx := Lib.hid (B0.out.trans (B1.mono B0.out.size))
  have hsx := B1.size
  clear h2 h1 P1 Z1 th1 M0 HK HV
  generalize (w0.alloc (.cells (hc zero32).toArray 24)).setCells w0.heap.size 0 (hc zero32) = w2 at *
  clear B1
  go_wp2_with fail
  refine wp_region_held_drew (S := fun W => W.cell? ⟨p, 0, none⟩ = some (.map (some m)) ∧ HashAt W w.heap.size K1 ∧ HashAt W (w.heap.size + 1) V) (by kernel_rfl) (⟨(Mx.out.on ((Below.refl _ _).drew)).c0, HKx.out.on ((Below.refl _ _).drew), HVx.out.on ((Below.refl _ _).drew)⟩) (fun h0 => ?_)
  replace Mx := Lib.hid (Mx.out.on ((Below.refl _ _).drew))
  replace HKx := Lib.hid (HKx.out.on ((Below.refl _ _).drew))
  replace HVx := Lib.hid (HVx.out.on ((Below.refl _ _).drew))
  replace Bx := Lib.hid Bx.out.drew
  replace hsx : w0.heap.size ≤ w2.drew.heap.size := hsx
  clear cx hln rv ro
  generalize w2.drew = w2 at *
  refine wpAnyH_take (i := 0) (v := ?_) (by rw [List.getElem?_toArray]; rfl) (by kernel_rfl) (by kernel_rfl) (by kernel_rfl) (by exact fun _ _ _ h => h) (Or.inl ⟨by rfl, ?_⟩) h0 ?_
  rotate_left
  · intro W hW
    go_simp
    all_goals with_reducible rfl
  try simp only [Act.put, List.setIfInBounds_toArray, List.set_cons_zero, List.set_cons_succ]
  refine wpAnyH_take (i := 1) (v := ?_) (by rw [List.getElem?_toArray]; rfl) (by kernel_rfl) (by kernel_rfl) (by kernel_rfl) (by exact fun _ _ _ h => h) (Or.inl ⟨by rfl, ?_⟩) h0 ?_
  rotate_left
  · intro W hW
    go_simp
    all_goals with_reducible rfl
  try simp only [Act.put, List.setIfInBounds_toArray, List.set_cons_zero, List.set_cons_succ]
  refine wpAnyH_take (i := 2) (v := ?_) (by rw [List.getElem?_toArray]; rfl) (by kernel_rfl) (by kernel_rfl) (by kernel_rfl) (by exact fun _ _ _ h => h) (Or.inl ⟨by rfl, ?_⟩) h0 ?_
  rotate_left
  · intro W hW
    go_simp
    all_goals with_reducible rfl
  try simp only [Act.put, List.setIfInBounds_toArray, List.set_cons_zero, List.set_cons_succ]
  refine wpAnyH_take (i := 3) (v := ?_) (by rw [List.getElem?_toArray]; rfl) (by kernel_rfl) (by kernel_rfl) (by kernel_rfl) (by exact fun _ _ _ h => h) (Or.inl ⟨by rfl, ?_⟩) h0 ?_
  rotate_left
  · intro W hW
    have cc := hW.1
    go_simp
    all_goals with_reducible rfl
  try simp only [Act.put, List.setIfInBounds_toArray, List.set_cons_zero, List.set_cons_succ]
  refine wpAnyH_take (i := 4) (v := ?_) (by rw [List.getElem?_toArray]; rfl) (by kernel_rfl) (by kernel_rfl) (by kernel_rfl) (by exact fun _ _ _ h => h) (Or.inl ⟨by rfl, ?_⟩) h0 ?_
  rotate_left
  · intro W hW
    have cc := hW.2.1.row K1_len
    go_simp
    all_goals with_reducible rfl
  try simp only [Act.put, List.setIfInBounds_toArray, List.set_cons_zero, List.set_cons_succ]
  refine wpAnyH_take (i := 5) (v := ?_) (by rw [List.getElem?_toArray]; rfl) (by kernel_rfl) (by kernel_rfl) (by kernel_rfl) (by exact fun _ _ _ h => h) (Or.inl ⟨by rfl, ?_⟩) h0 ?_
  rotate_left
  · intro W hW
    have cc := hW.2.2.row hV
    go_simp
    all_goals with_reducible rfl
  try simp only [Act.put, List.setIfInBounds_toArray, List.set_cons_zero, List.set_cons_succ]
  refine wpAnyH_ready (rs := [6]) (by kernel_rfl) (by simp) ?_
  refine AllReadyH.cons (by rw [List.getElem?_toArray]; rfl) (fun K hK => ?_) AllReadyH.nil
  rw [if_pos (by rfl)]
  have hup := upd_m0 (v := .agg (hc V).toArray) Mx.out.mp
  have M3 := Lib.hid (Mx.out.putMap (M1 (.agg (hc V).toArray)) 1)
  have K3 : Hid (HashAt (putMap w2 m (M1 (.agg (hc V).toArray)) 1) w.heap.size K1) := by
    show _ = _
    rw [putMap_other (by omega)]; exact HKx.out
  have V3 : Hid (HashAt (putMap w2 m (M1 (.agg (hc V).toArray)) 1) (w.heap.size + 1) V) := by
    show _ = _
    rw [putMap_other (by omega)]; exact HVx.out
  have C3 := Lib.hid ((Chg.below Bx.out (Nat.le_refl _) [p, m]).putMap (b := m) (.inl (by simp)) (M1 (.agg (hc V).toArray)) 1)
  have c3 := M3.out.c0
  go_wp2_with fail
  refine hK.out _ _ (⟨c3, K3.out, V3.out⟩) (fun h3 => ?_)
  clear hK K
  try simp only [Act.put, List.setIfInBounds_toArray, List.set_cons_zero, List.set_cons_succ]
  refine wpAnyH_done (by kernel_rfl) ?_ _
  have hs3 := putMap_size w2 m (M1 (.agg (hc V).toArray)) 1
  clear h3 h0 c3 hup V3 Mx HKx HVx Bx
  have hs4 : w.heap.size + 2 ≤ (putMap w2 m (M1 (.agg (hc V).toArray)) 1).heap.size := by rw [hs3]; have := hW0.out; omega
  clear hs3
  generalize putMap w2 m (M1 (.agg (hc V).toArray)) 1 = w3 at *
  go_wp2_with fail
  refine wp_region_held_drew (S := fun W => HashAt W w.heap.size K1) (by kernel_rfl) (K3.out.on ((Below.refl _ _).drew)) (fun h0 => ?_)
  replace M3 := Lib.hid (M3.out.on ((Below.refl _ _).drew))
  replace K3 := Lib.hid (K3.out.on ((Below.refl _ _).drew))
  replace C3 := Lib.hid C3.out.drew
  replace hs4 : w.heap.size + 2 ≤ w3.drew.heap.size := hs4
  generalize w3.drew = w3 at *
  refine wpAnyH_take (i := 0) (v := ?_) (by rw [List.getElem?_toArray]; rfl) (by kernel_rfl) (by kernel_rfl) (by kernel_rfl) (by exact fun _ _ _ h => h) (Or.inl ⟨by rfl, ?_⟩) h0 ?_
  rotate_left
  · intro W hW
    go_simp
    all_goals with_reducible rfl
  try simp only [Act.put, List.setIfInBounds_toArray, List.set_cons_zero, List.set_cons_succ]
  refine wpAnyH_take (i := 1) (v := ?_) (by rw [List.getElem?_toArray]; rfl) (by kernel_rfl) (by kernel_rfl) (by kernel_rfl) (by exact fun _ _ _ h => h) (Or.inl ⟨by rfl, ?_⟩) h0 ?_
  rotate_left
  · intro W hW
    go_simp
    all_goals with_reducible rfl
  try simp only [Act.put, List.setIfInBounds_toArray, List.set_cons_zero, List.set_cons_succ]
  refine wpAnyH_take (i := 2) (v := ?_) (by rw [List.getElem?_toArray]; rfl) (by kernel_rfl) (by kernel_rfl) (by kernel_rfl) (by exact fun _ _ _ h => h) (Or.inl ⟨by rfl, ?_⟩) h0 ?_
  rotate_left
  · intro W hW
    go_simp
    all_goals with_reducible rfl
  try simp only [Act.put, List.setIfInBounds_toArray, List.set_cons_zero, List.set_cons_succ]
  refine wpAnyH_take (i := 3) (v := ?_) (by rw [List.getElem?_toArray]; rfl) (by kernel_rfl) (by kernel_rfl) (by kernel_rfl) (by exact fun _ _ _ h => h) (Or.inl ⟨by rfl, ?_⟩) h0 ?_
  rotate_left
  · intro W hW
    go_simp
    all_goals with_reducible rfl
  try simp only [Act.put, List.setIfInBounds_toArray, List.set_cons_zero, List.set_cons_succ]
  refine wpAnyH_take (i := 5) (v := ?_) (by rw [List.getElem?_toArray]; rfl) (by kernel_rfl) (by kernel_rfl) (by kernel_rfl) (by exact fun _ _ _ h => h) (Or.inl ⟨by rfl, ?_⟩) h0 ?_
  rotate_left
  · intro W hW
    have cc := hW.row K1_len
    go_simp
    all_goals with_reducible rfl
  try simp only [Act.put, List.setIfInBounds_toArray, List.set_cons_zero, List.set_cons_succ]
  refine wpAnyH_ready (rs := [4]) (by kernel_rfl) (by simp) ?_
  refine AllReadyH.cons (by rw [List.getElem?_toArray]; rfl) (fun K hK => ?_) AllReadyH.nil
  rw [if_pos (by rfl)]
  have ct := M3.out.c1
  go_wp2_with fail
  refine hK.out _ _ (h0) (fun h4 => ?_)
  clear hK K
  try simp only [Act.put, List.setIfInBounds_toArray, List.set_cons_zero, List.set_cons_succ]
  refine wpAnyH_ready (rs := [6]) (by kernel_rfl) (by simp) ?_
  refine AllReadyH.cons (by rw [List.getElem?_toArray]; rfl) (fun K hK => ?_) AllReadyH.nil
  rw [if_pos (by rfl)]
  go_wp2_with fail
  refine (with_nil K1_len).mono ?_
  rintro e w4 ⟨rfl, hb4, hn4⟩
  have M4 := Lib.hid (M3.out.on hb4)
  have C4 := Lib.hid (C3.out.trans (T := []) (Chg.below hb4 (Nat.le_refl _) []) (by simp))
  have K4 := Lib.hid (K3.out.on hb4)
  have N4 := Lib.hid hn4
  go_wp2_with fail
  refine hK.out _ _ (K4.out) (fun h5 => ?_)
  clear hK K
  try simp only [Act.put, List.setIfInBounds_toArray, List.set_cons_zero, List.set_cons_succ]
  refine wpAnyH_take (i := 7) (v := ?_) (by rw [List.getElem?_toArray]; rfl) (by kernel_rfl) (by kernel_rfl) (by kernel_rfl) (by exact fun _ _ _ h => h) (Or.inl ⟨by rfl, ?_⟩) h5 ?_
  rotate_left
  · intro W hW
    go_simp
    all_goals with_reducible rfl
  try simp only [Act.put, List.setIfInBounds_toArray, List.set_cons_zero, List.set_cons_succ]
  refine wpAnyH_take (i := 8) (v := ?_) (by rw [List.getElem?_toArray]; rfl) (by kernel_rfl) (by kernel_rfl) (by kernel_rfl) (by exact fun _ _ _ h => h) (Or.inl ⟨by rfl, ?_⟩) h5 ?_
  rotate_left
  · intro W hW
    go_simp
    all_goals with_reducible rfl
  try simp only [Act.put, List.setIfInBounds_toArray, List.set_cons_zero, List.set_cons_succ]
  refine wpAnyH_ready (rs := [9]) (by kernel_rfl) (by simp) ?_
  refine AllReadyH.cons (by rw [List.getElem?_toArray]; rfl) (fun K hK => ?_) AllReadyH.nil
  rw [if_pos (by rfl)]
  have ct2 := M4.out.c1
  have cf2 : w4.frozen? ⟨p, 1, none⟩ = false := Joins.unfrozen_of_block M4.out.blk 1
  have M5 := Lib.hid (M4.out.setTop (some ⟨w3.heap.size + 1, 0, none⟩))
  have C5 := Lib.hid (C4.out.setCell (p := ⟨p, 1, none⟩) (.inl (by simp)) (.pointer (some ⟨w3.heap.size + 1, 0, none⟩)))
  have K5 := Lib.hid (K4.out.other (a := ⟨p, 1, none⟩) (by simp; omega) (.pointer (some ⟨w3.heap.size + 1, 0, none⟩)))
  have hlp3 := M3.out.lp
  have N5 : Hid (NdB (w4.setCell ⟨p, 1, none⟩ (.pointer (some ⟨w3.heap.size + 1, 0, none⟩))) (w3.heap.size + 1) ⟨K1, 256, none, none, zero32, false, zero32, 0, false⟩) := by
    show _ = _
    rw [Below.heap_setCell _ _ _ _ (by simp; omega)]
    exact N4.out
  go_wp2_with fail
  refine hK.out _ _ (K5.out) (fun h6 => ?_)
  clear hK K
  try simp only [Act.put, List.setIfInBounds_toArray, List.set_cons_zero, List.set_cons_succ]
  refine wpAnyH_done (by kernel_rfl) ?_ _
  go_wp2_with fail
  go_ret
  exact ⟨rfl, C5.out, _, by omega, M5.out, N5.out⟩
end Go.Proofs.YtjlodnecdngdfaaDoor
namespace Go.Proofs.YtjlodnecdngdfaaDoor
open Go.RowKit
set_option maxRecDepth 100000


set_option maxHeartbeats 8000000 in
theorem Put_gone {w : World} {p m b : Nat} {n : Nd} {U : List Int} (hU : U.length = 32) (hv : (U == zero32) = false) (hM : MpS w p m (M1 (.agg (hc U).toArray)) 1 (some ⟨b, 0, none⟩)) (hn : NdB w b n) (ok : n.ok) (hf : n.fork = 256) (_hpb : p ≠ b) (hmb : m ≠ b) :
    Calls Tryd.prog 13 #[.pointer (some ⟨p, 0, none⟩), .agg (hc K1).toArray, .agg (hc zero32).toArray] w fun e w' => e = .returned (.int .i64 0) ∧ Chg w w' [p, m] ∧ MpS w' p m #[] 1 none := by
  have N0 := Lib.hid ((hn.alloc (.cells (hc K1).toArray 24)).alloc (.cells (hc zero32).toArray 24))
  have OK := Lib.hid ok
  have HF := Lib.hid hf
  have hzz : (zero32 == zero32) = true := beq_self_eq_true _
  clear hn ok hf
  have HK := Lib.hid (((HashAt.new w K1).alloc (.cells (hc zero32).toArray 24)))
  have HV := Lib.hid (HashAt.new (w.alloc (.cells (hc K1).toArray 24)) zero32)
  have B0 := Lib.hid (((Below.refl w.heap.size w).alloc (Nat.le_refl _) (.cells (hc K1).toArray 24)).alloc (by simp) (.cells (hc zero32).toArray 24))
  have M0 := Lib.hid ((hM.alloc (.cells (hc K1).toArray 24)).alloc (.cells (hc zero32).toArray 24))
  have hmp := hM.lp
  have hmm := hM.lm
  have hpm := hM.ne
  have c00 := M0.out.c0
  have k32 := K1_len
  have hlk := hc_len K1
  have hlv := hc_len zero32
  have z32 := zero32_len
  have hW0 : ((w.alloc (.cells (hc K1).toArray 24)).alloc (.cells (hc zero32).toArray 24)).heap.size = w.heap.size + 2 := by simp
  simp only [World.size_alloc] at HV
  clear hM
  go_enter Tryd.func13, Tryd.ntmps13
  go_wp2_with fail
  refine (made_yes c00).mono ?_
  rintro e wn ⟨rfl, h⟩
  obtain rfl := h.symm
  clear h
  go_wp2_with fail
  generalize ((w.alloc (.cells (hc K1).toArray 24)).alloc (.cells (hc zero32).toArray 24)) = w0 at *
  refine wp_region_held_drew (S := fun W => Below w0.drew.heap.size w0.drew W) (by kernel_rfl) (Below.refl _ _) (fun h0 => ?_)
  replace N0 := Lib.hid (N0.out.on ((Below.refl _ _).drew))
  replace M0 := Lib.hid (M0.out.on ((Below.refl _ _).drew))
  replace HK := Lib.hid (HK.out.on ((Below.refl _ _).drew))
  replace HV := Lib.hid (HV.out.on ((Below.refl _ _).drew))
  replace B0 := Lib.hid B0.out.drew
  replace hW0 : Hid (w0.drew.heap.size = w.heap.size + 2) := hW0
  clear c00
  generalize w0.drew = w0 at *
  refine wpAnyH_take (i := 0) (v := ?_) (by rw [List.getElem?_toArray]; rfl) (by kernel_rfl) (by kernel_rfl) (by kernel_rfl) (by exact fun _ _ _ h => h) (Or.inl ⟨by rfl, ?_⟩) h0 ?_
  rotate_left
  · intro W hW
    go_simp
    all_goals with_reducible rfl
  try simp only [Act.put, List.setIfInBounds_toArray, List.set_cons_zero, List.set_cons_succ]
  refine wpAnyH_take (i := 1) (v := ?_) (by rw [List.getElem?_toArray]; rfl) (by kernel_rfl) (by kernel_rfl) (by kernel_rfl) (by exact fun _ _ _ h => h) (Or.inl ⟨by rfl, ?_⟩) h0 ?_
  rotate_left
  · intro W hW
    go_simp
    all_goals with_reducible rfl
  try simp only [Act.put, List.setIfInBounds_toArray, List.set_cons_zero, List.set_cons_succ]
  refine wpAnyH_take (i := 2) (v := ?_) (by rw [List.getElem?_toArray]; rfl) (by kernel_rfl) (by kernel_rfl) (by kernel_rfl) (by exact fun _ _ _ h => h) (Or.inl ⟨by rfl, ?_⟩) h0 ?_
  rotate_left
  · intro W hW
    go_simp
    all_goals with_reducible rfl
  try simp only [Act.put, List.setIfInBounds_toArray, List.set_cons_zero, List.set_cons_succ]
  refine wpAnyH_take (i := 3) (v := ?_) (by rw [List.getElem?_toArray]; rfl) (by kernel_rfl) (by kernel_rfl) (by kernel_rfl) (by exact fun _ _ _ h => h) (Or.inl ⟨by rfl, ?_⟩) h0 ?_
  rotate_left
  · intro W hW
    have cc := (M0.out.on hW).c0
    go_simp
    all_goals with_reducible rfl
  try simp only [Act.put, List.setIfInBounds_toArray, List.set_cons_zero, List.set_cons_succ]
  refine wpAnyH_take (i := 4) (v := ?_) (by rw [List.getElem?_toArray]; rfl) (by kernel_rfl) (by kernel_rfl) (by kernel_rfl) (by exact fun _ _ _ h => h) (Or.inl ⟨by rfl, ?_⟩) h0 ?_
  rotate_left
  · intro W hW
    have cc := (HK.out.on hW).row K1_len
    go_simp
    all_goals with_reducible rfl
  try simp only [Act.put, List.setIfInBounds_toArray, List.set_cons_zero, List.set_cons_succ]
  refine wpAnyH_take (i := 5) (v := ?_) (by rw [List.getElem?_toArray]; rfl) (by kernel_rfl) (by kernel_rfl) (by kernel_rfl) (by exact fun _ _ _ h => h) (Or.inl ⟨by rfl, ?_⟩) h0 ?_
  rotate_left
  · intro W hW
    have cc := look_m1 true (M0.out.on hW).mp
    go_simp
    all_goals with_reducible rfl
  try simp only [Act.put, List.setIfInBounds_toArray, List.set_cons_zero, List.set_cons_succ]
  refine wpAnyH_take (i := 6) (v := ?_) (by rw [List.getElem?_toArray]; rfl) (by kernel_rfl) (by kernel_rfl) (by kernel_rfl) (by exact fun _ _ _ h => h) (Or.inl ⟨by rfl, ?_⟩) h0 ?_
  rotate_left
  · intro W hW
    go_simp
    all_goals with_reducible rfl
  try simp only [Act.put, List.setIfInBounds_toArray, List.set_cons_zero, List.set_cons_succ]
  refine wpAnyH_take (i := 7) (v := ?_) (by rw [List.getElem?_toArray]; rfl) (by kernel_rfl) (by kernel_rfl) (by kernel_rfl) (by exact fun _ _ _ h => h) (Or.inl ⟨by rfl, ?_⟩) h0 ?_
  rotate_left
  · intro W hW
    go_simp
    all_goals with_reducible rfl
  try simp only [Act.put, List.setIfInBounds_toArray, List.set_cons_zero, List.set_cons_succ]
  refine wpAnyH_take (i := 8) (v := ?_) (by rw [List.getElem?_toArray]; rfl) (by kernel_rfl) (by kernel_rfl) (by kernel_rfl) (by exact fun _ _ _ h => h) (Or.inl ⟨by rfl, ?_⟩) h0 ?_
  rotate_left
  · intro W hW
    go_simp
    all_goals with_reducible rfl
  try simp only [Act.put, List.setIfInBounds_toArray, List.set_cons_zero, List.set_cons_succ]
  refine wpAnyH_ready (rs := [9]) (by kernel_rfl) (by simp) ?_
  refine AllReadyH.cons (by rw [List.getElem?_toArray]; rfl) (fun K hK => ?_) AllReadyH.nil
  rw [if_pos (by rfl)]
  have Z1 := Lib.hid (HashAt.new w0 zero32)
  go_wp2_with fail
  refine hK.out _ _ (h0.alloc h0.size _) (fun h1 => ?_)
  clear hK K
  try simp only [Act.put, List.setIfInBounds_toArray, List.set_cons_zero, List.set_cons_succ]
  refine wpAnyH_ready (rs := [10]) (by kernel_rfl) (by simp) ?_
  refine AllReadyH.cons (by rw [List.getElem?_toArray]; rfl) (fun K hK => ?_) AllReadyH.nil
  rw [if_pos (by rfl)]
  have th1 := Z1.out.there zero32_len
  have P1 := Lib.hid (Z1.out.put zero32_len hU)
  have B1 : Below w0.heap.size w0 ((w0.alloc (.cells (hc zero32).toArray 24)).setCells w0.heap.size 0 (hc U)) := below_setCells' _ (Nat.le_refl _) _ _ h1
  have ols := hc_len U
  go_wp2_with fail
  refine hK.out _ _ (B1) (fun h2 => ?_)
  clear hK K
  try simp only [Act.put, List.setIfInBounds_toArray, List.set_cons_zero, List.set_cons_succ]
  refine wpAnyH_take (i := 11) (v := ?_) (by rw [List.getElem?_toArray]; rfl) (by kernel_rfl) (by kernel_rfl) (by kernel_rfl) (by exact fun _ _ _ h => h) (Or.inl ⟨by rfl, ?_⟩) h2 ?_
  rotate_left
  · intro W hW
    go_simp
    all_goals with_reducible rfl
  try simp only [Act.put, List.setIfInBounds_toArray, List.set_cons_zero, List.set_cons_succ]
  refine wpAnyH_done (by kernel_rfl) ?_ _
  have rv := (HV.out.on B1).row zero32_len
  have ro := P1.out.row hU
  have Mx := Lib.hid (M0.out.on B1)
  have Nx := Lib.hid (N0.out.on B1)
  have HKx := Lib.hid (HK.out.on B1)
  have Bx := Lib.hid (B0.out.trans (B1.mono B0.out.size))
  have hsx := B1.size
  have hlu := hc_len U
  clear h2 h1 P1 Z1 th1 M0 HK HV N0
  generalize (w0.alloc (.cells (hc zero32).toArray 24)).setCells w0.heap.size 0 (hc U) = w2 at *
  clear B1
  go_wp2_with fail
  refine wp_region_held_drew (S := fun W => W.cell? ⟨p, 0, none⟩ = some (.map (some m)) ∧ HashAt W w.heap.size K1) (by kernel_rfl) (⟨(Mx.out.on ((Below.refl _ _).drew)).c0, HKx.out.on ((Below.refl _ _).drew)⟩) (fun h0 => ?_)
  replace Mx := Lib.hid (Mx.out.on ((Below.refl _ _).drew))
  replace Nx := Lib.hid (Nx.out.on ((Below.refl _ _).drew))
  replace HKx := Lib.hid (HKx.out.on ((Below.refl _ _).drew))
  replace Bx := Lib.hid Bx.out.drew
  replace hsx : w0.heap.size ≤ w2.drew.heap.size := hsx
  clear rv ro
  generalize w2.drew = w2 at *
  refine wpAnyH_take (i := 0) (v := ?_) (by rw [List.getElem?_toArray]; rfl) (by kernel_rfl) (by kernel_rfl) (by kernel_rfl) (by exact fun _ _ _ h => h) (Or.inl ⟨by rfl, ?_⟩) h0 ?_
  rotate_left
  · intro W hW
    go_simp
    all_goals with_reducible rfl
  try simp only [Act.put, List.setIfInBounds_toArray, List.set_cons_zero, List.set_cons_succ]
  refine wpAnyH_take (i := 1) (v := ?_) (by rw [List.getElem?_toArray]; rfl) (by kernel_rfl) (by kernel_rfl) (by kernel_rfl) (by exact fun _ _ _ h => h) (Or.inl ⟨by rfl, ?_⟩) h0 ?_
  rotate_left
  · intro W hW
    go_simp
    all_goals with_reducible rfl
  try simp only [Act.put, List.setIfInBounds_toArray, List.set_cons_zero, List.set_cons_succ]
  refine wpAnyH_take (i := 2) (v := ?_) (by rw [List.getElem?_toArray]; rfl) (by kernel_rfl) (by kernel_rfl) (by kernel_rfl) (by exact fun _ _ _ h => h) (Or.inl ⟨by rfl, ?_⟩) h0 ?_
  rotate_left
  · intro W hW
    go_simp
    all_goals with_reducible rfl
  try simp only [Act.put, List.setIfInBounds_toArray, List.set_cons_zero, List.set_cons_succ]
  refine wpAnyH_take (i := 3) (v := ?_) (by rw [List.getElem?_toArray]; rfl) (by kernel_rfl) (by kernel_rfl) (by kernel_rfl) (by exact fun _ _ _ h => h) (Or.inl ⟨by rfl, ?_⟩) h0 ?_
  rotate_left
  · intro W hW
    have cc := hW.1
    go_simp
    all_goals with_reducible rfl
  try simp only [Act.put, List.setIfInBounds_toArray, List.set_cons_zero, List.set_cons_succ]
  refine wpAnyH_take (i := 4) (v := ?_) (by rw [List.getElem?_toArray]; rfl) (by kernel_rfl) (by kernel_rfl) (by kernel_rfl) (by exact fun _ _ _ h => h) (Or.inl ⟨by rfl, ?_⟩) h0 ?_
  rotate_left
  · intro W hW
    have cc := hW.2.row K1_len
    go_simp
    all_goals with_reducible rfl
  try simp only [Act.put, List.setIfInBounds_toArray, List.set_cons_zero, List.set_cons_succ]
  refine wpAnyH_ready (rs := [5]) (by kernel_rfl) (by simp) ?_
  refine AllReadyH.cons (by rw [List.getElem?_toArray]; rfl) (fun K hK => ?_) AllReadyH.nil
  rw [if_pos (by rfl)]
  have hdl := fun ty => del_m1 (v := .agg (hc U).toArray) ty Mx.out.mp
  have M3 := Lib.hid (Mx.out.putMap #[] 1)
  have K3 : Hid (HashAt (putMap w2 m #[] 1) w.heap.size K1) := by
    show _ = _
    rw [putMap_other (by omega)]; exact HKx.out
  have N3 : Hid (NdB (putMap w2 m #[] 1) b n) := by
    show _ = _
    rw [putMap_other (by omega)]; exact Nx.out
  have C3 := Lib.hid ((Chg.below Bx.out (Nat.le_refl _) [p, m]).putMap (b := m) (.inl (by simp)) #[] 1)
  have c3 := M3.out.c0
  go_wp2_with fail
  refine hK.out _ _ (⟨c3, K3.out⟩) (fun h3 => ?_)
  clear hK K
  try simp only [Act.put, List.setIfInBounds_toArray, List.set_cons_zero, List.set_cons_succ]
  refine wpAnyH_done (by kernel_rfl) ?_ _
  have hs3 := putMap_size w2 m #[] 1
  clear h3 h0 c3 hdl Mx HKx Bx Nx
  have hs4 : w.heap.size + 2 ≤ (putMap w2 m #[] 1).heap.size := by rw [hs3]; have := hW0.out; omega
  clear hs3
  generalize putMap w2 m #[] 1 = w3 at *
  go_wp2_with fail
  refine wp_region_held_drew (S := fun W => HashAt W w.heap.size K1) (by kernel_rfl) (K3.out.on ((Below.refl _ _).drew)) (fun h0 => ?_)
  replace M3 := Lib.hid (M3.out.on ((Below.refl _ _).drew))
  replace K3 := Lib.hid (K3.out.on ((Below.refl _ _).drew))
  replace N3 := Lib.hid (N3.out.on ((Below.refl _ _).drew))
  replace C3 := Lib.hid C3.out.drew
  replace hs4 : w.heap.size + 2 ≤ w3.drew.heap.size := hs4
  generalize w3.drew = w3 at *
  refine wpAnyH_take (i := 0) (v := ?_) (by rw [List.getElem?_toArray]; rfl) (by kernel_rfl) (by kernel_rfl) (by kernel_rfl) (by exact fun _ _ _ h => h) (Or.inl ⟨by rfl, ?_⟩) h0 ?_
  rotate_left
  · intro W hW
    go_simp
    all_goals with_reducible rfl
  try simp only [Act.put, List.setIfInBounds_toArray, List.set_cons_zero, List.set_cons_succ]
  refine wpAnyH_take (i := 1) (v := ?_) (by rw [List.getElem?_toArray]; rfl) (by kernel_rfl) (by kernel_rfl) (by kernel_rfl) (by exact fun _ _ _ h => h) (Or.inl ⟨by rfl, ?_⟩) h0 ?_
  rotate_left
  · intro W hW
    go_simp
    all_goals with_reducible rfl
  try simp only [Act.put, List.setIfInBounds_toArray, List.set_cons_zero, List.set_cons_succ]
  refine wpAnyH_take (i := 2) (v := ?_) (by rw [List.getElem?_toArray]; rfl) (by kernel_rfl) (by kernel_rfl) (by kernel_rfl) (by exact fun _ _ _ h => h) (Or.inl ⟨by rfl, ?_⟩) h0 ?_
  rotate_left
  · intro W hW
    go_simp
    all_goals with_reducible rfl
  try simp only [Act.put, List.setIfInBounds_toArray, List.set_cons_zero, List.set_cons_succ]
  refine wpAnyH_take (i := 3) (v := ?_) (by rw [List.getElem?_toArray]; rfl) (by kernel_rfl) (by kernel_rfl) (by kernel_rfl) (by exact fun _ _ _ h => h) (Or.inl ⟨by rfl, ?_⟩) h0 ?_
  rotate_left
  · intro W hW
    go_simp
    all_goals with_reducible rfl
  try simp only [Act.put, List.setIfInBounds_toArray, List.set_cons_zero, List.set_cons_succ]
  refine wpAnyH_take (i := 5) (v := ?_) (by rw [List.getElem?_toArray]; rfl) (by kernel_rfl) (by kernel_rfl) (by kernel_rfl) (by exact fun _ _ _ h => h) (Or.inl ⟨by rfl, ?_⟩) h0 ?_
  rotate_left
  · intro W hW
    have cc := hW.row K1_len
    go_simp
    all_goals with_reducible rfl
  try simp only [Act.put, List.setIfInBounds_toArray, List.set_cons_zero, List.set_cons_succ]
  refine wpAnyH_ready (rs := [4]) (by kernel_rfl) (by simp) ?_
  refine AllReadyH.cons (by rw [List.getElem?_toArray]; rfl) (fun K hK => ?_) AllReadyH.nil
  rw [if_pos (by rfl)]
  have ct := M3.out.c1
  go_wp2_with fail
  refine hK.out _ _ (h0) (fun h4 => ?_)
  clear hK K
  try simp only [Act.put, List.setIfInBounds_toArray, List.set_cons_zero, List.set_cons_succ]
  refine wpAnyH_ready (rs := [6]) (by kernel_rfl) (by simp) ?_
  refine AllReadyH.cons (by rw [List.getElem?_toArray]; rfl) (fun K hK => ?_) AllReadyH.nil
  rw [if_pos (by rfl)]
  go_wp2_with fail
  refine (without_leaf OK.out HF.out N3.out).mono ?_
  rintro e w4 ⟨rfl, hb4⟩
  have M4 := Lib.hid (M3.out.on hb4)
  have C4 := Lib.hid (C3.out.trans (T := []) (Chg.below hb4 (Nat.le_refl _) []) (by simp))
  have K4 := Lib.hid (K3.out.on hb4)
  go_wp2_with fail
  refine hK.out _ _ (K4.out) (fun h5 => ?_)
  clear hK K
  try simp only [Act.put, List.setIfInBounds_toArray, List.set_cons_zero, List.set_cons_succ]
  refine wpAnyH_take (i := 7) (v := ?_) (by rw [List.getElem?_toArray]; rfl) (by kernel_rfl) (by kernel_rfl) (by kernel_rfl) (by exact fun _ _ _ h => h) (Or.inl ⟨by rfl, ?_⟩) h5 ?_
  rotate_left
  · intro W hW
    go_simp
    all_goals with_reducible rfl
  try simp only [Act.put, List.setIfInBounds_toArray, List.set_cons_zero, List.set_cons_succ]
  refine wpAnyH_take (i := 8) (v := ?_) (by rw [List.getElem?_toArray]; rfl) (by kernel_rfl) (by kernel_rfl) (by kernel_rfl) (by exact fun _ _ _ h => h) (Or.inl ⟨by rfl, ?_⟩) h5 ?_
  rotate_left
  · intro W hW
    go_simp
    all_goals with_reducible rfl
  try simp only [Act.put, List.setIfInBounds_toArray, List.set_cons_zero, List.set_cons_succ]
  refine wpAnyH_ready (rs := [9]) (by kernel_rfl) (by simp) ?_
  refine AllReadyH.cons (by rw [List.getElem?_toArray]; rfl) (fun K hK => ?_) AllReadyH.nil
  rw [if_pos (by rfl)]
  have ct2 := M4.out.c1
  have cf2 : w4.frozen? ⟨p, 1, none⟩ = false := Joins.unfrozen_of_block M4.out.blk 1
  have M5 := Lib.hid (M4.out.setTop none)
  have C5 := Lib.hid (C4.out.setCell (p := ⟨p, 1, none⟩) (.inl (by simp)) (.pointer none))
  have K5 := Lib.hid (K4.out.other (a := ⟨p, 1, none⟩) (by simp; omega) (.pointer none))
  go_wp2_with fail
  refine hK.out _ _ (K5.out) (fun h6 => ?_)
  clear hK K
  try simp only [Act.put, List.setIfInBounds_toArray, List.set_cons_zero, List.set_cons_succ]
  refine wpAnyH_done (by kernel_rfl) ?_ _
  go_wp2_with fail
  go_ret
  exact ⟨rfl, C5.out, M5.out⟩

set_option maxHeartbeats 8000000 in
theorem Get_none {w : World} {p m c : Nat} {top : Option Addr} (hM : MpS w p m #[] c top) :
    Calls Tryd.prog 15 #[.pointer (some ⟨p, 0, none⟩), .agg (hc K1).toArray] w fun e w' => e = .returned (.agg (hc zero32).toArray) ∧ Below w.heap.size w w' := by
  have hmp := hM.lp
  have hmm := hM.lm
  have HK := Lib.hid (((HashAt.new w K1).alloc (.cells (hc zero32).toArray 24)))
  have HZ := Lib.hid (HashAt.new (w.alloc (.cells (hc K1).toArray 24)) zero32)
  have B0 := Lib.hid (((Below.refl w.heap.size w).alloc (Nat.le_refl _) (.cells (hc K1).toArray 24)).alloc (by simp) (.cells (hc zero32).toArray 24))
  have M0 := Lib.hid ((hM.alloc (.cells (hc K1).toArray 24)).alloc (.cells (hc zero32).toArray 24))
  have c00 := M0.out.c0
  have k32 := K1_len
  have hlk := hc_len K1
  have z32 := zero32_len
  simp only [World.size_alloc] at HZ
  clear hM
  go_enter Tryd.func15, Tryd.ntmps15
  go_wp2_with fail
  refine (made_yes c00).mono ?_
  rintro e wn ⟨rfl, h⟩
  obtain rfl := h.symm
  clear h
  go_wp2_with fail
  generalize ((w.alloc (.cells (hc K1).toArray 24)).alloc (.cells (hc zero32).toArray 24)) = w0 at *
  refine wp_region_held_drew (S := fun W => HashAt W w.heap.size K1 ∧ MpS W p m #[] c top) (by kernel_rfl) (⟨HK.out.on ((Below.refl _ _).drew), M0.out.on ((Below.refl _ _).drew)⟩) (fun h0 => ?_)
  replace M0 := Lib.hid (M0.out.on ((Below.refl _ _).drew))
  replace HK := Lib.hid (HK.out.on ((Below.refl _ _).drew))
  replace HZ := Lib.hid (HZ.out.on ((Below.refl _ _).drew))
  replace B0 := Lib.hid B0.out.drew
  clear c00
  generalize w0.drew = w0 at *
  refine wpAnyH_take (i := 0) (v := ?_) (by rw [List.getElem?_toArray]; rfl) (by kernel_rfl) (by kernel_rfl) (by kernel_rfl) (by exact fun _ _ _ h => h) (Or.inl ⟨by rfl, ?_⟩) h0 ?_
  rotate_left
  · intro W hW
    go_simp
    all_goals with_reducible rfl
  try simp only [Act.put, List.setIfInBounds_toArray, List.set_cons_zero, List.set_cons_succ]
  refine wpAnyH_take (i := 1) (v := ?_) (by rw [List.getElem?_toArray]; rfl) (by kernel_rfl) (by kernel_rfl) (by kernel_rfl) (by exact fun _ _ _ h => h) (Or.inl ⟨by rfl, ?_⟩) h0 ?_
  rotate_left
  · intro W hW
    go_simp
    all_goals with_reducible rfl
  try simp only [Act.put, List.setIfInBounds_toArray, List.set_cons_zero, List.set_cons_succ]
  refine wpAnyH_take (i := 2) (v := ?_) (by rw [List.getElem?_toArray]; rfl) (by kernel_rfl) (by kernel_rfl) (by kernel_rfl) (by exact fun _ _ _ h => h) (Or.inl ⟨by rfl, ?_⟩) h0 ?_
  rotate_left
  · intro W hW
    go_simp
    all_goals with_reducible rfl
  try simp only [Act.put, List.setIfInBounds_toArray, List.set_cons_zero, List.set_cons_succ]
  refine wpAnyH_take (i := 3) (v := ?_) (by rw [List.getElem?_toArray]; rfl) (by kernel_rfl) (by kernel_rfl) (by kernel_rfl) (by exact fun _ _ _ h => h) (Or.inl ⟨by rfl, ?_⟩) h0 ?_
  rotate_left
  · intro W hW
    have cc := hW.2.c0
    go_simp
    all_goals with_reducible rfl
  try simp only [Act.put, List.setIfInBounds_toArray, List.set_cons_zero, List.set_cons_succ]
  refine wpAnyH_take (i := 4) (v := ?_) (by rw [List.getElem?_toArray]; rfl) (by kernel_rfl) (by kernel_rfl) (by kernel_rfl) (by exact fun _ _ _ h => h) (Or.inl ⟨by rfl, ?_⟩) h0 ?_
  rotate_left
  · intro W hW
    have cc := hW.1.row K1_len
    go_simp
    all_goals with_reducible rfl
  try simp only [Act.put, List.setIfInBounds_toArray, List.set_cons_zero, List.set_cons_succ]
  refine wpAnyH_take (i := 5) (v := ?_) (by rw [List.getElem?_toArray]; rfl) (by kernel_rfl) (by kernel_rfl) (by kernel_rfl) (by exact fun _ _ _ h => h) (Or.inl ⟨by rfl, ?_⟩) h0 ?_
  rotate_left
  · intro W hW
    have cc := look_m0 false hW.2.mp
    go_simp
    all_goals with_reducible rfl
  try simp only [Act.put, List.setIfInBounds_toArray, List.set_cons_zero, List.set_cons_succ]
  refine wpAnyH_ready (rs := [6]) (by kernel_rfl) (by simp) ?_
  refine AllReadyH.cons (by rw [List.getElem?_toArray]; rfl) (fun K hK => ?_) AllReadyH.nil
  rw [if_pos (by rfl)]
  have th := HZ.out.there zero32_len
  have hput := (HZ.out.put zero32_len zero32_len).row zero32_len
  have HX := Lib.hid (below_setCells' (B := w.heap.size) (w.heap.size + 1) (by omega) (hc zero32) 0 B0.out)
  have HM9 : MpS (w0.setCells (w.heap.size + 1) 0 (hc zero32)) p m #[] c top := ⟨by rw [setCells_other (by have := M0.out.lp; omega)]; exact M0.out.blk, by rw [setCells_other (by omega)]; exact M0.out.mp⟩
  go_wp2_with fail
  refine hK.out _ _ (⟨(HK.out.others (k := w.heap.size + 1) (by omega) 0 (hc zero32)), HM9⟩) (fun h1 => ?_)
  clear hK K
  try simp only [Act.put, List.setIfInBounds_toArray, List.set_cons_zero, List.set_cons_succ]
  refine wpAnyH_done (by kernel_rfl) ?_ _
  go_wp2_with fail
  refine bodyPost_ret (v := .agg (hc zero32).toArray) (by simp [results, Tryd.results15, go_sem, hput, z32]) rfl ⟨rfl, HX.out⟩
end Go.Proofs.YtjlodnecdngdfaaDoor
namespace Go.Proofs.YtjlodnecdngdfaaDoor
open Go.RowKit
set_option maxRecDepth 100000
theorem seg_leaf : eqN (lfN k1N v2N) rd0 = true := by decide +kernel
theorem seg_0 : eqN (upN k1N 256 0 16 rd0) rd1 = true := by decide +kernel
theorem seg_1 : eqN (upN k1N 256 16 16 rd1) rd2 = true := by decide +kernel
theorem seg_2 : eqN (upN k1N 256 32 16 rd2) rd3 = true := by decide +kernel
theorem seg_3 : eqN (upN k1N 256 48 16 rd3) rd4 = true := by decide +kernel
end Go.Proofs.YtjlodnecdngdfaaDoor
namespace Go.Proofs.YtjlodnecdngdfaaDoor
open Go.RowKit
set_option maxRecDepth 100000
theorem seg_4 : eqN (upN k1N 256 64 16 rd4) rd5 = true := by decide +kernel
theorem seg_5 : eqN (upN k1N 256 80 16 rd5) rd6 = true := by decide +kernel
theorem seg_6 : eqN (upN k1N 256 96 16 rd6) rd7 = true := by decide +kernel
theorem seg_7 : eqN (upN k1N 256 112 16 rd7) rd8 = true := by decide +kernel
end Go.Proofs.YtjlodnecdngdfaaDoor
namespace Go.Proofs.YtjlodnecdngdfaaDoor
open Go.RowKit
set_option maxRecDepth 100000
theorem seg_8 : eqN (upN k1N 256 128 16 rd8) rd9 = true := by decide +kernel
theorem seg_9 : eqN (upN k1N 256 144 16 rd9) rd10 = true := by decide +kernel
theorem seg_10 : eqN (upN k1N 256 160 16 rd10) rd11 = true := by decide +kernel
theorem seg_11 : eqN (upN k1N 256 176 16 rd11) rd12 = true := by decide +kernel
end Go.Proofs.YtjlodnecdngdfaaDoor
namespace Go.Proofs.YtjlodnecdngdfaaDoor
open Go.RowKit
set_option maxRecDepth 100000
theorem seg_12 : eqN (upN k1N 256 192 16 rd12) rd13 = true := by decide +kernel
theorem seg_13 : eqN (upN k1N 256 208 16 rd13) rd14 = true := by decide +kernel
theorem seg_14 : eqN (upN k1N 256 224 16 rd14) rd15 = true := by decide +kernel
theorem seg_15 : eqN (upN k1N 256 240 16 rd15) rd16 = true := by decide +kernel
end Go.Proofs.YtjlodnecdngdfaaDoor
namespace Go.Proofs.YtjlodnecdngdfaaDoor
open Go.RowKit
set_option maxRecDepth 100000
theorem k1N_to : castL k1N = K1 := by rfl
theorem v2N_to : castL v2N = V2 := by rfl
theorem k1N_by : ByN k1N := by
  intro x hx
  simp only [k1N, List.mem_cons, List.not_mem_nil, or_false, or_self] at hx
  omega
theorem v2N_by : ByN v2N := by
  intro x hx
  simp only [v2N, List.mem_cons, List.not_mem_nil, or_false, or_self] at hx
  omega
theorem K1_bytes : Bytes K1 := by
  intro x hx
  simp only [K1, List.mem_cons, List.not_mem_nil, or_false, or_self] at hx
  omega
theorem V2_bytes : Bytes V2 := by
  intro x hx
  simp only [V2, List.mem_cons, List.not_mem_nil, or_false, or_self] at hx
  omega
theorem rd_leaf : lfH K1 V2 = castL rd0 ∧ ByN rd0 := by
  have h := lfN_to k1N_by v2N_by
  have b := lfN_by k1N v2N
  rw [eqN_iff.1 seg_leaf] at h b
  rw [← k1N_to, ← v2N_to]
  exact ⟨h, b⟩
/-- The root of the pair K1, V2. -/
def rtK : List Int := upH K1 256 (lfH K1 V2) 256
theorem rd_root : rtK = castL rd16 := by
  have h0 : upH (castL k1N) 256 (lfH K1 V2) 0 = castL rd0 ∧ ByN rd0 := rd_leaf
  have h := up_more h0 seg_0
  have h := up_more (k := 16) h seg_1
  have h := up_more (k := 32) h seg_2
  have h := up_more (k := 48) h seg_3
  have h := up_more (k := 64) h seg_4
  have h := up_more (k := 80) h seg_5
  have h := up_more (k := 96) h seg_6
  have h := up_more (k := 112) h seg_7
  have h := up_more (k := 128) h seg_8
  have h := up_more (k := 144) h seg_9
  have h := up_more (k := 160) h seg_10
  have h := up_more (k := 176) h seg_11
  have h := up_more (k := 192) h seg_12
  have h := up_more (k := 208) h seg_13
  have h := up_more (k := 224) h seg_14
  have h := up_more (k := 240) h seg_15
  have h1 := h.1
  rw [k1N_to] at h1
  exact h1
theorem rtK_len : rtK.length = 32 := upH_len _ _ (lfH_len _ _) _
theorem rtK_bytes : Bytes rtK := upH_bytes _ _ (lfH_bytes _ _) _
theorem rtK_some : (rtK == zero32) = false := by
  rw [rd_root, ← z32N_to]
  simp only [beq_eq_false_iff_ne, ne_eq]
  intro h
  have := castL_inj h
  simp [rd16, z32N] at this
theorem lfK_some : lfH K1 V2 = sha (frm (sn leafS) [K1, V2]) := lfH_some _ (by simp [V2, zero32])
end Go.Proofs.YtjlodnecdngdfaaDoor
namespace Go.Proofs.YtjlodnecdngdfaaDoor
open Go.RowKit
set_option maxRecDepth 100000

theorem num5_any (n : Int) (w : World) : Calls Tryd.prog 12 #[.int .i64 n] w fun e w' => e = .returned (.int .i64 n) ∧ w' = w := by
  go_enter Tryd.func12, Tryd.ntmps12
  go_wp2_with fail
  go_ret
  exact ⟨rfl, rfl⟩

theorem V2_zero : (V2 == zero32) = false := by simp [V2, zero32]
theorem zero_V2 : (zero32 == V2) = false := by simp [V2, zero32]
set_option maxHeartbeats 8000000 in
theorem knows5_any {w : World} (hT : Tbl w) : Calls Tryd.prog 8 #[] w fun e w' => e = .returned (.bool true) ∧ Below w.heap.size w w' := by
  have HT := Lib.hid hT
  have hpos := hT.pos
  have z32 := zero32_len
  have k32 := K1_len
  have v32 := V2_len
  have hlz := hc_len zero32
  clear hT
  go_enter Tryd.func8, Tryd.ntmps8
  go_wp2_with fail
  refine New_nil.mono ?_
  rintro e w1 ⟨p, m, rfl, hp, hm, hb1, hM1⟩
  go_wp2_with fail
  refine (Root_nil hM1).mono ?_
  rintro e w2 ⟨rfl, hb2⟩
  have M2 := hM1.on hb2
  have B2 := hb1.trans (hb2.mono hb1.size)
  have lp2 := M2.lp
  have lm2 := M2.lm
  have H2 := HashAt.new w2 zero32
  have th2 := H2.there zero32_len
  have H3 := Lib.hid (H2.put zero32_len zero32_len)
  have B3' : Below w2.heap.size w2 ((w2.alloc (.cells (hc zero32).toArray 24)).setCells w2.heap.size 0 (hc zero32)) := below_setCells' _ (Nat.le_refl _) _ _ ((Below.refl _ _).alloc (Nat.le_refl _) _)
  have M3 := Lib.hid (M2.on B3')
  have B3 := Lib.hid (B2.trans (B3'.mono B2.size))
  have hs3 := B3'.size
  have hs2 := B2.size
  have hq3 : w2.heap.size < ((w2.alloc (.cells (hc zero32).toArray 24)).setCells w2.heap.size 0 (hc zero32)).heap.size := H3.out.lt
  clear hb1 hM1 hb2 M2 B2 H2 B3'
  go_wp2_with fail
  clear th2
  obtain ⟨q3, hq⟩ : ∃ q, q = w2.heap.size := ⟨_, rfl⟩
  rw [← hq] at H3 M3 B3 lp2 lm2 hs3 hs2 hq3 ⊢
  generalize (w2.alloc (.cells (hc zero32).toArray 24)).setCells q3 0 (hc zero32) = w3 at *
  clear hq
  refine (Put_new V2_len V2_zero zero_V2 M3.out).mono ?_
  rintro e w4 ⟨rfl, hc4, b, hb4, hM4, hN4⟩
  have M4 := Lib.hid hM4
  have N4 := Lib.hid hN4
  have B4 := Lib.hid (B3.out.trans (hc4.toBelow B3.out.size (by intro k hk; simp at hk; rcases hk with rfl | rfl <;> assumption)))
  have H4 := Lib.hid (H3.out.chg hc4 (by simp; omega))
  have hs4 := hc4.size
  clear hc4 hM4 hN4 H3 M3 B3
  go_wp2_with fail
  refine (Root_leaf (n := ⟨K1, 256, none, none, zero32, false, zero32, 0, false⟩) (V := V2) (HT.out.on B4.out hpos) ⟨K1_len, zero32_len, zero32_len⟩ rfl K1_bytes V2_len V2_bytes rfl rfl rfl N4.out M4.out (by omega) (by omega) (by simp; omega)).mono ?_
  rintro e w5 ⟨rfl, hc5, n5, ok5, hf5, hn5⟩
  have M5 := M4.out.chg hc5 (by simp; omega) (by simp; omega)
  obtain ⟨R, hR⟩ : ∃ R, upH K1 256 (lfH K1 V2) 256 = R := ⟨_, rfl⟩
  have lR : R.length = 32 := hR ▸ rtK_len
  have dR : (R == zero32) = false := hR ▸ rtK_some
  rw [hR]
  clear hR
  have H5 := HashAt.new w5 zero32
  have th5 := H5.there zero32_len
  have R5 := Lib.hid (H5.put zero32_len lR)
  have B5' : Below w5.heap.size w5 ((w5.alloc (.cells (hc zero32).toArray 24)).setCells w5.heap.size 0 (hc R)) := below_setCells' _ (Nat.le_refl _) _ _ ((Below.refl _ _).alloc (Nat.le_refl _) _)
  have B5 := B4.out.trans (hc5.toBelow B4.out.size (by intro k hk; simp at hk; subst hk; omega))
  have M6 := Lib.hid (M5.on B5')
  have N6 := Lib.hid (hn5.on B5')
  have H6 := Lib.hid ((H4.out.chg hc5 (by simp; omega)).on B5')
  have B6 := Lib.hid (B5.trans (B5'.mono B5.size))
  have hlR := hc_len R
  have hs5 := hc5.size
  have hs6 := B5'.size
  have OK5 := Lib.hid ok5
  have HF5 := Lib.hid hf5
  have DR := Lib.hid dR
  clear hc5 hn5 M5 H5 B5' B5 M4 N4 B4 H4 ok5 hf5 dR
  go_wp2_with fail
  clear th5
  obtain ⟨q5, hq⟩ : ∃ q, q = w5.heap.size := ⟨_, rfl⟩
  rw [← hq] at R5 M6 N6 H6 B6 hs5 hs6 ⊢
  generalize (w5.alloc (.cells (hc zero32).toArray 24)).setCells q5 0 (hc R) = w6 at *
  clear hq
  refine (Put_gone V2_len V2_zero M6.out N6.out OK5.out HF5.out (by omega) (by omega)).mono ?_
  rintro e w7 ⟨rfl, hc7, hM7⟩
  have M7 := Lib.hid hM7
  have B7 := Lib.hid (B6.out.trans (hc7.toBelow B6.out.size (by intro k hk; simp at hk; rcases hk with rfl | rfl <;> assumption)))
  have H7 := Lib.hid (H6.out.chg hc7 (by simp; omega))
  have R7 := Lib.hid (R5.out.chg hc7 (by simp; omega))
  clear hc7 hM7 H6 R5 B6 M6 N6
  go_wp2_with fail
  have hzz : (zero32 == zero32) = true := beq_self_eq_true _
  have dR := DR.out
  refine wp_region_held_drew (S := fun W => Below w.heap.size w W ∧ HashAt W q3 zero32 ∧ HashAt W q5 R ∧ MpS W p m #[] 1 none) (by kernel_rfl) (⟨B7.out.drew, H7.out.on ((Below.refl _ _).drew), R7.out.on ((Below.refl _ _).drew), M7.out.on ((Below.refl _ _).drew)⟩) (fun h0 => ?_)
  refine wpAnyH_take (i := 0) (v := ?_) (by rw [List.getElem?_toArray]; rfl) (by kernel_rfl) (by kernel_rfl) (by kernel_rfl) (by exact fun _ _ _ h => h) (Or.inl ⟨by rfl, ?_⟩) h0 ?_
  rotate_left
  · intro W hW
    go_simp
    all_goals with_reducible rfl
  try simp only [Act.put, List.setIfInBounds_toArray, List.set_cons_zero, List.set_cons_succ]
  refine wpAnyH_take (i := 2) (v := ?_) (by rw [List.getElem?_toArray]; rfl) (by kernel_rfl) (by kernel_rfl) (by kernel_rfl) (by exact fun _ _ _ h => h) (Or.inl ⟨by rfl, ?_⟩) h0 ?_
  rotate_left
  · intro W hW
    go_simp
    all_goals with_reducible rfl
  try simp only [Act.put, List.setIfInBounds_toArray, List.set_cons_zero, List.set_cons_succ]
  refine wpAnyH_take (i := 5) (v := ?_) (by rw [List.getElem?_toArray]; rfl) (by kernel_rfl) (by kernel_rfl) (by kernel_rfl) (by exact fun _ _ _ h => h) (Or.inl ⟨by rfl, ?_⟩) h0 ?_
  rotate_left
  · intro W hW
    go_simp
    all_goals with_reducible rfl
  try simp only [Act.put, List.setIfInBounds_toArray, List.set_cons_zero, List.set_cons_succ]
  refine wpAnyH_ready (rs := [1]) (by kernel_rfl) (by simp) ?_
  refine AllReadyH.cons (by rw [List.getElem?_toArray]; rfl) (fun K hK => ?_) AllReadyH.nil
  rw [if_pos (by rfl)]
  go_wp2_with fail
  refine (num5_any 0 _).mono ?_
  rintro e wx ⟨rfl, hwx⟩
  obtain rfl := hwx.symm
  clear hwx
  go_wp2_with fail
  refine hK.out _ _ (h0) (fun hn1 => ?_)
  clear hK K
  try simp only [Act.put, List.setIfInBounds_toArray, List.set_cons_zero, List.set_cons_succ]
  refine wpAnyH_ready (rs := [3]) (by kernel_rfl) (by simp) ?_
  refine AllReadyH.cons (by rw [List.getElem?_toArray]; rfl) (fun K hK => ?_) AllReadyH.nil
  rw [if_pos (by rfl)]
  go_wp2_with fail
  refine (num5_any 0 _).mono ?_
  rintro e wx ⟨rfl, hwx⟩
  obtain rfl := hwx.symm
  clear hwx
  go_wp2_with fail
  refine hK.out _ _ (hn1) (fun hn3 => ?_)
  clear hK K
  try simp only [Act.put, List.setIfInBounds_toArray, List.set_cons_zero, List.set_cons_succ]
  refine wpAnyH_take (i := 4) (v := ?_) (by rw [List.getElem?_toArray]; rfl) (by kernel_rfl) (by kernel_rfl) (by kernel_rfl) (by exact fun _ _ _ h => h) (Or.inl ⟨by rfl, ?_⟩) hn3 ?_
  rotate_left
  · intro W hW
    go_simp
    all_goals with_reducible rfl
  try simp only [Act.put, List.setIfInBounds_toArray, List.set_cons_zero, List.set_cons_succ]
  refine wpAnyH_ready (rs := [6]) (by kernel_rfl) (by simp) ?_
  refine AllReadyH.cons (by rw [List.getElem?_toArray]; rfl) (fun K hK => ?_) AllReadyH.nil
  rw [if_pos (by rfl)]
  go_wp2_with fail
  refine (num5_any 0 _).mono ?_
  rintro e wx ⟨rfl, hwx⟩
  obtain rfl := hwx.symm
  clear hwx
  go_wp2_with fail
  refine hK.out _ _ (hn3) (fun hn6 => ?_)
  clear hK K
  try simp only [Act.put, List.setIfInBounds_toArray, List.set_cons_zero, List.set_cons_succ]
  refine wpAnyH_take (i := 7) (v := ?_) (by rw [List.getElem?_toArray]; rfl) (by kernel_rfl) (by kernel_rfl) (by kernel_rfl) (by exact fun _ _ _ h => h) (Or.inl ⟨by rfl, ?_⟩) hn6 ?_
  rotate_left
  · intro W hW
    go_simp
    all_goals with_reducible rfl
  try simp only [Act.put, List.setIfInBounds_toArray, List.set_cons_zero, List.set_cons_succ]
  refine wpAnyH_take (i := 8) (v := ?_) (by rw [List.getElem?_toArray]; rfl) (by kernel_rfl) (by kernel_rfl) (by kernel_rfl) (by exact fun _ _ _ h => h) (Or.inl ⟨by rfl, ?_⟩) hn6 ?_
  rotate_left
  · intro W hW
    go_simp
    all_goals with_reducible rfl
  try simp only [Act.put, List.setIfInBounds_toArray, List.set_cons_zero, List.set_cons_succ]
  refine wpAnyH_take (i := 9) (v := ?_) (by rw [List.getElem?_toArray]; rfl) (by kernel_rfl) (by kernel_rfl) (by kernel_rfl) (by exact fun _ _ _ h => h) (Or.inl ⟨by rfl, ?_⟩) hn6 ?_
  rotate_left
  · intro W hW
    go_simp
    all_goals with_reducible rfl
  try simp only [Act.put, List.setIfInBounds_toArray, List.set_cons_zero, List.set_cons_succ]
  refine wpAnyH_take (i := 10) (v := ?_) (by rw [List.getElem?_toArray]; rfl) (by kernel_rfl) (by kernel_rfl) (by kernel_rfl) (by exact fun _ _ _ h => h) (Or.inl ⟨by rfl, ?_⟩) hn6 ?_
  rotate_left
  · intro W hW
    have ca := hW.2.1.row zero32_len
    go_simp
    all_goals with_reducible rfl
  try simp only [Act.put, List.setIfInBounds_toArray, List.set_cons_zero, List.set_cons_succ]
  refine wpAnyH_take (i := 11) (v := ?_) (by rw [List.getElem?_toArray]; rfl) (by kernel_rfl) (by kernel_rfl) (by kernel_rfl) (by exact fun _ _ _ h => h) (Or.inl ⟨by rfl, ?_⟩) hn6 ?_
  rotate_left
  · intro W hW
    go_simp
    all_goals with_reducible rfl
  try simp only [Act.put, List.setIfInBounds_toArray, List.set_cons_zero, List.set_cons_succ]
  refine wpAnyH_take (i := 12) (v := ?_) (by rw [List.getElem?_toArray]; rfl) (by kernel_rfl) (by kernel_rfl) (by kernel_rfl) (by exact fun _ _ _ h => h) (Or.inl ⟨by rfl, ?_⟩) hn6 ?_
  rotate_left
  · intro W hW
    go_simp
    all_goals with_reducible rfl
  try simp only [Act.put, List.setIfInBounds_toArray, List.set_cons_zero, List.set_cons_succ]
  refine wpAnyH_take (i := 13) (v := ?_) (by rw [List.getElem?_toArray]; rfl) (by kernel_rfl) (by kernel_rfl) (by kernel_rfl) (by exact fun _ _ _ h => h) (Or.inl ⟨by rfl, ?_⟩) hn6 ?_
  rotate_left
  · intro W hW
    go_simp
    all_goals with_reducible rfl
  try simp only [Act.put, List.setIfInBounds_toArray, List.set_cons_zero, List.set_cons_succ]
  refine wpAnyH_take (i := 14) (v := ?_) (by rw [List.getElem?_toArray]; rfl) (by kernel_rfl) (by kernel_rfl) (by kernel_rfl) (by exact fun _ _ _ h => h) (Or.inl ⟨by rfl, ?_⟩) hn6 ?_
  rotate_left
  · intro W hW
    go_simp
    all_goals with_reducible rfl
  try simp only [Act.put, List.setIfInBounds_toArray, List.set_cons_zero, List.set_cons_succ]
  refine wpAnyH_take (i := 15) (v := ?_) (by rw [List.getElem?_toArray]; rfl) (by kernel_rfl) (by kernel_rfl) (by kernel_rfl) (by exact fun _ _ _ h => h) (Or.inl ⟨by rfl, ?_⟩) hn6 ?_
  rotate_left
  · intro W hW
    have cb := hW.2.2.1.row lR
    go_simp
    all_goals with_reducible rfl
  try simp only [Act.put, List.setIfInBounds_toArray, List.set_cons_zero, List.set_cons_succ]
  refine wpAnyH_take (i := 16) (v := ?_) (by rw [List.getElem?_toArray]; rfl) (by kernel_rfl) (by kernel_rfl) (by kernel_rfl) (by exact fun _ _ _ h => h) (Or.inl ⟨by rfl, ?_⟩) hn6 ?_
  rotate_left
  · intro W hW
    have ca := hW.2.1.row zero32_len
    go_simp
    all_goals with_reducible rfl
  try simp only [Act.put, List.setIfInBounds_toArray, List.set_cons_zero, List.set_cons_succ]
  refine wpAnyH_take (i := 17) (v := ?_) (by rw [List.getElem?_toArray]; rfl) (by kernel_rfl) (by kernel_rfl) (by kernel_rfl) (by exact fun _ _ _ h => h) (Or.inl ⟨by rfl, ?_⟩) hn6 ?_
  rotate_left
  · intro W hW
    go_simp
    all_goals with_reducible rfl
  try simp only [Act.put, List.setIfInBounds_toArray, List.set_cons_zero, List.set_cons_succ]
  refine wpAnyH_take (i := 18) (v := ?_) (by rw [List.getElem?_toArray]; rfl) (by kernel_rfl) (by kernel_rfl) (by kernel_rfl) (by exact fun _ _ _ h => h) (Or.inl ⟨by rfl, ?_⟩) hn6 ?_
  rotate_left
  · intro W hW
    go_simp
    all_goals with_reducible rfl
  try simp only [Act.put, List.setIfInBounds_toArray, List.set_cons_zero, List.set_cons_succ]
  refine wpAnyH_take (i := 19) (v := ?_) (by rw [List.getElem?_toArray]; rfl) (by kernel_rfl) (by kernel_rfl) (by kernel_rfl) (by exact fun _ _ _ h => h) (Or.inl ⟨by rfl, ?_⟩) hn6 ?_
  rotate_left
  · intro W hW
    go_simp
    all_goals with_reducible rfl
  try simp only [Act.put, List.setIfInBounds_toArray, List.set_cons_zero, List.set_cons_succ]
  refine wpAnyH_take (i := 20) (v := ?_) (by rw [List.getElem?_toArray]; rfl) (by kernel_rfl) (by kernel_rfl) (by kernel_rfl) (by exact fun _ _ _ h => h) (Or.inl ⟨by rfl, ?_⟩) hn6 ?_
  rotate_left
  · intro W hW
    go_simp
    all_goals with_reducible rfl
  try simp only [Act.put, List.setIfInBounds_toArray, List.set_cons_zero, List.set_cons_succ]
  refine wpAnyH_take (i := 22) (v := ?_) (by rw [List.getElem?_toArray]; rfl) (by kernel_rfl) (by kernel_rfl) (by kernel_rfl) (by exact fun _ _ _ h => h) (Or.inl ⟨by rfl, ?_⟩) hn6 ?_
  rotate_left
  · intro W hW
    have ca := hW.2.1.row zero32_len
    go_simp
    all_goals with_reducible rfl
  try simp only [Act.put, List.setIfInBounds_toArray, List.set_cons_zero, List.set_cons_succ]
  refine wpAnyH_ready (rs := [21]) (by kernel_rfl) (by simp) ?_
  refine AllReadyH.cons (by rw [List.getElem?_toArray]; rfl) (fun K hK => ?_) AllReadyH.nil
  rw [if_pos (by rfl)]
  go_wp2_with fail
  refine (Root_nil hn6.2.2.2).mono ?_
  rintro e w8 ⟨rfl, hb8⟩
  go_wp2_with fail
  refine hK.out _ _ (⟨hn6.1.trans (hb8.mono hn6.1.size), hn6.2.1.on hb8, hn6.2.2.1.on hb8, hn6.2.2.2.on hb8⟩) (fun hr => ?_)
  clear hK K
  try simp only [Act.put, List.setIfInBounds_toArray, List.set_cons_zero, List.set_cons_succ]
  refine wpAnyH_take (i := 23) (v := ?_) (by rw [List.getElem?_toArray]; rfl) (by kernel_rfl) (by kernel_rfl) (by kernel_rfl) (by exact fun _ _ _ h => h) (Or.inl ⟨by rfl, ?_⟩) hr ?_
  rotate_left
  · intro W hW
    go_simp
    all_goals with_reducible rfl
  try simp only [Act.put, List.setIfInBounds_toArray, List.set_cons_zero, List.set_cons_succ]
  refine wpAnyH_take (i := 24) (v := ?_) (by rw [List.getElem?_toArray]; rfl) (by kernel_rfl) (by kernel_rfl) (by kernel_rfl) (by exact fun _ _ _ h => h) (Or.inl ⟨by rfl, ?_⟩) hr ?_
  rotate_left
  · intro W hW
    go_simp
    all_goals with_reducible rfl
  try simp only [Act.put, List.setIfInBounds_toArray, List.set_cons_zero, List.set_cons_succ]
  refine wpAnyH_take (i := 25) (v := ?_) (by rw [List.getElem?_toArray]; rfl) (by kernel_rfl) (by kernel_rfl) (by kernel_rfl) (by exact fun _ _ _ h => h) (Or.inl ⟨by rfl, ?_⟩) hr ?_
  rotate_left
  · intro W hW
    go_simp
    all_goals with_reducible rfl
  try simp only [Act.put, List.setIfInBounds_toArray, List.set_cons_zero, List.set_cons_succ]
  refine wpAnyH_take (i := 26) (v := ?_) (by rw [List.getElem?_toArray]; rfl) (by kernel_rfl) (by kernel_rfl) (by kernel_rfl) (by exact fun _ _ _ h => h) (Or.inl ⟨by rfl, ?_⟩) hr ?_
  rotate_left
  · intro W hW
    go_simp
    all_goals with_reducible rfl
  try simp only [Act.put, List.setIfInBounds_toArray, List.set_cons_zero, List.set_cons_succ]
  refine wpAnyH_take (i := 27) (v := ?_) (by rw [List.getElem?_toArray]; rfl) (by kernel_rfl) (by kernel_rfl) (by kernel_rfl) (by exact fun _ _ _ h => h) (Or.inl ⟨by rfl, ?_⟩) hr ?_
  rotate_left
  · intro W hW
    go_simp
    all_goals with_reducible rfl
  try simp only [Act.put, List.setIfInBounds_toArray, List.set_cons_zero, List.set_cons_succ]
  refine wpAnyH_take (i := 29) (v := ?_) (by rw [List.getElem?_toArray]; rfl) (by kernel_rfl) (by kernel_rfl) (by kernel_rfl) (by exact fun _ _ _ h => h) (Or.inl ⟨by rfl, ?_⟩) hr ?_
  rotate_left
  · intro W hW
    have ca := hW.2.1.row zero32_len
    go_simp
    all_goals with_reducible rfl
  try simp only [Act.put, List.setIfInBounds_toArray, List.set_cons_zero, List.set_cons_succ]
  refine wpAnyH_ready (rs := [28]) (by kernel_rfl) (by simp) ?_
  refine AllReadyH.cons (by rw [List.getElem?_toArray]; rfl) (fun K hK => ?_) AllReadyH.nil
  rw [if_pos (by rfl)]
  go_wp2_with fail
  refine (Get_none hr.2.2.2).mono ?_
  rintro e w9 ⟨rfl, hb9⟩
  go_wp2_with fail
  refine hK.out _ _ (⟨hr.1.trans (hb9.mono hr.1.size), hr.2.1.on hb9, hr.2.2.1.on hb9, hr.2.2.2.on hb9⟩) (fun hg => ?_)
  clear hK K
  try simp only [Act.put, List.setIfInBounds_toArray, List.set_cons_zero, List.set_cons_succ]
  refine wpAnyH_take (i := 30) (v := ?_) (by rw [List.getElem?_toArray]; rfl) (by kernel_rfl) (by kernel_rfl) (by kernel_rfl) (by exact fun _ _ _ h => h) (Or.inl ⟨by rfl, ?_⟩) hg ?_
  rotate_left
  · intro W hW
    go_simp
    all_goals with_reducible rfl
  try simp only [Act.put, List.setIfInBounds_toArray, List.set_cons_zero, List.set_cons_succ]
  refine wpAnyH_take (i := 31) (v := ?_) (by rw [List.getElem?_toArray]; rfl) (by kernel_rfl) (by kernel_rfl) (by kernel_rfl) (by exact fun _ _ _ h => h) (Or.inl ⟨by rfl, ?_⟩) hg ?_
  rotate_left
  · intro W hW
    go_simp
    all_goals with_reducible rfl
  try simp only [Act.put, List.setIfInBounds_toArray, List.set_cons_zero, List.set_cons_succ]
  refine wpAnyH_take (i := 32) (v := ?_) (by rw [List.getElem?_toArray]; rfl) (by kernel_rfl) (by kernel_rfl) (by kernel_rfl) (by exact fun _ _ _ h => h) (Or.inl ⟨by rfl, ?_⟩) hg ?_
  rotate_left
  · intro W hW
    go_simp
    all_goals with_reducible rfl
  try simp only [Act.put, List.setIfInBounds_toArray, List.set_cons_zero]
  refine wpAnyH_done (by kernel_rfl) ?_ _
  have BE := Lib.hid hg.1
  go_wp2_with fail
  go_ret
  exact ⟨rfl, BE.out⟩
end Go.Proofs.YtjlodnecdngdfaaDoor
