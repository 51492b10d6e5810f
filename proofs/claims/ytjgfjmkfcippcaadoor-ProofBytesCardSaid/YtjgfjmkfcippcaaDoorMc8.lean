/-
  Package smt: what stands at level 0 above a leaf that is alone.; Package smt: above, Root, New of no pairs, with and without of a map of one pair at most.; Package smt: Put and Get in a map of one pair at most.; Package smt: what is taken away again; Get.
-/
import Derived.Test.YtjgfjmkfcippcaaDoorMc7
namespace Go.Proofs.YtjgfjmkfcippcaaDoor
open Go.RowKit
set_option maxRecDepth 100000

/-- Within climb: the node, the hash so far, the answer's cell. -/
structure ClS (w wr : World) (b hb rb : Nat) (n : Nd) (X : List Int) : Prop where
  chg : Chg w wr [b]
  nd : NdB wr b n
  hh : HashAt wr hb X
  rz : HashAt wr rb zero32
section
variable {w W W' : World} {b hb rb : Nat} {n : Nd} {X : List Int}
theorem ClS.on (h : ClS w W b hb rb n X) (hx : Below W.heap.size W W') : ClS w W' b hb rb n X :=
  ⟨h.chg.trans (T := []) (Chg.below hx (Nat.le_refl _) []) (by simp), h.nd.on hx, h.hh.on hx, h.rz.on hx⟩
theorem NdB.others (h : NdB W b n) {k : Nat} (hk : b ≠ k) (o : Nat) (vs : List Value) : NdB (W.setCells k o vs) b n := by
  unfold NdB
  rw [setCells_other hk]; exact h
theorem HashAt.others {F : List Int} (h : HashAt W b F) {k : Nat} (hk : b ≠ k) (o : Nat) (vs : List Value) : HashAt (W.setCells k o vs) b F := by
  unfold HashAt
  rw [setCells_other hk]; exact h
theorem ClS.put (h : ClS w W b hb rb n X) (hw : w.heap.size ≤ hb) (hne : b ≠ hb) (hre : rb ≠ hb) (lX : X.length = 32) {Y : List Int} (lY : Y.length = 32) : ClS w (W.setCells hb 0 (hc Y)) b hb rb n Y :=
  ⟨h.chg.setCells (.inr hw) _ _, h.nd.others hne _ _, h.hh.put lX lY, h.rz.others hre _ _⟩
end

set_option maxHeartbeats 8000000 in
theorem climb_leaf {w : World} {p m b c : Nat} {n : Nd} {V : List Int} (hT : Tbl w) (ok : n.ok) (hk : n.key = K1) (bK : Bytes K1) (hV : V.length = 32) (bV : Bytes V) (hf : n.fork = 256) (ht : n.told = false) (hn : NdB w b n) (hp : w.cell? ⟨p, 0, none⟩ = some (.map (some m))) (hm : w.heap[m]? = some (.map (M1 (.agg (hc V).toArray)) c)) (hpb : p ≠ b) (hmb : m ≠ b) (hgb : 1 ∉ [b]) :
    Calls Tryd.prog 50 #[.pointer (some ⟨p, 0, none⟩), .pointer (some ⟨b, 0, none⟩), .int .i64 0] w fun e w' => e = .returned (.agg (hc (upH K1 256 (lfH K1 V) 256)).toArray) ∧ Chg w w' [b] ∧ NdB w' b { n with own := lfH K1 V, told := true } := by
  have HZ := Lib.hid (HashAt.new w zero32)
  have B0 := Lib.hid ((Below.refl w.heap.size w).alloc (Nat.le_refl _) (.cells (hc zero32).toArray 23))
  have hbw : b < w.heap.size := hn.lt
  have HT := Lib.hid hT
  have KH := Lib.hid (here_leaf (hT.on B0.out hT.pos) ok hk bK hV bV hf ht (hn.alloc (.cells (hc zero32).toArray 23)) (by rw [World.cell?_of_block (w := w) (Below.heap_alloc _ _ _ (World.block_lt_of_cell? w _ hp))]; exact hp) (by rw [Below.heap_alloc _ _ _ (Array.getElem?_eq_some_iff.1 hm).1]; exact hm) hpb hmb hgb)
  have OK := Lib.hid ok
  have HK := Lib.hid hk
  have HF := Lib.hid hf
  have BK := Lib.hid bK
  clear hT hk bK hV bV hf ht hn hp hm hpb hmb
  go_enter Tryd.func50, Tryd.ntmps50
  go_wp2_with fail
  refine KH.out.mono ?_
  rintro e w2 ⟨rfl, hc2, hn2⟩
  have hlF := lfH_len K1 V
  have LB := Lib.hid (lfH_bytes K1 V)
  obtain ⟨F, hF⟩ : ∃ F, lfH K1 V = F := ⟨_, rfl⟩
  have HL := Lib.hid hF
  rw [hF] at hn2 hlF LB ⊢
  clear KH hF
  have ok2 : Nd.ok { n with own := F, told := true } := ⟨OK.out.key, hlF, OK.out.high⟩
  have hsz1 : w.heap.size < w2.heap.size := by
    have := hc2.size
    simp only [World.size_alloc] at this
    omega
  have C2 := Lib.hid ((Chg.below B0.out (Nat.le_refl _) [b]).trans hc2 (fun x hx _ => hx))
  have Z2 := HZ.out.chg hc2 (by simp; omega)
  have hZ3 := HashAt.new w2 zero32
  have hth := hZ3.there zero32_len
  have S3 : ClS w ((w2.alloc (.cells (hc zero32).toArray 23)).setCells w2.heap.size 0 (hc F)) b w2.heap.size w.heap.size { n with own := F, told := true } F :=
    ClS.put (X := zero32) ⟨C2.out.alloc _, hn2.alloc _, hZ3, Z2.alloc _⟩ (by omega) (by omega) (by omega) zero32_len hlF
  have f3 := (S3.nd.facts ok2).1
  have f3' : ((w2.alloc (.cells (hc zero32).toArray 23)).setCells w2.heap.size 0 (hc F)).cell? ⟨b, 32, none⟩ = some (.int .i64 256) := by
    rw [f3]
    show some (Value.int .i64 n.fork) = _
    rw [HF.out]
  clear f3 hc2 hn2 Z2 hZ3 C2 HZ B0
  have S3 := Lib.hid S3
  go_wp2_with fail
  clear hth f3'
  generalize (w2.alloc (.cells (hc zero32).toArray 23)).setCells w2.heap.size 0 (hc F) = w3 at *
  go_loopw [8] (fun iv wr => ∃ k : Nat, iv = .int .i64 (255 - (k : Int)) ∧ k ≤ 256 ∧ Hid (ClS w wr b w2.heap.size w.heap.size { n with own := F, told := true } (upH K1 256 F k))) (fun iv _ => (intOf iv + 1).toNat)
  case atStart => exact ⟨0, rfl, by omega, S3⟩
  case round =>
    clear S3
    obtain ⟨k, rfl, hk, hS⟩ := hrel
    have lX := upH_len K1 256 hlF k
    by_cases hlt : k < 256
    · obtain ⟨i, hi⟩ : ∃ i : Nat, 255 - (k : Int) = i := ⟨255 - k, by omega⟩
      have hi2 : i < 256 := by omega
      have HI := Lib.hid (show 256 - 1 - k = i by omega)
      rw [hi]
      have bX := Lib.hid (upH_bytes K1 256 LB.out k)
      have HU := Lib.hid (show upH K1 256 F (k + 1) = stp K1 i (upH K1 256 F k) by rw [upH, HI.out])
      obtain ⟨X, hX⟩ : ∃ X, upH K1 256 F k = X := ⟨_, rfl⟩
      rw [hX] at lX bX hS HU
      have rk := (hS.out.nd.facts ok2).2.2.2.2.2.2.1
      have rk' : rowOf wr b 0 32 = hc K1 := by rw [rk]; show hc n.key = _; rw [HK.out]
      have hlk := hc_len K1
      have k32 := K1_len
      clear hX rk
      go_wp2_with fail
      refine (bit_any K1_len BK.out hi2).mono ?_
      rintro e w4 ⟨rfl, hb4⟩
      have S4 := Lib.hid (hS.out.on hb4)
      have r4 := S4.out.hh.row lX
      have T4 := Lib.hid (HT.out.chg S4.out.chg hgb)
      have lxx := hc_len X
      clear hS hb4 rk'
      by_cases hz : bitI K1 i = 0
      · have dz : (bitI K1 i == 0) = true := by rw [hz]; rfl
        have HU2 := Lib.hid (show stp K1 i X = abH X zero32 by unfold stp; rw [if_pos hz])
        generalize bitI K1 i = z at *
        clear hz
        go_wp2_with fail
        refine (Above_any T4.out lX zero32_len bX.out zero32_bytes).mono ?_
        rintro e w5 ⟨rfl, hb5⟩
        have S5 := Lib.hid (S4.out.on hb5)
        have lY := abH_len X zero32
        rw [HU2.out] at HU
        generalize abH X zero32 = Y at *
        have th5 := S5.out.hh.there lX
        have S6 := Lib.hid (S5.out.put (by omega) (by omega) (by omega) lX lY)
        clear S4 r4 T4 hb5 S5 HU2
        go_wp2_with fail
        go_roundw
        case rel => exact ⟨k + 1, by congr 1; omega, by omega, by rw [HU.out]; exact S6⟩
        case measure => simp [intOf] <;> omega
      · have dz : (bitI K1 i == 0) = false := by simpa using hz
        have HU2 := Lib.hid (show stp K1 i X = abH zero32 X by unfold stp; rw [if_neg hz])
        generalize bitI K1 i = z at *
        clear hz
        go_wp2_with fail
        refine (Above_any T4.out zero32_len lX zero32_bytes bX.out).mono ?_
        rintro e w5 ⟨rfl, hb5⟩
        have S5 := Lib.hid (S4.out.on hb5)
        have lY := abH_len zero32 X
        rw [HU2.out] at HU
        generalize abH zero32 X = Y at *
        have th5 := S5.out.hh.there lX
        have S6 := Lib.hid (S5.out.put (by omega) (by omega) (by omega) lX lY)
        clear S4 r4 T4 hb5 S5 HU2
        go_wp2_with fail
        go_roundw
        case rel => exact ⟨k + 1, by congr 1; omega, by omega, by rw [HU.out]; exact S6⟩
        case measure => simp [intOf] <;> omega
    · obtain rfl : k = 256 := by omega
      obtain ⟨X, hX⟩ : ∃ X, upH K1 256 F 256 = X := ⟨_, rfl⟩
      have HX := Lib.hid hX
      rw [hX] at hS lX
      clear hX
      have r6 := hS.out.hh.row lX
      have th6 := hS.out.rz.there zero32_len
      have hput := (hS.out.rz.put zero32_len lX).row lX
      have C7 := Lib.hid (hS.out.chg.setCells (b := w.heap.size) (.inr (Nat.le_refl _)) (hc X) 0)
      have N7 := Lib.hid (hS.out.nd.others (k := w.heap.size) (by omega) 0 (hc X))
      have lxx := hc_len X
      clear hS
      go_wp2_with fail
      refine bodyPost_ret (v := .agg (hc X).toArray) (by simp [results, Tryd.results50, go_sem, hput, lX]) rfl ⟨by rw [HL.out, HX.out], C7.out, by rw [HL.out]; exact N7.out⟩
end Go.Proofs.YtjgfjmkfcippcaaDoor
namespace Go.Proofs.YtjgfjmkfcippcaaDoor
open Go.RowKit
set_option maxRecDepth 100000

/-- A map: its block, its values, its top. -/
structure MpS (w : World) (p m : Nat) (es : Array MapEntry) (c : Nat) (top : Option Addr) : Prop where
  blk : w.heap[p]? = some (.cells #[.map (some m), .pointer top] 42 (0, 0))
  mp : w.heap[m]? = some (.map es c)
section
variable {w w' : World} {p m c : Nat} {es : Array MapEntry} {top : Option Addr}
theorem MpS.chg {S : List Nat} (h : MpS w p m es c top) (hc : Chg w w' S) (hp : p ∉ S) (hm : m ∉ S) : MpS w' p m es c top :=
  ⟨by rw [hc.block p (Array.getElem?_eq_some_iff.1 h.blk).1 hp]; exact h.blk, by rw [hc.block m (Array.getElem?_eq_some_iff.1 h.mp).1 hm]; exact h.mp⟩
theorem MpS.on (h : MpS w p m es c top) (hb : Below w.heap.size w w') : MpS w' p m es c top := h.chg (S := []) (Chg.below hb (Nat.le_refl _) []) (by simp) (by simp)
theorem MpS.alloc (h : MpS w p m es c top) (o : Obj) : MpS (w.alloc o) p m es c top := h.on ((Below.refl _ _).alloc (Nat.le_refl _) o)
theorem MpS.c0 (h : MpS w p m es c top) : w.cell? ⟨p, 0, none⟩ = some (.map (some m)) := (Joins.cell_of_block h.blk 0).trans rfl
theorem MpS.c1 (h : MpS w p m es c top) : w.cell? ⟨p, 1, none⟩ = some (.pointer top) := (Joins.cell_of_block h.blk 1).trans rfl
theorem MpS.lp (h : MpS w p m es c top) : p < w.heap.size := (Array.getElem?_eq_some_iff.1 h.blk).1
theorem MpS.lm (h : MpS w p m es c top) : m < w.heap.size := (Array.getElem?_eq_some_iff.1 h.mp).1
theorem MpS.ne (h : MpS w p m es c top) : p ≠ m := by
  rintro rfl
  have := h.blk
  rw [h.mp] at this
  simp at this
theorem MpS.setTop (h : MpS w p m es c top) (t : Option Addr) : MpS (w.setCell ⟨p, 1, none⟩ (.pointer t)) p m es c t := by
  refine ⟨?_, ?_⟩
  · have := setCells_block (b := p) (t := 42) (fr := (0, 0)) [.pointer t] (o := 1) (w := w) (pre := [.map (some m)]) (mid := [.pointer top]) (post := []) (by simpa using h.blk) rfl rfl
    simpa [World.setCells] using this
  · rw [Below.heap_setCell _ _ _ _ h.ne.symm]; exact h.mp
theorem MpS.putMap (h : MpS w p m es c top) (es' : Array MapEntry) (c' : Nat) : MpS (putMap w m es' c') p m es' c' top :=
  ⟨by rw [putMap_other h.ne]; exact h.blk, putMap_there h.lm⟩
theorem Chg.putMap {a w : World} {S : List Nat} (h : Chg a w S) {b : Nat} (hb : b ∈ S ∨ a.heap.size ≤ b) (es : Array MapEntry) (c : Nat) : Chg a (putMap w b es c) S :=
  ⟨h.os, h.tape, h.output, by rw [putMap_size]; exact h.size, fun k hk hn => by
    rw [putMap_other (fun e => by subst e; rcases hb with hb | hb; exact hn hb; omega)]; exact h.block k hk hn⟩
end

set_option maxHeartbeats 4000000 in
theorem above_nil {w : World} {p : Option Addr} {l : Int} : Calls Tryd.prog 52 #[.pointer p, .pointer none, .int .i64 l] w fun e w' => e = .returned (.agg (hc zero32).toArray) ∧ Below w.heap.size w w' := by
  have HZ := HashAt.new w zero32
  have hth := HZ.there zero32_len
  have hput := (HZ.put zero32_len zero32_len).row zero32_len
  have z32 := zero32_len
  have HX := Lib.hid (below_setCells' (B := w.heap.size) w.heap.size (Nat.le_refl _) (hc zero32) 0 ((Below.refl w.heap.size w).alloc (Nat.le_refl _) (.cells (hc zero32).toArray 23)))
  clear HZ
  go_enter Tryd.func52, Tryd.ntmps52
  go_wp2_with fail
  refine bodyPost_ret (v := .agg (hc zero32).toArray) (by simp [results, Tryd.results52, go_sem, hput, z32]) rfl ⟨rfl, HX.out⟩

set_option maxHeartbeats 8000000 in
theorem above_leaf {w : World} {p m b c : Nat} {n : Nd} {V : List Int} {top : Option Addr} (hT : Tbl w) (ok : n.ok) (hk : n.key = K1) (bK : Bytes K1) (hV : V.length = 32) (bV : Bytes V) (hf : n.fork = 256) (ht : n.told = false) (hkn : n.known = false) (hn : NdB w b n) (hM : MpS w p m (M1 (.agg (hc V).toArray)) c top) (hpb : p ≠ b) (hmb : m ≠ b) (hgb : 1 ∉ [b]) :
    Calls Tryd.prog 52 #[.pointer (some ⟨p, 0, none⟩), .pointer (some ⟨b, 0, none⟩), .int .i64 0] w fun e w' => e = .returned (.agg (hc (upH K1 256 (lfH K1 V) 256)).toArray) ∧ Chg w w' [b] ∧ ∃ n', n'.ok ∧ n'.fork = 256 ∧ NdB w' b n' := by
  have HZ := Lib.hid (HashAt.new w zero32)
  have B0 := Lib.hid ((Below.refl w.heap.size w).alloc (Nat.le_refl _) (.cells (hc zero32).toArray 23))
  have hbw : b < w.heap.size := hn.lt
  have hn1 := hn.alloc (.cells (hc zero32).toArray 23)
  have hM1 := hM.alloc (.cells (hc zero32).toArray 23)
  have KH := Lib.hid (climb_leaf (hT.on B0.out hT.pos) ok hk bK hV bV hf ht hn1 hM1.c0 hM1.mp hpb hmb hgb)
  have fk := (hn1.facts ok).2.2.2.2.2.1
  rw [hkn] at fk
  have OK := Lib.hid ok
  have HF := Lib.hid hf
  have HN := Lib.hid hn1
  clear hT hk bK hV bV hf ht hn hM hM1 hn1 hkn
  go_enter Tryd.func52, Tryd.ntmps52
  go_wp2_with fail
  refine KH.out.mono ?_
  rintro e w2 ⟨rfl, hc2, hn2⟩
  have hlF := lfH_len K1 V
  have lX := upH_len K1 256 hlF 256
  obtain ⟨X, hX⟩ : ∃ X, upH K1 256 (lfH K1 V) 256 = X := ⟨_, rfl⟩
  have HX := Lib.hid hX
  rw [hX] at lX ⊢
  clear hX
  have ok2 : Nd.ok { n with own := lfH K1 V, told := true } := ⟨OK.out.key, hlF, OK.out.high⟩
  have C2 := Lib.hid ((Chg.below B0.out (Nat.le_refl _) [b]).trans hc2 (fun x hx _ => hx))
  have Z2 := Lib.hid (HZ.out.chg hc2 (by simp; omega))
  have th2 := hn2.there ok2 (i := 68) (k := 32) (by omega)
  have N3 := Lib.hid (hn2.setHigh ok2 lX)
  have C3 := Lib.hid (C2.out.setCells (b := b) (.inl (by simp)) (hc X) 68)
  have Z3 := Lib.hid (Z2.out.others (k := b) (by omega) 68 (hc X))
  have ok3 : Nd.ok { n with own := lfH K1 V, told := true, high := X } := ⟨OK.out.key, hlF, lX⟩
  have t3 := (N3.out.facts ok3).2.2.2.2.1
  have u3 := N3.out.free 100
  have N4 := Lib.hid (N3.out.setLvl ok3 0)
  have C4 := Lib.hid (C3.out.setCell (p := ⟨b, 100, none⟩) (.inl (by simp)) (.int .i64 0))
  have Z4 := Lib.hid (Z3.out.other (a := ⟨b, 100, none⟩) (by simp; omega) (.int .i64 0))
  have ok4 : Nd.ok { n with own := lfH K1 V, told := true, high := X, lvl := 0 } := ⟨OK.out.key, hlF, lX⟩
  have t4 := (N4.out.facts ok4).2.2.2.2.2.1
  have u4 := N4.out.free 101
  have N5 := Lib.hid (N4.out.setKnown ok4 true)
  have C5 := Lib.hid (C4.out.setCell (p := ⟨b, 101, none⟩) (.inl (by simp)) (.bool true))
  have Z5 := Lib.hid (Z4.out.other (a := ⟨b, 101, none⟩) (by simp; omega) (.bool true))
  have ok5 : Nd.ok { n with own := lfH K1 V, told := true, high := X, lvl := 0, known := true } := ⟨OK.out.key, hlF, lX⟩
  have r5 := (N5.out.facts ok5).2.2.2.2.2.2.2.2
  have z5 := Z5.out.there zero32_len
  have hput := (Z5.out.put zero32_len lX).row lX
  have C6 := Lib.hid (C5.out.setCells (b := w.heap.size) (.inr (Nat.le_refl _)) (hc X) 0)
  have N6 := Lib.hid (N5.out.others (k := w.heap.size) (by omega) 0 (hc X))
  have OK5 := Lib.hid ok5
  have lxx := hc_len X
  clear hc2 hn2 C2 Z2 N3 C3 Z3 N4 C4 Z4 N5 C5 Z5 ok2 ok3 ok4 ok5 KH HN B0 HZ
  go_wp2_with fail
  refine bodyPost_ret (v := .agg (hc X).toArray) (by simp [results, Tryd.results52, go_sem, hput, lX]) rfl ⟨by rw [HX.out], C6.out, _, OK5.out, HF.out, N6.out⟩

set_option maxHeartbeats 4000000 in
theorem Root_nil {w : World} {p m c : Nat} {es : Array MapEntry} (hM : MpS w p m es c none) : Calls Tryd.prog 18 #[.pointer (some ⟨p, 0, none⟩)] w fun e w' => e = .returned (.agg (hc zero32).toArray) ∧ Below w.heap.size w w' := by
  have HZ := Lib.hid (HashAt.new w zero32)
  have B0 := Lib.hid ((Below.refl w.heap.size w).alloc (Nat.le_refl _) (.cells (hc zero32).toArray 23))
  have M1 := hM.alloc (.cells (hc zero32).toArray 23)
  have c0 := M1.c0
  have c1 := M1.c1
  have z32 := zero32_len
  clear hM M1
  go_enter Tryd.func18, Tryd.ntmps18
  go_wp2_with fail
  refine (made_yes c0).mono ?_
  rintro e wn ⟨rfl, h⟩
  obtain rfl := h.symm
  clear h
  go_wp2_with fail
  refine above_nil.mono ?_
  rintro e w2 ⟨rfl, hb2⟩
  have Z2 := Lib.hid (HZ.out.on hb2)
  have B2 := Lib.hid (B0.out.trans (hb2.mono B0.out.size))
  have hth := Z2.out.there zero32_len
  have hput := (Z2.out.put zero32_len zero32_len).row zero32_len
  have HX := Lib.hid (below_setCells' (B := w.heap.size) w.heap.size (Nat.le_refl _) (hc zero32) 0 B2.out)
  clear hb2 Z2 B2 B0 HZ c0 c1
  go_wp2_with fail
  refine bodyPost_ret (v := .agg (hc zero32).toArray) (by simp [results, Tryd.results18, go_sem, hput, z32]) rfl ⟨rfl, HX.out⟩

set_option maxHeartbeats 4000000 in
theorem Root_leaf {w : World} {p m b c : Nat} {n : Nd} {V : List Int} (hT : Tbl w) (ok : n.ok) (hk : n.key = K1) (bK : Bytes K1) (hV : V.length = 32) (bV : Bytes V) (hf : n.fork = 256) (ht : n.told = false) (hkn : n.known = false) (hn : NdB w b n) (hM : MpS w p m (M1 (.agg (hc V).toArray)) c (some ⟨b, 0, none⟩)) (hpb : p ≠ b) (hmb : m ≠ b) (hgb : 1 ∉ [b]) :
    Calls Tryd.prog 18 #[.pointer (some ⟨p, 0, none⟩)] w fun e w' => e = .returned (.agg (hc (upH K1 256 (lfH K1 V) 256)).toArray) ∧ Chg w w' [b] ∧ ∃ n', n'.ok ∧ n'.fork = 256 ∧ NdB w' b n' := by
  have HZ := Lib.hid (HashAt.new w zero32)
  have B0 := Lib.hid ((Below.refl w.heap.size w).alloc (Nat.le_refl _) (.cells (hc zero32).toArray 23))
  have hbw : b < w.heap.size := hn.lt
  have M1 := hM.alloc (.cells (hc zero32).toArray 23)
  have c0 := M1.c0
  have c1 := M1.c1
  have KH := Lib.hid (above_leaf (hT.on B0.out hT.pos) ok hk bK hV bV hf ht hkn (hn.alloc (.cells (hc zero32).toArray 23)) M1 hpb hmb hgb)
  clear hM M1 hT ok hk bK hV bV hf ht hkn hn
  go_enter Tryd.func18, Tryd.ntmps18
  go_wp2_with fail
  refine (made_yes c0).mono ?_
  rintro e wn ⟨rfl, h⟩
  obtain rfl := h.symm
  clear h
  go_wp2_with fail
  refine KH.out.mono ?_
  rintro e w2 ⟨rfl, hc2, n', ok', hf', hn'⟩
  have lX := upH_len K1 256 (lfH_len K1 V) 256
  obtain ⟨X, hX⟩ : ∃ X, upH K1 256 (lfH K1 V) 256 = X := ⟨_, rfl⟩
  have HX := Lib.hid hX
  rw [hX] at lX ⊢
  clear hX
  have Z2 := Lib.hid (HZ.out.chg hc2 (by simp; omega))
  have C2 := Lib.hid ((Chg.below B0.out (Nat.le_refl _) [b]).trans hc2 (fun x hx _ => hx))
  have hth := Z2.out.there zero32_len
  have hput := (Z2.out.put zero32_len lX).row lX
  have C3 := Lib.hid (C2.out.setCells (b := w.heap.size) (.inr (Nat.le_refl _)) (hc X) 0)
  have N3 := Lib.hid (hn'.others (k := w.heap.size) (by omega) 0 (hc X))
  have OK' := Lib.hid ok'
  have HF' := Lib.hid hf'
  have lxx := hc_len X
  clear hc2 hn' ok' hf' Z2 C2 B0 HZ c0 c1 KH
  go_wp2_with fail
  refine bodyPost_ret (v := .agg (hc X).toArray) (by simp [results, Tryd.results18, go_sem, hput, lX]) rfl ⟨by rw [HX.out], C3.out, _, OK'.out, HF'.out, N3.out⟩

set_option maxHeartbeats 4000000 in
theorem with_nil {w : World} {K : List Int} (hK : K.length = 32) : Calls Tryd.prog 55 #[.pointer none, .agg (hc K).toArray] w fun e w' => e = .returned (.pointer (some ⟨w.heap.size + 1, 0, none⟩)) ∧ Below w.heap.size w w' ∧ NdB w' (w.heap.size + 1) ⟨K, 256, none, none, zero32, false, zero32, 0, false⟩ := by
  have H0 := HashAt.new w K
  have r0 := H0.row hK
  have hlK := hc_len K
  have okN : Nd.ok ⟨K, 256, none, none, zero32, false, zero32, 0, false⟩ := ⟨hK, zero32_len, zero32_len⟩
  have hn : NdB ((w.alloc (.cells (hc K).toArray 23)).alloc (.cells (Nd.row ⟨K, 256, none, none, zero32, false, zero32, 0, false⟩).toArray 85)) (w.heap.size + 1) ⟨K, 256, none, none, zero32, false, zero32, 0, false⟩ := by
    have := heap_alloc_new (w.alloc (.cells (hc K).toArray 23)) (.cells (Nd.row ⟨K, 256, none, none, zero32, false, zero32, 0, false⟩).toArray 85)
    simpa [NdB] using this
  have B := Lib.hid (((Below.refl w.heap.size w).alloc (Nat.le_refl _) (.cells (hc K).toArray 23)).alloc (by simp) (.cells (Nd.row ⟨K, 256, none, none, zero32, false, zero32, 0, false⟩).toArray 85))
  have HN := Lib.hid hn
  obtain ⟨R, hR⟩ : ∃ R, Nd.row ⟨K, 256, none, none, zero32, false, zero32, 0, false⟩ = R := ⟨_, rfl⟩
  have hone : R.toArray.all (·.oneCell') = true := by rw [← hR]; exact Nd.one _
  have hrl : R.length = 102 := by rw [← hR]; exact okN.len
  have HRn := Tryd.run_nd
  clear H0 hn okN
  go_enter Tryd.func55, Tryd.ntmps55
  go_wp2_with (simp only [hR])
  go_ret
  exact ⟨rfl, by rw [← hR]; exact B.out, by rw [← hR]; exact HN.out⟩

set_option maxHeartbeats 4000000 in
theorem without_leaf {w : World} {b : Nat} {n : Nd} {K : List Int} (ok : n.ok) (hf : n.fork = 256) (hn : NdB w b n) : Calls Tryd.prog 53 #[.pointer (some ⟨b, 0, none⟩), .agg (hc K).toArray] w fun e w' => e = .returned (.pointer none) ∧ Below w.heap.size w w' := by
  have c0 := ((hn.alloc (.cells (hc K).toArray 23)).facts ok).1
  rw [hf] at c0
  have B := Lib.hid ((Below.refl w.heap.size w).alloc (Nat.le_refl _) (.cells (hc K).toArray 23))
  clear ok hf hn
  go_enter Tryd.func53, Tryd.ntmps53
  go_wp2_with fail
  go_ret
  exact ⟨rfl, B.out⟩

set_option maxHeartbeats 4000000 in
theorem New_nil {w : World} : Calls Tryd.prog 46 #[.slice none 0 0] w fun e w' => ∃ p m, e = .returned (.tuple #[.pointer (some ⟨p, 0, none⟩), .int .i64 0]) ∧ w.heap.size ≤ p ∧ w.heap.size ≤ m ∧ Below w.heap.size w w' ∧ MpS w' p m #[] 0 none := by
  have hmm := @run_makeMap Tryd.prog
  have B := Lib.hid ((((Below.refl w.heap.size w).alloc (Nat.le_refl _) (.map #[] 0)).alloc (by simp) (.cells #[.map (some w.heap.size), .pointer none] 42)).alloc (by simp; omega) (.map #[] 0))
  have M : Hid (MpS (((w.alloc (.map #[] 0)).alloc (.cells #[.map (some w.heap.size), .pointer none] 42)).alloc (.map #[] 0)) (w.heap.size + 1) w.heap.size #[] 0 none) := by
    refine ⟨?_, ?_⟩
    · rw [Below.heap_alloc _ _ _ (by simp)]
      have := heap_alloc_new (w.alloc (.map #[] 0)) (.cells #[.map (some w.heap.size), .pointer none] 42)
      simpa using this
    · rw [Below.heap_alloc _ _ _ (by simp; omega), Below.heap_alloc _ _ _ (by simp)]
      exact heap_alloc_new w _
  go_enter Tryd.func46, Tryd.ntmps46
  go_wp2_with fail
  refine wp_loop_rounds 1 ?_
  rw [rounds_succ]
  go_wp2_with fail
  refine bodyPost_ret (v := .tuple #[.pointer (some ⟨w.heap.size + 1, 0, none⟩), .int .i64 0]) (by simp [results, Tryd.results46, go_sem]) rfl ⟨_, _, rfl, by omega, by omega, B.out, M.out⟩
end Go.Proofs.YtjgfjmkfcippcaaDoor
namespace Go.Proofs.YtjgfjmkfcippcaaDoor
open Go.RowKit
set_option maxRecDepth 100000

set_option maxHeartbeats 8000000 in
theorem Put_new {w : World} {p m : Nat} {V : List Int} (hV : V.length = 32) (hv : (V == zero32) = false) (hv2 : (zero32 == V) = false) (hM : MpS w p m #[] 0 none) :
    Calls Tryd.prog 16 #[.pointer (some ⟨p, 0, none⟩), .agg (hc K1).toArray, .agg (hc V).toArray] w fun e w' => e = .returned (.int .i64 0) ∧ Chg w w' [p, m] ∧ ∃ b, w.heap.size ≤ b ∧ MpS w' p m (M1 (.agg (hc V).toArray)) 1 (some ⟨b, 0, none⟩) ∧ NdB w' b ⟨K1, 256, none, none, zero32, false, zero32, 0, false⟩ := by
  have HK := Lib.hid (((HashAt.new w K1).alloc (.cells (hc V).toArray 23)))
  have HV := Lib.hid (HashAt.new (w.alloc (.cells (hc K1).toArray 23)) V)
  have B0 := Lib.hid (((Below.refl w.heap.size w).alloc (Nat.le_refl _) (.cells (hc K1).toArray 23)).alloc (by simp) (.cells (hc V).toArray 23))
  have M0 := Lib.hid ((hM.alloc (.cells (hc K1).toArray 23)).alloc (.cells (hc V).toArray 23))
  have hmp := hM.lp
  have hmm := hM.lm
  have hpm := hM.ne
  have c00 := M0.out.c0
  have k32 := K1_len
  have hlk := hc_len K1
  have hlv := hc_len V
  have z32 := zero32_len
  have hW0 : ((w.alloc (.cells (hc K1).toArray 23)).alloc (.cells (hc V).toArray 23)).heap.size = w.heap.size + 2 := by simp
  simp only [World.size_alloc] at HV
  clear hM
  go_enter Tryd.func16, Tryd.ntmps16
  go_wp2_with fail
  refine (made_yes c00).mono ?_
  rintro e wn ⟨rfl, h⟩
  obtain rfl := h.symm
  clear h
  go_wp2_with fail
  generalize ((w.alloc (.cells (hc K1).toArray 23)).alloc (.cells (hc V).toArray 23)) = w0 at *
  refine wp_region_held_drew (S := fun W => Below w0.drew.heap.size w0.drew W) (by kernel_rfl) (Below.refl _ _) (fun h0 => ?_)
  replace M0 := Lib.hid (M0.out.on ((Below.refl _ _).drew))
  replace HK := Lib.hid (HK.out.on ((Below.refl _ _).drew))
  replace HV := Lib.hid (HV.out.on ((Below.refl _ _).drew))
  replace B0 := Lib.hid B0.out.drew
  replace hW0 : Hid (w0.drew.heap.size = w.heap.size + 2) := hW0
  clear c00
  generalize w0.drew = w0 at *
  refine wpAnyH_take (i := 0) (v := ?_) (by rw [List.getElem?_toArray]; rfl) (by kernel_rfl) (by kernel_rfl) (by kernel_rfl) (by exact fun _ _ _ h => h) (Or.inl ⟨by rfl, ?_⟩) h0 ?_
  rotate_left
  · intro W hW
    go_simp
    all_goals with_reducible rfl
  try simp only [Act.put, List.setIfInBounds_toArray, List.set_cons_zero, List.set_cons_succ]
  refine wpAnyH_take (i := 1) (v := ?_) (by rw [List.getElem?_toArray]; rfl) (by kernel_rfl) (by kernel_rfl) (by kernel_rfl) (by exact fun _ _ _ h => h) (Or.inl ⟨by rfl, ?_⟩) h0 ?_
  rotate_left
  · intro W hW
    go_simp
    all_goals with_reducible rfl
  try simp only [Act.put, List.setIfInBounds_toArray, List.set_cons_zero, List.set_cons_succ]
  refine wpAnyH_take (i := 2) (v := ?_) (by rw [List.getElem?_toArray]; rfl) (by kernel_rfl) (by kernel_rfl) (by kernel_rfl) (by exact fun _ _ _ h => h) (Or.inl ⟨by rfl, ?_⟩) h0 ?_
  rotate_left
  · intro W hW
    go_simp
    all_goals with_reducible rfl
  try simp only [Act.put, List.setIfInBounds_toArray, List.set_cons_zero, List.set_cons_succ]
  refine wpAnyH_take (i := 3) (v := ?_) (by rw [List.getElem?_toArray]; rfl) (by kernel_rfl) (by kernel_rfl) (by kernel_rfl) (by exact fun _ _ _ h => h) (Or.inl ⟨by rfl, ?_⟩) h0 ?_
  rotate_left
  · intro W hW
    have cc := (M0.out.on hW).c0
    go_simp
    all_goals with_reducible rfl
  try simp only [Act.put, List.setIfInBounds_toArray, List.set_cons_zero, List.set_cons_succ]
  refine wpAnyH_take (i := 4) (v := ?_) (by rw [List.getElem?_toArray]; rfl) (by kernel_rfl) (by kernel_rfl) (by kernel_rfl) (by exact fun _ _ _ h => h) (Or.inl ⟨by rfl, ?_⟩) h0 ?_
  rotate_left
  · intro W hW
    have cc := (HK.out.on hW).row K1_len
    go_simp
    all_goals with_reducible rfl
  try simp only [Act.put, List.setIfInBounds_toArray, List.set_cons_zero, List.set_cons_succ]
  refine wpAnyH_take (i := 5) (v := ?_) (by rw [List.getElem?_toArray]; rfl) (by kernel_rfl) (by kernel_rfl) (by kernel_rfl) (by exact fun _ _ _ h => h) (Or.inl ⟨by rfl, ?_⟩) h0 ?_
  rotate_left
  · intro W hW
    have cc := look_m0 true (M0.out.on hW).mp
    go_simp
    all_goals with_reducible rfl
  try simp only [Act.put, List.setIfInBounds_toArray, List.set_cons_zero, List.set_cons_succ]
  refine wpAnyH_take (i := 6) (v := ?_) (by rw [List.getElem?_toArray]; rfl) (by kernel_rfl) (by kernel_rfl) (by kernel_rfl) (by exact fun _ _ _ h => h) (Or.inl ⟨by rfl, ?_⟩) h0 ?_
  rotate_left
  · intro W hW
    go_simp
    all_goals with_reducible rfl
  try simp only [Act.put, List.setIfInBounds_toArray, List.set_cons_zero, List.set_cons_succ]
  refine wpAnyH_take (i := 7) (v := ?_) (by rw [List.getElem?_toArray]; rfl) (by kernel_rfl) (by kernel_rfl) (by kernel_rfl) (by exact fun _ _ _ h => h) (Or.inl ⟨by rfl, ?_⟩) h0 ?_
  rotate_left
  · intro W hW
    go_simp
    all_goals with_reducible rfl
  try simp only [Act.put, List.setIfInBounds_toArray, List.set_cons_zero, List.set_cons_succ]
  refine wpAnyH_take (i := 8) (v := ?_) (by rw [List.getElem?_toArray]; rfl) (by kernel_rfl) (by kernel_rfl) (by kernel_rfl) (by exact fun _ _ _ h => h) (Or.inl ⟨by rfl, ?_⟩) h0 ?_
  rotate_left
  · intro W hW
    go_simp
    all_goals with_reducible rfl
  try simp only [Act.put, List.setIfInBounds_toArray, List.set_cons_zero, List.set_cons_succ]
  refine wpAnyH_ready (rs := [9]) (by kernel_rfl) (by simp) ?_
  refine AllReadyH.cons (by rw [List.getElem?_toArray]; rfl) (fun K hK => ?_) AllReadyH.nil
  rw [if_pos (by rfl)]
  have Z1 := Lib.hid (HashAt.new w0 zero32)
  go_wp2_with fail
  refine hK.out _ _ (h0.alloc h0.size _) (fun h1 => ?_)
  clear hK K
  try simp only [Act.put, List.setIfInBounds_toArray, List.set_cons_zero, List.set_cons_succ]
  refine wpAnyH_ready (rs := [10]) (by kernel_rfl) (by simp) ?_
  refine AllReadyH.cons (by rw [List.getElem?_toArray]; rfl) (fun K hK => ?_) AllReadyH.nil
  rw [if_pos (by rfl)]
  have th1 := Z1.out.there zero32_len
  have P1 := Lib.hid (Z1.out.put zero32_len zero32_len)
  have B1 : Below w0.heap.size w0 ((w0.alloc (.cells (hc zero32).toArray 23)).setCells w0.heap.size 0 (hc zero32)) := below_setCells' _ (Nat.le_refl _) _ _ h1
  have ols := hc_len zero32
  go_wp2_with fail
  refine hK.out _ _ (B1) (fun h2 => ?_)
  clear hK K
  try simp only [Act.put, List.setIfInBounds_toArray, List.set_cons_zero, List.set_cons_succ]
  refine wpAnyH_take (i := 11) (v := ?_) (by rw [List.getElem?_toArray]; rfl) (by kernel_rfl) (by kernel_rfl) (by kernel_rfl) (by exact fun _ _ _ h => h) (Or.inl ⟨by rfl, ?_⟩) h2 ?_
  rotate_left
  · intro W hW
    go_simp
    all_goals with_reducible rfl
  try simp only [Act.put, List.setIfInBounds_toArray, List.set_cons_zero, List.set_cons_succ]
  refine wpAnyH_done (by kernel_rfl) ?_ _
  have rv := (HV.out.on B1).row hV
  have ro := P1.out.row zero32_len
  have Mx := Lib.hid (M0.out.on B1)
  have HKx := Lib.hid (HK.out.on B1)
  have HVx := Lib.hid (HV.out.on B1)
  have cx := Mx.out.c0
  have hln := run_len_at (P := Tryd.prog) 3 Tryd.underlying39 Mx.out.mp
  have Bx := Lib.hid (B0.out.trans (B1.mono B0.out.size))
  have hsx := B1.size
  clear h2 h1 P1 Z1 th1 M0 HK HV
  generalize (w0.alloc (.cells (hc zero32).toArray 23)).setCells w0.heap.size 0 (hc zero32) = w2 at *
  clear B1
  go_wp2_with fail
  refine wp_region_held_drew (S := fun W => W.cell? ⟨p, 0, none⟩ = some (.map (some m)) ∧ HashAt W w.heap.size K1 ∧ HashAt W (w.heap.size + 1) V) (by kernel_rfl) (⟨(Mx.out.on ((Below.refl _ _).drew)).c0, HKx.out.on ((Below.refl _ _).drew), HVx.out.on ((Below.refl _ _).drew)⟩) (fun h0 => ?_)
  replace Mx := Lib.hid (Mx.out.on ((Below.refl _ _).drew))
  replace HKx := Lib.hid (HKx.out.on ((Below.refl _ _).drew))
  replace HVx := Lib.hid (HVx.out.on ((Below.refl _ _).drew))
  replace Bx := Lib.hid Bx.out.drew
  replace hsx : w0.heap.size ≤ w2.drew.heap.size := hsx
  clear cx hln rv ro
  generalize w2.drew = w2 at *
  refine wpAnyH_take (i := 0) (v := ?_) (by rw [List.getElem?_toArray]; rfl) (by kernel_rfl) (by kernel_rfl) (by kernel_rfl) (by exact fun _ _ _ h => h) (Or.inl ⟨by rfl, ?_⟩) h0 ?_
  rotate_left
  · intro W hW
    go_simp
    all_goals with_reducible rfl
  try simp only [Act.put, List.setIfInBounds_toArray, List.set_cons_zero, List.set_cons_succ]
  refine wpAnyH_take (i := 1) (v := ?_) (by rw [List.getElem?_toArray]; rfl) (by kernel_rfl) (by kernel_rfl) (by kernel_rfl) (by exact fun _ _ _ h => h) (Or.inl ⟨by rfl, ?_⟩) h0 ?_
  rotate_left
  · intro W hW
    go_simp
    all_goals with_reducible rfl
  try simp only [Act.put, List.setIfInBounds_toArray, List.set_cons_zero, List.set_cons_succ]
  refine wpAnyH_take (i := 2) (v := ?_) (by rw [List.getElem?_toArray]; rfl) (by kernel_rfl) (by kernel_rfl) (by kernel_rfl) (by exact fun _ _ _ h => h) (Or.inl ⟨by rfl, ?_⟩) h0 ?_
  rotate_left
  · intro W hW
    go_simp
    all_goals with_reducible rfl
  try simp only [Act.put, List.setIfInBounds_toArray, List.set_cons_zero, List.set_cons_succ]
  refine wpAnyH_take (i := 3) (v := ?_) (by rw [List.getElem?_toArray]; rfl) (by kernel_rfl) (by kernel_rfl) (by kernel_rfl) (by exact fun _ _ _ h => h) (Or.inl ⟨by rfl, ?_⟩) h0 ?_
  rotate_left
  · intro W hW
    have cc := hW.1
    go_simp
    all_goals with_reducible rfl
  try simp only [Act.put, List.setIfInBounds_toArray, List.set_cons_zero, List.set_cons_succ]
  refine wpAnyH_take (i := 4) (v := ?_) (by rw [List.getElem?_toArray]; rfl) (by kernel_rfl) (by kernel_rfl) (by kernel_rfl) (by exact fun _ _ _ h => h) (Or.inl ⟨by rfl, ?_⟩) h0 ?_
  rotate_left
  · intro W hW
    have cc := hW.2.1.row K1_len
    go_simp
    all_goals with_reducible rfl
  try simp only [Act.put, List.setIfInBounds_toArray, List.set_cons_zero, List.set_cons_succ]
  refine wpAnyH_take (i := 5) (v := ?_) (by rw [List.getElem?_toArray]; rfl) (by kernel_rfl) (by kernel_rfl) (by kernel_rfl) (by exact fun _ _ _ h => h) (Or.inl ⟨by rfl, ?_⟩) h0 ?_
  rotate_left
  · intro W hW
    have cc := hW.2.2.row hV
    go_simp
    all_goals with_reducible rfl
  try simp only [Act.put, List.setIfInBounds_toArray, List.set_cons_zero, List.set_cons_succ]
  refine wpAnyH_ready (rs := [6]) (by kernel_rfl) (by simp) ?_
  refine AllReadyH.cons (by rw [List.getElem?_toArray]; rfl) (fun K hK => ?_) AllReadyH.nil
  rw [if_pos (by rfl)]
  have hup := upd_m0 (v := .agg (hc V).toArray) Mx.out.mp
  have M3 := Lib.hid (Mx.out.putMap (M1 (.agg (hc V).toArray)) 1)
  have K3 : Hid (HashAt (putMap w2 m (M1 (.agg (hc V).toArray)) 1) w.heap.size K1) := by
    show _ = _
    rw [putMap_other (by omega)]; exact HKx.out
  have V3 : Hid (HashAt (putMap w2 m (M1 (.agg (hc V).toArray)) 1) (w.heap.size + 1) V) := by
    show _ = _
    rw [putMap_other (by omega)]; exact HVx.out
  have C3 := Lib.hid ((Chg.below Bx.out (Nat.le_refl _) [p, m]).putMap (b := m) (.inl (by simp)) (M1 (.agg (hc V).toArray)) 1)
  have c3 := M3.out.c0
  go_wp2_with fail
  refine hK.out _ _ (⟨c3, K3.out, V3.out⟩) (fun h3 => ?_)
  clear hK K
  try simp only [Act.put, List.setIfInBounds_toArray, List.set_cons_zero, List.set_cons_succ]
  refine wpAnyH_done (by kernel_rfl) ?_ _
  have hs3 := putMap_size w2 m (M1 (.agg (hc V).toArray)) 1
  clear h3 h0 c3 hup V3 Mx HKx HVx Bx
  have hs4 : w.heap.size + 2 ≤ (putMap w2 m (M1 (.agg (hc V).toArray)) 1).heap.size := by rw [hs3]; have := hW0.out; omega
  clear hs3
  generalize putMap w2 m (M1 (.agg (hc V).toArray)) 1 = w3 at *
  go_wp2_with fail
  refine wp_region_held_drew (S := fun W => HashAt W w.heap.size K1) (by kernel_rfl) (K3.out.on ((Below.refl _ _).drew)) (fun h0 => ?_)
  replace M3 := Lib.hid (M3.out.on ((Below.refl _ _).drew))
  replace K3 := Lib.hid (K3.out.on ((Below.refl _ _).drew))
  replace C3 := Lib.hid C3.out.drew
  replace hs4 : w.heap.size + 2 ≤ w3.drew.heap.size := hs4
  generalize w3.drew = w3 at *
  refine wpAnyH_take (i := 0) (v := ?_) (by rw [List.getElem?_toArray]; rfl) (by kernel_rfl) (by kernel_rfl) (by kernel_rfl) (by exact fun _ _ _ h => h) (Or.inl ⟨by rfl, ?_⟩) h0 ?_
  rotate_left
  · intro W hW
    go_simp
    all_goals with_reducible rfl
  try simp only [Act.put, List.setIfInBounds_toArray, List.set_cons_zero, List.set_cons_succ]
  refine wpAnyH_take (i := 1) (v := ?_) (by rw [List.getElem?_toArray]; rfl) (by kernel_rfl) (by kernel_rfl) (by kernel_rfl) (by exact fun _ _ _ h => h) (Or.inl ⟨by rfl, ?_⟩) h0 ?_
  rotate_left
  · intro W hW
    go_simp
    all_goals with_reducible rfl
  try simp only [Act.put, List.setIfInBounds_toArray, List.set_cons_zero, List.set_cons_succ]
  refine wpAnyH_take (i := 2) (v := ?_) (by rw [List.getElem?_toArray]; rfl) (by kernel_rfl) (by kernel_rfl) (by kernel_rfl) (by exact fun _ _ _ h => h) (Or.inl ⟨by rfl, ?_⟩) h0 ?_
  rotate_left
  · intro W hW
    go_simp
    all_goals with_reducible rfl
  try simp only [Act.put, List.setIfInBounds_toArray, List.set_cons_zero, List.set_cons_succ]
  refine wpAnyH_take (i := 3) (v := ?_) (by rw [List.getElem?_toArray]; rfl) (by kernel_rfl) (by kernel_rfl) (by kernel_rfl) (by exact fun _ _ _ h => h) (Or.inl ⟨by rfl, ?_⟩) h0 ?_
  rotate_left
  · intro W hW
    go_simp
    all_goals with_reducible rfl
  try simp only [Act.put, List.setIfInBounds_toArray, List.set_cons_zero, List.set_cons_succ]
  refine wpAnyH_take (i := 5) (v := ?_) (by rw [List.getElem?_toArray]; rfl) (by kernel_rfl) (by kernel_rfl) (by kernel_rfl) (by exact fun _ _ _ h => h) (Or.inl ⟨by rfl, ?_⟩) h0 ?_
  rotate_left
  · intro W hW
    have cc := hW.row K1_len
    go_simp
    all_goals with_reducible rfl
  try simp only [Act.put, List.setIfInBounds_toArray, List.set_cons_zero, List.set_cons_succ]
  refine wpAnyH_ready (rs := [4]) (by kernel_rfl) (by simp) ?_
  refine AllReadyH.cons (by rw [List.getElem?_toArray]; rfl) (fun K hK => ?_) AllReadyH.nil
  rw [if_pos (by rfl)]
  have ct := M3.out.c1
  go_wp2_with fail
  refine hK.out _ _ (h0) (fun h4 => ?_)
  clear hK K
  try simp only [Act.put, List.setIfInBounds_toArray, List.set_cons_zero, List.set_cons_succ]
  refine wpAnyH_ready (rs := [6]) (by kernel_rfl) (by simp) ?_
  refine AllReadyH.cons (by rw [List.getElem?_toArray]; rfl) (fun K hK => ?_) AllReadyH.nil
  rw [if_pos (by rfl)]
  go_wp2_with fail
  refine (with_nil K1_len).mono ?_
  rintro e w4 ⟨rfl, hb4, hn4⟩
  have M4 := Lib.hid (M3.out.on hb4)
  have C4 := Lib.hid (C3.out.trans (T := []) (Chg.below hb4 (Nat.le_refl _) []) (by simp))
  have K4 := Lib.hid (K3.out.on hb4)
  have N4 := Lib.hid hn4
  go_wp2_with fail
  refine hK.out _ _ (K4.out) (fun h5 => ?_)
  clear hK K
  try simp only [Act.put, List.setIfInBounds_toArray, List.set_cons_zero, List.set_cons_succ]
  refine wpAnyH_take (i := 7) (v := ?_) (by rw [List.getElem?_toArray]; rfl) (by kernel_rfl) (by kernel_rfl) (by kernel_rfl) (by exact fun _ _ _ h => h) (Or.inl ⟨by rfl, ?_⟩) h5 ?_
  rotate_left
  · intro W hW
    go_simp
    all_goals with_reducible rfl
  try simp only [Act.put, List.setIfInBounds_toArray, List.set_cons_zero, List.set_cons_succ]
  refine wpAnyH_take (i := 8) (v := ?_) (by rw [List.getElem?_toArray]; rfl) (by kernel_rfl) (by kernel_rfl) (by kernel_rfl) (by exact fun _ _ _ h => h) (Or.inl ⟨by rfl, ?_⟩) h5 ?_
  rotate_left
  · intro W hW
    go_simp
    all_goals with_reducible rfl
  try simp only [Act.put, List.setIfInBounds_toArray, List.set_cons_zero, List.set_cons_succ]
  refine wpAnyH_ready (rs := [9]) (by kernel_rfl) (by simp) ?_
  refine AllReadyH.cons (by rw [List.getElem?_toArray]; rfl) (fun K hK => ?_) AllReadyH.nil
  rw [if_pos (by rfl)]
  have ct2 := M4.out.c1
  have cf2 : w4.frozen? ⟨p, 1, none⟩ = false := Joins.unfrozen_of_block M4.out.blk 1
  have M5 := Lib.hid (M4.out.setTop (some ⟨w3.heap.size + 1, 0, none⟩))
  have C5 := Lib.hid (C4.out.setCell (p := ⟨p, 1, none⟩) (.inl (by simp)) (.pointer (some ⟨w3.heap.size + 1, 0, none⟩)))
  have K5 := Lib.hid (K4.out.other (a := ⟨p, 1, none⟩) (by simp; omega) (.pointer (some ⟨w3.heap.size + 1, 0, none⟩)))
  have hlp3 := M3.out.lp
  have N5 : Hid (NdB (w4.setCell ⟨p, 1, none⟩ (.pointer (some ⟨w3.heap.size + 1, 0, none⟩))) (w3.heap.size + 1) ⟨K1, 256, none, none, zero32, false, zero32, 0, false⟩) := by
    show _ = _
    rw [Below.heap_setCell _ _ _ _ (by simp; omega)]
    exact N4.out
  go_wp2_with fail
  refine hK.out _ _ (K5.out) (fun h6 => ?_)
  clear hK K
  try simp only [Act.put, List.setIfInBounds_toArray, List.set_cons_zero, List.set_cons_succ]
  refine wpAnyH_done (by kernel_rfl) ?_ _
  go_wp2_with fail
  go_ret
  exact ⟨rfl, C5.out, _, by omega, M5.out, N5.out⟩
end Go.Proofs.YtjgfjmkfcippcaaDoor
namespace Go.Proofs.YtjgfjmkfcippcaaDoor
open Go.RowKit
set_option maxRecDepth 100000


set_option maxHeartbeats 8000000 in
theorem Put_gone {w : World} {p m b : Nat} {n : Nd} {U : List Int} (hU : U.length = 32) (hv : (U == zero32) = false) (hM : MpS w p m (M1 (.agg (hc U).toArray)) 1 (some ⟨b, 0, none⟩)) (hn : NdB w b n) (ok : n.ok) (hf : n.fork = 256) (_hpb : p ≠ b) (hmb : m ≠ b) :
    Calls Tryd.prog 16 #[.pointer (some ⟨p, 0, none⟩), .agg (hc K1).toArray, .agg (hc zero32).toArray] w fun e w' => e = .returned (.int .i64 0) ∧ Chg w w' [p, m] ∧ MpS w' p m #[] 1 none := by
  have N0 := Lib.hid ((hn.alloc (.cells (hc K1).toArray 23)).alloc (.cells (hc zero32).toArray 23))
  have OK := Lib.hid ok
  have HF := Lib.hid hf
  have hzz : (zero32 == zero32) = true := beq_self_eq_true _
  clear hn ok hf
  have HK := Lib.hid (((HashAt.new w K1).alloc (.cells (hc zero32).toArray 23)))
  have HV := Lib.hid (HashAt.new (w.alloc (.cells (hc K1).toArray 23)) zero32)
  have B0 := Lib.hid (((Below.refl w.heap.size w).alloc (Nat.le_refl _) (.cells (hc K1).toArray 23)).alloc (by simp) (.cells (hc zero32).toArray 23))
  have M0 := Lib.hid ((hM.alloc (.cells (hc K1).toArray 23)).alloc (.cells (hc zero32).toArray 23))
  have hmp := hM.lp
  have hmm := hM.lm
  have hpm := hM.ne
  have c00 := M0.out.c0
  have k32 := K1_len
  have hlk := hc_len K1
  have hlv := hc_len zero32
  have z32 := zero32_len
  have hW0 : ((w.alloc (.cells (hc K1).toArray 23)).alloc (.cells (hc zero32).toArray 23)).heap.size = w.heap.size + 2 := by simp
  simp only [World.size_alloc] at HV
  clear hM
  go_enter Tryd.func16, Tryd.ntmps16
  go_wp2_with fail
  refine (made_yes c00).mono ?_
  rintro e wn ⟨rfl, h⟩
  obtain rfl := h.symm
  clear h
  go_wp2_with fail
  generalize ((w.alloc (.cells (hc K1).toArray 23)).alloc (.cells (hc zero32).toArray 23)) = w0 at *
  refine wp_region_held_drew (S := fun W => Below w0.drew.heap.size w0.drew W) (by kernel_rfl) (Below.refl _ _) (fun h0 => ?_)
  replace N0 := Lib.hid (N0.out.on ((Below.refl _ _).drew))
  replace M0 := Lib.hid (M0.out.on ((Below.refl _ _).drew))
  replace HK := Lib.hid (HK.out.on ((Below.refl _ _).drew))
  replace HV := Lib.hid (HV.out.on ((Below.refl _ _).drew))
  replace B0 := Lib.hid B0.out.drew
  replace hW0 : Hid (w0.drew.heap.size = w.heap.size + 2) := hW0
  clear c00
  generalize w0.drew = w0 at *
  refine wpAnyH_take (i := 0) (v := ?_) (by rw [List.getElem?_toArray]; rfl) (by kernel_rfl) (by kernel_rfl) (by kernel_rfl) (by exact fun _ _ _ h => h) (Or.inl ⟨by rfl, ?_⟩) h0 ?_
  rotate_left
  · intro W hW
    go_simp
    all_goals with_reducible rfl
  try simp only [Act.put, List.setIfInBounds_toArray, List.set_cons_zero, List.set_cons_succ]
  refine wpAnyH_take (i := 1) (v := ?_) (by rw [List.getElem?_toArray]; rfl) (by kernel_rfl) (by kernel_rfl) (by kernel_rfl) (by exact fun _ _ _ h => h) (Or.inl ⟨by rfl, ?_⟩) h0 ?_
  rotate_left
  · intro W hW
    go_simp
    all_goals with_reducible rfl
  try simp only [Act.put, List.setIfInBounds_toArray, List.set_cons_zero, List.set_cons_succ]
  refine wpAnyH_take (i := 2) (v := ?_) (by rw [List.getElem?_toArray]; rfl) (by kernel_rfl) (by kernel_rfl) (by kernel_rfl) (by exact fun _ _ _ h => h) (Or.inl ⟨by rfl, ?_⟩) h0 ?_
  rotate_left
  · intro W hW
    go_simp
    all_goals with_reducible rfl
  try simp only [Act.put, List.setIfInBounds_toArray, List.set_cons_zero, List.set_cons_succ]
  refine wpAnyH_take (i := 3) (v := ?_) (by rw [List.getElem?_toArray]; rfl) (by kernel_rfl) (by kernel_rfl) (by kernel_rfl) (by exact fun _ _ _ h => h) (Or.inl ⟨by rfl, ?_⟩) h0 ?_
  rotate_left
  · intro W hW
    have cc := (M0.out.on hW).c0
    go_simp
    all_goals with_reducible rfl
  try simp only [Act.put, List.setIfInBounds_toArray, List.set_cons_zero, List.set_cons_succ]
  refine wpAnyH_take (i := 4) (v := ?_) (by rw [List.getElem?_toArray]; rfl) (by kernel_rfl) (by kernel_rfl) (by kernel_rfl) (by exact fun _ _ _ h => h) (Or.inl ⟨by rfl, ?_⟩) h0 ?_
  rotate_left
  · intro W hW
    have cc := (HK.out.on hW).row K1_len
    go_simp
    all_goals with_reducible rfl
  try simp only [Act.put, List.setIfInBounds_toArray, List.set_cons_zero, List.set_cons_succ]
  refine wpAnyH_take (i := 5) (v := ?_) (by rw [List.getElem?_toArray]; rfl) (by kernel_rfl) (by kernel_rfl) (by kernel_rfl) (by exact fun _ _ _ h => h) (Or.inl ⟨by rfl, ?_⟩) h0 ?_
  rotate_left
  · intro W hW
    have cc := look_m1 true (M0.out.on hW).mp
    go_simp
    all_goals with_reducible rfl
  try simp only [Act.put, List.setIfInBounds_toArray, List.set_cons_zero, List.set_cons_succ]
  refine wpAnyH_take (i := 6) (v := ?_) (by rw [List.getElem?_toArray]; rfl) (by kernel_rfl) (by kernel_rfl) (by kernel_rfl) (by exact fun _ _ _ h => h) (Or.inl ⟨by rfl, ?_⟩) h0 ?_
  rotate_left
  · intro W hW
    go_simp
    all_goals with_reducible rfl
  try simp only [Act.put, List.setIfInBounds_toArray, List.set_cons_zero, List.set_cons_succ]
  refine wpAnyH_take (i := 7) (v := ?_) (by rw [List.getElem?_toArray]; rfl) (by kernel_rfl) (by kernel_rfl) (by kernel_rfl) (by exact fun _ _ _ h => h) (Or.inl ⟨by rfl, ?_⟩) h0 ?_
  rotate_left
  · intro W hW
    go_simp
    all_goals with_reducible rfl
  try simp only [Act.put, List.setIfInBounds_toArray, List.set_cons_zero, List.set_cons_succ]
  refine wpAnyH_take (i := 8) (v := ?_) (by rw [List.getElem?_toArray]; rfl) (by kernel_rfl) (by kernel_rfl) (by kernel_rfl) (by exact fun _ _ _ h => h) (Or.inl ⟨by rfl, ?_⟩) h0 ?_
  rotate_left
  · intro W hW
    go_simp
    all_goals with_reducible rfl
  try simp only [Act.put, List.setIfInBounds_toArray, List.set_cons_zero, List.set_cons_succ]
  refine wpAnyH_ready (rs := [9]) (by kernel_rfl) (by simp) ?_
  refine AllReadyH.cons (by rw [List.getElem?_toArray]; rfl) (fun K hK => ?_) AllReadyH.nil
  rw [if_pos (by rfl)]
  have Z1 := Lib.hid (HashAt.new w0 zero32)
  go_wp2_with fail
  refine hK.out _ _ (h0.alloc h0.size _) (fun h1 => ?_)
  clear hK K
  try simp only [Act.put, List.setIfInBounds_toArray, List.set_cons_zero, List.set_cons_succ]
  refine wpAnyH_ready (rs := [10]) (by kernel_rfl) (by simp) ?_
  refine AllReadyH.cons (by rw [List.getElem?_toArray]; rfl) (fun K hK => ?_) AllReadyH.nil
  rw [if_pos (by rfl)]
  have th1 := Z1.out.there zero32_len
  have P1 := Lib.hid (Z1.out.put zero32_len hU)
  have B1 : Below w0.heap.size w0 ((w0.alloc (.cells (hc zero32).toArray 23)).setCells w0.heap.size 0 (hc U)) := below_setCells' _ (Nat.le_refl _) _ _ h1
  have ols := hc_len U
  go_wp2_with fail
  refine hK.out _ _ (B1) (fun h2 => ?_)
  clear hK K
  try simp only [Act.put, List.setIfInBounds_toArray, List.set_cons_zero, List.set_cons_succ]
  refine wpAnyH_take (i := 11) (v := ?_) (by rw [List.getElem?_toArray]; rfl) (by kernel_rfl) (by kernel_rfl) (by kernel_rfl) (by exact fun _ _ _ h => h) (Or.inl ⟨by rfl, ?_⟩) h2 ?_
  rotate_left
  · intro W hW
    go_simp
    all_goals with_reducible rfl
  try simp only [Act.put, List.setIfInBounds_toArray, List.set_cons_zero, List.set_cons_succ]
  refine wpAnyH_done (by kernel_rfl) ?_ _
  have rv := (HV.out.on B1).row zero32_len
  have ro := P1.out.row hU
  have Mx := Lib.hid (M0.out.on B1)
  have Nx := Lib.hid (N0.out.on B1)
  have HKx := Lib.hid (HK.out.on B1)
  have Bx := Lib.hid (B0.out.trans (B1.mono B0.out.size))
  have hsx := B1.size
  have hlu := hc_len U
  clear h2 h1 P1 Z1 th1 M0 HK HV N0
  generalize (w0.alloc (.cells (hc zero32).toArray 23)).setCells w0.heap.size 0 (hc U) = w2 at *
  clear B1
  go_wp2_with fail
  refine wp_region_held_drew (S := fun W => W.cell? ⟨p, 0, none⟩ = some (.map (some m)) ∧ HashAt W w.heap.size K1) (by kernel_rfl) (⟨(Mx.out.on ((Below.refl _ _).drew)).c0, HKx.out.on ((Below.refl _ _).drew)⟩) (fun h0 => ?_)
  replace Mx := Lib.hid (Mx.out.on ((Below.refl _ _).drew))
  replace Nx := Lib.hid (Nx.out.on ((Below.refl _ _).drew))
  replace HKx := Lib.hid (HKx.out.on ((Below.refl _ _).drew))
  replace Bx := Lib.hid Bx.out.drew
  replace hsx : w0.heap.size ≤ w2.drew.heap.size := hsx
  clear rv ro
  generalize w2.drew = w2 at *
  refine wpAnyH_take (i := 0) (v := ?_) (by rw [List.getElem?_toArray]; rfl) (by kernel_rfl) (by kernel_rfl) (by kernel_rfl) (by exact fun _ _ _ h => h) (Or.inl ⟨by rfl, ?_⟩) h0 ?_
  rotate_left
  · intro W hW
    go_simp
    all_goals with_reducible rfl
  try simp only [Act.put, List.setIfInBounds_toArray, List.set_cons_zero, List.set_cons_succ]
  refine wpAnyH_take (i := 1) (v := ?_) (by rw [List.getElem?_toArray]; rfl) (by kernel_rfl) (by kernel_rfl) (by kernel_rfl) (by exact fun _ _ _ h => h) (Or.inl ⟨by rfl, ?_⟩) h0 ?_
  rotate_left
  · intro W hW
    go_simp
    all_goals with_reducible rfl
  try simp only [Act.put, List.setIfInBounds_toArray, List.set_cons_zero, List.set_cons_succ]
  refine wpAnyH_take (i := 2) (v := ?_) (by rw [List.getElem?_toArray]; rfl) (by kernel_rfl) (by kernel_rfl) (by kernel_rfl) (by exact fun _ _ _ h => h) (Or.inl ⟨by rfl, ?_⟩) h0 ?_
  rotate_left
  · intro W hW
    go_simp
    all_goals with_reducible rfl
  try simp only [Act.put, List.setIfInBounds_toArray, List.set_cons_zero, List.set_cons_succ]
  refine wpAnyH_take (i := 3) (v := ?_) (by rw [List.getElem?_toArray]; rfl) (by kernel_rfl) (by kernel_rfl) (by kernel_rfl) (by exact fun _ _ _ h => h) (Or.inl ⟨by rfl, ?_⟩) h0 ?_
  rotate_left
  · intro W hW
    have cc := hW.1
    go_simp
    all_goals with_reducible rfl
  try simp only [Act.put, List.setIfInBounds_toArray, List.set_cons_zero, List.set_cons_succ]
  refine wpAnyH_take (i := 4) (v := ?_) (by rw [List.getElem?_toArray]; rfl) (by kernel_rfl) (by kernel_rfl) (by kernel_rfl) (by exact fun _ _ _ h => h) (Or.inl ⟨by rfl, ?_⟩) h0 ?_
  rotate_left
  · intro W hW
    have cc := hW.2.row K1_len
    go_simp
    all_goals with_reducible rfl
  try simp only [Act.put, List.setIfInBounds_toArray, List.set_cons_zero, List.set_cons_succ]
  refine wpAnyH_ready (rs := [5]) (by kernel_rfl) (by simp) ?_
  refine AllReadyH.cons (by rw [List.getElem?_toArray]; rfl) (fun K hK => ?_) AllReadyH.nil
  rw [if_pos (by rfl)]
  have hdl := fun ty => del_m1 (v := .agg (hc U).toArray) ty Mx.out.mp
  have M3 := Lib.hid (Mx.out.putMap #[] 1)
  have K3 : Hid (HashAt (putMap w2 m #[] 1) w.heap.size K1) := by
    show _ = _
    rw [putMap_other (by omega)]; exact HKx.out
  have N3 : Hid (NdB (putMap w2 m #[] 1) b n) := by
    show _ = _
    rw [putMap_other (by omega)]; exact Nx.out
  have C3 := Lib.hid ((Chg.below Bx.out (Nat.le_refl _) [p, m]).putMap (b := m) (.inl (by simp)) #[] 1)
  have c3 := M3.out.c0
  go_wp2_with fail
  refine hK.out _ _ (⟨c3, K3.out⟩) (fun h3 => ?_)
  clear hK K
  try simp only [Act.put, List.setIfInBounds_toArray, List.set_cons_zero, List.set_cons_succ]
  refine wpAnyH_done (by kernel_rfl) ?_ _
  have hs3 := putMap_size w2 m #[] 1
  clear h3 h0 c3 hdl Mx HKx Bx Nx
  have hs4 : w.heap.size + 2 ≤ (putMap w2 m #[] 1).heap.size := by rw [hs3]; have := hW0.out; omega
  clear hs3
  generalize putMap w2 m #[] 1 = w3 at *
  go_wp2_with fail
  refine wp_region_held_drew (S := fun W => HashAt W w.heap.size K1) (by kernel_rfl) (K3.out.on ((Below.refl _ _).drew)) (fun h0 => ?_)
  replace M3 := Lib.hid (M3.out.on ((Below.refl _ _).drew))
  replace K3 := Lib.hid (K3.out.on ((Below.refl _ _).drew))
  replace N3 := Lib.hid (N3.out.on ((Below.refl _ _).drew))
  replace C3 := Lib.hid C3.out.drew
  replace hs4 : w.heap.size + 2 ≤ w3.drew.heap.size := hs4
  generalize w3.drew = w3 at *
  refine wpAnyH_take (i := 0) (v := ?_) (by rw [List.getElem?_toArray]; rfl) (by kernel_rfl) (by kernel_rfl) (by kernel_rfl) (by exact fun _ _ _ h => h) (Or.inl ⟨by rfl, ?_⟩) h0 ?_
  rotate_left
  · intro W hW
    go_simp
    all_goals with_reducible rfl
  try simp only [Act.put, List.setIfInBounds_toArray, List.set_cons_zero, List.set_cons_succ]
  refine wpAnyH_take (i := 1) (v := ?_) (by rw [List.getElem?_toArray]; rfl) (by kernel_rfl) (by kernel_rfl) (by kernel_rfl) (by exact fun _ _ _ h => h) (Or.inl ⟨by rfl, ?_⟩) h0 ?_
  rotate_left
  · intro W hW
    go_simp
    all_goals with_reducible rfl
  try simp only [Act.put, List.setIfInBounds_toArray, List.set_cons_zero, List.set_cons_succ]
  refine wpAnyH_take (i := 2) (v := ?_) (by rw [List.getElem?_toArray]; rfl) (by kernel_rfl) (by kernel_rfl) (by kernel_rfl) (by exact fun _ _ _ h => h) (Or.inl ⟨by rfl, ?_⟩) h0 ?_
  rotate_left
  · intro W hW
    go_simp
    all_goals with_reducible rfl
  try simp only [Act.put, List.setIfInBounds_toArray, List.set_cons_zero, List.set_cons_succ]
  refine wpAnyH_take (i := 3) (v := ?_) (by rw [List.getElem?_toArray]; rfl) (by kernel_rfl) (by kernel_rfl) (by kernel_rfl) (by exact fun _ _ _ h => h) (Or.inl ⟨by rfl, ?_⟩) h0 ?_
  rotate_left
  · intro W hW
    go_simp
    all_goals with_reducible rfl
  try simp only [Act.put, List.setIfInBounds_toArray, List.set_cons_zero, List.set_cons_succ]
  refine wpAnyH_take (i := 5) (v := ?_) (by rw [List.getElem?_toArray]; rfl) (by kernel_rfl) (by kernel_rfl) (by kernel_rfl) (by exact fun _ _ _ h => h) (Or.inl ⟨by rfl, ?_⟩) h0 ?_
  rotate_left
  · intro W hW
    have cc := hW.row K1_len
    go_simp
    all_goals with_reducible rfl
  try simp only [Act.put, List.setIfInBounds_toArray, List.set_cons_zero, List.set_cons_succ]
  refine wpAnyH_ready (rs := [4]) (by kernel_rfl) (by simp) ?_
  refine AllReadyH.cons (by rw [List.getElem?_toArray]; rfl) (fun K hK => ?_) AllReadyH.nil
  rw [if_pos (by rfl)]
  have ct := M3.out.c1
  go_wp2_with fail
  refine hK.out _ _ (h0) (fun h4 => ?_)
  clear hK K
  try simp only [Act.put, List.setIfInBounds_toArray, List.set_cons_zero, List.set_cons_succ]
  refine wpAnyH_ready (rs := [6]) (by kernel_rfl) (by simp) ?_
  refine AllReadyH.cons (by rw [List.getElem?_toArray]; rfl) (fun K hK => ?_) AllReadyH.nil
  rw [if_pos (by rfl)]
  go_wp2_with fail
  refine (without_leaf OK.out HF.out N3.out).mono ?_
  rintro e w4 ⟨rfl, hb4⟩
  have M4 := Lib.hid (M3.out.on hb4)
  have C4 := Lib.hid (C3.out.trans (T := []) (Chg.below hb4 (Nat.le_refl _) []) (by simp))
  have K4 := Lib.hid (K3.out.on hb4)
  go_wp2_with fail
  refine hK.out _ _ (K4.out) (fun h5 => ?_)
  clear hK K
  try simp only [Act.put, List.setIfInBounds_toArray, List.set_cons_zero, List.set_cons_succ]
  refine wpAnyH_take (i := 7) (v := ?_) (by rw [List.getElem?_toArray]; rfl) (by kernel_rfl) (by kernel_rfl) (by kernel_rfl) (by exact fun _ _ _ h => h) (Or.inl ⟨by rfl, ?_⟩) h5 ?_
  rotate_left
  · intro W hW
    go_simp
    all_goals with_reducible rfl
  try simp only [Act.put, List.setIfInBounds_toArray, List.set_cons_zero, List.set_cons_succ]
  refine wpAnyH_take (i := 8) (v := ?_) (by rw [List.getElem?_toArray]; rfl) (by kernel_rfl) (by kernel_rfl) (by kernel_rfl) (by exact fun _ _ _ h => h) (Or.inl ⟨by rfl, ?_⟩) h5 ?_
  rotate_left
  · intro W hW
    go_simp
    all_goals with_reducible rfl
  try simp only [Act.put, List.setIfInBounds_toArray, List.set_cons_zero, List.set_cons_succ]
  refine wpAnyH_ready (rs := [9]) (by kernel_rfl) (by simp) ?_
  refine AllReadyH.cons (by rw [List.getElem?_toArray]; rfl) (fun K hK => ?_) AllReadyH.nil
  rw [if_pos (by rfl)]
  have ct2 := M4.out.c1
  have cf2 : w4.frozen? ⟨p, 1, none⟩ = false := Joins.unfrozen_of_block M4.out.blk 1
  have M5 := Lib.hid (M4.out.setTop none)
  have C5 := Lib.hid (C4.out.setCell (p := ⟨p, 1, none⟩) (.inl (by simp)) (.pointer none))
  have K5 := Lib.hid (K4.out.other (a := ⟨p, 1, none⟩) (by simp; omega) (.pointer none))
  go_wp2_with fail
  refine hK.out _ _ (K5.out) (fun h6 => ?_)
  clear hK K
  try simp only [Act.put, List.setIfInBounds_toArray, List.set_cons_zero, List.set_cons_succ]
  refine wpAnyH_done (by kernel_rfl) ?_ _
  go_wp2_with fail
  go_ret
  exact ⟨rfl, C5.out, M5.out⟩

set_option maxHeartbeats 8000000 in
theorem Get_none {w : World} {p m c : Nat} {top : Option Addr} (hM : MpS w p m #[] c top) :
    Calls Tryd.prog 17 #[.pointer (some ⟨p, 0, none⟩), .agg (hc K1).toArray] w fun e w' => e = .returned (.agg (hc zero32).toArray) ∧ Below w.heap.size w w' := by
  have hmp := hM.lp
  have hmm := hM.lm
  have HK := Lib.hid (((HashAt.new w K1).alloc (.cells (hc zero32).toArray 23)))
  have HZ := Lib.hid (HashAt.new (w.alloc (.cells (hc K1).toArray 23)) zero32)
  have B0 := Lib.hid (((Below.refl w.heap.size w).alloc (Nat.le_refl _) (.cells (hc K1).toArray 23)).alloc (by simp) (.cells (hc zero32).toArray 23))
  have M0 := Lib.hid ((hM.alloc (.cells (hc K1).toArray 23)).alloc (.cells (hc zero32).toArray 23))
  have c00 := M0.out.c0
  have k32 := K1_len
  have hlk := hc_len K1
  have z32 := zero32_len
  simp only [World.size_alloc] at HZ
  clear hM
  go_enter Tryd.func17, Tryd.ntmps17
  go_wp2_with fail
  refine (made_yes c00).mono ?_
  rintro e wn ⟨rfl, h⟩
  obtain rfl := h.symm
  clear h
  go_wp2_with fail
  generalize ((w.alloc (.cells (hc K1).toArray 23)).alloc (.cells (hc zero32).toArray 23)) = w0 at *
  refine wp_region_held_drew (S := fun W => HashAt W w.heap.size K1 ∧ MpS W p m #[] c top) (by kernel_rfl) (⟨HK.out.on ((Below.refl _ _).drew), M0.out.on ((Below.refl _ _).drew)⟩) (fun h0 => ?_)
  replace M0 := Lib.hid (M0.out.on ((Below.refl _ _).drew))
  replace HK := Lib.hid (HK.out.on ((Below.refl _ _).drew))
  replace HZ := Lib.hid (HZ.out.on ((Below.refl _ _).drew))
  replace B0 := Lib.hid B0.out.drew
  clear c00
  generalize w0.drew = w0 at *
  refine wpAnyH_take (i := 0) (v := ?_) (by rw [List.getElem?_toArray]; rfl) (by kernel_rfl) (by kernel_rfl) (by kernel_rfl) (by exact fun _ _ _ h => h) (Or.inl ⟨by rfl, ?_⟩) h0 ?_
  rotate_left
  · intro W hW
    go_simp
    all_goals with_reducible rfl
  try simp only [Act.put, List.setIfInBounds_toArray, List.set_cons_zero, List.set_cons_succ]
  refine wpAnyH_take (i := 1) (v := ?_) (by rw [List.getElem?_toArray]; rfl) (by kernel_rfl) (by kernel_rfl) (by kernel_rfl) (by exact fun _ _ _ h => h) (Or.inl ⟨by rfl, ?_⟩) h0 ?_
  rotate_left
  · intro W hW
    go_simp
    all_goals with_reducible rfl
  try simp only [Act.put, List.setIfInBounds_toArray, List.set_cons_zero, List.set_cons_succ]
  refine wpAnyH_take (i := 2) (v := ?_) (by rw [List.getElem?_toArray]; rfl) (by kernel_rfl) (by kernel_rfl) (by kernel_rfl) (by exact fun _ _ _ h => h) (Or.inl ⟨by rfl, ?_⟩) h0 ?_
  rotate_left
  · intro W hW
    go_simp
    all_goals with_reducible rfl
  try simp only [Act.put, List.setIfInBounds_toArray, List.set_cons_zero, List.set_cons_succ]
  refine wpAnyH_take (i := 3) (v := ?_) (by rw [List.getElem?_toArray]; rfl) (by kernel_rfl) (by kernel_rfl) (by kernel_rfl) (by exact fun _ _ _ h => h) (Or.inl ⟨by rfl, ?_⟩) h0 ?_
  rotate_left
  · intro W hW
    have cc := hW.2.c0
    go_simp
    all_goals with_reducible rfl
  try simp only [Act.put, List.setIfInBounds_toArray, List.set_cons_zero, List.set_cons_succ]
  refine wpAnyH_take (i := 4) (v := ?_) (by rw [List.getElem?_toArray]; rfl) (by kernel_rfl) (by kernel_rfl) (by kernel_rfl) (by exact fun _ _ _ h => h) (Or.inl ⟨by rfl, ?_⟩) h0 ?_
  rotate_left
  · intro W hW
    have cc := hW.1.row K1_len
    go_simp
    all_goals with_reducible rfl
  try simp only [Act.put, List.setIfInBounds_toArray, List.set_cons_zero, List.set_cons_succ]
  refine wpAnyH_take (i := 5) (v := ?_) (by rw [List.getElem?_toArray]; rfl) (by kernel_rfl) (by kernel_rfl) (by kernel_rfl) (by exact fun _ _ _ h => h) (Or.inl ⟨by rfl, ?_⟩) h0 ?_
  rotate_left
  · intro W hW
    have cc := look_m0 false hW.2.mp
    go_simp
    all_goals with_reducible rfl
  try simp only [Act.put, List.setIfInBounds_toArray, List.set_cons_zero, List.set_cons_succ]
  refine wpAnyH_ready (rs := [6]) (by kernel_rfl) (by simp) ?_
  refine AllReadyH.cons (by rw [List.getElem?_toArray]; rfl) (fun K hK => ?_) AllReadyH.nil
  rw [if_pos (by rfl)]
  have th := HZ.out.there zero32_len
  have hput := (HZ.out.put zero32_len zero32_len).row zero32_len
  have HX := Lib.hid (below_setCells' (B := w.heap.size) (w.heap.size + 1) (by omega) (hc zero32) 0 B0.out)
  have HM9 : MpS (w0.setCells (w.heap.size + 1) 0 (hc zero32)) p m #[] c top := ⟨by rw [setCells_other (by have := M0.out.lp; omega)]; exact M0.out.blk, by rw [setCells_other (by omega)]; exact M0.out.mp⟩
  go_wp2_with fail
  refine hK.out _ _ (⟨(HK.out.others (k := w.heap.size + 1) (by omega) 0 (hc zero32)), HM9⟩) (fun h1 => ?_)
  clear hK K
  try simp only [Act.put, List.setIfInBounds_toArray, List.set_cons_zero, List.set_cons_succ]
  refine wpAnyH_done (by kernel_rfl) ?_ _
  go_wp2_with fail
  refine bodyPost_ret (v := .agg (hc zero32).toArray) (by simp [results, Tryd.results17, go_sem, hput, z32]) rfl ⟨rfl, HX.out⟩
end Go.Proofs.YtjgfjmkfcippcaaDoor
