/-
  Package smt: what stands at level 0 above a leaf that is alone.
-/
import Derived.Test.YtjgfjmkfcippcaaDoorSmHere
namespace Go.Proofs.YtjgfjmkfcippcaaDoor
open Go.RowKit
set_option maxRecDepth 100000

/-- Within climb: the node, the hash so far, the answer's cell. -/
structure ClS (w wr : World) (b hb rb : Nat) (n : Nd) (X : List Int) : Prop where
  chg : Chg w wr [b]
  nd : NdB wr b n
  hh : HashAt wr hb X
  rz : HashAt wr rb zero32
section
variable {w W W' : World} {b hb rb : Nat} {n : Nd} {X : List Int}
theorem ClS.on (h : ClS w W b hb rb n X) (hx : Below W.heap.size W W') : ClS w W' b hb rb n X :=
  ⟨h.chg.trans (T := []) (Chg.below hx (Nat.le_refl _) []) (by simp), h.nd.on hx, h.hh.on hx, h.rz.on hx⟩
theorem NdB.others (h : NdB W b n) {k : Nat} (hk : b ≠ k) (o : Nat) (vs : List Value) : NdB (W.setCells k o vs) b n := by
  unfold NdB
  rw [setCells_other hk]; exact h
theorem HashAt.others {F : List Int} (h : HashAt W b F) {k : Nat} (hk : b ≠ k) (o : Nat) (vs : List Value) : HashAt (W.setCells k o vs) b F := by
  unfold HashAt
  rw [setCells_other hk]; exact h
theorem ClS.put (h : ClS w W b hb rb n X) (hw : w.heap.size ≤ hb) (hne : b ≠ hb) (hre : rb ≠ hb) (lX : X.length = 32) {Y : List Int} (lY : Y.length = 32) : ClS w (W.setCells hb 0 (hc Y)) b hb rb n Y :=
  ⟨h.chg.setCells (.inr hw) _ _, h.nd.others hne _ _, h.hh.put lX lY, h.rz.others hre _ _⟩
end

set_option maxHeartbeats 8000000 in
theorem climb_leaf {w : World} {p m b c : Nat} {n : Nd} {V : List Int} (hT : Tbl w) (ok : n.ok) (hk : n.key = K1) (bK : Bytes K1) (hV : V.length = 32) (bV : Bytes V) (hf : n.fork = 256) (ht : n.told = false) (hn : NdB w b n) (hp : w.cell? ⟨p, 0, none⟩ = some (.map (some m))) (hm : w.heap[m]? = some (.map (M1 (.agg (hc V).toArray)) c)) (hpb : p ≠ b) (hmb : m ≠ b) (hgb : 1 ∉ [b]) :
    Calls Tryd.prog 50 #[.pointer (some ⟨p, 0, none⟩), .pointer (some ⟨b, 0, none⟩), .int .i64 0] w fun e w' => e = .returned (.agg (hc (upH K1 256 (lfH K1 V) 256)).toArray) ∧ Chg w w' [b] ∧ NdB w' b { n with own := lfH K1 V, told := true } := by
  have HZ := Lib.hid (HashAt.new w zero32)
  have B0 := Lib.hid ((Below.refl w.heap.size w).alloc (Nat.le_refl _) (.cells (hc zero32).toArray 23))
  have hbw : b < w.heap.size := hn.lt
  have HT := Lib.hid hT
  have KH := Lib.hid (here_leaf (hT.on B0.out hT.pos) ok hk bK hV bV hf ht (hn.alloc (.cells (hc zero32).toArray 23)) (by rw [World.cell?_of_block (w := w) (Below.heap_alloc _ _ _ (World.block_lt_of_cell? w _ hp))]; exact hp) (by rw [Below.heap_alloc _ _ _ (Array.getElem?_eq_some_iff.1 hm).1]; exact hm) hpb hmb hgb)
  have OK := Lib.hid ok
  have HK := Lib.hid hk
  have HF := Lib.hid hf
  have BK := Lib.hid bK
  clear hT hk bK hV bV hf ht hn hp hm hpb hmb
  go_enter Tryd.func50, Tryd.ntmps50
  go_wp2_with fail
  refine KH.out.mono ?_
  rintro e w2 ⟨rfl, hc2, hn2⟩
  have hlF := lfH_len K1 V
  have LB := Lib.hid (lfH_bytes K1 V)
  obtain ⟨F, hF⟩ : ∃ F, lfH K1 V = F := ⟨_, rfl⟩
  have HL := Lib.hid hF
  rw [hF] at hn2 hlF LB ⊢
  clear KH hF
  have ok2 : Nd.ok { n with own := F, told := true } := ⟨OK.out.key, hlF, OK.out.high⟩
  have hsz1 : w.heap.size < w2.heap.size := by
    have := hc2.size
    simp only [World.size_alloc] at this
    omega
  have C2 := Lib.hid ((Chg.below B0.out (Nat.le_refl _) [b]).trans hc2 (fun x hx _ => hx))
  have Z2 := HZ.out.chg hc2 (by simp; omega)
  have hZ3 := HashAt.new w2 zero32
  have hth := hZ3.there zero32_len
  have S3 : ClS w ((w2.alloc (.cells (hc zero32).toArray 23)).setCells w2.heap.size 0 (hc F)) b w2.heap.size w.heap.size { n with own := F, told := true } F :=
    ClS.put (X := zero32) ⟨C2.out.alloc _, hn2.alloc _, hZ3, Z2.alloc _⟩ (by omega) (by omega) (by omega) zero32_len hlF
  have f3 := (S3.nd.facts ok2).1
  have f3' : ((w2.alloc (.cells (hc zero32).toArray 23)).setCells w2.heap.size 0 (hc F)).cell? ⟨b, 32, none⟩ = some (.int .i64 256) := by
    rw [f3]
    show some (Value.int .i64 n.fork) = _
    rw [HF.out]
  clear f3 hc2 hn2 Z2 hZ3 C2 HZ B0
  have S3 := Lib.hid S3
  go_wp2_with fail
  clear hth f3'
  generalize (w2.alloc (.cells (hc zero32).toArray 23)).setCells w2.heap.size 0 (hc F) = w3 at *
  go_loopw [8] (fun iv wr => ∃ k : Nat, iv = .int .i64 (255 - (k : Int)) ∧ k ≤ 256 ∧ Hid (ClS w wr b w2.heap.size w.heap.size { n with own := F, told := true } (upH K1 256 F k))) (fun iv _ => (intOf iv + 1).toNat)
  case atStart => exact ⟨0, rfl, by omega, S3⟩
  case round =>
    clear S3
    obtain ⟨k, rfl, hk, hS⟩ := hrel
    have lX := upH_len K1 256 hlF k
    by_cases hlt : k < 256
    · obtain ⟨i, hi⟩ : ∃ i : Nat, 255 - (k : Int) = i := ⟨255 - k, by omega⟩
      have hi2 : i < 256 := by omega
      have HI := Lib.hid (show 256 - 1 - k = i by omega)
      rw [hi]
      have bX := Lib.hid (upH_bytes K1 256 LB.out k)
      have HU := Lib.hid (show upH K1 256 F (k + 1) = stp K1 i (upH K1 256 F k) by rw [upH, HI.out])
      obtain ⟨X, hX⟩ : ∃ X, upH K1 256 F k = X := ⟨_, rfl⟩
      rw [hX] at lX bX hS HU
      have rk := (hS.out.nd.facts ok2).2.2.2.2.2.2.1
      have rk' : rowOf wr b 0 32 = hc K1 := by rw [rk]; show hc n.key = _; rw [HK.out]
      have hlk := hc_len K1
      have k32 := K1_len
      clear hX rk
      go_wp2_with fail
      refine (bit_any K1_len BK.out hi2).mono ?_
      rintro e w4 ⟨rfl, hb4⟩
      have S4 := Lib.hid (hS.out.on hb4)
      have r4 := S4.out.hh.row lX
      have T4 := Lib.hid (HT.out.chg S4.out.chg hgb)
      have lxx := hc_len X
      clear hS hb4 rk'
      by_cases hz : bitI K1 i = 0
      · have dz : (bitI K1 i == 0) = true := by rw [hz]; rfl
        have HU2 := Lib.hid (show stp K1 i X = abH X zero32 by unfold stp; rw [if_pos hz])
        generalize bitI K1 i = z at *
        clear hz
        go_wp2_with fail
        refine (Above_any T4.out lX zero32_len bX.out zero32_bytes).mono ?_
        rintro e w5 ⟨rfl, hb5⟩
        have S5 := Lib.hid (S4.out.on hb5)
        have lY := abH_len X zero32
        rw [HU2.out] at HU
        generalize abH X zero32 = Y at *
        have th5 := S5.out.hh.there lX
        have S6 := Lib.hid (S5.out.put (by omega) (by omega) (by omega) lX lY)
        clear S4 r4 T4 hb5 S5 HU2
        go_wp2_with fail
        go_roundw
        case rel => exact ⟨k + 1, by congr 1; omega, by omega, by rw [HU.out]; exact S6⟩
        case measure => simp [intOf] <;> omega
      · have dz : (bitI K1 i == 0) = false := by simpa using hz
        have HU2 := Lib.hid (show stp K1 i X = abH zero32 X by unfold stp; rw [if_neg hz])
        generalize bitI K1 i = z at *
        clear hz
        go_wp2_with fail
        refine (Above_any T4.out zero32_len lX zero32_bytes bX.out).mono ?_
        rintro e w5 ⟨rfl, hb5⟩
        have S5 := Lib.hid (S4.out.on hb5)
        have lY := abH_len zero32 X
        rw [HU2.out] at HU
        generalize abH zero32 X = Y at *
        have th5 := S5.out.hh.there lX
        have S6 := Lib.hid (S5.out.put (by omega) (by omega) (by omega) lX lY)
        clear S4 r4 T4 hb5 S5 HU2
        go_wp2_with fail
        go_roundw
        case rel => exact ⟨k + 1, by congr 1; omega, by omega, by rw [HU.out]; exact S6⟩
        case measure => simp [intOf] <;> omega
    · obtain rfl : k = 256 := by omega
      obtain ⟨X, hX⟩ : ∃ X, upH K1 256 F 256 = X := ⟨_, rfl⟩
      have HX := Lib.hid hX
      rw [hX] at hS lX
      clear hX
      have r6 := hS.out.hh.row lX
      have th6 := hS.out.rz.there zero32_len
      have hput := (hS.out.rz.put zero32_len lX).row lX
      have C7 := Lib.hid (hS.out.chg.setCells (b := w.heap.size) (.inr (Nat.le_refl _)) (hc X) 0)
      have N7 := Lib.hid (hS.out.nd.others (k := w.heap.size) (by omega) 0 (hc X))
      have lxx := hc_len X
      clear hS
      go_wp2_with fail
      refine bodyPost_ret (v := .agg (hc X).toArray) (by simp [results, Tryd.results50, go_sem, hput, lX]) rfl ⟨by rw [HL.out, HX.out], C7.out, by rw [HL.out]; exact N7.out⟩
end Go.Proofs.YtjgfjmkfcippcaaDoor
