/-
  A Tx's bytes, of the program.; A batch's bytes, of the program.; The law's copies of Txs.; What is read of bytes that were written, and of a part of them, or of more.
-/
import Derived.Test.YtonjkhhihiigfaaDv10
import Derived.Test.YtonjkhhihiigfaaDv12
import Derived.Test.YtonjkhhihiigfaaDv15
namespace Go.Proofs.Ytonjkhhihiigfaa
set_option maxRecDepth 100000
open Go.RowKit

/-- A Tx's bytes. -/
def txB (t : Tg) : List Int := be8 t.kd ++ (be8 t.fr ++ (be8 t.no ++ (be8 t.to ++ (t.val.bytes ++ (be8 t.gas ++ (be8 t.data.length ++ t.data))))))
theorem txB_len (t : Tg) : (txB t).length = 80 + t.data.length := by simp [txB, be8_len, W4.len]; omega

set_option maxHeartbeats 8000000 in
theorem txBytes_any {w : World} {t : Tg} {q : Option Addr} {k : Nat} (ok : t.ok) (hkd : 0 ≤ t.kd) (hr : Rd w (.slice q t.data.length k) t.data) (hl : t.data.length ≤ 256) :
    Calls Try.prog 41 #[.agg (txRow t q t.data.length k).toArray] w fun e w' => ∃ u, e = .returned u ∧ BuS w w' u (txB t) := by
  have HD4 := Lib.hid ok.val
  have HM : Hid (txB t = be8 t.kd ++ (be8 t.fr ++ (be8 t.no ++ (be8 t.to ++ (t.val.bytes ++ (be8 t.gas ++ (be8 t.data.length ++ t.data))))))) := rfl
  obtain ⟨MB, hMB⟩ : ∃ MB, txB t = MB := ⟨_, rfl⟩
  have hk2 := ok.kd.2
  have u2 : IntKind.u64.wrap t.kd = t.kd := by rw [IntKind.wrap_u64]; omega
  obtain ⟨D, hD⟩ : ∃ D, t.data = D := ⟨_, rfl⟩
  rw [hMB] at HM ⊢
  rw [hD] at hr hl HM ⊢
  obtain ⟨n, hn⟩ : ∃ n, D.length = n := ⟨_, rfl⟩
  have LN := Lib.hid hn
  rw [hn] at hr hl HM ⊢
  have b1 : Below w.heap.size w (w.alloc (.cells (txRow t q n k).toArray 54)) := (Below.refl _ _).alloc (Nat.le_refl _) _
  have K0 := Lib.hid (TxAt.new w 54 t q n k)
  have HRL : Hid (D ≠ [] → ∀ g, (Value.slice q n k).ownBlock = some g → g < w.heap.size) := fun hne g hg => hr.lt hne hg
  have HV : Hid (∀ W, Below w.heap.size w W → Rd W (.slice q n k) D) := fun W hb => hr.on hb
  have B0 := Lib.hid b1
  have hz : Hid ((w.alloc (.cells (txRow t q n k).toArray 54)).heap.size = w.heap.size + 1) := by show _ = _; simp
  clear hr hn hD hMB b1 ok hkd hk2
  go_enter Try.func41, Try.ntmps41
  go_wp2_with fail
  generalize w.alloc (.cells (txRow t q n k).toArray 54) = w0 at *
  refine (NewWriter_any w0).mono ?_
  rintro e w1 ⟨rfl, rfl⟩
  have b2 : Below w0.heap.size w0 (w0.alloc (.cells #[.bool true, .slice none 0 0] 130)) := (Below.refl _ _).alloc (Nat.le_refl _) _
  have b3 : Below (w0.alloc (.cells #[.bool true, .slice none 0 0] 130)).heap.size (w0.alloc (.cells #[.bool true, .slice none 0 0] 130)) ((w0.alloc (.cells #[.bool true, .slice none 0 0] 130)).alloc (.cells #[.int .u64 t.kd, .int .u64 t.fr, .int .u64 t.no, .int .u64 t.to] 47)) := (Below.refl _ _).alloc (Nat.le_refl _) _
  have hz1' : (w0.alloc (.cells #[.bool true, .slice none 0 0] 130)).heap.size = w0.heap.size + 1 := by simp
  have K2 := K0.out.on b2
  obtain ⟨c0, c1, c2, c3, -, -, -, -, -, -⟩ := K2.cells
  have K3 := Lib.hid (K2.on b3)
  have HW := Lib.hid ((WrV.new w0).on b3)
  have HR : Hid (RdN ((w0.alloc (.cells #[.bool true, .slice none 0 0] 130)).alloc (.cells #[.int .u64 t.kd, .int .u64 t.fr, .int .u64 t.no, .int .u64 t.to] 47)) (.slice (some ⟨w0.heap.size + 1, 0, none⟩) 4 4) [t.kd, t.fr, t.no, t.to] (w0.heap.size :: (Value.slice none 0 0).ownBlock.toList)) := by
    refine ⟨_, 4, rfl, .inr ⟨w0.heap.size + 1, 0, rfl, by simp [Value.ownBlock], fun i hi => ?_⟩⟩
    have h3 := heap_alloc_new (w0.alloc (.cells #[.bool true, .slice none 0 0] 130)) (.cells #[.int .u64 t.kd, .int .u64 t.fr, .int .u64 t.no, .int .u64 t.to] 47)
    rw [hz1'] at h3
    have e : i = 0 ∨ i = 1 ∨ i = 2 ∨ i = 3 := by simp at hi; omega
    rcases e with rfl | rfl | rfl | rfl
    · exact (Joins.cell_of_block h3 0).trans rfl
    · exact (Joins.cell_of_block h3 1).trans rfl
    · exact (Joins.cell_of_block h3 2).trans rfl
    · exact (Joins.cell_of_block h3 3).trans rfl
  have b23 := b2.trans (b3.mono b2.size)
  have B3 := Lib.hid (B0.out.trans (b23.mono B0.out.size))
  have hsz : Hid (w.heap.size < w0.heap.size) := by show _ < _; rw [hz.out]; omega
  clear b2 b3 b23 K2 K0 hz1'
  go_wp2_with fail
  clear c0 c1 c2 c3
  refine (WUint_fits HW.out HR.out (by simp)).mono ?_
  rintro e w4 ⟨rfl, hS⟩
  obtain ⟨q4, k4, hW4, hC4, hF4⟩ := hS.own
  obtain ⟨XS, hXS⟩ : ∃ XS, ([] ++ nums [t.kd, t.fr, t.no, t.to]) = XS := ⟨_, rfl⟩
  rw [hXS] at hW4 hF4
  have lXS : Hid (XS.length = 32) := by show _ = _; rw [← hXS]; simp [nums]
  have HXS : Hid (XS = be8 t.kd ++ (be8 t.fr ++ (be8 t.no ++ be8 t.to))) := by show _ = _; rw [← hXS]; simp [nums]
  have HW4 := Lib.hid hW4
  have B4 := Lib.hid (B3.out.trans (hC4.toBelow B3.out.size (fun g hg => by simp [Value.ownBlock] at hg; have := hsz.out; omega)))
  have K4 := Lib.hid (K3.out.chg hC4 (by have := hsz.out; simp [Value.ownBlock]; omega))
  have F4 : Hid (∀ g, (Value.slice q4 XS.length k4).ownBlock = some g → w0.heap.size ≤ g) := fun g hg => by
    rcases hF4 with e | e
    · rw [e] at hg; simp [Value.ownBlock] at hg
    · have := e g hg; simp at this; omega
  clear hC4 hF4 hW4 hS hXS HR HW B3 K3
  obtain ⟨-, -, -, -, c4, c5, c6, c7, -, -⟩ := K4.out.cells
  have hsl := Try.run_slice_wide w4 t.val.a t.val.b t.val.c t.val.d
  have b5 : Below w4.heap.size w4 (w4.alloc (.cells #[.int .u64 t.val.a, .int .u64 t.val.b, .int .u64 t.val.c, .int .u64 t.val.d] 49)) := (Below.refl _ _).alloc (Nat.le_refl _) _
  have hpw4 := HW4.out.lt
  have HW5 := Lib.hid (HW4.out.on b5)
  have K5 := Lib.hid (K4.out.on b5)
  have B5 := Lib.hid (B4.out.trans (b5.mono B4.out.size))
  have HR5 : Hid (RdW (w4.alloc (.cells #[.int .u64 t.val.a, .int .u64 t.val.b, .int .u64 t.val.c, .int .u64 t.val.d] 49)) (.slice (some ⟨w4.heap.size, 0, none⟩) 1 1) [t.val] (w0.heap.size :: (Value.slice q4 XS.length k4).ownBlock.toList)) := by
    refine ⟨_, 1, rfl, .inr ⟨w4.heap.size, 0, rfl, fun hm => ?_, fun i hi => ?_⟩⟩
    · rcases List.mem_cons.1 hm with e | hm
      · omega
      · have := own_lt HW4.out.own (by simpa using hm); omega
    · obtain rfl : i = 0 := by simpa using hi
      have h3 := heap_alloc_new w4 (.cells #[.int .u64 t.val.a, .int .u64 t.val.b, .int .u64 t.val.c, .int .u64 t.val.d] 49)
      exact ⟨HD4.out, (Joins.cell_of_block h3 0).trans rfl, (Joins.cell_of_block h3 1).trans rfl, (Joins.cell_of_block h3 2).trans rfl, (Joins.cell_of_block h3 3).trans rfl⟩
  clear b5 B4 K4 HW4
  go_wp2_with fail
  clear c4 c5 c6 c7 hsl
  have l24 := lXS.out
  refine (WWide_fits HW5.out HR5.out (by rw [l24]; simp)).mono ?_
  rintro e w6 ⟨rfl, hS⟩
  obtain ⟨q6, k6, hW6, hC6, hF6⟩ := hS.own
  obtain ⟨XT, hXT⟩ : ∃ XT, XS ++ wides [t.val] = XT := ⟨_, rfl⟩
  rw [hXT] at hW6 hF6
  have lXT : Hid (XT.length = 64) := by show _ = _; rw [← hXT]; simp [wides, W4.len, l24]
  have HXT : Hid (XT = XS ++ t.val.bytes) := by show _ = _; rw [← hXT]; simp [wides]
  have HW6 := Lib.hid hW6
  have hs5 : (w4.alloc (.cells #[.int .u64 t.val.a, .int .u64 t.val.b, .int .u64 t.val.c, .int .u64 t.val.d] 49)).heap.size = w4.heap.size + 1 := by simp
  have NK : ∀ g, g ∈ w0.heap.size :: (Value.slice q4 XS.length k4).ownBlock.toList → w0.heap.size ≤ g := fun g hg => by
    rcases List.mem_cons.1 hg with e | hg
    · omega
    · exact F4.out g (by simpa using hg)
  have B6 := Lib.hid (B5.out.trans (hC6.toBelow B5.out.size (fun g hg => by have := NK g hg; have := hsz.out; omega)))
  have K6 := Lib.hid (K5.out.chg hC6 (fun hm => by have := NK _ hm; have := hsz.out; omega))
  have F6 : Hid (∀ g, (Value.slice q6 XT.length k6).ownBlock = some g → w0.heap.size ≤ g) := fun g hg => by
    rcases hF6 with e | e
    · rw [e] at hg; exact F4.out g hg
    · have := e g hg; rw [hs5] at this; omega
  clear hC6 hF6 hW6 hS hXT HR5 HW5 B5 K5 NK hs5 l24
  obtain ⟨-, -, -, -, -, -, -, -, c8, -⟩ := K6.out.cells
  have b7 : Below w6.heap.size w6 (w6.alloc (.cells #[.int .u64 t.gas] 47)) := (Below.refl _ _).alloc (Nat.le_refl _) _
  have hpw6 := HW6.out.lt
  have HW7 := Lib.hid (HW6.out.on b7)
  have K7 := Lib.hid (K6.out.on b7)
  have B7 := Lib.hid (B6.out.trans (b7.mono B6.out.size))
  have HR7 : Hid (RdN (w6.alloc (.cells #[.int .u64 t.gas] 47)) (.slice (some ⟨w6.heap.size, 0, none⟩) 1 1) [t.gas] (w0.heap.size :: (Value.slice q6 XT.length k6).ownBlock.toList)) := by
    refine ⟨_, 1, rfl, .inr ⟨w6.heap.size, 0, rfl, fun hm => ?_, fun i hi => ?_⟩⟩
    · rcases List.mem_cons.1 hm with e | hm
      · omega
      · have := own_lt HW6.out.own (by simpa using hm); omega
    · have h3 := heap_alloc_new w6 (.cells #[.int .u64 t.gas] 47)
      obtain rfl : i = 0 := by simpa using hi
      exact (Joins.cell_of_block h3 0).trans rfl
  clear b7 B6 K6 HW6
  go_wp2_with fail
  clear c8
  have l56 := lXT.out
  refine (WUint_fits HW7.out HR7.out (by rw [l56]; simp)).mono ?_
  rintro e w8 ⟨rfl, hS⟩
  obtain ⟨q8, k8, hW8, hC8, hF8⟩ := hS.own
  obtain ⟨XU, hXU⟩ : ∃ XU, XT ++ nums [t.gas] = XU := ⟨_, rfl⟩
  rw [hXU] at hW8 hF8
  have lXU : Hid (XU.length = 72) := by show _ = _; rw [← hXU]; simp [nums, l56]
  have HXU : Hid (XU = XT ++ be8 t.gas) := by show _ = _; rw [← hXU]; simp [nums]
  have HW8 := Lib.hid hW8
  have hs7 : (w6.alloc (.cells #[.int .u64 t.gas] 47)).heap.size = w6.heap.size + 1 := by simp
  have NK : ∀ g, g ∈ w0.heap.size :: (Value.slice q6 XT.length k6).ownBlock.toList → w0.heap.size ≤ g := fun g hg => by
    rcases List.mem_cons.1 hg with e | hg
    · omega
    · exact F6.out g (by simpa using hg)
  have B8 := Lib.hid (B7.out.trans (hC8.toBelow B7.out.size (fun g hg => by have := NK g hg; have := hsz.out; omega)))
  have K8 := Lib.hid (K7.out.chg hC8 (fun hm => by have := NK _ hm; have := hsz.out; omega))
  have F8 : Hid (∀ g, (Value.slice q8 XU.length k8).ownBlock = some g → w0.heap.size ≤ g) := fun g hg => by
    rcases hF8 with e | e
    · rw [e] at hg; exact F6.out g hg
    · have := e g hg; rw [hs7] at this; omega
  clear hC8 hF8 hW8 hS hXU HR7 HW7 B7 K7 NK hs7 l56
  obtain ⟨-, -, -, -, -, -, -, -, -, c9⟩ := K8.out.cells
  have b9 : Below w8.heap.size w8 (w8.alloc (.cells #[.slice q n k] 50)) := (Below.refl _ _).alloc (Nat.le_refl _) _
  have hpw8 := HW8.out.lt
  have HW9 := Lib.hid (HW8.out.on b9)
  have B9 := Lib.hid (B8.out.trans (b9.mono B8.out.size))
  have HR9 : Hid (RdL (w8.alloc (.cells #[.slice q n k] 50)) (.slice (some ⟨w8.heap.size, 0, none⟩) 1 1) [D] (w0.heap.size :: (Value.slice q8 XU.length k8).ownBlock.toList)) := by
    refine ⟨_, 1, rfl, .inr ⟨w8.heap.size, 0, rfl, fun hm => ?_, fun i hi => ?_⟩⟩
    · rcases List.mem_cons.1 hm with e | hm
      · omega
      · have := own_lt HW8.out.own (by simpa using hm); omega
    · obtain rfl : i = 0 := by simpa using hi
      have h3 := heap_alloc_new w8 (.cells #[.slice q n k] 50)
      refine ⟨.slice q n k, (Joins.cell_of_block h3 0).trans rfl, HV.out _ B9.out, fun hne g hg hm => ?_⟩
      have h1 := HRL.out hne g hg
      have h2 := hsz.out
      rcases List.mem_cons.1 hm with e | hm
      · omega
      · have := F8.out g (by simpa using hm); omega
  clear b9 B8 K8 HW8
  go_wp2_with fail
  clear c9
  have l72 := lXU.out
  refine (WBlob_fits HW9.out HR9.out (by rw [l72]; simp [blobs, be8_len, LN.out]; omega)).mono ?_
  rintro e w10 ⟨rfl, hS⟩
  obtain ⟨q10, k10, hW10, hC10, hF10⟩ := hS.own
  obtain ⟨XV, hXV⟩ : ∃ XV, XU ++ blobs [D] = XV := ⟨_, rfl⟩
  rw [hXV] at hW10 hF10
  have HXV : Hid (XV = MB) := by
    show _ = _
    rw [← hXV, HM.out, HXU.out, HXT.out, HXS.out]; simp [blobs, LN.out]
  have lXV : Hid (XV.length ≤ 65536) := by
    have h1 := l72
    have h2 := LN.out
    show _ ≤ _
    rw [← hXV]; simp [blobs, be8_len, h1, h2]; omega
  have HW10 := Lib.hid hW10
  have NK : ∀ g, g ∈ w0.heap.size :: (Value.slice q8 XU.length k8).ownBlock.toList → w0.heap.size ≤ g := fun g hg => by
    rcases List.mem_cons.1 hg with e | hg
    · omega
    · exact F8.out g (by simpa using hg)
  have B10 := Lib.hid (B9.out.trans (hC10.toBelow B9.out.size (fun g hg => by have := NK g hg; have := hsz.out; omega)))
  clear hC10 hF10 hW10 hS hXV HR9 HW9 B9 NK l72 HXS HXT HXU F4 F6 F8 lXS lXT lXU
  go_wp2_with fail
  refine (WBytes_any HW10.out lXV.out).mono ?_
  rintro e w11 ⟨u, rfl, hN⟩
  obtain ⟨-, ho11, hb11, hf11⟩ := hN
  have SF : Hid (BuS w w11 u MB) := by
    refine ⟨?_, fun g hg => ?_, B10.out.trans (hb11.mono B10.out.size)⟩
    · rw [← HXV.out]; exact ho11
    · have := hf11 g hg; have := B10.out.size; omega
  clear ho11 hb11 hf11
  go_wp2_with fail
  go_ret
  exact ⟨_, rfl, SF.out⟩
end Go.Proofs.Ytonjkhhihiigfaa
namespace Go.Proofs.Ytonjkhhihiigfaa
set_option maxRecDepth 100000
open Go.RowKit

set_option maxHeartbeats 2000000 in
theorem number_any {n : Int} (w : World) :
    Calls Try.prog 40 #[.int .u64 n] w fun e w' => ∃ u, e = .returned u ∧ NewRow w (be8 n) u w' := by
  have b1 : Below w.heap.size w (w.alloc (.cells #[.bool true, .slice none 0 0] 130)) := (Below.refl _ _).alloc (Nat.le_refl _) _
  have b2 : Below (w.alloc (.cells #[.bool true, .slice none 0 0] 130)).heap.size (w.alloc (.cells #[.bool true, .slice none 0 0] 130)) ((w.alloc (.cells #[.bool true, .slice none 0 0] 130)).alloc (.cells #[.int .u64 n] 47)) := (Below.refl _ _).alloc (Nat.le_refl _) _
  have HW := Lib.hid ((WrV.new w).on b2)
  have hz : (w.alloc (.cells #[.bool true, .slice none 0 0] 130)).heap.size = w.heap.size + 1 := by simp
  have HR : Hid (RdN ((w.alloc (.cells #[.bool true, .slice none 0 0] 130)).alloc (.cells #[.int .u64 n] 47)) (.slice (some ⟨w.heap.size + 1, 0, none⟩) 1 1) [n] (w.heap.size :: (Value.slice none 0 0).ownBlock.toList)) := by
    refine ⟨_, 1, rfl, .inr ⟨w.heap.size + 1, 0, rfl, by simp [Value.ownBlock], fun i hi => ?_⟩⟩
    obtain rfl : i = 0 := (by simpa using hi)
    have := heap_alloc_new (w.alloc (.cells #[.bool true, .slice none 0 0] 130)) (.cells #[.int .u64 n] 47)
    rw [hz] at this
    exact (Joins.cell_of_block this 0).trans rfl
  have B2 := Lib.hid (b1.trans (b2.mono b1.size))
  clear b1 b2 hz
  go_enter Try.func40, Try.ntmps40
  go_wp2_with fail
  refine (NewWriter_any w).mono ?_
  rintro e w1 ⟨rfl, rfl⟩
  go_wp2_with fail
  refine (WUint_fits HW.out HR.out (by simp)).mono ?_
  rintro e w2 ⟨rfl, hS⟩
  obtain ⟨q, c, hW2, hC, hF⟩ := hS.own
  have hx : ([] ++ nums [n]) = be8 n := by simp [nums]
  simp only [hx] at hW2 hF
  have HW2 := Lib.hid hW2
  have B3 := Lib.hid (B2.out.trans (hC.toBelow B2.out.size (fun k hk => by simp [Value.ownBlock] at hk; omega)))
  clear hS hW2 hC hF hx HW HR
  go_wp2_with fail
  refine (WBytes_any HW2.out (by rw [be8_len]; omega)).mono ?_
  rintro e w3 ⟨u, rfl, hN⟩
  have HN : Hid (NewRow w (be8 n) u w3) := ⟨hN.1, hN.2.1, B3.out.trans (hN.2.2.1.mono B3.out.size), fun k hk => Nat.le_trans B3.out.size (hN.2.2.2 k hk)⟩
  clear hN
  go_wp2_with fail
  go_ret
  exact ⟨u, rfl, HN.out⟩

theorem NewRow.bus {w w' : World} {xs : List Int} {v : Value} (h : NewRow w xs v w') : BuS w w' v xs := ⟨h.2.1, h.2.2.2, h.2.2.1⟩
/-- A batch's bytes, its first i Txs. -/
def baB (ep : Int) (L : List Tg) (i : Nat) : List Int := be8 ep ++ (be8 L.length ++ ((L.take i).map txB).flatten)
theorem baB_succ {ep : Int} {L : List Tg} {i : Nat} (hi : i < L.length) : baB ep L (i + 1) = baB ep L i ++ txB (L.getD i tg0) := by
  have e : L.take (i + 1) = L.take i ++ [L.getD i tg0] := by
    rw [List.take_add_one]
    simp [List.getD, hi]
  unfold baB
  rw [e, List.map_append, List.flatten_append]
  simp
theorem okL_get {L : List Tg} (h : okL L = true) {i : Nat} (hi : i < L.length) : okT (L.getD i tg0) (L.getD i tg0).data.length = true := by
  have e : L.getD i tg0 = L[i] := by simp [List.getD, hi]
  rw [e]
  exact List.all_eq_true.1 h _ (List.getElem_mem hi)
theorem okT_kd {t : Tg} {n : Nat} (h : okT t n = true) : 0 ≤ t.kd ∧ n ≤ 256 := by
  unfold okT at h
  simp only [Bool.and_eq_true, decide_eq_true_eq] at h
  obtain ⟨⟨_, h2⟩, h3⟩ := h
  refine ⟨?_, by omega⟩
  unfold okK at h3
  split at h3
  · omega
  · split at h3
    · omega
    · split at h3
      · omega
      · simp at h3
theorem baB_len {ep : Int} {L : List Tg} (h : okL L = true) : ∀ i, i ≤ L.length → (baB ep L i).length ≤ 16 + i * 336
  | 0, _ => by simp [baB, be8_len]
  | i + 1, hi => by
    have h1 := baB_len (ep := ep) h i (by omega)
    have h2 := (okT_kd (okL_get h (i := i) (by omega))).2
    rw [baB_succ (by omega), List.length_append, txB_len]
    omega
theorem RdC.nil (w : World) : RdC w (.slice none 0 0) [] := ⟨none, 0, rfl, by simp, .inl rfl⟩
theorem rdC_of {w W : World} {v : Value} {xs : List Int} (h : BuS w W v xs) : RdC W v xs := by
  obtain ⟨q, c, rfl, hx⟩ := h.rd
  refine ⟨q, c, rfl, ?_, hx⟩
  rcases h.own.2 with ⟨_, h0⟩ | ⟨g, cap, cur, h1, _, hg, hnc, hcm, hcs, htake⟩
  · omega
  · simp only [Value.slice.injEq, true_and] at h1
    omega
def pBB (ep : Int) (L : List Tg) : List Int := if okB L = true then baB ep L L.length else []
def pBE (L : List Tg) : Int := if okB L = true then 0 else 1

set_option maxHeartbeats 8000000 in
theorem PutBatch_any {w : World} {ep : Int} {q : Option Addr} {c : Nat} {L : List Tg} (hr : RdTx w q L) (ok : TgsOk L) (hn : L.length ≤ 140737488355328) :
    Calls Try.prog 25 #[.agg #[.int .u64 ep, .slice q L.length c]] w fun e w' => ∃ q' k', e = .returned (.tuple #[.slice q' (pBB ep L).length k', .int .i64 (pBE L)]) ∧ RdC w' (.slice q' (pBB ep L).length k') (pBB ep L) ∧ Below w.heap.size w w' := by
  obtain ⟨i0, hi, hz0, hz1, hz2⟩ := info_parts Try.infoU8
  replace hi := Lib.hid hi
  replace hz0 := Lib.hid hz0
  replace hz1 := Lib.hid hz1
  replace hz2 := Lib.hid hz2
  have HR : Hid (∀ W, Below w.heap.size w W → RdTx W q L) := fun W hb => hr.on hb
  have OK := Lib.hid ok
  have KR := Lib.hid (fun (W : World) (h : RdTx W q L) => rightBatch_any (ep := ep) (c := c) h ok hn)
  have YES : Hid (okB L = true → pBB ep L = baB ep L L.length ∧ pBE L = 0 ∧ L.length ≤ 8 ∧ okL L = true) := fun h => by
    have h' := h
    unfold okB at h'
    simp only [Bool.and_eq_true, decide_eq_true_eq] at h'
    exact ⟨if_pos h, if_pos h, h'.1, h'.2⟩
  have NO : Hid (okB L = false → pBB ep L = [] ∧ pBE L = 1) := fun h => by unfold pBB pBE; rw [h]; exact ⟨rfl, rfl⟩
  have HB0 : Hid (baB ep L 0 = be8 ep ++ be8 L.length) := by show _ = _; simp [baB]
  obtain ⟨res, hres⟩ : ∃ res, okB L = res := ⟨_, rfl⟩
  rw [hres] at KR YES NO
  obtain ⟨n, hnn⟩ : ∃ n, L.length = n := ⟨_, rfl⟩
  have LN := Lib.hid hnn
  rw [hnn] at KR YES HB0 hn ⊢
  have b0 : Below w.heap.size w (w.alloc (.cells #[.int .u64 ep, .slice q n c] 78)) := (Below.refl _ _).alloc (Nat.le_refl _) _
  have B0 := Lib.hid b0
  have K0 : Hid ((w.alloc (.cells #[.int .u64 ep, .slice q n c] 78)).heap[w.heap.size]? = some (.cells #[.int .u64 ep, .slice q n c] 78 (0, 0))) := heap_alloc_new w (.cells #[.int .u64 ep, .slice q n c] 78)
  have c0 : (w.alloc (.cells #[.int .u64 ep, .slice q n c] 78)).cell? ⟨w.heap.size, 0, none⟩ = some (.int .u64 ep) := (Joins.cell_of_block K0.out 0).trans rfl
  have c1 : (w.alloc (.cells #[.int .u64 ep, .slice q n c] 78)).cell? ⟨w.heap.size, 1, none⟩ = some (.slice q n c) := (Joins.cell_of_block K0.out 1).trans rfl
  clear hr ok hres b0 hnn
  go_enter Try.func25, Try.ntmps25
  go_wp2_with fail
  clear c0 c1
  generalize w.alloc (.cells #[.int .u64 ep, .slice q n c] 78) = w0 at *
  refine (KR.out _ (HR.out _ B0.out)).mono ?_
  rintro e w1 ⟨rfl, hb1⟩
  have K1 : Hid (w1.heap[w.heap.size]? = some (.cells #[.int .u64 ep, .slice q n c] 78 (0, 0))) := by show _ = _; rw [hb1.block _ (Array.getElem?_eq_some_iff.1 K0.out).1]; exact K0.out
  have B1 := Lib.hid (B0.out.trans (hb1.mono B0.out.size))
  clear hb1 K0 B0 KR
  cases res with
  | false =>
    have E := Lib.hid (NO.out rfl)
    clear NO YES
    go_wp2_with fail
    go_ret2
    exact ⟨none, 0, by rw [E.out.1, E.out.2]; rfl, by rw [E.out.1]; exact RdC.nil w1, B1.out⟩
  | true =>
  have E := Lib.hid (YES.out rfl)
  have hn8 := E.out.2.2.1
  have OL := Lib.hid E.out.2.2.2
  have u2 : IntKind.u64.wrap (n : Int) = (n : Int) := by rw [IntKind.wrap_u64]; omega
  clear NO YES
  go_wp2_with fail
  refine wp_region_held_drew (S := fun W => W.heap[w.heap.size]? = some (.cells #[.int .u64 ep, .slice q n c] 78 (0, 0))) (by kernel_rfl) (show w1.drew.heap[w.heap.size]? = _ from K1.out) (fun h0 => ?_)
  have B2 : Hid (Below w.heap.size w w1.drew) := Lib.hid B1.out.drew
  clear K1 B1
  generalize w1.drew = w2 at *
  refine wpAnyH_take (i := 0) (v := ?_) (by rw [List.getElem?_toArray]; rfl) (by kernel_rfl) (by kernel_rfl) (by kernel_rfl) (by exact fun _ _ _ h => h) (Or.inl ⟨by rfl, ?_⟩) h0 ?_
  rotate_left
  · intro W hW
    have c0 := (Joins.cell_of_block hW 0).trans (rfl : _ = some _)
    have c1 := (Joins.cell_of_block hW 1).trans (rfl : _ = some _)
    go_simp
    all_goals with_reducible rfl
  try simp only [Act.put, List.setIfInBounds_toArray, List.set_cons_zero, List.set_cons_succ]
  refine wpAnyH_take (i := 1) (v := ?_) (by rw [List.getElem?_toArray]; rfl) (by kernel_rfl) (by kernel_rfl) (by kernel_rfl) (by exact fun _ _ _ h => h) (Or.inl ⟨by rfl, ?_⟩) h0 ?_
  rotate_left
  · intro W hW
    have c0 := (Joins.cell_of_block hW 0).trans (rfl : _ = some _)
    have c1 := (Joins.cell_of_block hW 1).trans (rfl : _ = some _)
    go_simp
    all_goals with_reducible rfl
  try simp only [Act.put, List.setIfInBounds_toArray, List.set_cons_zero, List.set_cons_succ]
  refine wpAnyH_take (i := 3) (v := ?_) (by rw [List.getElem?_toArray]; rfl) (by kernel_rfl) (by kernel_rfl) (by kernel_rfl) (by exact fun _ _ _ h => h) (Or.inl ⟨by rfl, ?_⟩) h0 ?_
  rotate_left
  · intro W hW
    have c0 := (Joins.cell_of_block hW 0).trans (rfl : _ = some _)
    have c1 := (Joins.cell_of_block hW 1).trans (rfl : _ = some _)
    go_simp
    all_goals with_reducible rfl
  try simp only [Act.put, List.setIfInBounds_toArray, List.set_cons_zero, List.set_cons_succ]
  refine wpAnyH_take (i := 4) (v := ?_) (by rw [List.getElem?_toArray]; rfl) (by kernel_rfl) (by kernel_rfl) (by kernel_rfl) (by exact fun _ _ _ h => h) (Or.inl ⟨by rfl, ?_⟩) h0 ?_
  rotate_left
  · intro W hW
    have c0 := (Joins.cell_of_block hW 0).trans (rfl : _ = some _)
    have c1 := (Joins.cell_of_block hW 1).trans (rfl : _ = some _)
    go_simp
    all_goals with_reducible rfl
  try simp only [Act.put, List.setIfInBounds_toArray, List.set_cons_zero, List.set_cons_succ]
  refine wpAnyH_take (i := 5) (v := ?_) (by rw [List.getElem?_toArray]; rfl) (by kernel_rfl) (by kernel_rfl) (by kernel_rfl) (by exact fun _ _ _ h => h) (Or.inl ⟨by rfl, ?_⟩) h0 ?_
  rotate_left
  · intro W hW
    have c0 := (Joins.cell_of_block hW 0).trans (rfl : _ = some _)
    have c1 := (Joins.cell_of_block hW 1).trans (rfl : _ = some _)
    go_simp
    all_goals with_reducible rfl
  try simp only [Act.put, List.setIfInBounds_toArray, List.set_cons_zero, List.set_cons_succ]
  refine wpAnyH_take (i := 6) (v := ?_) (by rw [List.getElem?_toArray]; rfl) (by kernel_rfl) (by kernel_rfl) (by kernel_rfl) (by exact fun _ _ _ h => h) (Or.inl ⟨by rfl, ?_⟩) h0 ?_
  rotate_left
  · intro W hW
    have c0 := (Joins.cell_of_block hW 0).trans (rfl : _ = some _)
    have c1 := (Joins.cell_of_block hW 1).trans (rfl : _ = some _)
    go_simp
    all_goals with_reducible rfl
  try simp only [Act.put, List.setIfInBounds_toArray, List.set_cons_zero, List.set_cons_succ]
  refine wpAnyH_ready (rs := [2]) (by kernel_rfl) (by simp) ?_
  refine AllReadyH.cons (by rw [List.getElem?_toArray]; rfl) (fun K hK => ?_) AllReadyH.nil
  rw [if_pos (by rfl)]
  go_wp2_with fail
  refine (number_any (n := ep) w2).mono ?_
  rintro e w3 ⟨u3, rfl, hN⟩
  have hs := hN.bus
  obtain ⟨a3, o3, rfl⟩ := hs.len
  have M3 : w3.heap[w.heap.size]? = some (.cells #[.int .u64 ep, .slice q n c] 78 (0, 0)) := by rw [hs.below.block _ (Array.getElem?_eq_some_iff.1 h0).1]; exact h0
  have S3 := Lib.hid (hs.base B2.out)
  rw [be8_len]
  clear hN hs
  go_wp2_with fail
  refine hK.out _ _ (M3) (fun h3 => ?_)
  clear M3
  clear hK K
  try simp only [Act.put, List.setIfInBounds_toArray, List.set_cons_zero, List.set_cons_succ]
  refine wpAnyH_ready (rs := [7]) (by kernel_rfl) (by simp) ?_
  refine AllReadyH.cons (by rw [List.getElem?_toArray]; rfl) (fun K hK => ?_) AllReadyH.nil
  rw [if_pos (by rfl)]
  go_wp2_with fail
  refine (number_any (n := (n : Int)) w3).mono ?_
  rintro e w4 ⟨u4, rfl, hN⟩
  have hs := hN.bus
  obtain ⟨a4, o4, rfl⟩ := hs.len
  have M4 : w4.heap[w.heap.size]? = some (.cells #[.int .u64 ep, .slice q n c] 78 (0, 0)) := by rw [hs.below.block _ (Array.getElem?_eq_some_iff.1 h3).1]; exact h3
  have S4 := Lib.hid (S3.out.on hs.below)
  have R4 := Lib.hid hs.rd
  rw [be8_len] at R4 ⊢
  have L4 : Hid ((be8 (n : Int)).length = 8) := be8_len _
  have L3 : Hid ((be8 ep).length = 8) := be8_len _
  clear hN hs S3
  go_wp2_with fail
  refine hK.out _ _ (M4) (fun h4 => ?_)
  clear M4
  clear hK K
  try simp only [Act.put, List.setIfInBounds_toArray, List.set_cons_zero, List.set_cons_succ]
  refine wpAnyH_ready (rs := [8]) (by kernel_rfl) (by simp) ?_
  refine AllReadyH.cons (by rw [List.getElem?_toArray]; rfl) (fun K hK => ?_) AllReadyH.nil
  rw [if_pos (by rfl)]
  refine wp_append_row _ _ rfl Try.underlying50 hi.out hz0.out hz1.out hz2.out rfl (by have := S4.out.own; rw [L3.out] at this; exact this) (by have := R4.out.src (P := Try.prog) Try.underlying50; rw [L4.out] at this; exact this) (by unfold maxLen; omega) (by omega) ?_
  intro a7 o7 w7 own7 grow7 fr7
  have M7 : w7.heap[w.heap.size]? = some (.cells #[.int .u64 ep, .slice q n c] 78 (0, 0)) := by
    have gr : w4.grownBy w7 (Value.slice a3 8 o3).ownBlock := grow7
    rw [gr.block _ (Array.getElem?_eq_some_iff.1 h4).1 (fun e => own_ne S4.out.own h4 (by decide) (by
      have e2 : (Value.slice a3 (be8 ep).length o3).ownBlock = (Value.slice a3 8 o3).ownBlock := by rw [L3.out]
      rw [e2]; exact e.symm))]
    exact h4
  have S6 : Hid (BuS w w7 (.slice a7 (8 + 8) o7) (be8 ep ++ be8 (n : Int))) := (show BuS w w4 (.slice a3 8 o3) (be8 ep) by have := S4.out; rw [L3.out] at this; exact this).app L3.out L4.out own7 grow7 fr7
  clear own7 grow7 fr7 S4 R4 L3 L4
  refine hK.out _ _ (M7) (fun h7 => ?_)
  clear M7
  clear hK K
  try simp only [Act.put, List.setIfInBounds_toArray, List.set_cons_zero, List.set_cons_succ]
  refine wpAnyH_take (i := 9) (v := ?_) (by rw [List.getElem?_toArray]; rfl) (by kernel_rfl) (by kernel_rfl) (by kernel_rfl) (by exact fun _ _ _ h => h) (Or.inl ⟨by rfl, ?_⟩) h7 ?_
  rotate_left
  · intro W hW
    have c0 := (Joins.cell_of_block hW 0).trans (rfl : _ = some _)
    have c1 := (Joins.cell_of_block hW 1).trans (rfl : _ = some _)
    go_simp
    all_goals with_reducible rfl
  try simp only [Act.put, List.setIfInBounds_toArray, List.set_cons_zero, List.set_cons_succ]
  refine wpAnyH_done (by kernel_rfl) ?_ _
  have S7 : Hid (BuS w w7 (.slice a7 (baB ep L 0).length o7) (baB ep L 0)) := by
    have e1 : (baB ep L 0).length = 8 + 8 := by rw [HB0.out, List.length_append, be8_len, be8_len]
    rw [e1, HB0.out]
    exact S6.out
  have ea : (8 + 8 : Nat) = (baB ep L 0).length := by rw [HB0.out, List.length_append, be8_len, be8_len]
  have c1 : w7.cell? ⟨w.heap.size, 1, none⟩ = some (.slice q n c) := (Joins.cell_of_block h7 1).trans rfl
  have K7 := Lib.hid h7
  try simp only [ea]
  clear S6 h0 h7 ea
  go_wp2_with fail
  clear c1
  go_loopw [4, 22] (fun bv iv wr => ∃ (i : Nat) (qa : Option Addr) (ca : Nat), iv = .int .i64 (i : Int) ∧ i ≤ n ∧ bv = .slice qa (baB ep L i).length ca ∧ Hid (BuS w wr (.slice qa (baB ep L i).length ca) (baB ep L i))) (fun _ iv _ => n - (intOf iv).toNat)
  case atStart => exact ⟨0, a7, o7, rfl, by omega, rfl, S7⟩
  case round =>
    clear S7 K7
    obtain ⟨i, qa, ca, rfl, hil, rfl, hS⟩ := hrel
    by_cases hlt : i < n
    · have hlt' : Hid (i < L.length) := by have := LN.out; show _ < _; omega
      have hne : L ≠ [] := fun e => by have := hlt'.out; rw [e] at this; simp at this
      obtain ⟨b, off, rfl, hx2⟩ := (HR.out _ hS.out.below).resolve_left hne
      obtain ⟨qi, ki, r10, rh⟩ := hx2 i hlt'.out
      have oks := OK.out.get hlt'.out
      obtain ⟨hkd, h256⟩ := okT_kd (okL_get OL.out hlt'.out)
      have HSU := Lib.hid (baB_succ (ep := ep) hlt'.out)
      have HL1 := Lib.hid (baB_len (ep := ep) OL.out i (by have := hlt'.out; omega))
      have HL2 := Lib.hid (baB_len (ep := ep) OL.out (i + 1) (by have := hlt'.out; omega))
      obtain ⟨t, htx⟩ : ∃ t, L.getD i tg0 = t := ⟨_, rfl⟩
      rw [htx] at r10 rh oks HSU hkd h256
      obtain ⟨BA, hBA⟩ : ∃ BA, baB ep L i = BA := ⟨_, rfl⟩
      obtain ⟨BN, hBN⟩ : ∃ BN, baB ep L (i + 1) = BN := ⟨_, rfl⟩
      have HBN := Lib.hid hBN
      rw [hBA] at hS HSU HL1 ⊢
      rw [hBN] at HSU HL2
      have hlen := txRow_len t qi t.data.length ki
      have bA : Below wr.heap.size wr (wr.alloc (.cells (txRow tg0 none 0 0).toArray 54)) := (Below.refl _ _).alloc (Nat.le_refl _) _
      have KA := TxAt.new wr 54 tg0 none 0 0
      have th := KA.there
      have cs : Below wr.heap.size wr ((wr.alloc (.cells (txRow tg0 none 0 0).toArray 54)).setCells wr.heap.size 0 (txRow t qi t.data.length ki)) := below_setCells' _ (Nat.le_refl _) _ _ bA
      have K1 := (KA.put t qi t.data.length ki)
      have hrow := K1.row
      have R1 := Lib.hid (rh.on cs)
      have S1 := Lib.hid (hS.out.on cs)
      have OT := Lib.hid oks
      have HK := Lib.hid hkd
      have H256 := Lib.hid h256
      have szz : ((wr.alloc (.cells (txRow tg0 none 0 0).toArray 54)).setCells wr.heap.size 0 (txRow t qi t.data.length ki)).heap.size = wr.heap.size + 1 := by rw [size_setCells]; simp
      clear hx2 hne rh oks htx hS bA KA cs K1 hBA hBN hkd h256
      go_wp2_with fail
      clear r10 th szz hrow
      refine (txBytes_any OT.out.1 HK.out R1.out H256.out).mono ?_
      rintro e w5 ⟨u, rfl, hb⟩
      have S5 := Lib.hid (S1.out.on hb.below)
      obtain ⟨q5, k5, rfl⟩ := hb.len
      have RD := Lib.hid hb.rd
      have hl1 : BA.length ≤ 16 + 8 * 336 := by have := HL1.out; omega
      have hl2 : (txB t).length ≤ 336 := by rw [txB_len]; have := H256.out; omega
      clear hb S1 R1
      obtain ⟨TB, hTB⟩ : ∃ TB, txB t = TB := ⟨_, rfl⟩
      rw [hTB] at RD HSU hl2 ⊢
      clear hTB
      go_wp2_with (at_builtin; refine wpList_append_row rfl _ _ rfl Try.underlying50 hi.out hz0.out hz1.out hz2.out rfl S5.out.own (RD.out.src (P := Try.prog) Try.underlying50) ?b1 ?b2 ?_)
      case b1 => unfold maxLen; omega
      case b2 => omega
      intro q6 k6 w6 own6 grow6 fr6
      have S6' : BuS w w6 (.slice q6 (BA.length + TB.length) k6) (BA ++ TB) := S5.out.app rfl rfl own6 grow6 fr6
      have eL : BA.length + TB.length = BN.length := by rw [HSU.out, List.length_append]
      have S6 : Hid (BuS w w6 (.slice q6 BN.length k6) BN) := by
        rw [← eL, HSU.out]; exact S6'
      rw [eL]
      clear own6 grow6 fr6 S6' eL S5 RD HSU hl1 hl2
      go_wp2_with fail
      go_roundw
      case rel => exact ⟨i + 1, q6, k6, by go_num, by omega, by rw [HBN.out], by rw [HBN.out]; exact S6⟩
      case measure => simp [intOf]; omega
    · obtain rfl : i = n := by omega
      have EE : Hid (pBB ep L = baB ep L i) := E.out.1
      have RDD := Lib.hid (rdC_of hS.out)
      have BEE := Lib.hid hS.out.below
      clear hS
      go_wp2_with fail
      go_ret2
      exact ⟨qa, ca, by rw [EE.out, E.out.2.1]; rfl, by rw [EE.out]; exact RDD.out, BEE.out⟩
end Go.Proofs.Ytonjkhhihiigfaa
namespace Go.Proofs.Ytonjkhhihiigfaa
set_option maxRecDepth 100000
open Go.RowKit


/-- Txs that were copied: rows of one's own. -/
structure OwT (w W : World) (v : Value) (L : List Tg) (done : List Value) : Prop where
  own : W.ownsRow 0 54 10 v L.length done
  rows : done.length = L.length * 10 ∧ ∀ j, j < L.length → ∃ q k, (done.drop (j * 10)).take 10 = txRow (L.getD j tg0) q (L.getD j tg0).data.length k ∧ W.ownsRow 0 5 1 (.slice q (L.getD j tg0).data.length k) (L.getD j tg0).data.length (bc (L.getD j tg0).data)
  fresh : ∀ g, v.ownBlock = some g → w.heap.size ≤ g
  below : Below w.heap.size w W
theorem OwT.on {w W W' : World} {v : Value} {L : List Tg} {done : List Value} (h : OwT w W v L done) (hb : Below W.heap.size W W') : OwT w W' v L done := by
  refine ⟨own_on h.own hb, ⟨h.rows.1, fun j hj => ?_⟩, h.fresh, h.below.trans (hb.mono h.below.size)⟩
  obtain ⟨q, k, h1, h2⟩ := h.rows.2 j hj
  exact ⟨q, k, h1, own_on h2 hb⟩
theorem OwT.rd {w W : World} {q : Option Addr} {c : Nat} {L : List Tg} {done : List Value} (h : OwT w W (.slice q L.length c) L done) : RdTx W q L := by
  rcases h.own.2 with ⟨e, h0⟩ | ⟨g, cap, cur, e, _, hg, hnc, hcm, hcs', htake⟩
  · exact .inl (List.eq_nil_of_length_eq_zero h0)
  · simp only [Value.slice.injEq] at e
    obtain ⟨rfl, -, rfl⟩ := e
    refine .inr ⟨g, 0, rfl, fun j hj => ?_⟩
    obtain ⟨qi, ki, h1, h2⟩ := h.rows.2 j hj
    refine ⟨qi, ki, ?_, rd_of_row h2⟩
    have hl := h.rows.1
    have hc2 : cur = (done ++ cur.toList.drop (L.length * 10)).toArray := by
      apply Array.ext'
      show cur.toList = done ++ cur.toList.drop (L.length * 10)
      rw [← htake, List.take_append_drop]
    rw [hc2] at hg
    rw [rowOf_block hg, Nat.zero_add, ← h1]
    have e : ((done ++ cur.toList.drop (L.length * 10)).drop (j * 10)).take 10 = (done.drop (j * 10)).take 10 := by
      rw [List.drop_append_of_le_length (by omega), List.take_append_of_le_length (by rw [List.length_drop]; omega)]
    rw [← e]
    simp [List.take_drop]
theorem OwT.grow {w W W2 : World} {q : Option Addr} {c : Nat} {L : List Tg} {done : List Value} {t : Tg} {v : Value} {qi : Option Addr} {ki : Nat} (h : OwT w W v L done) (hd : W.ownsRow 0 5 1 (.slice qi t.data.length ki) t.data.length (bc t.data)) (own : W2.ownsRow 0 54 10 (.slice q (L.length + 1) c) (L.length + 1) (done ++ txRow t qi t.data.length ki)) (grow : W.grownBy W2 v.ownBlock) (fr : (Value.slice q (L.length + 1) c).ownBlock = v.ownBlock ∨ (Value.slice q (L.length + 1) c).ownBlock = some W.heap.size) : OwT w W2 (.slice q (L.length + 1) c) (L ++ [t]) (done ++ txRow t qi t.data.length ki) := by
  have keep : ∀ {u : Value} {m : Nat} {ys : List Value}, W.ownsRow 0 5 1 u m ys → W2.ownsRow 0 5 1 u m ys := fun hu => own_keep hu (fun g e' => grow.block g (own_lt hu e') (fun e2 => own_two hu h.own (by decide) e' e2.symm))
  refine ⟨by rw [List.length_append, List.length_singleton]; exact own, ⟨by simp [h.rows.1, txRow_len]; omega, fun j hj => ?_⟩, fun g hg => ?_, h.below.grown grow h.below.size (fun g hg => h.fresh g hg)⟩
  · have hl := h.rows.1
    by_cases e : j = L.length
    · subst e
      have e1 : (L ++ [t]).getD L.length tg0 = t := by simp [List.getD]
      rw [e1]
      exact ⟨qi, ki, by rw [List.drop_left' hl]; exact List.take_of_length_le (by rw [txRow_len]; omega), keep hd⟩
    · have hj2 : j < L.length := by simp at hj; omega
      have e1 : (L ++ [t]).getD j tg0 = L.getD j tg0 := by simp [List.getD, List.getElem?_append_left hj2]
      obtain ⟨q', k', h1, h2⟩ := h.rows.2 j hj2
      rw [e1]
      refine ⟨q', k', ?_, keep h2⟩
      rw [List.drop_append_of_le_length (by omega), List.take_append_of_le_length (by rw [List.length_drop]; omega)]
      exact h1
  · rcases fr with e | e
    · rw [e] at hg; exact h.fresh g hg
    · rw [e] at hg; have := h.below.size; simp at hg; omega
@[go_sem ↓] theorem Try.slice_tx (ps : Array (Nat × Value)) : Instr.buildSlice 76 1 ps = rowNew 76 ps := rfl
theorem Try.run_slice_tx (w : World) (R : List Value) (hR : R.length = 10) :
    (rowNew 76 #[(0, .agg R.toArray)]).run Try.prog w = .ok (.slice (some ⟨w.heap.size, 0, none⟩) 1 1) (w.alloc (.cells R.toArray 54)) :=
  run_bs_one w Try.underlying76 (by kernel_rfl) (Try.zero_txp w) (n := 10) (by decide) (by decide) hR
theorem tx0_cells : (Value.agg (txRow tg0 none 0 0).toArray).cells.size = 10 := by rfl
theorem src_tx {P : Program} {tx e' : TypeId} {w : World} {R : List Value} (hk : P.underlying tx = some (.slice e')) (hR : R.length = 10) (h1 : ∀ u ∈ R, u.oneCell' = true) : Src P 10 tx (.slice (some ⟨w.heap.size, 0, none⟩) 1 1) 1 R (w.alloc (.cells R.toArray 54)) := by
  refine Src.ofSlice _ hk _ _ _ _ (by rw [hR]) (fun j u hu => ?_) h1
  rw [addr_add, Joins.cell_of_block (heap_alloc_new w (.cells R.toArray 54)), Nat.zero_add]
  simpa using hu

end Go.Proofs.Ytonjkhhihiigfaa
namespace Go.Proofs.Ytonjkhhihiigfaa
set_option maxRecDepth 100000
open Go.RowKit

/-! ### What was written -/
theorem drop9 {xs A X : List Int} {pos k : Nat} (h : xs.drop pos = A ++ X) (hA : A.length = k) (hk : 0 < k) : pos + k ≤ xs.length ∧ (xs.drop pos).take k = A ∧ xs.drop (pos + k) = X := by
  have hl : (xs.drop pos).length = k + X.length := by rw [h, List.length_append, hA]
  rw [List.length_drop] at hl
  refine ⟨by omega, by rw [h]; exact List.take_left' hA, by rw [← List.drop_drop, h]; exact List.drop_left' hA⟩
theorem nAt_back {xs X : List Int} {pos : Nat} {n : Int} (h : xs.drop pos = be8 n ++ X) (h0 : 0 ≤ n) (h1 : n < 18446744073709551616) : pos + 8 ≤ xs.length ∧ nAt xs pos = n ∧ xs.drop (pos + 8) = X := by
  obtain ⟨d1, d2, d3⟩ := drop9 h (be8_len n) (by omega)
  exact ⟨d1, by unfold nAt; rw [d2, num_be8 h0 h1], d3⟩
theorem pd_congr {f g : Nat → Int} (h : ∀ i, i < 32 → f i = g i) (o : Nat) : ∀ m, o + m ≤ 32 → pd f o m = pd g o m
  | 0, _ => rfl
  | m + 1, hm => by
    have := pd_congr h o m (by omega)
    unfold pd
    rw [this, h (o + m) (by omega)]
theorem w4_back {xs X : List Int} {pos : Nat} {x : W4} (h : xs.drop pos = x.bytes ++ X) (hx : D4 x.a x.b x.c x.d) : pos + 32 ≤ xs.length ∧ w4 xs pos = x ∧ xs.drop (pos + 32) = X := by
  obtain ⟨d1, d2, d3⟩ := drop9 h x.len (by omega)
  have hf : ∀ i, i < 32 → wf xs pos i = by_ (V x.a x.b x.c x.d) i := fun i hi => by
    unfold wf
    have e1 : xs.getD (pos + (31 - i)) 0 = ((xs.drop pos).take 32).getD (31 - i) 0 := by simp [List.getD, show 31 - i < 32 by omega]
    rw [e1, d2]
    unfold W4.bytes
    rw [bys_at _ (31 - i) (by omega), show 31 - (31 - i) = i by omega]
  obtain ⟨p0, p1, p2, p3⟩ := pd_V hx
  refine ⟨d1, ?_, d3⟩
  unfold w4
  rw [pd_congr hf 0 8 (by omega), pd_congr hf 8 8 (by omega), pd_congr hf 16 8 (by omega), pd_congr hf 24 8 (by omega), p0, p1, p2, p3]
theorem fU_no {xs : List Int} {pos k : Nat} (h : pos + k ≤ xs.length) : fU false xs pos k = false := fU_ok h
theorem uV_false (xs : List Int) (pos : Nat) : uV false xs pos = nAt xs pos := rfl
theorem wV_false (xs : List Int) (pos : Nat) : wV false xs pos = w4 xs pos := rfl
theorem blob_back {xs D X : List Int} {pos : Nat} (h : xs.drop pos = be8 D.length ++ (D ++ X)) (hl : D.length ≤ 65536) : fB false xs pos = false ∧ bD false xs pos = D ∧ xs.drop (pos + 8 + D.length) = X := by
  obtain ⟨d1, d2, d3⟩ := nAt_back h (by omega) (by omega)
  have hl2 : (xs.drop (pos + 8)).length = D.length + X.length := by rw [d3, List.length_append]
  rw [List.length_drop] at hl2
  refine ⟨?_, ?_, ?_⟩
  · simp only [fB, d2, Bool.false_or, Bool.or_eq_false_iff, decide_eq_false_iff_not, Int.toNat_natCast]
    exact ⟨⟨by omega, by omega⟩, by omega⟩
  · unfold bD
    rw [if_neg (by simp), d2, d3, Int.toNat_natCast]
    exact List.take_left' rfl
  · rw [← List.drop_drop, d3]
    exact List.drop_left' rfl
theorem m_back {m : Mg} (ok : m.ok) (hl : m.data.length ≤ 65536) : g6 (mgB m) = false ∧ mM (mgB m) = m := by
  have h0 : (mgB m).drop 0 = be8 m.no ++ (be8 m.se ++ (be8 m.ta ++ (m.val.bytes ++ (be8 m.gas ++ (be8 m.data.length ++ (m.data ++ [])))))) := by simp [mgB, mgH]
  generalize mgB m = xs at *
  obtain ⟨a1, b1, c1⟩ := nAt_back h0 ok.no.1 ok.no.2
  obtain ⟨a2, b2, c2⟩ := nAt_back c1 ok.se.1 ok.se.2
  obtain ⟨a3, b3, c3⟩ := nAt_back c2 ok.ta.1 ok.ta.2
  obtain ⟨a4, b4, c4⟩ := w4_back c3 ok.val
  obtain ⟨a5, b5, c5⟩ := nAt_back c4 ok.gas.1 ok.gas.2
  obtain ⟨a6, b6, c6⟩ := blob_back c5 hl
  have e1 : g1 xs = false := fU_ok a1
  have e2 : g2 xs = false := by unfold g2; rw [e1]; exact fU_ok a2
  have e3 : g3 xs = false := by unfold g3; rw [e2]; exact fU_ok a3
  have e4 : g4 xs = false := by unfold g4; rw [e3]; exact fU_ok a4
  have e5 : g5 xs = false := by unfold g5; rw [e4]; exact fU_ok a5
  have e6 : g6 xs = false := by unfold g6; rw [e5]; exact a6
  refine ⟨e6, ?_⟩
  unfold mM
  rw [e1, e2, e3, e4, e5, e6, uV_false, uV_false, uV_false, uV_false, wV_false]
  have z1 : nAt xs 0 = m.no := b1
  have z2 : nAt xs 8 = m.se := b2
  have z3 : nAt xs 16 = m.ta := b3
  have z4 : w4 xs 24 = m.val := b4
  have z5 : nAt xs 56 = m.gas := b5
  have z6 : bD false xs 64 = m.data := b6
  rw [z1, z2, z3, z4, z5, z6]
theorem mOk_back {m : Mg} (ok : m.ok) (hl : m.data.length ≤ 65536) : mOk (mgB m) = okM m := by
  obtain ⟨e1, e2⟩ := m_back ok hl
  unfold mOk mEnd
  rw [e1, e2, mgB_len]
  simp
theorem t_back {xs X : List Int} {p : Nat} {t : Tg} (h : xs.drop p = txB t ++ X) (ok : t.ok) (hk : 0 ≤ t.kd ∧ t.kd ≤ 3) (hl : t.data.length ≤ 65536) : t7 xs p false = false ∧ tM xs p false = t ∧ xs.drop (tE xs p false) = X ∧ tE xs p false = p + (txB t).length := by
  have h0 : xs.drop p = be8 t.kd ++ (be8 t.fr ++ (be8 t.no ++ (be8 t.to ++ (t.val.bytes ++ (be8 t.gas ++ (be8 t.data.length ++ (t.data ++ X))))))) := by rw [h]; simp [txB]
  obtain ⟨a1, b1, c1⟩ := nAt_back h0 hk.1 (by omega)
  obtain ⟨a2, b2, c2⟩ := nAt_back c1 ok.fr.1 ok.fr.2
  obtain ⟨a3, b3, c3⟩ := nAt_back c2 ok.no.1 ok.no.2
  obtain ⟨a4, b4, c4⟩ := nAt_back c3 ok.to.1 ok.to.2
  obtain ⟨a5, b5, c5⟩ := w4_back c4 ok.val
  obtain ⟨a6, b6, c6⟩ := nAt_back c5 ok.gas.1 ok.gas.2
  obtain ⟨a7, b7, c7⟩ := blob_back c6 hl
  have e1 : t1 xs p false = false := by
    simp only [t1, fC, b1, Bool.false_or, Bool.or_eq_false_iff, decide_eq_false_iff_not]
    exact ⟨by omega, by omega⟩
  have e2 : t2 xs p false = false := by unfold t2; rw [e1]; exact fU_ok a2
  have e3 : t3 xs p false = false := by unfold t3; rw [e2]; exact fU_ok a3
  have e4 : t4 xs p false = false := by unfold t4; rw [e3]; exact fU_ok a4
  have e5 : t5 xs p false = false := by unfold t5; rw [e4]; exact fU_ok a5
  have e6 : t6 xs p false = false := by unfold t6; rw [e5]; exact fU_ok a6
  have e7 : t7 xs p false = false := by unfold t7; rw [e6]; exact a7
  have em : tM xs p false = t := by
    unfold tM
    rw [e1, e2, e3, e4, e5, e6, e7, uV_false, uV_false, uV_false, uV_false, uV_false, wV_false, b1, b2, b3, b4, b5, b6, b7]
  have ee : tE xs p false = p + 8 + 8 + 8 + 8 + 32 + 8 + 8 + t.data.length := by unfold tE; rw [em]
  exact ⟨e7, em, by rw [ee]; exact c7, by rw [ee, txB_len]; omega⟩
theorem okT_kd3 {t : Tg} {n : Nat} (h : okT t n = true) : 0 ≤ t.kd ∧ t.kd ≤ 3 := by
  unfold okT at h
  simp only [Bool.and_eq_true, decide_eq_true_eq] at h
  have h3 := h.2
  unfold okK at h3
  split at h3
  · omega
  · split at h3
    · omega
    · split at h3
      · omega
      · simp at h3
theorem b_back {ep : Int} {L : List Tg} (he : 0 ≤ ep ∧ ep < 18446744073709551616) (ok : TgsOk L) (hB : okB L = true) : (∀ i, i ≤ L.length → bIt (baB ep L L.length) i = (L.take i, (baB ep L i).length, false)) ∧ bN (baB ep L L.length) = L.length := by
  unfold okB at hB
  simp only [Bool.and_eq_true, decide_eq_true_eq] at hB
  obtain ⟨h8, hL⟩ := hB
  have split9 : ∀ i, i ≤ L.length → baB ep L L.length = baB ep L i ++ ((L.drop i).map txB).flatten := fun i hi => by
    have e : L.take L.length = L.take i ++ L.drop i := by rw [List.take_length, List.take_append_drop]
    unfold baB
    rw [e, List.map_append, List.flatten_append]
    simp
  have h0 : (baB ep L L.length).drop 0 = be8 ep ++ (be8 (L.length : Int) ++ ((L.take L.length).map txB).flatten) := by simp [baB]
  obtain ⟨a1, b1, c1⟩ := nAt_back h0 he.1 he.2
  obtain ⟨a2, b2, c2⟩ := nAt_back c1 (by omega) (by omega)
  have z2 : nAt (baB ep L L.length) 8 = (L.length : Int) := b2
  have e0 : fC (fU false (baB ep L L.length) 0 8) (baB ep L L.length) 8 8 = false := by
    rw [fU_ok a1]
    simp only [fC, z2, Bool.false_or, Bool.or_eq_false_iff, decide_eq_false_iff_not]
    exact ⟨by omega, by omega⟩
  have key : ∀ i, i ≤ L.length → bIt (baB ep L L.length) i = (L.take i, (baB ep L i).length, false) := by
    intro i
    induction i with
    | zero =>
      intro _
      simp only [bIt, e0, List.take_zero]
      simp [baB, be8_len]
    | succ i ih =>
      intro hi
      have ih' := ih (by omega)
      have hlt : i < L.length := by omega
      have hg := ok.get hlt
      have hT := okL_get hL hlt
      have hd : (baB ep L L.length).drop (baB ep L i).length = txB (L.getD i tg0) ++ ((L.drop (i + 1)).map txB).flatten := by
        rw [split9 (i + 1) hi, baB_succ hlt, List.append_assoc]
        exact List.drop_left' rfl
      obtain ⟨f1, f2, _, f4⟩ := t_back hd hg.1 (okT_kd3 hT) (by have := (okT_kd hT).2; omega)
      simp only [bIt, ih', f1, f2]
      refine Prod.ext ?_ (Prod.ext ?_ rfl)
      · show L.take i ++ [L.getD i tg0] = L.take (i + 1)
        rw [List.take_add_one]
        simp [List.getD, hlt]
      · show tE _ _ _ = _
        rw [f4, baB_succ hlt, List.length_append]
  refine ⟨key, ?_⟩
  unfold bN
  have e1 : (bIt (baB ep L L.length) 0).2.2 = false := e0
  rw [e1, uV_false, z2, Int.toNat_natCast]
theorem bOk_back {ep : Int} {L : List Tg} (he : 0 ≤ ep ∧ ep < 18446744073709551616) (ok : TgsOk L) (hB : okB L = true) : bOk (baB ep L L.length) = true := by
  obtain ⟨h1, h2⟩ := b_back he ok hB
  unfold bOk brOk
  rw [h2, h1 L.length (Nat.le_refl _)]
  simp [hB]

/-! ### A part, and more -/
section
variable {ys zs : List Int} {pos k : Nat} {f : Bool}
theorem nAt_pre (h : pos + 8 ≤ ys.length) : nAt (ys ++ zs) pos = nAt ys pos := by
  unfold nAt
  rw [List.drop_append_of_le_length (by omega), List.take_append_of_le_length (by rw [List.length_drop]; omega)]
theorem fU_pre (h : fU f ys pos k = false) : f = false ∧ pos + k ≤ ys.length ∧ fU f (ys ++ zs) pos k = false := by
  simp only [fU, Bool.or_eq_false_iff, decide_eq_false_iff_not] at h ⊢
  exact ⟨h.1, by omega, h.1, by rw [List.length_append]; omega⟩
theorem fC_pre {most : Nat} (h : fC f ys pos most = false) : f = false ∧ pos + 8 ≤ ys.length ∧ fC f (ys ++ zs) pos most = false := by
  simp only [fC, Bool.or_eq_false_iff, decide_eq_false_iff_not] at h ⊢
  have hp : pos + 8 ≤ ys.length := by omega
  exact ⟨h.1.1, hp, ⟨h.1.1, by rw [List.length_append]; omega⟩, by rw [nAt_pre hp]; exact h.2⟩
theorem fB_pre (h : fB f ys pos = false) : f = false ∧ fB f (ys ++ zs) pos = false ∧ bD false (ys ++ zs) pos = bD false ys pos := by
  simp only [fB, Bool.or_eq_false_iff, decide_eq_false_iff_not] at h ⊢
  have hp : pos + 8 ≤ ys.length := by omega
  refine ⟨h.1.1.1, ⟨⟨⟨h.1.1.1, by rw [List.length_append]; omega⟩, by rw [nAt_pre hp]; exact h.1.2⟩, by rw [nAt_pre hp, List.length_append]; omega⟩, ?_⟩
  unfold bD
  rw [if_neg (by simp), if_neg (by simp), nAt_pre hp, List.drop_append_of_le_length (by omega), List.take_append_of_le_length (by rw [List.length_drop]; omega)]
theorem uV_pre (h : pos + 8 ≤ ys.length) : uV false (ys ++ zs) pos = uV false ys pos := nAt_pre h
theorem w4_pre (h : pos + 32 ≤ ys.length) : wV false (ys ++ zs) pos = wV false ys pos := by
  have hf : ∀ i, i < 32 → wf (ys ++ zs) pos i = wf ys pos i := fun i hi => by
    unfold wf
    simp only [List.getD]
    rw [List.getElem?_append_left (by omega)]
  show w4 _ _ = w4 _ _
  unfold w4
  rw [pd_congr hf 0 8 (by omega), pd_congr hf 8 8 (by omega), pd_congr hf 16 8 (by omega), pd_congr hf 24 8 (by omega)]
end
theorem m_pre {ys zs : List Int} (h : g6 ys = false) : g6 (ys ++ zs) = false ∧ mM (ys ++ zs) = mM ys := by
  obtain ⟨h5, k6, b6⟩ := fB_pre (zs := zs) h
  obtain ⟨h4, l5, k5⟩ := fU_pre (zs := zs) (show fU (g4 ys) ys 56 8 = false from h5)
  obtain ⟨h3, l4, k4⟩ := fU_pre (zs := zs) (show fU (g3 ys) ys 24 32 = false from h4)
  obtain ⟨h2, l3, k3⟩ := fU_pre (zs := zs) (show fU (g2 ys) ys 16 8 = false from h3)
  obtain ⟨h1, l2, k2⟩ := fU_pre (zs := zs) (show fU (g1 ys) ys 8 8 = false from h2)
  obtain ⟨_, l1, k1⟩ := fU_pre (zs := zs) (show fU false ys 0 8 = false from h1)
  have e1 : g1 (ys ++ zs) = false := k1
  have e2 : g2 (ys ++ zs) = false := by unfold g2; rw [e1]; rw [h1] at k2; exact k2
  have e3 : g3 (ys ++ zs) = false := by unfold g3; rw [e2]; rw [h2] at k3; exact k3
  have e4 : g4 (ys ++ zs) = false := by unfold g4; rw [e3]; rw [h3] at k4; exact k4
  have e5 : g5 (ys ++ zs) = false := by unfold g5; rw [e4]; rw [h4] at k5; exact k5
  have e6 : g6 (ys ++ zs) = false := by unfold g6; rw [e5]; rw [h5] at k6; exact k6
  refine ⟨e6, ?_⟩
  unfold mM
  rw [e1, e2, e3, e4, e5, e6, h1, h2, h3, h4, h5, h, uV_pre l1, uV_pre l2, uV_pre l3, uV_pre l5, w4_pre l4, b6]
theorem t_pre {ys zs : List Int} {p : Nat} {f : Bool} (h : t7 ys p f = false) : f = false ∧ t7 (ys ++ zs) p f = false ∧ tM (ys ++ zs) p f = tM ys p f ∧ tE (ys ++ zs) p f = tE ys p f := by
  obtain ⟨h6, k7, b7⟩ := fB_pre (zs := zs) h
  obtain ⟨h5, l6, k6⟩ := fU_pre (zs := zs) (show fU (t5 ys p f) ys _ 8 = false from h6)
  obtain ⟨h4, l5, k5⟩ := fU_pre (zs := zs) (show fU (t4 ys p f) ys _ 32 = false from h5)
  obtain ⟨h3, l4, k4⟩ := fU_pre (zs := zs) (show fU (t3 ys p f) ys _ 8 = false from h4)
  obtain ⟨h2, l3, k3⟩ := fU_pre (zs := zs) (show fU (t2 ys p f) ys _ 8 = false from h3)
  obtain ⟨h1, l2, k2⟩ := fU_pre (zs := zs) (show fU (t1 ys p f) ys _ 8 = false from h2)
  obtain ⟨h0, l1, k1⟩ := fC_pre (zs := zs) (show fC f ys p 3 = false from h1)
  have e1 : t1 (ys ++ zs) p f = false := k1
  have e2 : t2 (ys ++ zs) p f = false := by unfold t2; rw [e1]; rw [h1] at k2; exact k2
  have e3 : t3 (ys ++ zs) p f = false := by unfold t3; rw [e2]; rw [h2] at k3; exact k3
  have e4 : t4 (ys ++ zs) p f = false := by unfold t4; rw [e3]; rw [h3] at k4; exact k4
  have e5 : t5 (ys ++ zs) p f = false := by unfold t5; rw [e4]; rw [h4] at k5; exact k5
  have e6 : t6 (ys ++ zs) p f = false := by unfold t6; rw [e5]; rw [h5] at k6; exact k6
  have e7 : t7 (ys ++ zs) p f = false := by unfold t7; rw [e6]; rw [h6] at k7; exact k7
  have em : tM (ys ++ zs) p f = tM ys p f := by
    unfold tM
    rw [e1, e2, e3, e4, e5, e6, e7, h1, h2, h3, h4, h5, h6, h, uV_pre l1, uV_pre l2, uV_pre l3, uV_pre l4, uV_pre l6, w4_pre l5, b7]
  exact ⟨h0, e7, em, by unfold tE; rw [em]⟩
theorem b_pre {ys zs : List Int} : ∀ i, (bIt ys i).2.2 = false → (bIt ys 0).2.2 = false ∧ bIt (ys ++ zs) i = bIt ys i
  | 0, h => by
    have h' : fC (fU false ys 0 8) ys 8 8 = false := h
    obtain ⟨h1, l2, k2⟩ := fC_pre (zs := zs) h'
    obtain ⟨_, l1, k1⟩ := fU_pre (zs := zs) h1
    refine ⟨h, ?_⟩
    show ([], 16, fC (fU false (ys ++ zs) 0 8) (ys ++ zs) 8 8) = (([] : List Tg), 16, fC (fU false ys 0 8) ys 8 8)
    rw [h', k1]
    rw [h1] at k2
    rw [k2]
  | i + 1, h => by
    have h' : t7 ys (bIt ys i).2.1 (bIt ys i).2.2 = false := h
    obtain ⟨h0, k1, k2, k3⟩ := t_pre (zs := zs) h'
    obtain ⟨z, ih⟩ := b_pre (zs := zs) i h0
    refine ⟨z, ?_⟩
    simp only [bIt, ih, k1, k2, k3, h']
theorem bN_pre {ys zs : List Int} (h : (bIt ys 0).2.2 = false) : bN (ys ++ zs) = bN ys := by
  obtain ⟨_, e⟩ := b_pre (zs := zs) 0 h
  have h' : fC (fU false ys 0 8) ys 8 8 = false := h
  obtain ⟨_, l2, _⟩ := fC_pre (zs := zs) h'
  unfold bN
  rw [e, h, uV_pre l2]
/-! ### The law's four questions -/
theorem mE_cut {xs : List Int} {k : Nat} (h : mOk xs = true) (hk : k < xs.length) : mE (xs.take k) = 21 := by
  unfold mE
  rw [if_neg]
  intro h2
  simp only [mOk, Bool.and_eq_true, Bool.not_eq_true', decide_eq_true_eq] at h h2
  obtain ⟨e1, e2⟩ := m_pre (zs := xs.drop k) h2.1.1
  rw [List.take_append_drop] at e1 e2
  have h3 := h2.1.2
  have h4 := h.1.2
  unfold mEnd at h3 h4
  rw [e2] at h4
  rw [List.length_take] at h3
  omega
theorem mE_more {xs zs : List Int} (h : mOk xs = true) : mE (xs ++ zs) = if zs.length = 0 then 0 else 21 := by
  by_cases hz : zs = []
  · subst hz
    rw [List.append_nil]
    exact if_pos h
  · have hl : zs.length ≠ 0 := fun e => hz (List.eq_nil_of_length_eq_zero e)
    rw [if_neg hl]
    unfold mE
    rw [if_neg]
    intro h2
    simp only [mOk, Bool.and_eq_true, Bool.not_eq_true', decide_eq_true_eq] at h h2
    obtain ⟨e1, e2⟩ := m_pre (zs := zs) h.1.1
    have h3 := h2.1.2
    have h4 := h.1.2
    unfold mEnd at h3 h4
    rw [e2, List.length_append] at h3
    omega
theorem bE_cut {xs : List Int} {k : Nat} (h : bOk xs = true) (hk : k < xs.length) : bE (xs.take k) = 21 := by
  unfold bE
  rw [if_neg]
  intro h2
  simp only [bOk, brOk, Bool.and_eq_true, Bool.not_eq_true', decide_eq_true_eq] at h h2
  obtain ⟨z, e⟩ := b_pre (zs := xs.drop k) _ h2.1.1
  have en := bN_pre (zs := xs.drop k) z
  rw [List.take_append_drop] at e en
  have h3 := h2.1.2
  have h4 := h.1.2
  rw [en, e] at h4
  rw [List.length_take] at h3
  omega
theorem bE_more {xs zs : List Int} (h : bOk xs = true) : bE (xs ++ zs) = if zs.length = 0 then 0 else 21 := by
  by_cases hz : zs = []
  · subst hz
    rw [List.append_nil]
    exact if_pos h
  · have hl : zs.length ≠ 0 := fun e => hz (List.eq_nil_of_length_eq_zero e)
    rw [if_neg hl]
    unfold bE
    rw [if_neg]
    intro h2
    simp only [bOk, brOk, Bool.and_eq_true, Bool.not_eq_true', decide_eq_true_eq] at h h2
    obtain ⟨z, e⟩ := b_pre (zs := zs) _ h.1.1
    have en := bN_pre (zs := zs) z
    have h3 := h2.1.2
    have h4 := h.1.2
    rw [en, e, List.length_append] at h3
    omega
end Go.Proofs.Ytonjkhhihiigfaa
