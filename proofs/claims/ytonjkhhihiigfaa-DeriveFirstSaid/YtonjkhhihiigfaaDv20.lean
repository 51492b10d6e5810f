/-
  Blocks without the batches that are none, or late, or of another number: their inputs are the same.; RightTx, RightBatch of the document.; A Tx's bytes, of the document.; The document's RightBatch.; The document's PutBatch.; A Tx, by the document's reader.; Where the document's reader of a batch and the program's part, and that they answer the same: the program's Count of a kind lets 3 at most, the document's 9, which RightTx then refuses.; What the document's GetBatch holds within its loop.
-/
import Derived.Test.YtonjkhhihiigfaaDv16
import Derived.Test.YtonjkhhihiigfaaDv17
import Derived.Test.YtonjkhhihiigfaaDv18
namespace Go.Proofs.Ytonjkhhihiigfaa
set_option maxRecDepth 100000
open Go.RowKit

def kpB (L : List Bk) (k : Int) (i j : Nat) : Bool := (bE ((L.getD i bk0).bs.getD j []) == 0) && (decide (1 ≤ bGe ((L.getD i bk0).bs.getD j [])) && (decide (bGe ((L.getD i bk0).bs.getD j []) ≤ (i : Int)) && decide (fFind L (bGe ((L.getD i bk0).bs.getD j [])) k = some (i + 1, j))))
/-- The batches that are kept, among the first m. -/
def clB (L : List Bk) (k : Int) (i m : Nat) : List (List Int) := ((List.range m).filter (kpB L k i)).map fun j => (L.getD i bk0).bs.getD j []
theorem clB_yes {L : List Bk} {k : Int} {i m : Nat} (h : kpB L k i m = true) : clB L k i (m + 1) = clB L k i m ++ [(L.getD i bk0).bs.getD m []] := by
  unfold clB
  rw [List.range_succ, List.filter_append, List.map_append]
  simp [h]
theorem clB_no {L : List Bk} {k : Int} {i m : Nat} (h : kpB L k i m = false) : clB L k i (m + 1) = clB L k i m := by
  unfold clB
  rw [List.range_succ, List.filter_append, List.map_append]
  simp [h]
theorem clB_le (L : List Bk) (k : Int) (i m : Nat) : (clB L k i m).length ≤ m := by
  unfold clB
  rw [List.length_map]
  exact Nat.le_trans (List.length_filter_le _ _) (by simp)
theorem clB_mem {L : List Bk} {k : Int} {i m : Nat} {x : List Int} : x ∈ clB L k i m ↔ ∃ j, j < m ∧ kpB L k i j = true ∧ (L.getD i bk0).bs.getD j [] = x := by
  unfold clB
  simp only [List.mem_map, List.mem_filter, List.mem_range]
  constructor
  · rintro ⟨j, ⟨h1, h2⟩, h3⟩; exact ⟨j, h1, h2, h3⟩
  · rintro ⟨j, h1, h2, h3⟩; exact ⟨j, ⟨h1, h2⟩, h3⟩
def clK (L : List Bk) (k : Int) (i : Nat) : Bk := ⟨(L.getD i bk0).ds, clB L k i (L.getD i bk0).bs.length⟩
def clL (L : List Bk) (k : Int) (m : Nat) : List Bk := (List.range m).map (clK L k)
theorem clL_len (L : List Bk) (k : Int) (m : Nat) : (clL L k m).length = m := by simp [clL]
theorem clL_snoc (L : List Bk) (k : Int) (m : Nat) : clL L k (m + 1) = clL L k m ++ [clK L k m] := by simp [clL, List.range_succ]
theorem clL_get {L : List Bk} {k : Int} {m i : Nat} (h : i < m) : (clL L k m).getD i bk0 = clK L k i := by simp [clL, List.getD, h]
theorem clL_sm {L : List Bk} (sm : BksSm L) (k : Int) (m : Nat) : BksSm (clL L k m) := by
  intro x hx
  obtain ⟨i, _, rfl⟩ := List.mem_map.1 hx
  have h := sm.get i
  have sub : ∀ y ∈ (clK L k i).bs, y ∈ (L.getD i bk0).bs := fun y hy => by
    obtain ⟨j, hj, _, rfl⟩ := clB_mem.1 hy
    exact getD_mem hj
  have le : (clK L k i).bs.length ≤ (L.getD i bk0).bs.length := clB_le _ _ _ _
  exact ⟨⟨h.ok.ds, fun y hy => h.ok.bs y (sub y hy), h.ok.dl, Nat.le_trans le h.ok.bl⟩, h.ds, Nat.le_trans le h.bs, h.md, fun y hy => h.bd y (sub y hy)⟩
theorem fIn_nil {n : Int} {bs : List (List Int)} : fIn n bs = none ↔ ∀ x ∈ bs, hit n x = false := by
  unfold fIn; rw [List.findIdx?_eq_none_iff]
theorem fIn_at {n : Int} {bs : List (List Int)} {p : Nat} (h : fIn n bs = some p) : p < bs.length ∧ hit n (bs.getD p []) = true := by
  unfold fIn at h
  rw [List.findIdx?_eq_some_iff_getElem] at h
  obtain ⟨h1, h2, _⟩ := h
  exact ⟨h1, by simpa [List.getD, h1] using h2⟩
theorem cl_none {L : List Bk} {k n : Int} {i : Nat} (h : fIn n (L.getD i bk0).bs = none) : fIn n (clK L k i).bs = none := by
  rw [fIn_nil] at h ⊢
  intro x hx
  obtain ⟨j, hj, _, rfl⟩ := clB_mem.1 hx
  exact h _ (getD_mem hj)
theorem hit_iff {n : Int} {x : List Int} : hit n x = true ↔ bE x = 0 ∧ bGe x = n := by simp [hit]
theorem cl_some {L : List Bk} {k n : Int} {i J : Nat} (h1 : 1 ≤ n) (h2 : n ≤ i) (hf : fFind L n k = some (i + 1, J)) (h : fIn n (L.getD i bk0).bs = some J) :
    ∃ p, fIn n (clK L k i).bs = some p ∧ (clK L k i).bs.getD p [] = (L.getD i bk0).bs.getD J [] := by
  obtain ⟨hJ, hh⟩ := fIn_at h
  obtain ⟨e1, e2⟩ := hit_iff.1 hh
  have kp : kpB L k i J = true := by
    unfold kpB
    rw [e1, e2]
    simp [h1, h2, hf]
  have hm : (L.getD i bk0).bs.getD J [] ∈ (clK L k i).bs := clB_mem.2 ⟨J, hJ, kp, rfl⟩
  cases hp : fIn n (clK L k i).bs with
  | none => rw [fIn_nil.1 hp _ hm] at hh; cases hh
  | some p =>
    obtain ⟨g1, g2⟩ := fIn_at hp
    obtain ⟨j, hj, kj, ej0⟩ := clB_mem.1 (getD_mem (d := []) g1)
    have ej : (L.getD i bk0).bs.getD j [] = (clK L k i).bs.getD p [] := ej0
    refine ⟨p, rfl, ?_⟩
    rw [← ej] at g2
    obtain ⟨_, e4⟩ := hit_iff.1 g2
    unfold kpB at kj
    rw [e4] at kj
    simp only [Bool.and_eq_true, decide_eq_true_eq] at kj
    rw [hf] at kj
    have e5 : J = j := by simpa using kj.2.2.2
    rw [← ej, e5]
def ceL (L : List Bk) (p : Nat × Nat) : List Int := (L.getD (p.1 - 1) bk0).bs.getD p.2 []
theorem scan_cl {L : List Bk} {k : Int} {m : Nat} : ∀ {f b : Nat}, 1 ≤ m → m + 1 ≤ b → b + f ≤ L.length + 1 → fScan L m b f = fFind L m k → (fScan (clL L k L.length) m b f).map (ceL (clL L k L.length)) = (fScan L m b f).map (ceL L)
  | 0, _, _, _, _, _ => rfl
  | f + 1, b, h0, h1, h2, h3 => by
    have hb : b - 1 < L.length := by omega
    have hg := clL_get (L := L) (k := k) hb
    cases h : fIn m (L.getD (b - 1) bk0).bs with
    | none =>
      have hc : fIn m ((clL L k L.length).getD (b - 1) bk0).bs = none := by rw [hg]; exact cl_none h
      rw [fScan_on h] at h3 ⊢
      rw [fScan_on hc]
      exact scan_cl h0 (by omega) (by omega) h3
    | some J =>
      rw [fScan_hit h] at h3 ⊢
      have hf : fFind L m k = some (b - 1 + 1, J) := by rw [← h3, show b - 1 + 1 = b by omega]
      obtain ⟨p, hp, hx⟩ := cl_some (by omega) (by omega) hf h
      have hc : fIn m ((clL L k L.length).getD (b - 1) bk0).bs = some p := by rw [hg]; exact hp
      rw [fScan_hit hc]
      simp only [Option.map_some, ceL]
      rw [hg, hx]
theorem foL_ce (L : List Bk) (o : Option (Nat × Nat)) : foL L o = match o.map (ceL L) with | none => [] | some x => bGl x := by
  cases o with
  | none => rfl
  | some p => obtain ⟨b, i⟩ := p; rfl
theorem fInL_cl {L : List Bk} {n k : Int} (h1 : 1 ≤ n) (h2 : n ≤ kN L.length k) : fInL (clL L k L.length) n k = fInL L n k := by
  obtain ⟨hw, a, b, c⟩ := kN_in h1 h2
  have h2' : n ≤ kN (clL L k L.length).length k := by rw [clL_len]; exact h2
  obtain ⟨m, rfl⟩ : ∃ m : Nat, n = m := ⟨n.toNat, by omega⟩
  have e : foL (clL L k L.length) (fFind (clL L k L.length) m k) = foL L (fFind L m k) := by
    rw [foL_ce, foL_ce, fFind_known h1 h2', fFind_known h1 h2]
    rw [scan_cl (by omega) (by omega) (by omega) (fFind_known h1 h2).symm]
  unfold fInL
  rw [if_pos ⟨hw, h1, h2'⟩, if_pos ⟨hw, h1, h2⟩, e, clL_get (by omega)]
  rfl
theorem fAll_cl (L : List Bk) (k : Int) : fAll (clL L k L.length) k = fAll L k := by
  unfold fAll
  rw [clL_len]
  apply List.map_congr_left
  intro i hi
  rw [List.mem_range] at hi
  exact fInL_cl (by omega) (by omega)
end Go.Proofs.Ytonjkhhihiigfaa
namespace Go.Proofs.Ytonjkhhihiigfaa
set_option maxRecDepth 100000
open Go.RowKit

set_option maxHeartbeats 400000 in
theorem refRightTx_g {w : World} {t : Tg} {q : Option Addr} {n k : Nat} (hg : ¬ t.gas ≤ 65536) :
    Calls Try.prog 51 #[.agg (txRow t q n k).toArray] w fun e w' => e = .returned (.bool false) ∧ Below w.heap.size w w' := by
  have HB := Lib.hid ((Below.refl w.heap.size w).alloc (Nat.le_refl _) (.cells (txRow t q n k).toArray 84))
  have K := TxAt.new w 84 t q n k
  obtain ⟨c0, c1, c2, c3, c4, c5, c6, c7, c8, c9⟩ := K.cells
  have hgI : (65536 : Int) < t.gas := by omega
  clear K
  go_enter Try.func51, Try.ntmps51
  go_wp2_with fail
  go_ret
  exact ⟨rfl, HB.out⟩
set_option maxHeartbeats 400000 in
theorem refRightTx_l {w : World} {t : Tg} {q : Option Addr} {n k : Nat} (hg : t.gas ≤ 65536) (hl : ¬ (n : Int) ≤ 256) :
    Calls Try.prog 51 #[.agg (txRow t q n k).toArray] w fun e w' => e = .returned (.bool false) ∧ Below w.heap.size w w' := by
  have HB := Lib.hid ((Below.refl w.heap.size w).alloc (Nat.le_refl _) (.cells (txRow t q n k).toArray 84))
  have K := TxAt.new w 84 t q n k
  obtain ⟨c0, c1, c2, c3, c4, c5, c6, c7, c8, c9⟩ := K.cells
  have hgI : ¬ (65536 : Int) < t.gas := by omega
  have dg : decide ((65536 : Int) < t.gas) = false := by rw [decide_eq_false_iff_not]; exact hgI
  have hlI : (256 : Int) < (n : Int) := by omega
  clear K
  go_enter Try.func51, Try.ntmps51
  go_wp2_with fail
  go_ret
  exact ⟨rfl, HB.out⟩
set_option maxHeartbeats 400000 in
theorem refRightTx_k0 {w : World} {t : Tg} {q : Option Addr} {n k : Nat} (hg : t.gas ≤ 65536) (hl : (n : Int) ≤ 256) (h1 : ¬ t.kd = 1) (h2 : ¬ t.kd = 2) (h3 : ¬ t.kd = 3) :
    Calls Try.prog 51 #[.agg (txRow t q n k).toArray] w fun e w' => e = .returned (.bool false) ∧ Below w.heap.size w w' := by
  have HB := Lib.hid ((Below.refl w.heap.size w).alloc (Nat.le_refl _) (.cells (txRow t q n k).toArray 84))
  have K := TxAt.new w 84 t q n k
  obtain ⟨c0, c1, c2, c3, c4, c5, c6, c7, c8, c9⟩ := K.cells
  have hgI : ¬ (65536 : Int) < t.gas := by omega
  have dg : decide ((65536 : Int) < t.gas) = false := by rw [decide_eq_false_iff_not]; exact hgI
  have hlI : ¬ (256 : Int) < (n : Int) := by omega
  have dl : decide ((256 : Int) < (n : Int)) = false := by rw [decide_eq_false_iff_not]; exact hlI
  have e1 : (t.kd == 1) = false := by simpa using h1
  have e2 : (t.kd == 2) = false := by simpa using h2
  have e3 : (t.kd == 3) = false := by simpa using h3
  clear K
  go_enter Try.func51, Try.ntmps51
  go_wp2_with fail
  (try rw [Exit.noGoto_ret])
  go_ret
  exact ⟨rfl, HB.out⟩
set_option maxHeartbeats 400000 in
theorem refRightTx_k1 {w : World} {t : Tg} {q : Option Addr} {n k : Nat} (hg : t.gas ≤ 65536) (hl : (n : Int) ≤ 256) (h1 : t.kd = 1) :
    Calls Try.prog 51 #[.agg (txRow t q n k).toArray] w fun e w' => e = .returned (.bool ((t.gas == 0) && ((n : Int) == 0))) ∧ Below w.heap.size w w' := by
  have HB := Lib.hid ((Below.refl w.heap.size w).alloc (Nat.le_refl _) (.cells (txRow t q n k).toArray 84))
  have K := TxAt.new w 84 t q n k
  obtain ⟨c0, c1, c2, c3, c4, c5, c6, c7, c8, c9⟩ := K.cells
  have hgI : ¬ (65536 : Int) < t.gas := by omega
  have dg : decide ((65536 : Int) < t.gas) = false := by rw [decide_eq_false_iff_not]; exact hgI
  have hlI : ¬ (256 : Int) < (n : Int) := by omega
  have dl : decide ((256 : Int) < (n : Int)) = false := by rw [decide_eq_false_iff_not]; exact hlI
  rw [h1] at c0
  clear K
  generalize t.gas = g at *
  cases h4 : (g == 0) <;> cases h5 : ((n : Int) == 0)
  all_goals
    go_enter Try.func51, Try.ntmps51
    go_wp2_with fail
    (try rw [Exit.noGoto_ret])
    go_ret
    exact ⟨by first | rfl | simp_all, HB.out⟩
set_option maxHeartbeats 400000 in
theorem refRightTx_k2 {w : World} {t : Tg} {q : Option Addr} {n k : Nat} (hg : t.gas ≤ 65536) (hl : (n : Int) ≤ 256) (h1 : t.kd = 2) :
    Calls Try.prog 51 #[.agg (txRow t q n k).toArray] w fun e w' => e = .returned (.bool (decide ((n : Int) ≤ 64))) ∧ Below w.heap.size w w' := by
  have HB := Lib.hid ((Below.refl w.heap.size w).alloc (Nat.le_refl _) (.cells (txRow t q n k).toArray 84))
  have K := TxAt.new w 84 t q n k
  obtain ⟨c0, c1, c2, c3, c4, c5, c6, c7, c8, c9⟩ := K.cells
  have hgI : ¬ (65536 : Int) < t.gas := by omega
  have dg : decide ((65536 : Int) < t.gas) = false := by rw [decide_eq_false_iff_not]; exact hgI
  have hlI : ¬ (256 : Int) < (n : Int) := by omega
  have dl : decide ((256 : Int) < (n : Int)) = false := by rw [decide_eq_false_iff_not]; exact hlI
  rw [h1] at c0
  clear K
  go_enter Try.func51, Try.ntmps51
  go_wp2_with fail
  (try rw [Exit.noGoto_ret])
  go_ret
  exact ⟨rfl, HB.out⟩
set_option maxHeartbeats 400000 in
theorem refRightTx_k3 {w : World} {t : Tg} {q : Option Addr} {n k : Nat} (hr : Rd w (.slice q n k) t.data) (hx : Bytes t.data) (hn : n ≤ 140737488355328) (hg : t.gas ≤ 65536) (hl : (n : Int) ≤ 256) (h1 : t.kd = 3) :
    Calls Try.prog 51 #[.agg (txRow t q n k).toArray] w fun e w' => e = .returned (.bool (((mE t.data == 0) && (t.to == 0)) && zW t.val)) ∧ Below w.heap.size w w' := by
  have HB := Lib.hid ((Below.refl w.heap.size w).alloc (Nat.le_refl _) (.cells (txRow t q n k).toArray 84))
  have K := TxAt.new w 84 t q n k
  obtain ⟨c0, c1, c2, c3, c4, c5, c6, c7, c8, c9⟩ := K.cells
  have hln : t.data.length ≤ 140737488355328 := by
    obtain ⟨_, _, e, _⟩ := hr
    simp only [Value.slice.injEq] at e
    omega
  have hgI : ¬ (65536 : Int) < t.gas := by omega
  have dg : decide ((65536 : Int) < t.gas) = false := by rw [decide_eq_false_iff_not]; exact hgI
  have hlI : ¬ (256 : Int) < (n : Int) := by omega
  have dl : decide ((256 : Int) < (n : Int)) = false := by rw [decide_eq_false_iff_not]; exact hlI
  rw [h1] at c0
  have KG := Lib.hid (refGetMessage_any (hr.on HB.out) hx hln)
  unfold GmP at KG
  have K0 := Lib.hid K
  obtain ⟨E, hE⟩ : ∃ E, mE t.data = E := ⟨_, rfl⟩
  obtain ⟨y, hy⟩ : ∃ y, mG t.data = y := ⟨_, rfl⟩
  rw [hE, hy] at KG
  rw [hE]
  have HWZ := fun W => Try.eq_wide0 W t.val
  obtain ⟨zw, hzw⟩ : ∃ zw, zW t.val = zw := ⟨_, rfl⟩
  rw [hzw] at HWZ ⊢
  clear hE hy hr hx hln K hzw
  go_enter Try.func51, Try.ntmps51
  go_wp2_with fail
  generalize w.alloc (.cells (txRow t q n k).toArray 84) = w0 at *
  refine KG.out.mono ?_
  rintro e w2 ⟨q2, k2, rfl, -, hb2⟩
  have KA := MgAt.new w2 62 mg0 none 0 0
  have th := KA.there
  have cs : Below w2.heap.size w2 ((w2.alloc (.cells (mgRow mg0 none 0 0).toArray 62)).setCells w2.heap.size 0 (mgRow y q2 y.data.length k2)) := below_setCells' _ (Nat.le_refl _) _ _ ((Below.refl _ _).alloc (Nat.le_refl _) _)
  have K3 := K0.out.on (hb2.trans (cs.mono hb2.size))
  have B3 := Lib.hid (HB.out.trans ((hb2.trans (cs.mono hb2.size)).mono HB.out.size))
  obtain ⟨d0, d1, d2, d3, d4, d5, d6, d7, d8, d9⟩ := K3.cells
  have szz : ((w2.alloc (.cells (mgRow mg0 none 0 0).toArray 62)).setCells w2.heap.size 0 (mgRow y q2 y.data.length k2)).heap.size = w2.heap.size + 1 := by rw [size_setCells]; simp
  clear KA cs hb2 K3 K0 c0 c1 c2 c3 c4 c5 c6 c7 c8 c9
  cases zw <;> cases h4 : (E == 0) <;> cases h2 : (t.to == 0)
  all_goals
    go_wp2_with fail
    (try rw [Exit.noGoto_ret])
    go_ret
    exact ⟨by first | rfl | (rw [h4, h2]; rfl) | (rw [h4]; rfl) | simp_all, B3.out⟩
theorem refRightTx_any {w : World} {t : Tg} {q : Option Addr} {n k : Nat} (hr : Rd w (.slice q n k) t.data) (hx : Bytes t.data) (hn : n ≤ 140737488355328) :
    Calls Try.prog 51 #[.agg (txRow t q n k).toArray] w fun e w' => e = .returned (.bool (okT t n)) ∧ Below w.heap.size w w' := by
  by_cases hg : t.gas ≤ 65536
  · by_cases hl : (n : Int) ≤ 256
    · have e0 : okT t n = okK t n := by unfold okT; rw [decide_eq_true hg, decide_eq_true hl]; rfl
      rw [e0]
      unfold okK
      by_cases h1 : t.kd = 1
      · rw [if_pos h1]; exact refRightTx_k1 hg hl h1
      · rw [if_neg h1]
        by_cases h2 : t.kd = 2
        · rw [if_pos h2]; exact refRightTx_k2 hg hl h2
        · rw [if_neg h2]
          by_cases h3 : t.kd = 3
          · rw [if_pos h3]; exact refRightTx_k3 hr hx hn hg hl h3
          · rw [if_neg h3]
            exact refRightTx_k0 hg hl h1 h2 h3
    · have e0 : okT t n = false := by unfold okT; rw [decide_eq_false hl]; simp
      rw [e0]; exact refRightTx_l hg hl
  · have e0 : okT t n = false := by unfold okT; rw [decide_eq_false hg]; simp
    rw [e0]; exact refRightTx_g hg
end Go.Proofs.Ytonjkhhihiigfaa
namespace Go.Proofs.Ytonjkhhihiigfaa
set_option maxRecDepth 100000
open Go.RowKit

theorem TxAt.grown9 {W W2 : World} {b : Nat} {m : Tg} {q : Option Addr} {n k : Nat} {u : Value} {l : Nat} {xs : List Value} (h : TxAt W b 84 m q n k) (ho : W.ownsRow 0 5 1 u l xs) (grow : W.grownBy W2 u.ownBlock) : TxAt W2 b 84 m q n k := by
  unfold TxAt at h ⊢
  rw [grow.block _ (Array.getElem?_eq_some_iff.1 h).1 (fun e => own_ne ho h (by decide) e.symm)]
  exact h

end Go.Proofs.Ytonjkhhihiigfaa
namespace Go.Proofs.Ytonjkhhihiigfaa
set_option maxRecDepth 100000
open Go.RowKit

set_option maxHeartbeats 2000000 in
theorem refRightBatch_any {w : World} {ep : Int} {q : Option Addr} {c : Nat} {L : List Tg} (hr : RdTx w q L) (ok : TgsOk L) (hn : L.length ≤ 140737488355328) :
    Calls Try.prog 38 #[.agg #[.int .u64 ep, .slice q L.length c]] w fun e w' => e = .returned (.bool (okB L)) ∧ Below w.heap.size w w' := by
  have b0 : Below w.heap.size w (w.alloc (.cells #[.int .u64 ep, .slice q L.length c] 67)) := (Below.refl _ _).alloc (Nat.le_refl _) _
  have B0 := Lib.hid b0
  have K0 : Hid ((w.alloc (.cells #[.int .u64 ep, .slice q L.length c] 67)).heap[w.heap.size]? = some (.cells #[.int .u64 ep, .slice q L.length c] 67 (0, 0))) := heap_alloc_new w (.cells #[.int .u64 ep, .slice q L.length c] 67)
  have HR : Hid (∀ W, Below w.heap.size w W → RdTx W q L) := fun W hb => hr.on hb
  have OK := Lib.hid ok
  have YES : Hid (L.length ≤ 8 → (∀ j, j < L.length → okT (L.getD j tg0) (L.getD j tg0).data.length = true) → okB L = true) := fun h1 h2 => by
    unfold okB okL
    rw [decide_eq_true h1, Bool.true_and, List.all_eq_true]
    intro t ht
    obtain ⟨i, hi, e⟩ := List.getElem_of_mem ht
    have := h2 i hi
    have e2 : L.getD i tg0 = t := by simp [List.getD, hi, e]
    rwa [e2] at this
  have NO : Hid (∀ j, j < L.length → okT (L.getD j tg0) (L.getD j tg0).data.length = false → okB L = false) := fun j hj h => by
    unfold okB okL
    rw [Bool.and_eq_false_iff]
    right
    rw [List.all_eq_false]
    exact ⟨L[j], List.getElem_mem hj, by have e2 : L.getD j tg0 = L[j] := by simp [List.getD, hj]
                                         rw [e2] at h; rw [h]; simp⟩
  have NO8 : Hid (¬ L.length ≤ 8 → okB L = false) := fun h => by unfold okB; rw [decide_eq_false h]; rfl
  obtain ⟨res, hres⟩ : ∃ res, okB L = res := ⟨_, rfl⟩
  rw [hres] at YES NO NO8 ⊢
  clear hr ok b0 hres
  go_enter Try.func38, Try.ntmps38
  go_wp2_with fail
  generalize w.alloc (.cells #[.int .u64 ep, .slice q L.length c] 67) = w0 at *
  by_cases h8 : L.length ≤ 8
  rotate_left
  · have E := NO8.out h8
    clear YES NO NO8
    go_loopw [3] (fun iv wr => iv = .int .i64 0 ∧ Hid (wr = w0)) (fun _ _ => 0)
    case atStart => exact ⟨rfl, rfl⟩
    case round =>
      obtain ⟨rfl, hw⟩ := hrel
      obtain rfl := hw.out
      have c1 := (Joins.cell_of_block K0.out 1).trans (rfl : _ = some _)
      have g1 : (0 : Int) < (L.length : Int) := by omega
      have g2 : ¬ (L.length : Int) ≤ 8 := by omega
      have g3 : decide ((L.length : Int) ≤ 8) = false := by rw [decide_eq_false_iff_not]; exact g2
      go_wp2_with fail
      go_ret
      exact ⟨by first | rfl | (rw [E]; rfl), B0.out⟩
  go_loopw [3] (fun iv wr => ∃ i : Nat, iv = .int .i64 (i : Int) ∧ i ≤ L.length ∧ Hid (∀ j, j < i → okT (L.getD j tg0) (L.getD j tg0).data.length = true) ∧ Hid (Below w.heap.size w wr) ∧ Hid (wr.heap[w.heap.size]? = some (.cells #[.int .u64 ep, .slice q L.length c] 67 (0, 0)))) (fun iv _ => L.length - (intOf iv).toNat)
  case atStart => exact ⟨0, rfl, by omega, Lib.hid (fun j hj => by omega), B0, K0⟩
  case round =>
    clear B0 K0
    obtain ⟨i, rfl, hi', hS, hB, hK⟩ := hrel
    have c1 := (Joins.cell_of_block hK.out 1).trans (rfl : _ = some _)
    have g2 : (L.length : Int) ≤ 8 := by omega
    have g3 : decide ((L.length : Int) ≤ 8) = true := by rw [decide_eq_true_iff]; exact g2
    by_cases hlt : i < L.length
    · have hne : L ≠ [] := fun e => by rw [e] at hlt; simp at hlt
      obtain ⟨b, off, rfl, hx2⟩ := (HR.out _ hB.out).resolve_left hne
      obtain ⟨qi, ki, r10, rh⟩ := hx2 i hlt
      have oks := OK.out.get hlt
      have FN : Hid (okT (L.getD i tg0) (L.getD i tg0).data.length = false → res = false) := NO.out i hlt
      have FS : Hid (okT (L.getD i tg0) (L.getD i tg0).data.length = true → ∀ j, j < i + 1 → okT (L.getD j tg0) (L.getD j tg0).data.length = true) := fun hk j hj => by
        by_cases e : j = i
        · subst e; exact hk
        · exact hS.out j (by omega)
      obtain ⟨t, htx⟩ : ∃ t, L.getD i tg0 = t := ⟨_, rfl⟩
      rw [htx] at r10 rh oks FN FS
      have hlen := txRow_len t qi t.data.length ki
      have R1 := Lib.hid rh
      have OT := Lib.hid oks
      clear hx2 hne rh oks htx hS
      go_wp2_with fail
      clear r10 c1
      refine (refRightTx_any R1.out OT.out.1.data OT.out.2).mono ?_
      rintro e w5 ⟨rfl, hb5⟩
      have B5 := Lib.hid (hB.out.trans (hb5.mono hB.out.size))
      have K5 : Hid (w5.heap[w.heap.size]? = some (.cells #[.int .u64 ep, .slice (some ⟨b, off, none⟩) L.length c] 67 (0, 0))) := by show _ = _; rw [hb5.block _ (Array.getElem?_eq_some_iff.1 hK.out).1]; exact hK.out
      clear hb5 hB hK R1
      cases hk : okT t t.data.length with
      | false =>
        have E := FN.out hk
        clear FN FS hk
        go_wp2_with fail
        go_ret
        exact ⟨by rw [E]; rfl, B5.out⟩
      | true =>
        have S5 := Lib.hid (FS.out hk)
        clear FN FS hk
        go_wp2_with fail
        go_roundw
        case rel => exact ⟨i + 1, by go_num, by omega, S5, B5, K5⟩
        case measure => simp [intOf]; omega
    · obtain rfl : i = L.length := by omega
      have E := YES.out h8 hS.out
      clear YES NO NO8 hS
      go_wp2_with fail
      go_ret
      exact ⟨by rw [E]; rfl, hB.out⟩
end Go.Proofs.Ytonjkhhihiigfaa
namespace Go.Proofs.Ytonjkhhihiigfaa
set_option maxRecDepth 100000
open Go.RowKit

end Go.Proofs.Ytonjkhhihiigfaa
namespace Go.Proofs.Ytonjkhhihiigfaa
set_option maxRecDepth 100000
open Go.RowKit

theorem rdCount_det {w : World} {p : Nat} {v : Value} {xs : List Int} {pos : Nat} {f : Bool} {most : Nat} (h : DSt w p v xs pos f) (hx : Bytes xs) (hm : most ≤ 1000000) :
    Calls Try.prog 35 #[.pointer (some ⟨p, 0, none⟩), .int .i64 (most : Int)] w fun e w' => e = .returned (.int .i64 (uV (fC f xs pos most) xs pos)) ∧ DSt w' p v xs (pos + 8) (fC f xs pos most) ∧ Chg w w' [p] := by
  have BAD : ∀ (f' : Bool) (w' : World), f' = true → DrF w' p → Chg w w' [p] → (Ending.returned (.int .i64 0) = .returned (.int .i64 (uV f' xs pos)) ∧ DSt w' p v xs (pos + 8) f' ∧ Chg w w' [p]) := fun f' w' e h1 h2 => by
    subst e
    exact ⟨rfl, DSt.mk1 h1, h2⟩
  cases f with
  | true =>
    refine (rdCount_bad (most := (most : Int)) (h.bad rfl)).mono ?_
    rintro e w' ⟨rfl, h1, h2⟩
    exact BAD _ _ (by simp [fC]) h1 h2
  | false =>
    have h0 := h.ok rfl
    by_cases hf : pos + 8 ≤ xs.length
    · have hn := nAt_bd hx pos
      obtain ⟨z, hz⟩ : ∃ z : Nat, nAt xs pos = z := ⟨(nAt xs pos).toNat, by omega⟩
      by_cases hzm : z ≤ most
      · refine (rdCount_ok h0 hx hm hf hz hzm).mono ?_
        rintro e w' ⟨rfl, h1, h2⟩
        have e1 : fC false xs pos most = false := by
          simp only [fC, Bool.false_or, Bool.or_eq_false_iff, decide_eq_false_iff_not]
          exact ⟨by omega, by omega⟩
        rw [e1]
        exact ⟨by rw [← hz]; rfl, DSt.mk0 h1, h2⟩
      · refine (rdCount_big h0 hx hm hf (by show (most : Int) < nAt xs pos; omega)).mono ?_
        rintro e w' ⟨rfl, h1, h2⟩
        exact BAD _ _ (by simp only [fC, Bool.or_eq_true, decide_eq_true_eq]; exact .inr (by omega)) h1 h2
    · refine (rdCount_end (most := (most : Int)) h0 (by omega)).mono ?_
      rintro e w' ⟨rfl, h1, h2⟩
      exact BAD _ _ (by simp only [fC, Bool.or_eq_true, decide_eq_true_eq]; exact .inl (.inr (by omega))) h1 h2
def u1 (xs : List Int) (p : Nat) (f : Bool) : Bool := fC f xs p 9
def u2 (xs : List Int) (p : Nat) (f : Bool) : Bool := fU (u1 xs p f) xs (p + 8) 8
def u3 (xs : List Int) (p : Nat) (f : Bool) : Bool := fU (u2 xs p f) xs (p + 8 + 8) 8
def u4 (xs : List Int) (p : Nat) (f : Bool) : Bool := fU (u3 xs p f) xs (p + 8 + 8 + 8) 8
def u5 (xs : List Int) (p : Nat) (f : Bool) : Bool := fU (u4 xs p f) xs (p + 8 + 8 + 8 + 8) 32
def u6 (xs : List Int) (p : Nat) (f : Bool) : Bool := fU (u5 xs p f) xs (p + 8 + 8 + 8 + 8 + 32) 8
def u7 (xs : List Int) (p : Nat) (f : Bool) : Bool := fB (u6 xs p f) xs (p + 8 + 8 + 8 + 8 + 32 + 8)
def uM (xs : List Int) (p : Nat) (f : Bool) : Tg := ⟨uV (u1 xs p f) xs p, uV (u2 xs p f) xs (p + 8), uV (u3 xs p f) xs (p + 8 + 8), uV (u4 xs p f) xs (p + 8 + 8 + 8), wV (u5 xs p f) xs (p + 8 + 8 + 8 + 8), uV (u6 xs p f) xs (p + 8 + 8 + 8 + 8 + 32), bD (u7 xs p f) xs (p + 8 + 8 + 8 + 8 + 32 + 8)⟩
def uE (xs : List Int) (p : Nat) (f : Bool) : Nat := p + 8 + 8 + 8 + 8 + 32 + 8 + 8 + (uM xs p f).data.length

section
variable {w : World} {b : Nat} {t : TypeId} {a0 a1 a2 a3 a5 : Int} {x4 : W4} {D : List Int} {q : Option Addr} {n k : Nat}
theorem TxAt.st1 (h : TxAt w b t ⟨a0, a1, a2, a3, x4, a5, D⟩ q n k) (z : Int) : TxAt (w.setCell ⟨b, 1, none⟩ (.int .u64 z)) b t ⟨a0, z, a2, a3, x4, a5, D⟩ q n k := by
  unfold TxAt at h ⊢
  rw [Joins.block_setCell (i := 1) h]; rfl
theorem TxAt.st2 (h : TxAt w b t ⟨a0, a1, a2, a3, x4, a5, D⟩ q n k) (z : Int) : TxAt (w.setCell ⟨b, 2, none⟩ (.int .u64 z)) b t ⟨a0, a1, z, a3, x4, a5, D⟩ q n k := by
  unfold TxAt at h ⊢
  rw [Joins.block_setCell (i := 2) h]; rfl
theorem TxAt.st3 (h : TxAt w b t ⟨a0, a1, a2, a3, x4, a5, D⟩ q n k) (z : Int) : TxAt (w.setCell ⟨b, 3, none⟩ (.int .u64 z)) b t ⟨a0, a1, a2, z, x4, a5, D⟩ q n k := by
  unfold TxAt at h ⊢
  rw [Joins.block_setCell (i := 3) h]; rfl
theorem TxAt.st8 (h : TxAt w b t ⟨a0, a1, a2, a3, x4, a5, D⟩ q n k) (z : Int) : TxAt (w.setCell ⟨b, 8, none⟩ (.int .u64 z)) b t ⟨a0, a1, a2, a3, x4, z, D⟩ q n k := by
  unfold TxAt at h ⊢
  rw [Joins.block_setCell (i := 8) h]; rfl
theorem TxAt.st4 (h : TxAt w b t ⟨a0, a1, a2, a3, x4, a5, D⟩ q n k) (y : W4) : TxAt ((((w.setCell ⟨b, 4, none⟩ (.int .u64 y.a)).setCell ⟨b, 5, none⟩ (.int .u64 y.b)).setCell ⟨b, 6, none⟩ (.int .u64 y.c)).setCell ⟨b, 7, none⟩ (.int .u64 y.d)) b t ⟨a0, a1, a2, a3, y, a5, D⟩ q n k := by
  unfold TxAt at h ⊢
  rw [Joins.block_setCell (i := 7) (Joins.block_setCell (i := 6) (Joins.block_setCell (i := 5) (Joins.block_setCell (i := 4) h _) _) _)]; rfl
theorem TxAt.st9 (h : TxAt w b t ⟨a0, a1, a2, a3, x4, a5, D⟩ q n k) (D' : List Int) (q' : Option Addr) (n' k' : Nat) : TxAt (w.setCell ⟨b, 9, none⟩ (.slice q' n' k')) b t ⟨a0, a1, a2, a3, x4, a5, D'⟩ q' n' k' := by
  unfold TxAt at h ⊢
  rw [Joins.block_setCell (i := 9) h]; rfl
end
theorem TxAt.off {w : World} {b : Nat} {t e : TypeId} {m : Tg} {q : Option Addr} {n k l : Nat} {v : Value} {ys : List Value} (h : TxAt w b t m q n k) (ho : w.ownsRow 0 e 1 v l ys) (ht : t ≠ e) : ∀ g, v.ownBlock = some g → g ∉ [b] := fun g hg hm => by
  obtain rfl : g = b := by simpa using hm
  exact own_ne ho h ht hg
theorem DSt.offT {w : World} {b p pos : Nat} {v : Value} {xs : List Int} {f : Bool} {m : Tg} {q : Option Addr} {n k : Nat} (h : DSt w p v xs pos f) (hK : TxAt w b 84 m q n k) : b ≠ p := fun e => by
  subst e
  unfold TxAt at hK
  cases f with
  | false =>
    have h1 := (h.ok rfl).blk
    rw [hK] at h1
    exact absurd (Obj.cells.inj (Option.some.inj h1)).2.1 (by decide)
  | true =>
    obtain ⟨_, _, _, _, h1⟩ := h.bad rfl
    rw [hK] at h1
    exact absurd (Obj.cells.inj (Option.some.inj h1)).2.1 (by decide)
theorem Try.run_tx1r (w : World) (z : Int) : (rowBuild 84 #[(0, .int .i64 z)]).run Try.prog w = .ok (.agg (txRow ⟨z, 0, 0, 0, ⟨0, 0, 0, 0⟩, 0, []⟩ none 0 0).toArray) w := by unfold rowBuild; kernel_rfl

set_option maxHeartbeats 3000000 in
theorem reftx_any {w : World} {p pos : Nat} {v : Value} {xs : List Int} {f : Bool} (hS : DSt w p v xs pos f) (hx : Bytes xs) :
    Calls Try.prog 36 #[.pointer (some ⟨p, 0, none⟩)] w fun e w' => ∃ q k, e = .returned (.agg (txRow (uM xs pos f) q (uM xs pos f).data.length k).toArray) ∧ DSt w' p v xs (uE xs pos f) (u7 xs pos f) ∧ Rd w' (.slice q (uM xs pos f).data.length k) (uM xs pos f).data ∧ (∀ g, (Value.slice q (uM xs pos f).data.length k).ownBlock = some g → w.heap.size ≤ g) ∧ Chg w w' [p] := by
  have BX := Lib.hid hx
  have MM : Hid (uM xs pos f = ⟨uV (u1 xs pos f) xs pos, uV (u2 xs pos f) xs (pos + 8), uV (u3 xs pos f) xs (pos + 8 + 8), uV (u4 xs pos f) xs (pos + 8 + 8 + 8), wV (u5 xs pos f) xs (pos + 8 + 8 + 8 + 8), uV (u6 xs pos f) xs (pos + 8 + 8 + 8 + 8 + 32), bD (u7 xs pos f) xs (pos + 8 + 8 + 8 + 8 + 32 + 8)⟩) := rfl
  have ME : Hid (uE xs pos f = pos + 8 + 8 + 8 + 8 + 32 + 8 + 8 + (uM xs pos f).data.length) := rfl
  obtain ⟨f1, e1⟩ : ∃ f', u1 xs pos f = f' := ⟨_, rfl⟩
  obtain ⟨f2, e2⟩ : ∃ f', u2 xs pos f = f' := ⟨_, rfl⟩
  obtain ⟨f3, e3⟩ : ∃ f', u3 xs pos f = f' := ⟨_, rfl⟩
  obtain ⟨f4, e4⟩ : ∃ f', u4 xs pos f = f' := ⟨_, rfl⟩
  obtain ⟨f5, e5⟩ : ∃ f', u5 xs pos f = f' := ⟨_, rfl⟩
  obtain ⟨f6, e6⟩ : ∃ f', u6 xs pos f = f' := ⟨_, rfl⟩
  obtain ⟨f7, e7⟩ : ∃ f', u7 xs pos f = f' := ⟨_, rfl⟩
  rw [e1, e2, e3, e4, e5, e6, e7] at MM
  have d1 := Lib.hid (show fC f xs pos 9 = f1 from e1)
  have d2 := Lib.hid (show fU f1 xs (pos + 8) 8 = f2 by rw [← e1]; exact e2)
  have d3 := Lib.hid (show fU f2 xs (pos + 8 + 8) 8 = f3 by rw [← e2]; exact e3)
  have d4 := Lib.hid (show fU f3 xs (pos + 8 + 8 + 8) 8 = f4 by rw [← e3]; exact e4)
  have d5 := Lib.hid (show fU f4 xs (pos + 8 + 8 + 8 + 8) 32 = f5 by rw [← e4]; exact e5)
  have d6 := Lib.hid (show fU f5 xs (pos + 8 + 8 + 8 + 8 + 32) 8 = f6 by rw [← e5]; exact e6)
  have d7 := Lib.hid (show fB f6 xs (pos + 8 + 8 + 8 + 8 + 32 + 8) = f7 by rw [← e6]; exact e7)
  have E7 := Lib.hid e7
  obtain ⟨z1, h1⟩ : ∃ z, uV f1 xs (pos) = z := ⟨_, rfl⟩
  obtain ⟨z2, h2⟩ : ∃ z, uV f2 xs (pos + 8) = z := ⟨_, rfl⟩
  obtain ⟨z3, h3⟩ : ∃ z, uV f3 xs (pos + 8 + 8) = z := ⟨_, rfl⟩
  obtain ⟨z4, h4⟩ : ∃ z, uV f4 xs (pos + 8 + 8 + 8) = z := ⟨_, rfl⟩
  obtain ⟨x5, h5⟩ : ∃ z, wV f5 xs (pos + 8 + 8 + 8 + 8) = z := ⟨_, rfl⟩
  obtain ⟨z6, h6⟩ : ∃ z, uV f6 xs (pos + 8 + 8 + 8 + 8 + 32) = z := ⟨_, rfl⟩
  obtain ⟨D7, h7⟩ : ∃ z, bD f7 xs (pos + 8 + 8 + 8 + 8 + 32 + 8) = z := ⟨_, rfl⟩
  rw [h1, h2, h3, h4, h5, h6, h7] at MM
  have Z1 := Lib.hid h1
  have Z2 := Lib.hid h2
  have Z3 := Lib.hid h3
  have Z4 := Lib.hid h4
  have Z5 := Lib.hid h5
  have Z6 := Lib.hid h6
  have Z7 := Lib.hid h7
  have b0 : Below w.heap.size w (w.alloc (.cells (txRow tg0 none 0 0).toArray 84)) := (Below.refl _ _).alloc (Nat.le_refl _) _
  have R0 := Lib.hid (TxAt.new w 84 tg0 none 0 0)
  have S0 := Lib.hid (hS.on b0)
  have hpw := hS.lt
  have C0 : Hid (Chg w (w.alloc (.cells (txRow tg0 none 0 0).toArray 84)) [p]) := Chg.below b0 (Nat.le_refl _) [p]
  clear hS hx e1 e2 e3 e4 e5 e6 e7 h1 h2 h3 h4 h5 h6 h7 b0
  go_enter Try.func36, Try.ntmps36
  go_wp2_with fail
  generalize w.alloc (.cells (txRow tg0 none 0 0).toArray 84) = w0 at *
  refine (rdCount_det S0.out BX.out (most := 9) (by omega)).mono ?_
  rintro e w1 ⟨rfl, hs1, hc1⟩
  rw [d1.out] at hs1 ⊢
  rw [Z1.out]
  have b1 : Below w1.heap.size w1 (w1.alloc (.cells (txRow tg0 none 0 0).toArray 84)) := (Below.refl _ _).alloc (Nat.le_refl _) _
  have hm1 := fun W => Try.run_tx1r W z1
  have hrl : Hid (w.heap.size < w1.heap.size) := Nat.lt_of_lt_of_le R0.out.lt hc1.size
  have KA := TxAt.new w1 84 tg0 none 0 0
  have R1 := R0.out.chg hc1 (by simp; omega)
  have th := KA.there
  have cs : Chg (w1.alloc (.cells (txRow tg0 none 0 0).toArray 84)) ((w1.alloc (.cells (txRow tg0 none 0 0).toArray 84)).setCells w1.heap.size 0 (txRow ⟨z1, 0, 0, 0, ⟨0, 0, 0, 0⟩, 0, []⟩ none 0 0)) [w1.heap.size] := chg_setCells _ _ _ (Chg.refl _ _)
  have K2 := Lib.hid (KA.put ⟨z1, 0, 0, 0, ⟨0, 0, 0, 0⟩, 0, []⟩ none 0 0)
  have R2 := Lib.hid ((R1.on b1).chg cs (by have := hrl.out; simp; omega))
  have S2 := Lib.hid ((hs1.on b1).chg2 cs (by have := hs1.lt; simp; omega) (fun ho => KA.off ho (by decide)))
  have C2 : Hid (Chg w ((w1.alloc (.cells (txRow tg0 none 0 0).toArray 84)).setCells w1.heap.size 0 (txRow ⟨z1, 0, 0, 0, ⟨0, 0, 0, 0⟩, 0, []⟩ none 0 0)) [p]) := ((C0.out.trans hc1 (fun x hx _ => hx)).trans (Chg.below b1 (Nat.le_refl _) [p]) (fun x hx _ => hx)).trans cs (fun x hx hl => by have := hrl.out; simp at hx; omega)
  have szz : ((w1.alloc (.cells (txRow tg0 none 0 0).toArray 84)).setCells w1.heap.size 0 (txRow ⟨z1, 0, 0, 0, ⟨0, 0, 0, 0⟩, 0, []⟩ none 0 0)).heap.size = w1.heap.size + 1 := by rw [size_setCells]; simp
  clear hs1 hc1 b1 KA R1 cs R0 S0 C0
  go_wp2_with fail
  clear hm1 th szz
  obtain ⟨b, hbe⟩ : ∃ b, w1.heap.size = b := ⟨_, rfl⟩
  rw [hbe] at K2 R2 S2 C2 hrl ⊢
  generalize (w1.alloc (.cells (txRow tg0 none 0 0).toArray 84)).setCells b 0 (txRow ⟨z1, 0, 0, 0, ⟨0, 0, 0, 0⟩, 0, []⟩ none 0 0) = w2 at *
  clear hbe
  have HBP := Lib.hid (S2.out.offT K2.out)
  have HBR : Hid (w.heap.size ≠ p) := by show _ ≠ _; omega
  refine (rdUint_st S2.out BX.out).mono ?_
  rintro e v3 ⟨rfl, hs, hc⟩
  rw [d2.out] at hs ⊢
  rw [Z2.out]
  have T3 := Lib.hid hs
  have L3 := Lib.hid (K2.out.chg hc (by have := HBP.out; simpa using this))
  have Q3 := Lib.hid (R2.out.chg hc (by have := hrl.out; have := HBR.out; simp; omega))
  have D3 : Hid (Chg w v3 [p]) := C2.out.trans hc (fun x hx _ => hx)
  clear hs hc S2 K2 R2 C2
  obtain ⟨-, c1, -, -, -, -, -, -, -, -⟩ := L3.out.cells
  have y1 := L3.out.frees 1
  have cs : Chg v3 (v3.setCell ⟨b, 1, none⟩ (.int .u64 z2)) [b] := ((Chg.refl _ [b]).setCell (p := ⟨b, 1, none⟩) (.inl (by simp)) _)
  have K3 := Lib.hid (L3.out.st1 z2)
  have S3 := Lib.hid (T3.out.chg2 cs (by have := HBP.out; simpa using Ne.symm this) (fun ho => L3.out.off ho (by decide)))
  have R3 := Lib.hid (Q3.out.chg cs (by have := hrl.out; simp; omega))
  have C3 : Hid (Chg w (v3.setCell ⟨b, 1, none⟩ (.int .u64 z2)) [p]) := D3.out.trans cs (fun x hx hl => by have := hrl.out; simp at hx; omega)
  clear cs T3 L3 Q3 D3
  go_wp2_with fail
  clear c1 y1
  generalize (v3.setCell ⟨b, 1, none⟩ (.int .u64 z2)) = w3 at *
  refine (rdUint_st S3.out BX.out).mono ?_
  rintro e v4 ⟨rfl, hs, hc⟩
  rw [d3.out] at hs ⊢
  rw [Z3.out]
  have T4 := Lib.hid hs
  have L4 := Lib.hid (K3.out.chg hc (by have := HBP.out; simpa using this))
  have Q4 := Lib.hid (R3.out.chg hc (by have := hrl.out; have := HBR.out; simp; omega))
  have D4 : Hid (Chg w v4 [p]) := C3.out.trans hc (fun x hx _ => hx)
  clear hs hc S3 K3 R3 C3
  obtain ⟨-, -, c2, -, -, -, -, -, -, -⟩ := L4.out.cells
  have y2 := L4.out.frees 2
  have cs : Chg v4 (v4.setCell ⟨b, 2, none⟩ (.int .u64 z3)) [b] := ((Chg.refl _ [b]).setCell (p := ⟨b, 2, none⟩) (.inl (by simp)) _)
  have K4 := Lib.hid (L4.out.st2 z3)
  have S4 := Lib.hid (T4.out.chg2 cs (by have := HBP.out; simpa using Ne.symm this) (fun ho => L4.out.off ho (by decide)))
  have R4 := Lib.hid (Q4.out.chg cs (by have := hrl.out; simp; omega))
  have C4 : Hid (Chg w (v4.setCell ⟨b, 2, none⟩ (.int .u64 z3)) [p]) := D4.out.trans cs (fun x hx hl => by have := hrl.out; simp at hx; omega)
  clear cs T4 L4 Q4 D4
  go_wp2_with fail
  clear c2 y2
  generalize (v4.setCell ⟨b, 2, none⟩ (.int .u64 z3)) = w4 at *
  refine (rdUint_st S4.out BX.out).mono ?_
  rintro e v5 ⟨rfl, hs, hc⟩
  rw [d4.out] at hs ⊢
  rw [Z4.out]
  have T5 := Lib.hid hs
  have L5 := Lib.hid (K4.out.chg hc (by have := HBP.out; simpa using this))
  have Q5 := Lib.hid (R4.out.chg hc (by have := hrl.out; have := HBR.out; simp; omega))
  have D5 : Hid (Chg w v5 [p]) := C4.out.trans hc (fun x hx _ => hx)
  clear hs hc S4 K4 R4 C4
  obtain ⟨-, -, -, c3, -, -, -, -, -, -⟩ := L5.out.cells
  have y3 := L5.out.frees 3
  have cs : Chg v5 (v5.setCell ⟨b, 3, none⟩ (.int .u64 z4)) [b] := ((Chg.refl _ [b]).setCell (p := ⟨b, 3, none⟩) (.inl (by simp)) _)
  have K5 := Lib.hid (L5.out.st3 z4)
  have S5 := Lib.hid (T5.out.chg2 cs (by have := HBP.out; simpa using Ne.symm this) (fun ho => L5.out.off ho (by decide)))
  have R5 := Lib.hid (Q5.out.chg cs (by have := hrl.out; simp; omega))
  have C5 : Hid (Chg w (v5.setCell ⟨b, 3, none⟩ (.int .u64 z4)) [p]) := D5.out.trans cs (fun x hx hl => by have := hrl.out; simp at hx; omega)
  clear cs T5 L5 Q5 D5
  go_wp2_with fail
  clear c3 y3
  generalize (v5.setCell ⟨b, 3, none⟩ (.int .u64 z4)) = w5 at *
  refine (rdWide_st S5.out BX.out).mono ?_
  rintro e v6 ⟨rfl, hs, hc⟩
  rw [d5.out] at hs ⊢
  rw [Z5.out]
  unfold w4v
  have T6 := Lib.hid hs
  have L6 := Lib.hid (K5.out.chg hc (by have := HBP.out; simpa using this))
  have Q6 := Lib.hid (R5.out.chg hc (by have := hrl.out; have := HBR.out; simp; omega))
  have D6 : Hid (Chg w v6 [p]) := C5.out.trans hc (fun x hx _ => hx)
  clear hs hc S5 K5 R5 C5
  obtain ⟨-, -, -, -, c4, c5, c6, c7, -, -⟩ := L6.out.cells
  have y4 := L6.out.frees 4
  have y5 := L6.out.frees 5
  have y6 := L6.out.frees 6
  have y7 := L6.out.frees 7
  have cs : Chg v6 ((((v6.setCell ⟨b, 4, none⟩ (.int .u64 x5.a)).setCell ⟨b, 5, none⟩ (.int .u64 x5.b)).setCell ⟨b, 6, none⟩ (.int .u64 x5.c)).setCell ⟨b, 7, none⟩ (.int .u64 x5.d)) [b] := (((((Chg.refl _ [b]).setCell (p := ⟨b, 4, none⟩) (.inl (by simp)) _).setCell (p := ⟨b, 5, none⟩) (.inl (by simp)) _).setCell (p := ⟨b, 6, none⟩) (.inl (by simp)) _).setCell (p := ⟨b, 7, none⟩) (.inl (by simp)) _)
  have K6 := Lib.hid (L6.out.st4 x5)
  have S6 := Lib.hid (T6.out.chg2 cs (by have := HBP.out; simpa using Ne.symm this) (fun ho => L6.out.off ho (by decide)))
  have R6 := Lib.hid (Q6.out.chg cs (by have := hrl.out; simp; omega))
  have C6 : Hid (Chg w ((((v6.setCell ⟨b, 4, none⟩ (.int .u64 x5.a)).setCell ⟨b, 5, none⟩ (.int .u64 x5.b)).setCell ⟨b, 6, none⟩ (.int .u64 x5.c)).setCell ⟨b, 7, none⟩ (.int .u64 x5.d)) [p]) := D6.out.trans cs (fun x hx hl => by have := hrl.out; simp at hx; omega)
  clear cs T6 L6 Q6 D6
  go_wp2_with fail
  clear c4 c5 c6 c7 y4 y5 y6 y7
  generalize ((((v6.setCell ⟨b, 4, none⟩ (.int .u64 x5.a)).setCell ⟨b, 5, none⟩ (.int .u64 x5.b)).setCell ⟨b, 6, none⟩ (.int .u64 x5.c)).setCell ⟨b, 7, none⟩ (.int .u64 x5.d)) = w6 at *
  refine (rdUint_st S6.out BX.out).mono ?_
  rintro e v7 ⟨rfl, hs, hc⟩
  rw [d6.out] at hs ⊢
  rw [Z6.out]
  have T7 := Lib.hid hs
  have L7 := Lib.hid (K6.out.chg hc (by have := HBP.out; simpa using this))
  have Q7 := Lib.hid (R6.out.chg hc (by have := hrl.out; have := HBR.out; simp; omega))
  have D7 : Hid (Chg w v7 [p]) := C6.out.trans hc (fun x hx _ => hx)
  clear hs hc S6 K6 R6 C6
  obtain ⟨-, -, -, -, -, -, -, -, c8, -⟩ := L7.out.cells
  have y8 := L7.out.frees 8
  have cs : Chg v7 (v7.setCell ⟨b, 8, none⟩ (.int .u64 z6)) [b] := ((Chg.refl _ [b]).setCell (p := ⟨b, 8, none⟩) (.inl (by simp)) _)
  have K7 := Lib.hid (L7.out.st8 z6)
  have S7 := Lib.hid (T7.out.chg2 cs (by have := HBP.out; simpa using Ne.symm this) (fun ho => L7.out.off ho (by decide)))
  have R7 := Lib.hid (Q7.out.chg cs (by have := hrl.out; simp; omega))
  have C7 : Hid (Chg w (v7.setCell ⟨b, 8, none⟩ (.int .u64 z6)) [p]) := D7.out.trans cs (fun x hx hl => by have := hrl.out; simp at hx; omega)
  clear cs T7 L7 Q7 D7
  go_wp2_with fail
  clear c8 y8
  generalize (v7.setCell ⟨b, 8, none⟩ (.int .u64 z6)) = w7 at *
  refine (rdBlob_st S7.out BX.out).mono ?_
  rintro e v8 ⟨q7, k7, rfl, hr7, hf7, hs, hc⟩
  rw [d7.out] at hr7 hf7 hs ⊢
  rw [Z7.out] at hr7 hf7 hs ⊢
  have hb6 := K7.out.lt
  have T8 := Lib.hid hs
  have L8 := Lib.hid (K7.out.chg hc (by have := HBP.out; simpa using this))
  have Q8 := Lib.hid (R7.out.chg hc (by have := hrl.out; have := HBR.out; simp; omega))
  have D8 : Hid (Chg w v8 [p]) := C7.out.trans hc (fun x hx _ => hx)
  have A8 : Hid (Rd (v8.setCell ⟨b, 9, none⟩ (.slice q7 D7.length k7)) (.slice q7 D7.length k7) D7) := hr7.setCell (a := ⟨b, 9, none⟩) (fun e => by have h9 : w7.heap.size ≤ b := hf7 _ e; omega) _
  have hw6 : Hid (w.heap.size < w7.heap.size) := by have := hrl.out; show _ < _; omega
  have F8 : Hid (∀ g, (Value.slice q7 D7.length k7).ownBlock = some g → w.heap.size < g) := fun g hg => Nat.lt_of_lt_of_le hw6.out (hf7 g hg)
  clear hs hc S7 K7 R7 C7 hr7 hf7 hb6 hw6
  obtain ⟨-, -, -, -, -, -, -, -, -, c9⟩ := L8.out.cells
  have y9 := L8.out.frees 9
  have cs : Chg v8 (v8.setCell ⟨b, 9, none⟩ (.slice q7 D7.length k7)) [b] := ((Chg.refl _ [b]).setCell (p := ⟨b, 9, none⟩) (.inl (by simp)) _)
  have K8 := Lib.hid (L8.out.st9 D7 q7 D7.length k7)
  have S8 := Lib.hid (T8.out.chg2 cs (by have := HBP.out; simpa using Ne.symm this) (fun ho => L8.out.off ho (by decide)))
  have R8 := Lib.hid (Q8.out.chg cs (by have := hrl.out; simp; omega))
  have C8 : Hid (Chg w (v8.setCell ⟨b, 9, none⟩ (.slice q7 D7.length k7)) [p]) := D8.out.trans cs (fun x hx hl => by have := hrl.out; simp at hx; omega)
  clear cs T8 L8 Q8 D8
  have hrow := K8.out.row
  have th := R8.out.there
  have MD : uM xs pos f = ⟨z1, z2, z3, z4, x5, z6, D7⟩ := MM.out
  have hput := (R8.out.put ⟨z1, z2, z3, z4, x5, z6, D7⟩ q7 D7.length k7).row
  have cs : Chg (v8.setCell ⟨b, 9, none⟩ (.slice q7 D7.length k7)) ((v8.setCell ⟨b, 9, none⟩ (.slice q7 D7.length k7)).setCells w.heap.size 0 (txRow ⟨z1, z2, z3, z4, x5, z6, D7⟩ q7 D7.length k7)) [w.heap.size] := chg_setCells _ _ _ (Chg.refl _ _)
  have SF := Lib.hid (S8.out.chg2 cs (by have := HBR.out; simpa using Ne.symm this) (fun ho => R8.out.off ho (by decide)))
  have CF : Hid (Chg w ((v8.setCell ⟨b, 9, none⟩ (.slice q7 D7.length k7)).setCells w.heap.size 0 (txRow ⟨z1, z2, z3, z4, x5, z6, D7⟩ q7 D7.length k7)) [p]) := C8.out.trans cs (fun x hx hl => by simp at hx; omega)
  have AF : Hid (Rd ((v8.setCell ⟨b, 9, none⟩ (.slice q7 D7.length k7)).setCells w.heap.size 0 (txRow ⟨z1, z2, z3, z4, x5, z6, D7⟩ q7 D7.length k7)) (.slice q7 D7.length k7) D7) := A8.out.chg cs (fun _ g hg _ hm => by
    obtain rfl : g = w.heap.size := by simpa using hm
    have := F8.out _ hg
    omega)
  have HMD := Lib.hid MD
  clear cs S8 C8 A8 MD K8 MM
  go_wp2_with fail
  refine bodyPost_ret (v := .agg (txRow ⟨z1, z2, z3, z4, x5, z6, D7⟩ q7 D7.length k7).toArray) (by simp [results, Try.results36, go_sem, hput]) rfl ?_
  have MDD : (uM xs pos f).data = D7 := by rw [HMD.out]
  rw [ME.out, MDD, E7.out]
  exact ⟨q7, k7, by rw [HMD.out], SF.out, AF.out, fun g hg => Nat.le_of_lt (F8.out g hg), CF.out⟩
end Go.Proofs.Ytonjkhhihiigfaa
namespace Go.Proofs.Ytonjkhhihiigfaa
set_option maxRecDepth 100000
open Go.RowKit

def rIt (xs : List Int) : Nat → List Tg × Nat × Bool
  | 0 => ([], 16, fC (fU false xs 0 8) xs 8 8)
  | i + 1 => ((rIt xs i).1 ++ [uM xs (rIt xs i).2.1 (rIt xs i).2.2], uE xs (rIt xs i).2.1 (rIt xs i).2.2, u7 xs (rIt xs i).2.1 (rIt xs i).2.2)
theorem rIt_len (xs : List Int) : ∀ i, (rIt xs i).1.length = i
  | 0 => rfl
  | i + 1 => by simp [rIt, rIt_len xs i]
theorem fU_true (xs : List Int) (p k : Nat) : fU true xs p k = true := by simp [fU]
theorem t7_of {xs : List Int} {p : Nat} {f : Bool} (h : t1 xs p f = true) : t7 xs p f = true := by
  simp [t7, t6, t5, t4, t3, t2, h, fU, fB]
theorem t7_true (xs : List Int) (p : Nat) : t7 xs p true = true := t7_of (by simp [t1, fC])
theorem u7_true (xs : List Int) (p : Nat) : u7 xs p true = true := by
  simp [u7, u6, u5, u4, u3, u2, u1, fU, fB, fC]
theorem tu_same {xs : List Int} {p : Nat} {f : Bool} (h : t1 xs p f = u1 xs p f) : tM xs p f = uM xs p f ∧ tE xs p f = uE xs p f ∧ t7 xs p f = u7 xs p f := by
  have h2 : t2 xs p f = u2 xs p f := by simp [t2, u2, h]
  have h3 : t3 xs p f = u3 xs p f := by simp [t3, u3, h2]
  have h4 : t4 xs p f = u4 xs p f := by simp [t4, u4, h3]
  have h5 : t5 xs p f = u5 xs p f := by simp [t5, u5, h4]
  have h6 : t6 xs p f = u6 xs p f := by simp [t6, u6, h5]
  have h7 : t7 xs p f = u7 xs p f := by simp [t7, u7, h6]
  have hM : tM xs p f = uM xs p f := by simp only [tM, uM, h, h2, h3, h4, h5, h6, h7]
  exact ⟨hM, by simp only [tE, uE, hM], h7⟩
theorem tu_apart {xs : List Int} {p : Nat} {f : Bool} (h : ¬ t1 xs p f = u1 xs p f) : t1 xs p f = true ∧ 3 < (uM xs p f).kd := by
  cases hf : f with
  | true => exact absurd (by simp [t1, u1, fC, hf]) h
  | false =>
    subst hf
    by_cases hl : xs.length < p + 8
    · exact absurd (by simp [t1, u1, fC, hl]) h
    · by_cases h3 : (3 : Int) < nAt xs p
      · by_cases h9 : (9 : Int) < nAt xs p
        · exact absurd (by simp [t1, u1, fC, hl, h3, h9]) h
        · refine ⟨by simp [t1, fC, h3], ?_⟩
          have e : u1 xs p false = false := by simp [u1, fC, hl]; omega
          simp only [uM, e]
          exact h3
      · exact absurd (by
          have h9 : ¬ (9 : Int) < nAt xs p := by omega
          simp [t1, u1, fC, hl, h3, h9]) h
/-- How the two readers stand to each other. -/
theorem two_read (xs : List Int) : ∀ i, bIt xs i = rIt xs i ∨ ((bIt xs i).2.2 = true ∧ ((rIt xs i).2.2 = true ∨ ∃ t ∈ (rIt xs i).1, 3 < t.kd))
  | 0 => .inl rfl
  | i + 1 => by
    rcases two_read xs i with e | ⟨e1, e2⟩
    · by_cases h : t1 xs (rIt xs i).2.1 (rIt xs i).2.2 = u1 xs (rIt xs i).2.1 (rIt xs i).2.2
      · obtain ⟨h1, h2, h3⟩ := tu_same h
        left
        simp only [bIt, rIt, e, h1, h2, h3]
      · obtain ⟨h1, h2⟩ := tu_apart h
        right
        refine ⟨?_, .inr ⟨_, ?_, h2⟩⟩
        · simp only [bIt, e]
          exact t7_of h1
        · simp [rIt]
    · right
      refine ⟨?_, ?_⟩
      · simp only [bIt, e1]
        exact t7_true _ _
      · rcases e2 with e2 | ⟨t, ht, hk⟩
        · left
          simp only [rIt, e2]
          exact u7_true _ _
        · exact .inr ⟨t, by simp only [rIt]; exact List.mem_append.2 (.inl ht), hk⟩
theorem bIt_stays (xs : List Int) {i : Nat} (h : (bIt xs i).2.2 = true) : ∀ k, (bIt xs (i + k)).2.2 = true
  | 0 => h
  | k + 1 => by
    rw [← Nat.add_assoc]
    simp only [bIt, bIt_stays xs h k]
    exact t7_true _ _
theorem bOk_bad {xs : List Int} {i : Nat} (h : (bIt xs i).2.2 = true) (hi : i ≤ bN xs) : bOk xs = false := by
  have := bIt_stays xs h (bN xs - i)
  rw [Nat.add_sub_cancel' hi] at this
  simp [bOk, brOk, this]
/-- The document's reader has come upon an error: the program's answer is ErrForm too. -/
theorem two_bad {xs : List Int} {i : Nat} (h : (rIt xs i).2.2 = true) (hi : i ≤ bN xs) : bOk xs = false := by
  rcases two_read xs i with e | ⟨e, _⟩
  · exact bOk_bad (by rw [e]; exact h) hi
  · exact bOk_bad e hi
theorem okB_kd {L : List Tg} {t : Tg} (ht : t ∈ L) (hk : 3 < t.kd) : okB L = false := by
  cases h : okB L with
  | false => rfl
  | true =>
    unfold okB okL at h
    rw [Bool.and_eq_true, List.all_eq_true] at h
    have := okT_kd3 (h.2 t ht)
    omega
/-- The document's reader has read to the end: its answer is the program's. -/
theorem two_end {xs : List Int} (h : (rIt xs (bN xs)).2.2 = false) : bOk xs = (decide ((rIt xs (bN xs)).2.1 = xs.length) && okB (rIt xs (bN xs)).1) ∧ (bOk xs = true → (rIt xs (bN xs)).1 = (bIt xs (bN xs)).1) := by
  rcases two_read xs (bN xs) with e | ⟨e1, e2⟩
  · refine ⟨?_, fun _ => by rw [e]⟩
    simp [bOk, brOk, e, h]
  · have hb := bOk_bad e1 (Nat.le_refl _)
    rcases e2 with e2 | ⟨t, ht, hk⟩
    · rw [e2] at h; cases h
    · refine ⟨?_, fun h2 => by rw [hb] at h2; cases h2⟩
      rw [hb, okB_kd ht hk, Bool.and_false]
end Go.Proofs.Ytonjkhhihiigfaa
namespace Go.Proofs.Ytonjkhhihiigfaa
set_option maxRecDepth 100000
open Go.RowKit

/-- The reader p, the batch under way in block b, its rows, the result's cell at w's size. -/
structure RxS (w W : World) (p b : Nat) (v1 : Value) (xs : List Int) (ep : Int) (pos : Nat) (f : Bool) (q : Option Addr) (c : Nat) (L : List Tg) (done : List Value) : Prop where
  rd : DSt W p v1 xs pos f
  blk : W.heap[b]? = some (.cells #[.int .u64 ep, .slice q L.length c] 67 (0, 0))
  res : W.heap[w.heap.size]? = some (.cells #[.int .u64 0, .slice none 0 0] 67 (0, 0))
  own : W.ownsRow 0 84 10 (.slice q L.length c) L.length done
  len : done.length = L.length * 10
  rows : ∀ j, j < L.length → ∃ qd kd, (done.drop (j * 10)).take 10 = txRow (L.getD j tg0) qd (L.getD j tg0).data.length kd ∧ Rd W (.slice qd (L.getD j tg0).data.length kd) (L.getD j tg0).data ∧ ∀ g, (L.getD j tg0).data ≠ [] → (Value.slice qd (L.getD j tg0).data.length kd).ownBlock = some g → b < g ∧ (Value.slice q L.length c).ownBlock ≠ some g
  fresh : ∀ g, (Value.slice q L.length c).ownBlock = some g → w.heap.size ≤ g
  below : Below w.heap.size w W
  hp : w.heap.size < p
  hb : p < b
section
variable {w W W' : World} {p b pos pos' c : Nat} {v1 : Value} {xs : List Int} {ep : Int} {f f' : Bool} {q : Option Addr} {L : List Tg} {done : List Value}
theorem RxS.chg (h : RxS w W p b v1 xs ep pos f q c L done) (hc : Chg W W' [p]) (hV : DSt W' p v1 xs pos' f') (hpo : (Value.slice q L.length c).ownBlock ≠ some p) : RxS w W' p b v1 xs ep pos' f' q c L done := by
  have h1 := h.hp
  have h2 := h.hb
  refine ⟨hV, ?_, ?_, own_keep h.own (fun k hk => hc.block k (own_lt h.own hk) (fun hm => ?_)), h.len, fun j hj => ?_, h.fresh, h.below.trans (hc.toBelow h.below.size (fun k hk => by simp at hk; omega)), h1, h2⟩
  · rw [hc.block b (Array.getElem?_eq_some_iff.1 h.blk).1 (by simp; omega)]; exact h.blk
  · rw [hc.block _ (Array.getElem?_eq_some_iff.1 h.res).1 (by simp; omega)]; exact h.res
  · obtain rfl : k = p := by simpa using hm
    exact hpo hk
  · obtain ⟨qd, kd, e1, e2, e3⟩ := h.rows j hj
    refine ⟨qd, kd, e1, e2.chg hc (fun hne k hk _ hm => ?_), e3⟩
    have := (e3 k hne hk).1
    simp at hm
    omega
theorem RxS.on (h : RxS w W p b v1 xs ep pos f q c L done) (hb : Below W.heap.size W W') : RxS w W' p b v1 xs ep pos f q c L done := by
  refine ⟨h.rd.on hb, ?_, ?_, own_on h.own hb, h.len, fun j hj => ?_, h.fresh, h.below.trans (hb.mono h.below.size), h.hp, h.hb⟩
  · rw [hb.block b (Array.getElem?_eq_some_iff.1 h.blk).1]; exact h.blk
  · rw [hb.block _ (Array.getElem?_eq_some_iff.1 h.res).1]; exact h.res
  · obtain ⟨qd, kd, e1, e2, e3⟩ := h.rows j hj
    exact ⟨qd, kd, e1, e2.on hb, e3⟩
theorem DSt.blkT (h : DSt W p v1 xs pos f) : ∃ cs, W.heap[p]? = some (.cells cs 94 (0, 0)) := by
  cases f with
  | false => exact ⟨_, (h.ok rfl).blk⟩
  | true =>
    obtain ⟨_, _, _, _, e⟩ := h.bad rfl
    exact ⟨_, e⟩
theorem RxS.offp (h : RxS w W p b v1 xs ep pos f q c L done) : (Value.slice q L.length c).ownBlock ≠ some p := by
  obtain ⟨_, e⟩ := h.rd.blkT
  exact own_ne h.own e (by decide)
theorem RxS.rdTx (h : RxS w W p b v1 xs ep pos f q c L done) : RdTx W q L := by
  rcases h.own.2 with ⟨e, h0⟩ | ⟨g, cap, cur, e, _, hg, hnc, hcm, hcs', htake⟩
  · exact .inl (List.eq_nil_of_length_eq_zero h0)
  · simp only [Value.slice.injEq] at e
    obtain ⟨rfl, -, rfl⟩ := e
    refine .inr ⟨g, 0, rfl, fun j hj => ?_⟩
    obtain ⟨qi, ki, h1, h2, _⟩ := h.rows j hj
    refine ⟨qi, ki, ?_, h2⟩
    have hl := h.len
    have hc2 : cur = (done ++ cur.toList.drop (L.length * 10)).toArray := by
      apply Array.ext'
      show cur.toList = done ++ cur.toList.drop (L.length * 10)
      rw [← htake, List.take_append_drop]
    rw [hc2] at hg
    rw [rowOf_block hg, Nat.zero_add, ← h1]
    have e : ((done ++ cur.toList.drop (L.length * 10)).drop (j * 10)).take 10 = (done.drop (j * 10)).take 10 := by
      rw [List.drop_append_of_le_length (by omega), List.take_append_of_le_length (by rw [List.length_drop]; omega)]
    rw [← e]
    simp [List.take_drop]
/-- One more Tx: appended, and the slice stored. -/
theorem RxS.push {W2 : World} {t : Tg} {qi q6 : Option Addr} {ki k6 : Nat} (h : RxS w W p b v1 xs ep pos f q c L done) (hd : Rd W (.slice qi t.data.length ki) t.data) (hf : ∀ g, t.data ≠ [] → (Value.slice qi t.data.length ki).ownBlock = some g → b < g ∧ (Value.slice q L.length c).ownBlock ≠ some g)
    (own : W2.ownsRow 0 84 10 (.slice q6 (L.length + 1) k6) (L.length + 1) (done ++ txRow t qi t.data.length ki)) (grow : W.grownBy W2 (Value.slice q L.length c).ownBlock) (fr : (Value.slice q6 (L.length + 1) k6).ownBlock = (Value.slice q L.length c).ownBlock ∨ (Value.slice q6 (L.length + 1) k6).ownBlock = some W.heap.size) :
    RxS w (W2.setCell ⟨b, 1, none⟩ (.slice q6 (L.length + 1) k6)) p b v1 xs ep pos f q6 k6 (L ++ [t]) (done ++ txRow t qi t.data.length ki) := by
  have h1 := h.hp
  have h2 := h.hb
  have hbo : (Value.slice q L.length c).ownBlock ≠ some b := own_ne h.own h.blk (by decide)
  have hro : (Value.slice q L.length c).ownBlock ≠ some w.heap.size := own_ne h.own h.res (by decide)
  have c8 : Chg W W2 (Value.slice q L.length c).ownBlock.toList := Chg.grown grow (fun g hg => by simp [hg])
  have B2 : W2.heap[b]? = some (.cells #[.int .u64 ep, .slice q L.length c] 67 (0, 0)) := by
    rw [c8.block b (Array.getElem?_eq_some_iff.1 h.blk).1 (fun hm => hbo (by simpa using hm))]; exact h.blk
  have cs : Chg W2 (W2.setCell ⟨b, 1, none⟩ (.slice q6 (L.length + 1) k6)) [b] := (Chg.refl W2 [b]).setCell (p := ⟨b, _, none⟩) (.inl (by simp)) _
  have bb : Below w.heap.size w W2 := h.below.trans (c8.toBelow h.below.size (fun k hk => h.fresh k (by simpa using hk)))
  have hbl := (Array.getElem?_eq_some_iff.1 h.blk).1
  have hbo6 : (Value.slice q6 (L.length + 1) k6).ownBlock ≠ some b := own_ne own B2 (by decide)
  have hrow : ∀ {qd : Option Addr} {kd : Nat} {T : Tg}, Rd W (.slice qd T.data.length kd) T.data → (∀ g, T.data ≠ [] → (Value.slice qd T.data.length kd).ownBlock = some g → b < g ∧ (Value.slice q L.length c).ownBlock ≠ some g) → Rd (W2.setCell ⟨b, 1, none⟩ (.slice q6 (L.length + 1) k6)) (.slice qd T.data.length kd) T.data ∧ ∀ g, T.data ≠ [] → (Value.slice qd T.data.length kd).ownBlock = some g → b < g ∧ (Value.slice q6 (L.length + 1) k6).ownBlock ≠ some g := fun {qd kd T} e2 e3 => by
    refine ⟨(e2.chg c8 (fun hne k hk _ hm => (e3 k hne hk).2 (by simpa using hm))).chg cs (fun hne k hk _ hm => ?_), fun g hne hg => ⟨(e3 g hne hg).1, fun he => ?_⟩⟩
    · have := (e3 k hne hk).1
      simp at hm
      omega
    · rcases fr with e | e
      · rw [e] at he
        exact (e3 g hne hg).2 he
      · rw [e] at he
        have := e2.lt hne hg
        simp at he
        omega
  refine ⟨?_, ?_, ?_, ?_, ?_, fun j hj => ?_, fun g hg => ?_, bb.trans (cs.toBelow bb.size (fun k hk => by simp at hk; omega)), h1, h2⟩
  · refine (h.rd.chg2 c8 (fun hm => h.offp (by simpa using hm)) (fun ho k hk hm => ?_)).chg2 cs (by simp; omega) (fun ho k hk hm => ?_)
    · exact own_two ho h.own (by decide) hk (by simpa using hm)
    · obtain rfl : k = b := by simpa using hm
      exact own_ne ho B2 (by decide) hk
  · rw [Joins.block_setCell B2, List.length_append, List.length_singleton]; rfl
  · rw [cs.block _ (by have := bb.size; have := (Array.getElem?_eq_some_iff.1 h.res).1; have := c8.size; omega) (by simp; omega), c8.block _ (Array.getElem?_eq_some_iff.1 h.res).1 (fun hm => hro (by simpa using hm))]; exact h.res
  · rw [List.length_append, List.length_singleton]
    exact own_keep own (fun k hk => cs.block k (own_lt own hk) (fun hm => by
      obtain rfl : k = b := by simpa using hm
      exact hbo6 hk))
  · simp [h.len, txRow_len]; omega
  · have hl := h.len
    rw [List.length_append, List.length_singleton] at hj ⊢
    by_cases hjl : j < L.length
    · obtain ⟨qd, kd, e1, e2, e3⟩ := h.rows j hjl
      have eg : (L ++ [t]).getD j tg0 = L.getD j tg0 := by simp [List.getD, List.getElem?_append_left hjl]
      rw [eg]
      obtain ⟨r1, r2⟩ := hrow e2 e3
      refine ⟨qd, kd, ?_, r1, r2⟩
      rw [List.drop_append_of_le_length (by omega), List.take_append_of_le_length (by rw [List.length_drop]; omega)]
      exact e1
    · obtain rfl : j = L.length := by omega
      have eg : (L ++ [t]).getD L.length tg0 = t := by simp [List.getD]
      rw [eg]
      obtain ⟨r1, r2⟩ := hrow hd hf
      refine ⟨qi, ki, ?_, r1, r2⟩
      rw [← hl, List.drop_left, List.take_of_length_le (by rw [txRow_len]; decide)]
  · rw [List.length_append, List.length_singleton] at hg
    rcases fr with e | e
    · rw [e] at hg; exact h.fresh g hg
    · rw [e] at hg
      have := h.below.size
      simp at hg; omega
end
end Go.Proofs.Ytonjkhhihiigfaa
