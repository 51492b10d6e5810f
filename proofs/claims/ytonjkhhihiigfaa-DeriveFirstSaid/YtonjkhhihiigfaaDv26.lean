/-
  One more batch behind the first of a number, or outside the number's window: the inputs are the same.; The inputs of a number, where a block may hold more batches.; Blocks with one more batch are still small enough.; One more batch, stored into a block of one's own: how the blocks read then.
-/
import Derived.Test.YtonjkhhihiigfaaDv14
import Derived.Test.YtonjkhhihiigfaaDv24
import Derived.Test.YtonjkhhihiigfaaDv25
namespace Go.Proofs.Ytonjkhhihiigfaa
set_option maxRecDepth 100000
open Go.RowKit

/-- The blocks with one more batch in one of them. -/
def adB (L : List Bk) (a : Nat) (y : List Int) : List Bk := L.set a ⟨(L.getD a bk0).ds, (L.getD a bk0).bs ++ [y]⟩
theorem adB_len (L : List Bk) (a : Nat) (y : List Int) : (adB L a y).length = L.length := by simp [adB]
theorem adB_off {L : List Bk} {a i : Nat} {y : List Int} (h : i ≠ a) : (adB L a y).getD i bk0 = L.getD i bk0 := by
  simp [adB, List.getD, Ne.symm h]
theorem adB_at {L : List Bk} {a : Nat} {y : List Int} (h : a < L.length) : (adB L a y).getD a bk0 = ⟨(L.getD a bk0).ds, (L.getD a bk0).bs ++ [y]⟩ := by
  simp [adB, List.getD, h]
theorem adB_ds (L : List Bk) (a i : Nat) (y : List Int) : ((adB L a y).getD i bk0).ds = (L.getD i bk0).ds := by
  by_cases h : i = a
  · subst h
    by_cases hi : i < L.length
    · rw [adB_at hi]
    · have e : adB L i y = L := by unfold adB; exact List.set_eq_of_length_le (by omega)
      rw [e]
  · rw [adB_off h]
theorem fIn_more {n : Int} {bs : List (List Int)} {J : Nat} (y : List Int) (h : fIn n bs = some J) : fIn n (bs ++ [y]) = some J := by
  unfold fIn at h ⊢
  rw [List.findIdx?_append, h]
  rfl
theorem scan_off {L : List Bk} {n : Int} {a : Nat} {y : List Int} : ∀ {f b : Nat}, 1 ≤ b → b + f ≤ a + 1 → fScan (adB L a y) n b f = fScan L n b f
  | 0, _, _, _ => rfl
  | f + 1, b, h1, h2 => by
    unfold fScan
    rw [adB_off (show b - 1 ≠ a by omega), scan_off (f := f) (b := b + 1) (by omega) (by omega)]
theorem scan_hit {L : List Bk} {n : Int} {B J : Nat} {y : List Int} (hB : B - 1 < L.length) : ∀ {f b : Nat}, 1 ≤ b → fScan L n b f = some (B, J) → fScan (adB L (B - 1) y) n b f = some (B, J)
  | 0, _, _, h => by cases h
  | f + 1, b, h1, h => by
    have hin := fScan_in h
    cases e : fIn n (L.getD (b - 1) bk0).bs with
    | none =>
      rw [fScan_on e] at h
      have hin2 := fScan_in h
      have e2 : fIn n ((adB L (B - 1) y).getD (b - 1) bk0).bs = none := by rw [adB_off (by omega)]; exact e
      rw [fScan_on e2]
      exact scan_hit hB (by omega) h
    | some j =>
      rw [fScan_hit e] at h
      simp only [Option.some.injEq, Prod.mk.injEq] at h
      obtain ⟨rfl, rfl⟩ := h
      have e2 : fIn n ((adB L (b - 1) y).getD (b - 1) bk0).bs = some j := by rw [adB_at hB]; exact fIn_more y e
      rw [fScan_hit e2]
/-- Where a further batch goes. -/
def atF (L : List Bk) (n k : Int) : Nat := match fFind L n k with
  | some (b, _) => b - 1
  | none => (n + k).toNat
theorem fInL_ad {L : List Bk} {n k : Int} {y : List Int} (h1 : 1 ≤ n) (h2 : n ≤ kN L.length k) : fInL (adB L (atF L n k) y) n k = fInL L n k := by
  obtain ⟨hw, x1, x2, x3⟩ := kN_in h1 h2
  have h2' : n ≤ kN (adB L (atF L n k) y).length k := by rw [adB_len]; exact h2
  have e : foL (adB L (atF L n k) y) (fFind (adB L (atF L n k) y) n k) = foL L (fFind L n k) := by
    rw [fFind_known h1 h2']
    cases ho : fFind L n k with
    | none =>
      have ha : atF L n k = (n + k).toNat := by unfold atF; rw [ho]
      rw [fFind_known h1 h2] at ho
      rw [ha, scan_off (by omega) (by omega), ho]
      rfl
    | some p =>
      obtain ⟨B, J⟩ := p
      have ha : atF L n k = B - 1 := by unfold atF; rw [ho]
      obtain ⟨g1, g2, g3⟩ := fFind_at h1 h2 ho
      rw [fFind_known h1 h2] at ho
      rw [ha, scan_hit g2 (by omega) ho]
      unfold foL
      have ex : foX (adB L (B - 1) y) (some (B, J)) = foX L (some (B, J)) := by
        show ((adB L (B - 1) y).getD (B - 1) bk0).bs.getD J [] = (L.getD (B - 1) bk0).bs.getD J []
        rw [adB_at g2]
        obtain ⟨Z, hZ⟩ : ∃ Z, (L.getD (B - 1) bk0).bs = Z := ⟨_, rfl⟩
        rw [hZ] at g3 ⊢
        simp [List.getD, List.getElem?_append_left g3]
      rw [ex]
  unfold fInL
  rw [if_pos ⟨hw, h1, h2'⟩, if_pos ⟨hw, h1, h2⟩, e, adB_ds]
end Go.Proofs.Ytonjkhhihiigfaa
namespace Go.Proofs.Ytonjkhhihiigfaa
set_option maxRecDepth 100000
open Go.RowKit

/-- Blocks of few deposits. -/
structure Bk.sw (x : Bk) : Prop where
  ok : x.ok
  ds : x.ds.length ≤ 20
  md : ∀ m ∈ x.ds, m.data.length ≤ 1000
def BksSw (L : List Bk) : Prop := ∀ x ∈ L, x.sw
theorem BksSw.ok {L : List Bk} (h : BksSw L) : BksOk L := fun x hx => (h x hx).ok
theorem BksSm.sw {L : List Bk} (h : BksSm L) : BksSw L := fun x hx => ⟨(h x hx).ok, (h x hx).ds, (h x hx).md⟩
theorem BksSw.get {L : List Bk} (h : BksSw L) (i : Nat) : (L.getD i bk0).sw := by
  by_cases hi : i < L.length
  · exact h _ (getD_mem hi)
  · have e : L.getD i bk0 = bk0 := by simp [List.getD, Nat.not_lt.1 hi]
    rw [e]; exact ⟨bk0_ok, by simp [bk0], fun m hm => by simp [bk0] at hm⟩
set_option maxHeartbeats 16000000 in
theorem Inputs_w {w : World} {F : Fp} {Ls : List Bk} {q : Option Addr} {c : Nat} {n k : Int} (hr : RwF 2 bk0 PBk w F q Ls) (sm : BksSw Ls) (hl : Ls.length ≤ 1000) :
    Calls Try.prog 13 #[.slice q Ls.length c, .int .i64 n, .int .i64 k] w (InsP (fInL Ls n k) (fInE Ls n k) w) := by
  obtain ⟨i0, hi, hz0, hz1, hz2⟩ := info_parts Try.infoIn
  replace hi := Lib.hid hi
  replace hz0 := Lib.hid hz0
  replace hz1 := Lib.hid hz1
  replace hz2 := Lib.hid hz2
  have HR : Hid (∀ W, Below w.heap.size w W → RwF 2 bk0 PBk W F q Ls) := fun W hb => hr.on PBk_ok (by decide) hb
  have H0 := Lib.hid hr
  have SM := Lib.hid sm
  have LL := Lib.hid hl
  have KW := Lib.hid (fun (W : World) => rightWindow_any k W)
  have KK := Lib.hid (fun (W : World) => Known_any (h := (Ls.length : Int)) (k := k) (by omega) W)
  have HE : Hid (fInE Ls n k = if wOk k = true then (if 1 ≤ n ∧ n ≤ kN Ls.length k then 0 else 3) else 1) := rfl
  have HI : Hid (fInL Ls n k = if wOk k = true ∧ 1 ≤ n ∧ n ≤ kN Ls.length k then (Ls.getD (n.toNat - 1) bk0).ds.map dIn ++ (foL Ls (fFind Ls n k)).map tIn else []) := rfl
  have HK : Hid (kN Ls.length k ≤ (Ls.length : Int) - 1 ∨ wOk k = false ∨ kN Ls.length k ≤ 0) := by
    show _ ∨ _
    unfold kN
    by_cases h : wOk k = true ∧ k < (Ls.length : Int)
    · rw [if_pos h]
      have : 1 ≤ k ∧ k ≤ 64 := by simpa [wOk] using h.1
      left; omega
    · rw [if_neg h]
      right; right; omega
  obtain ⟨I, hI⟩ : ∃ I, fInL Ls n k = I := ⟨_, rfl⟩
  obtain ⟨E, hE⟩ : ∃ E, fInE Ls n k = E := ⟨_, rfl⟩
  rw [hI] at HI ⊢
  rw [hE] at HE ⊢
  have NO := Lib.hid (fun (W : World) (z : Int) (h1 : I = []) (h2 : E = z) (hb : Below w.heap.size w W) => InsP.no (I := I) (E := E) h1 h2 hb)
  have YES := Lib.hid (fun (W : World) (J : List Inp) (q' : Option Addr) (c' : Nat) (h1 : I = J) (h2 : E = 0) (hr : RwF 24 inp0 PIn W (fun x => w.heap.size ≤ x) q' J) (hb : Below w.heap.size w W) => InsP.yes (c := c') h1 h2 hr hb)
  obtain ⟨wk, hwk⟩ : ∃ x, wOk k = x := ⟨_, rfl⟩
  rw [hwk] at HE HI KW HK
  obtain ⟨N, hN⟩ : ∃ x, kN Ls.length k = x := ⟨_, rfl⟩
  rw [hN] at HE HI KK HK
  clear hr sm hI hE hwk hN
  go_enter Try.func13, Try.ntmps13
  go_wp2_with fail
  refine (KW.out _).mono ?_
  rintro e wz ⟨rfl, hwz⟩
  obtain rfl := hwz.symm
  clear hwz
  cases wk with
  | false =>
    have X := Lib.hid (NO.out w 1 (by rw [HI.out]; exact if_neg (fun h => by simp at h)) (by rw [HE.out]; rfl) (Below.refl _ _))
    clear NO YES HE HI KK HK
    go_wp2_with fail
    go_ret2
    exact X.out
  | true =>
  replace HE : Hid (E = if 1 ≤ n ∧ n ≤ N then 0 else 3) := by show _ = _; rw [HE.out]; exact if_pos rfl
  replace HI : Hid (I = if 1 ≤ n ∧ n ≤ N then (Ls.getD (n.toNat - 1) bk0).ds.map dIn ++ (foL Ls (fFind Ls n k)).map tIn else []) := by
    show _ = _
    rw [HI.out]
    by_cases h : 1 ≤ n ∧ n ≤ N
    · rw [if_pos ⟨rfl, h⟩, if_pos h]
    · rw [if_neg (fun h2 => h h2.2), if_neg h]
  replace HK : Hid (N ≤ (Ls.length : Int) - 1 ∨ N ≤ 0) := by
    rcases HK.out with h | h | h
    · exact .inl h
    · simp at h
    · exact .inr h
  by_cases hn1 : n < 1
  · have d1 : decide (n < 1) = true := decide_eq_true hn1
    have X := Lib.hid (NO.out w 3 (by rw [HI.out]; exact if_neg (fun h => by omega)) (by rw [HE.out]; exact if_neg (fun h => by omega)) (Below.refl _ _))
    clear NO YES HE HI KK HK
    go_wp2_with fail
    go_ret2
    exact X.out
  have d1 : decide (n < 1) = false := decide_eq_false hn1
  go_wp2_with fail
  refine (KK.out _).mono ?_
  rintro e wz ⟨rfl, hwz⟩
  obtain rfl := hwz.symm
  clear hwz
  by_cases hn2 : n > N
  · have d2 : decide (n > N) = true := decide_eq_true hn2
    have d2' : decide (N < n) = true := decide_eq_true hn2
    have X := Lib.hid (NO.out w 3 (by rw [HI.out]; exact if_neg (fun h => by omega)) (by rw [HE.out]; exact if_neg (fun h => by omega)) (Below.refl _ _))
    clear NO YES HE HI KK HK
    go_wp2_with fail
    go_ret2
    exact X.out
  have d2 : decide (n > N) = false := decide_eq_false hn2
  have d2' : decide (N < n) = false := decide_eq_false hn2
  have hnl : n ≤ (Ls.length : Int) - 1 := by
    rcases HK.out with h | h
    · omega
    · omega
  have EI : Hid (I = (Ls.getD (n.toNat - 1) bk0).ds.map dIn ++ (foL Ls (fFind Ls n k)).map tIn) := by show _ = _; rw [HI.out]; exact if_pos ⟨by omega, by omega⟩
  have EE : Hid (E = 0) := by show _ = _; rw [HE.out]; exact if_pos ⟨by omega, by omega⟩
  replace YES := Lib.hid (fun (W : World) (J : List Inp) (q' : Option Addr) (c' : Nat) (h1 : I = J) (hr : RwF 24 inp0 PIn W (fun x => w.heap.size ≤ x) q' J) (hb : Below w.heap.size w W) => YES.out W J q' c' h1 EE.out hr hb)
  clear NO HE HI KK HK EE
  obtain ⟨a, rfl⟩ : ∃ a : Nat, n = (a : Int) + 1 := ⟨(n - 1).toNat, by omega⟩
  rw [show ((a : Int) + 1).toNat - 1 = a by omega] at EI
  have hal : a < Ls.length := by omega
  obtain ⟨bb, off, r, hq, hFb, hr2, hrow, qd, kd, qb, kb, hre, hds, hbs⟩ := H0.out.get hal
  subst hq hre
  have c0w := row_cell hrow hr2 (j := 0) (v := .slice qd (Ls.getD a bk0).ds.length kd) rfl
  rw [Nat.add_zero] at c0w
  have HDS := Lib.hid hds
  have OKD := Lib.hid (SM.out.get a)
  obtain ⟨D, hD⟩ : ∃ D, (Ls.getD a bk0).ds = D := ⟨_, rfl⟩
  have OKM : Hid (∀ m ∈ D, m.data.length ≤ 1000) := by show ∀ m ∈ D, _; rw [← hD]; exact OKD.out.md
  have hD20 : D.length ≤ 20 := by rw [← hD]; exact OKD.out.ds
  rw [hD] at c0w HDS EI
  obtain ⟨Y, hY⟩ : ∃ Y, foL Ls (fFind Ls ((a : Int) + 1) k) = Y := ⟨_, rfl⟩
  have hY8 : Y.length ≤ 8 := by rw [← hY]; exact foL_len8 _ _
  have HY := Lib.hid hY
  rw [hY] at EI
  have wa0 : IntKind.i64.wrap ((a : Int) + 1 - 1) = (a : Int) := by
    rw [show (a : Int) + 1 - 1 = (a : Int) by omega]; exact IntWalk.i64_in _ (by omega)
  have O0 : Hid (OwF 24 inp0 PIn (fun x => w.heap.size ≤ x) w w 56 (.slice none ([] : List Inp).length 0) [] []) := OwF.start (Below.refl _ _)
  have HD := Lib.hid hD20
  have HY8 := Lib.hid hY8
  clear hbs hds hrow hr2 hFb hD hY hD20 hY8
  go_wp2_with fail
  clear c0w wa0 d1 d2 d2'
  go_loopw [8, 39] (fun ov iv wr => ∃ (q1 : Option Addr) (c1 : Nat) (L : List Inp) (done : List Value), iv = .int .i64 (L.length : Int) ∧ ov = .slice q1 L.length c1 ∧ L.length ≤ D.length ∧ Hid (L = (D.map dIn).take L.length) ∧ Hid (OwF 24 inp0 PIn (fun x => w.heap.size ≤ x) w wr 56 (.slice q1 L.length c1) L done)) (fun _ iv _ => D.length - (intOf iv).toNat)
  case atStart => exact ⟨none, 0, [], [], rfl, rfl, by simp, rfl, O0⟩
  case round =>
    clear O0
    obtain ⟨q1, c1, L, done, rfl, rfl, hil, hLe, hO⟩ := hrel
    have hd20 := HD.out
    have hdl : L.length ≤ 20 := by omega
    by_cases hlt : L.length < D.length
    · obtain ⟨b1, off1, r1, hq1, _, hr3, hrow3, qm, km, hre3, hrd⟩ := HDS.out.get hlt
      subst hq1 hre3
      have hb1 := rowOf_lt (by decide) hr3 hrow3
      have hrw : rowOf wr b1 (off1 + L.length * 9) 9 = mgRow (D.getD L.length mg0) qm (D.getD L.length mg0).data.length km := by rw [rowOf_agr (hO.out.below.block b1 hb1)]; exact hrow3
      have RD := Lib.hid (hrd.rd.on hO.out.below)
      have HLM : Hid (L ++ [dIn (D.getD L.length mg0)] = (D.map dIn).take (L.length + 1)) := by
        have e : (D.map dIn).getD L.length inp0 = dIn (D.getD L.length mg0) := by simp [List.getD, hlt]
        show _ = _
        rw [← e]
        exact take_snoc hLe.out (by simpa using hlt)
      have lm := OKM.out _ (getD_mem (d := mg0) hlt)
      obtain ⟨m, hm⟩ : ∃ m, D.getD L.length mg0 = m := ⟨_, rfl⟩
      rw [hm] at hrw RD HLM lm
      have LM := Lib.hid lm
      have h9 := mgRow_len m qm m.data.length km
      have KA := MgAt.new wr 52 mg0 none 0 0
      have th := KA.there
      have bA : Below wr.heap.size wr (wr.alloc (.cells (mgRow mg0 none 0 0).toArray 52)) := (Below.refl _ _).alloc (Nat.le_refl _) _
      have cs : Below wr.heap.size wr ((wr.alloc (.cells (mgRow mg0 none 0 0).toArray 52)).setCells wr.heap.size 0 (mgRow m qm m.data.length km)) := below_setCells' _ (Nat.le_refl _) _ _ bA
      have KP := Lib.hid (KA.put m qm m.data.length km)
      obtain ⟨-, -, -, -, -, -, -, -, c8⟩ := KP.out.cells
      have CS := Lib.hid cs
      have R4 := Lib.hid (RD.out.on cs)
      have szz : ((wr.alloc (.cells (mgRow mg0 none 0 0).toArray 52)).setCells wr.heap.size 0 (mgRow m qm m.data.length km)).heap.size = wr.heap.size + 1 := by rw [size_setCells]; simp
      have HLT := Lib.hid hlt
      clear hrow3 hr3 hb1 hrd hm lm KA bA cs RD hLe
      go_wp2_with fail
      clear hrw th szz c8
      obtain ⟨bm, hbm⟩ : ∃ b, wr.heap.size = b := ⟨_, rfl⟩
      have hBM := Lib.hid hbm
      rw [hbm] at KP CS R4 ⊢
      generalize (wr.alloc (.cells (mgRow mg0 none 0 0).toArray 52)).setCells bm 0 (mgRow m qm m.data.length km) = w4 at *
      clear hbm
      refine (Clone_any R4.out (by have := LM.out; omega)).mono ?_
      rintro e w5 ⟨q5, k5, rfl, hr5, hb5⟩
      have K5 := KP.out.on hb5
      have hs4 := KP.out.lt
      have c8 : w5.cell? ⟨bm, 8, none⟩ = some (.slice qm m.data.length km) := K5.cells.2.2.2.2.2.2.2.2
      have y8 := K5.frees 8
      have cS : Chg w5 (w5.setCell ⟨bm, 8, none⟩ (.slice q5 m.data.length k5)) [bm] := (Chg.refl _ [bm]).setCell (p := ⟨bm, 8, none⟩) (.inl (by simp)) _
      have K6 : Hid (MgAt (w5.setCell ⟨bm, 8, none⟩ (.slice q5 m.data.length k5)) bm 52 m q5 m.data.length k5) := by
        obtain ⟨e1, e2, e3, e4, e5, e6⟩ := m
        exact K5.st8 e6 q5 e6.length k5
      have B6 : Below wr.heap.size wr (w5.setCell ⟨bm, 8, none⟩ (.slice q5 m.data.length k5)) := by
        have hcs : bm ≤ w4.heap.size := Nat.le_trans (Nat.le_of_eq hBM.out.symm) CS.out.size
        rw [hBM.out]
        exact (CS.out.trans (hb5.mono hcs)).trans (cS.toBelow (Nat.le_trans hcs hb5.size) (fun g hg => by simp at hg; omega))
      have O6 := Lib.hid (hO.out.on PIn_ok B6)
      have R6 : Hid (RdF (w5.setCell ⟨bm, 8, none⟩ (.slice q5 m.data.length k5)) (fun g => w.heap.size ≤ g ∧ (Value.slice q1 L.length c1).ownBlock ≠ some g) (.slice q5 m.data.length k5) m.data) := by
        refine (hr5.agr (Agr.chg cS (fun g hg hm => ?_))).mono (fun g hg => ⟨?_, fun e => ?_⟩)
        · obtain rfl : g = bm := by simpa using hm
          omega
        · have := hO.out.below.size
          have := CS.out.size
          omega
        · have := own_lt hO.out.own e
          have := CS.out.size
          omega
      go_upto_region 10 with fail
      clear c8 y8
      generalize hw6 : (w5.setCell ⟨bm, 8, none⟩ (.slice q5 m.data.length k5)) = w6 at *
      clear hw6
      obtain ⟨-, -, -, c3, c4, c5, c6, -, -⟩ := K6.out.cells
      have hrw := K6.out.row
      have c8' : w6.cell? ⟨bm, 8, none⟩ = some (.slice q5 m.data.length k5) := K6.out.cells.2.2.2.2.2.2.2.2
      have h9' := mgRow_len m q5 m.data.length k5
      have hin := fun W => Try.run_inD W m q5 m.data.length k5
      have h24 := inRow_len (dIn m) q5 m.data.length k5 none 0 0
      obtain ⟨R, hR⟩ : ∃ R, inRow (dIn m) q5 m.data.length k5 none 0 0 = R := ⟨_, rfl⟩
      have HRR := Lib.hid hR
      have R1 : Hid (∀ u ∈ R, u.oneCell' = true) := by show ∀ u ∈ R, _; rw [← hR]; exact inRow_one _ _ _ _ _ _ _
      rw [hR] at hin h24
      have hsl := Try.run_slice_in w6 R h24
      have b7 : Below w6.heap.size w6 (w6.alloc (.cells R.toArray 56)) := (Below.refl _ _).alloc (Nat.le_refl _) _
      have O7 := Lib.hid (O6.out.on PIn_ok b7)
      have P7 : Hid (PIn (w6.alloc (.cells R.toArray 56)) (fun g => w.heap.size ≤ g ∧ (Value.slice q1 L.length c1).ownBlock ≠ some g) (dIn m) R) := ⟨q5, k5, none, 0, HRR.out.symm, R6.out.on b7, RdF.nil _ _⟩
      have SR := Lib.hid (src_any (P := Try.prog) (T := 56) (w := w6) Try.underlying30 h24 R1.out)
      have OWN := Lib.hid O7.out.own
      clear hR K5 cS K6 B6 O6 R6 b7 hb5 hr5 CS KP R4 hO hs4
      go_wp2_with (at_builtin; refine wpList_append_row rfl _ _ rfl Try.underlying30 hi.out hz0.out hz1.out hz2.out in0_cells OWN.out SR.out ?b1 ?b2 ?_)
      case b1 => unfold maxLen; omega
      case b2 => omega
      intro q8 k8 w8 own8 grow8 fr8
      have O8 := Lib.hid (O7.out.grow PIn_ok h24 P7.out own8 grow8 (by rw [show (w6.alloc (.cells R.toArray 56)).heap.size = w6.heap.size + 1 by simp]; exact fr8))
      clear own8 grow8 fr8 O7 P7 SR OWN hsl hin c8' c3 c4 c5 c6 hrw
      go_wp2_with fail
      go_roundw
      case rel =>
        refine ⟨q8, k8, L ++ [dIn m], done ++ R, ?_, ?_, ?_, ?_, ?_⟩
        · rw [List.length_append, List.length_singleton]; go_num
        · rw [List.length_append, List.length_singleton]
        · have := HLT.out
          rw [List.length_append, List.length_singleton]
          omega
        · show _ = _
          rw [List.length_append, List.length_singleton]
          exact HLM.out
        · rw [List.length_append, List.length_singleton]
          exact O8.out
      case measure => have := HLT.out; simp [intOf]; omega
    · have HLD : Hid (L = D.map dIn) := by
        have e : L.length = D.length := by omega
        have := hLe.out
        rw [e, List.take_of_length_le (by simp)] at this
        exact this
      clear hLe
      go_wp2_with fail
      refine (find_any (HR.out _ hO.out.below) SM.out.ok (by have := LL.out; omega)).mono ?_
      rintro e w2 ⟨q5, c5, rfl, ry, hb⟩
      rw [HY.out] at ry ⊢
      obtain ⟨oB, hoB⟩ : ∃ x, foB (fFind Ls ((a : Int) + 1) k) = x := ⟨_, rfl⟩
      obtain ⟨oI, hoI⟩ : ∃ x, foI (fFind Ls ((a : Int) + 1) k) = x := ⟨_, rfl⟩
      obtain ⟨oE, hoE⟩ : ∃ x, foE Ls (fFind Ls ((a : Int) + 1) k) = x := ⟨_, rfl⟩
      obtain ⟨oS, hoS⟩ : ∃ x, (fFind Ls ((a : Int) + 1) k).isSome = x := ⟨_, rfl⟩
      rw [hoB, hoI, hoE, hoS]
      have ba : Below w2.heap.size w2 (w2.alloc (.cells #[.int .u64 oE, .slice q5 Y.length c5] 78)) := (Below.refl _ _).alloc (Nat.le_refl _) _
      have K6 := heap_alloc_new w2 (.cells #[.int .u64 oE, .slice q5 Y.length c5] 78)
      have O2 := Lib.hid (hO.out.on PIn_ok (hb.trans (ba.mono hb.size)))
      have RY2 : Hid (RwF 10 tg0 PTx (w2.alloc (.cells #[.int .u64 oE, .slice q5 Y.length c5] 78)) (fun g => w.heap.size ≤ g ∧ (Value.slice q1 L.length c1).ownBlock ≠ some g) q5 Y) := (ry.on PTx_ok (by decide) ba).mono PTx_ok (fun g hg => ⟨by have := hO.out.below.size; omega, fun e => by have := own_lt hO.out.own e; omega⟩)
      have e1 := (Joins.cell_of_block K6 1).trans (rfl : _ = some _)
      have hL20 : L.length ≤ 20 := hdl
      have L20 := Lib.hid hL20
      have HLe : Hid (L = D.map dIn ++ (Y.take 0).map tIn) := by show _ = _; rw [HLD.out]; simp
      clear hb ry ba hO hoB hoI hoE hoS K6 hL20 hdl hlt hil hd20 HLD
      go_wp2_with fail
      clear e1
      generalize w2.alloc (.cells #[.int .u64 oE, .slice q5 Y.length c5] 78) = w3 at *
      go_loopw [8, 67] (fun ov jv wr => ∃ (j : Nat) (q1 : Option Addr) (c1 : Nat) (L : List Inp) (done : List Value), jv = .int .i64 (j : Int) ∧ ov = .slice q1 L.length c1 ∧ j ≤ Y.length ∧ Hid (L.length ≤ 20 + j) ∧ Hid (L = D.map dIn ++ (Y.take j).map tIn) ∧ Hid (OwF 24 inp0 PIn (fun x => w.heap.size ≤ x) w wr 56 (.slice q1 L.length c1) L done) ∧ Hid (RwF 10 tg0 PTx wr (fun g => w.heap.size ≤ g ∧ (Value.slice q1 L.length c1).ownBlock ≠ some g) q5 Y)) (fun _ jv _ => Y.length - (intOf jv).toNat)
      case atStart => exact ⟨0, q1, c1, L, done, rfl, rfl, by omega, L20, HLe, O2, RY2⟩
      case round =>
        clear O2 RY2 L20 HLe
        obtain ⟨j, q1, c1, L, done, rfl, rfl, hjl, hLj, hLe, hO, hRY⟩ := hrel
        have hy8 := HY8.out
        by_cases hlt : j < Y.length
        · obtain ⟨b1, off1, r1, hq1, _, hr3, hrow3, qm, km, hre3, hrd⟩ := hRY.out.get hlt
          subst hq1 hre3
          have HLM : Hid (L ++ [tIn (Y.getD j tg0)] = D.map dIn ++ (Y.take (j + 1)).map tIn) := by
            show _ = _
            have e : Y[j]?.toList = [Y.getD j tg0] := by simp [List.getD, hlt]
            rw [hLe.out, List.take_add_one, e, List.map_append, List.append_assoc]
            rfl
          obtain ⟨t, ht⟩ : ∃ t, Y.getD j tg0 = t := ⟨_, rfl⟩
          rw [ht] at hrow3 hrd HLM
          have h10 := txRow_len t qm t.data.length km
          have KA := TxAt.new wr 54 tg0 none 0 0
          have th := KA.there
          have bA : Below wr.heap.size wr (wr.alloc (.cells (txRow tg0 none 0 0).toArray 54)) := (Below.refl _ _).alloc (Nat.le_refl _) _
          have cs : Below wr.heap.size wr ((wr.alloc (.cells (txRow tg0 none 0 0).toArray 54)).setCells wr.heap.size 0 (txRow t qm t.data.length km)) := below_setCells' _ (Nat.le_refl _) _ _ bA
          have KP := Lib.hid (KA.put t qm t.data.length km)
          have O6 := Lib.hid (hO.out.on PIn_ok cs)
          have R6 := Lib.hid (hrd.on cs)
          have RY6 := Lib.hid (hRY.out.on PTx_ok (by decide) cs)
          have szz : ((wr.alloc (.cells (txRow tg0 none 0 0).toArray 54)).setCells wr.heap.size 0 (txRow t qm t.data.length km)).heap.size = wr.heap.size + 1 := by rw [size_setCells]; simp
          have HLT := Lib.hid hlt
          have hlj := hLj.out
          clear hr3 hrd ht KA bA cs hLe hO hRY
          go_upto_region 16 with fail
          clear hrow3 th szz
          obtain ⟨bm, hbm⟩ : ∃ b, wr.heap.size = b := ⟨_, rfl⟩
          rw [hbm] at KP O6 R6 RY6 ⊢
          generalize (wr.alloc (.cells (txRow tg0 none 0 0).toArray 54)).setCells bm 0 (txRow t qm t.data.length km) = w6 at *
          clear hbm
          have hrw := KP.out.row
          have hin := fun W => Try.run_inT W t qm t.data.length km
          have h24 := inRow_len (tIn t) none 0 0 qm t.data.length km
          obtain ⟨R, hR⟩ : ∃ R, inRow (tIn t) none 0 0 qm t.data.length km = R := ⟨_, rfl⟩
          have HRR := Lib.hid hR
          have R1 : Hid (∀ u ∈ R, u.oneCell' = true) := by show ∀ u ∈ R, _; rw [← hR]; exact inRow_one _ _ _ _ _ _ _
          rw [hR] at hin h24
          have hsl := Try.run_slice_in w6 R h24
          have b7 : Below w6.heap.size w6 (w6.alloc (.cells R.toArray 56)) := (Below.refl _ _).alloc (Nat.le_refl _) _
          have O7 := Lib.hid (O6.out.on PIn_ok b7)
          have RY7 := Lib.hid (RY6.out.on PTx_ok (by decide) b7)
          have P7 : Hid (PIn (w6.alloc (.cells R.toArray 56)) (fun g => w.heap.size ≤ g ∧ (Value.slice q1 L.length c1).ownBlock ≠ some g) (tIn t) R) := ⟨none, 0, qm, km, HRR.out.symm, RdF.nil _ _, R6.out.on b7⟩
          have SR := Lib.hid (src_any (P := Try.prog) (T := 56) (w := w6) Try.underlying30 h24 R1.out)
          have OWN := Lib.hid O7.out.own
          clear hR O6 R6 b7 RY6 KP
          go_wp2_with (at_builtin; refine wpList_append_row rfl _ _ rfl Try.underlying30 hi.out hz0.out hz1.out hz2.out in0_cells OWN.out SR.out ?b1 ?b2 ?_)
          case b1 => unfold maxLen; omega
          case b2 => omega
          intro q8 k8 w8 own8 grow8 fr8
          have fr9 : (Value.slice q8 (L.length + 1) k8).ownBlock = (Value.slice q1 L.length c1).ownBlock ∨ (Value.slice q8 (L.length + 1) k8).ownBlock = some (w6.alloc (.cells R.toArray 56)).heap.size := by rw [show (w6.alloc (.cells R.toArray 56)).heap.size = w6.heap.size + 1 by simp]; exact fr8
          have O8 := Lib.hid (O7.out.grow PIn_ok h24 P7.out own8 grow8 fr9)
          have RY8 := Lib.hid (RY7.out.grown PTx_ok (by decide) grow8 fr9)
          clear own8 grow8 fr8 fr9 O7 P7 SR OWN hsl hin hrw RY7
          go_wp2_with fail
          go_roundw
          case rel =>
            refine ⟨j + 1, q8, k8, L ++ [tIn t], done ++ R, by go_num, by simp, by have := HLT.out; omega, ?_, HLM, ?_, ?_⟩
            · show _ ≤ _
              have := hLj.out
              simp only [List.length_append, List.length_singleton]
              omega
            · rw [List.length_append, List.length_singleton]; exact O8.out
            · rw [List.length_append, List.length_singleton]; exact RY8
          case measure => have := HLT.out; simp [intOf]; omega
        · have X := Lib.hid (YES.out _ L q1 c1 (by
            rw [EI.out, hLe.out, show j = Y.length by omega, List.take_length]) (hO.out.rd PIn_ok (fun g hg => hg)) hO.out.below)
          clear YES hO hRY
          go_wp2_with fail
          go_ret2
          exact X.out
end Go.Proofs.Ytonjkhhihiigfaa
namespace Go.Proofs.Ytonjkhhihiigfaa
set_option maxRecDepth 100000
open Go.RowKit

theorem adB_sw {L : List Bk} {a : Nat} {y : List Int} (sm : BksSm L) (by_ : Bytes y) (hy : y.length ≤ 5000) : BksSw (adB L a y) := by
  intro x hx
  rcases List.mem_or_eq_of_mem_set hx with h | h
  · exact ⟨(sm x h).ok, (sm x h).ds, (sm x h).md⟩
  · subst h
    have s := sm.get a
    have hb := s.bs
    refine ⟨⟨s.ok.ds, fun b hb2 => ?_, s.ok.dl, ?_⟩, s.ds, s.md⟩
    · rcases List.mem_append.1 hb2 with h | h
      · exact s.ok.bs b h
      · obtain rfl : b = y := by simpa using h
        exact ⟨by_, by omega⟩
    · show ((L.getD a bk0).bs ++ [y]).length ≤ _
      rw [List.length_append, List.length_singleton]
      omega
theorem fInE_ad (L : List Bk) (a : Nat) (y : List Int) (n k : Int) : fInE (adB L a y) n k = fInE L n k := by
  unfold fInE
  rw [adB_len]
/-- What is left behind the store: rows that are the same but for one, read. -/
theorem RwF.set {w w' : World} {F G : Fp} {b off : Nat} {L : List Bk} {a : Nat} {x : Bk} {r : List Value} (h : RwF 2 bk0 PBk w F (some ⟨b, off, none⟩) L) (hG : G b)
    (hs : ∀ i, i < L.length → i ≠ a → rowOf w' b (off + i * 2) 2 = rowOf w b (off + i * 2) 2) (hp : ∀ i, i < L.length → i ≠ a → ∀ s, rowOf w b (off + i * 2) 2 = s → PBk w F (L.getD i bk0) s → PBk w' G (L.getD i bk0) s)
    (hr : r.length = 2) (ha : rowOf w' b (off + a * 2) 2 = r) (hx : PBk w' G x r) : RwF 2 bk0 PBk w' G (some ⟨b, off, none⟩) (L.set a x) := by
  refine .inr ⟨b, off, rfl, hG, fun i hi => ?_⟩
  rw [List.length_set] at hi
  by_cases e : i = a
  · subst e
    have eg : (L.set i x).getD i bk0 = x := by simp [List.getD, hi]
    rw [eg]
    exact ⟨r, hr, ha, hx⟩
  · obtain ⟨b2, off2, s, hq, _, h1, h2, h3⟩ := h.get hi
    obtain ⟨rfl, rfl⟩ : b = b2 ∧ off = off2 := by simpa using hq
    have eg : (L.set a x).getD i bk0 = L.getD i bk0 := by simp [List.getD, Ne.symm e]
    rw [eg]
    exact ⟨s, h1, (hs i hi e).trans h2, hp i hi e s h2 h3⟩
end Go.Proofs.Ytonjkhhihiigfaa
namespace Go.Proofs.Ytonjkhhihiigfaa
set_option maxRecDepth 100000
open Go.RowKit

theorem RwF.bks {w : World} {F : Fp} {q : Option Addr} {B : List Bi} (h : RwF 2 bi0 PBi w F q B) : RwF 2 bk0 PBk w F q (B.map Bi.x) := by
  rcases h with h | ⟨b, off, e, hb, hx⟩
  · exact .inl (by rw [h]; rfl)
  · refine .inr ⟨b, off, e, hb, fun i hi => ?_⟩
    rw [List.length_map] at hi
    obtain ⟨r, h1, h2, h3⟩ := hx i hi
    have e : (B.map Bi.x).getD i bk0 = (B.getD i bi0).x := by simp [List.getD, hi]
    rw [e]
    exact ⟨r, h1, h2, h3.bk⟩
theorem rowOf_other {w : World} {b o j : Nat} {v : Value} {cs : Array Value} {t : TypeId} {fr : Nat × Nat} (h : w.heap[b]? = some (.cells cs t fr)) (hj : j < o ∨ o + 2 ≤ j) : rowOf (w.setCell ⟨b, j, none⟩ v) b o 2 = rowOf w b o 2 := by
  rw [rowOf_block h, rowOf_block (Joins.block_setCell h v)]
  apply List.ext_getElem?
  intro i
  simp only [Array.toList_extract, Array.toList_setIfInBounds, List.extract_eq_take_drop, List.getElem?_take, List.getElem?_drop, List.getElem?_set]
  split
  · rw [if_neg (by omega)]
  · rfl
theorem rowOf_second {w : World} {b o : Nat} {v u z : Value} {cs : Array Value} {t : TypeId} {fr : Nat × Nat} (h : w.heap[b]? = some (.cells cs t fr)) (hr : rowOf w b o 2 = [u, z]) : rowOf (w.setCell ⟨b, o + 1, none⟩ v) b o 2 = [u, v] := by
  rw [rowOf_block h] at hr
  rw [rowOf_block (Joins.block_setCell h v)]
  have hl : o + 1 < cs.size := by
    have h2 := congrArg List.length hr
    simp [Array.toList_extract, List.extract_eq_take_drop] at h2
    omega
  have h0 := congrArg (fun l => l[0]?) hr
  simp [Array.toList_extract, List.extract_eq_take_drop, List.getElem?_drop] at h0
  apply List.ext_getElem?
  intro i
  simp only [Array.toList_extract, Array.toList_setIfInBounds, List.extract_eq_take_drop, List.getElem?_take, List.getElem?_drop, List.getElem?_set]
  rcases i with _ | _ | i
  · simp [h0]
  · simp [hl]
  · rw [if_neg (by omega)]
    simp
theorem ad_done {w3 w9 w10 : World} {q4 q8 qd qb : Option Addr} {c4 n4 k8 kd kb : Nat} {B : List Bi} {dn dn' : List Value} {af b off : Nat} {xs : List Int} {X : Bk} {lo hi : Nat}
    (O : OwF 2 bi0 PBi (fun g => w3.heap.size ≤ g) w3 w9 72 (.slice q4 n4 c4) B dn) (apt : Apt B) (hal : af < B.length) (hX : B.getD af bi0 = ⟨X, lo, hi⟩)
    (hq : q4 = some ⟨b, off, none⟩) (hob : (Value.slice q4 n4 c4).ownBlock = some b)
    (hrow : rowOf w9 b (off + af * 2) 2 = [.slice qd X.ds.length kd, .slice qb X.bs.length kb])
    (hds : RwF 9 mg0 PMg w9 (fun g => (lo ≤ g ∧ g < hi) ∧ (Value.slice qb X.bs.length kb).ownBlock ≠ some g) qd X.ds)
    (hg0 : ∀ g, (Value.slice qb X.bs.length kb).ownBlock = some g → lo ≤ g ∧ g < hi)
    (grow : w9.grownBy w10 (Value.slice qb X.bs.length kb).ownBlock)
    (P : OwF 1 [] PBs (fun g => w3.heap.size ≤ g ∧ g ≠ b) w3 w10 50 (.slice q8 (X.bs.length + 1) k8) (X.bs ++ [xs]) dn') :
    RwF 2 bk0 PBk (w10.setCell ⟨b, off + af * 2 + 1, none⟩ (.slice q8 (X.bs.length + 1) k8)) (fun g => w3.heap.size ≤ g) q4 ((B.map Bi.x).set af ⟨X.ds, X.bs ++ [xs]⟩) ∧ Below w3.heap.size w3 (w10.setCell ⟨b, off + af * 2 + 1, none⟩ (.slice q8 (X.bs.length + 1) k8)) := by
  subst hq
  have hb3 : w3.heap.size ≤ b := O.fresh b hob
  have hlt : ∀ i, i < B.length → ∀ g, (B.getD i bi0).lo ≤ g → g < (B.getD i bi0).hi → w3.heap.size ≤ g ∧ g ≠ b ∧ g < w9.heap.size := fun i hi g h1 h2 => by
    obtain ⟨r, _, _, hp⟩ := O.each i hi
    obtain ⟨⟨a1, a2⟩, a3⟩ := hp.2 g h1 h2
    exact ⟨a1, fun e => a2 (by rw [e]; exact hob), a3⟩
  obtain ⟨cs, hblk⟩ : ∃ cs, w9.heap[b]? = some (.cells cs 72 (0, 0)) := by
    rcases O.own.2 with ⟨_, h0⟩ | ⟨g, cap, cur, e, _, hg, _⟩
    · omega
    · obtain rfl : g = b := by
        rw [e] at hob
        simpa [Value.ownBlock] using hob
      exact ⟨cur, hg⟩
  have hbne : (Value.slice qb X.bs.length kb).ownBlock ≠ some b := fun e => by
    have h1 := hg0 b e
    have := hlt af hal b (by rw [hX]; exact h1.1) (by rw [hX]; exact h1.2)
    exact this.2.1 rfl
  have hblk10 : w10.heap[b]? = some (.cells cs 72 (0, 0)) := by
    rw [grow.block b (Array.getElem?_eq_some_iff.1 hblk).1 (fun e => hbne e.symm)]; exact hblk
  have hrow10 : ∀ o, rowOf w10 b o 2 = rowOf w9 b o 2 := fun o => by rw [rowOf_block hblk, rowOf_block hblk10]
  have cS : Chg w10 (w10.setCell ⟨b, off + af * 2 + 1, none⟩ (.slice q8 (X.bs.length + 1) k8)) [b] := (Chg.refl _ [b]).setCell (p := ⟨b, off + af * 2 + 1, none⟩) (.inl (by simp)) _
  have P11 := P.chg PBs_ok cS (fun g hg hm => by
    obtain rfl : g = b := by simpa using hm
    exact hg.2 rfl) (fun g hg hm => by
    obtain rfl : g = b := by simpa using hm
    exact own_ne P.own hblk10 (by decide) hg) (fun g hm => by
    obtain rfl : g = b := by simpa using hm
    exact hb3)
  have hagr : ∀ g, g < w9.heap.size → g ≠ b → (Value.slice qb X.bs.length kb).ownBlock ≠ some g → (w10.setCell ⟨b, off + af * 2 + 1, none⟩ (.slice q8 (X.bs.length + 1) k8)).heap[g]? = w9.heap[g]? := fun g h1 h2 h3 => by
    have e10 := grow.block g h1 (fun e => h3 e.symm)
    have hl10 : g < w10.heap.size := by
      rw [Array.getElem?_eq_getElem h1] at e10
      exact (Array.getElem?_eq_some_iff.1 e10).1
    exact (cS.block g hl10 (by simpa using h2)).trans e10
  refine ⟨?_, P11.below⟩
  have RX := O.rd PBi_ok (fun g hg => hg)
  have RB := RX.bks
  have ex : (B.map Bi.x).getD af bk0 = X := by
    have e : (B.map Bi.x).getD af bk0 = (B.getD af bi0).x := by simp [List.getD, hal]
    rw [e, hX]
  refine RB.set hb3 (fun i hi hne => ?_) (fun i hi hne s hs _ => ?_) (r := [.slice qd X.ds.length kd, .slice q8 (X.bs.length + 1) k8]) rfl ?_ ?_
  · rw [rowOf_other hblk10 (by omega)]
    exact hrow10 _
  · rw [List.length_map] at hi
    obtain ⟨b2, off2, r, hq2, _, h1, h2, h3⟩ := RX.get hi
    obtain ⟨rfl, rfl⟩ : b = b2 ∧ off = off2 := by simpa using hq2
    have e : (B.map Bi.x).getD i bk0 = (B.getD i bi0).x := by simp [List.getD, hi]
    rw [e, ← hs, h2]
    have hin : ∀ g, (B.getD i bi0).lo ≤ g → g < (B.getD i bi0).hi → (Value.slice qb X.bs.length kb).ownBlock ≠ some g := fun g g1 g2 e3 => by
      have h4 := hg0 g e3
      rcases Nat.lt_or_gt_of_ne hne with hl | hl
      · have := apt i af g hl hal g1 g2
        rw [hX] at this
        have h5 := h4.1
        simp only at this
        omega
      · have := apt af i g hl hi (by rw [hX]; exact h4.1) (by rw [hX]; exact h4.2)
        omega
    have hp : PBi w9 (fun g => (B.getD i bi0).lo ≤ g ∧ g < (B.getD i bi0).hi) (B.getD i bi0) r := ⟨h3.1, fun g g1 g2 => ⟨⟨g1, g2⟩, (h3.2 g g1 g2).2⟩⟩
    have hp2 := PBi_ok.agr hp (w' := w10.setCell ⟨b, off + af * 2 + 1, none⟩ (.slice q8 (X.bs.length + 1) k8)) (fun g hg hl => hagr g hl (hlt i hi g hg.1 hg.2).2.1 (hin g hg.1 hg.2))
    exact (PBi_ok.mono hp2 (fun g hg => (hlt i hi g hg.1 hg.2).1)).bk
  · exact rowOf_second hblk10 ((hrow10 _).trans hrow)
  · refine ⟨qd, kd, q8, k8, by rw [List.length_append, List.length_singleton], ?_, ?_⟩
    · refine (hds.agr PMg_ok (by decide) (fun g hg hl => ?_)).mono PMg_ok (fun g hg => ?_)
      · have := hlt af hal g (by rw [hX]; exact hg.1.1) (by rw [hX]; exact hg.1.2)
        exact hagr g hl this.2.1 hg.2
      · exact (hlt af hal g (by rw [hX]; exact hg.1.1) (by rw [hX]; exact hg.1.2)).1
    · have P12 := P11.rd2 (F := fun g => w3.heap.size ≤ g ∧ g ≠ b) PBs_ok (fun g hg => ⟨P11.fresh g hg, fun e => own_ne P.own hblk10 (by decide) (by rw [← e]; exact hg)⟩)
      exact P12.mono PBs_ok (G := fun g => w3.heap.size ≤ g) (fun g hg => hg.1)
theorem RwO.owf {w3 w : World} {F G : Fp} {q : Option Addr} {k : Nat} {L : List (List Int)} (h : RwO k w F q L) (hb : Below w3.heap.size w3 w) (hF : ∀ g, F g → w3.heap.size ≤ g ∧ G g) : ∃ vs, OwF 1 [] PBs G w3 w 50 (.slice q L.length k) L vs := by
  obtain ⟨⟨vs, h1, h2⟩, h3⟩ := h
  refine ⟨vs, h1, fun i hi => ?_, fun g hg => (hF g (h3 g hg)).1, hb⟩
  obtain ⟨r, e1, e2, e3⟩ := h2 i hi
  refine ⟨r, e1, by rw [Nat.mul_one]; exact e2, PBs_ok.mono e3 (fun g hg => ⟨(hF g hg.1).2, hg.2⟩)⟩
theorem ad_cell {w3 w9 w10 : World} {q4 : Option Addr} {c4 n4 j : Nat} {B : List Bi} {dn : List Value} {b off : Nat} {u v : Value}
    (O : OwF 2 bi0 PBi (fun g => w3.heap.size ≤ g) w3 w9 72 (.slice q4 n4 c4) B dn)
    (hq : q4 = some ⟨b, off, none⟩) (hob : (Value.slice q4 n4 c4).ownBlock = some b) (hB : 0 < B.length)
    (hc : w9.cell? ⟨b, j, none⟩ = some u) (hne : v.ownBlock ≠ some b) (grow : w9.grownBy w10 v.ownBlock) : w10.cell? ⟨b, j, none⟩ = some u ∧ w10.frozen? ⟨b, j, none⟩ = false := by
  subst hq
  obtain ⟨cs, hblk⟩ : ∃ cs, w9.heap[b]? = some (.cells cs 72 (0, 0)) := by
    rcases O.own.2 with ⟨_, h0⟩ | ⟨g, cap, cur, e, _, hg, _⟩
    · omega
    · obtain rfl : g = b := by
        rw [e] at hob
        simpa [Value.ownBlock] using hob
      exact ⟨cur, hg⟩
  have hblk10 : w10.heap[b]? = some (.cells cs 72 (0, 0)) := by
    rw [grow.block b (Array.getElem?_eq_some_iff.1 hblk).1 (fun e => hne e.symm)]; exact hblk
  exact ⟨by rw [Joins.cell_of_block hblk10]; rw [Joins.cell_of_block hblk] at hc; exact hc, Joins.unfrozen_of_block hblk10 _⟩
end Go.Proofs.Ytonjkhhihiigfaa
