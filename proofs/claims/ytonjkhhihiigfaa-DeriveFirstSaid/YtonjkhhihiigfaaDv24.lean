/-
  The inputs of a number, by the document.; The inputs of all known numbers, by the document.; What is known, found and goes in, as the document has it.
-/
import Derived.Test.YtonjkhhihiigfaaDv20
import Derived.Test.YtonjkhhihiigfaaDv23
namespace Go.Proofs.Ytonjkhhihiigfaa
set_option maxRecDepth 100000
open Go.RowKit

theorem Try.run_inrD (w : World) (m : Mg) (q : Option Addr) (n k : Nat) : (rowBuild 86 #[(0, .bool true), (1, .agg #[.int .u64 m.val.a, .int .u64 m.val.b, .int .u64 m.val.c, .int .u64 m.val.d]), (2, .agg (mgRow m q n k).toArray)]).run Try.prog w = .ok (.agg (inRow (dIn m) q n k none 0 0).toArray) w := by unfold rowBuild; kernel_rfl
theorem Try.run_inrT (w : World) (t : Tg) (q : Option Addr) (n k : Nat) : (rowBuild 86 #[(3, .agg (txRow t q n k).toArray)]).run Try.prog w = .ok (.agg (inRow (tIn t) none 0 0 q n k).toArray) w := by unfold rowBuild; kernel_rfl
theorem fScan_at {Ls : List Bk} {n : Int} : ∀ {f b c i : Nat}, fScan Ls n b f = some (c, i) → fIn n (Ls.getD (c - 1) bk0).bs = some i
  | 0, _, _, _, h => by cases h
  | f + 1, b, c, i, h => by
    unfold fScan at h
    split at h
    · rename_i j e
      simp only [Option.some.injEq, Prod.mk.injEq] at h
      rw [← h.1, ← h.2]
      exact e
    · exact fScan_at h
theorem fFind_at {Ls : List Bk} {n k : Int} (h1 : 1 ≤ n) (h2 : n ≤ kN Ls.length k) {b i : Nat} (h : fFind Ls n k = some (b, i)) : 1 ≤ b ∧ b - 1 < Ls.length ∧ i < (Ls.getD (b - 1) bk0).bs.length := by
  obtain ⟨hw, x, y, z⟩ := kN_in h1 h2
  rw [fFind_known h1 h2] at h
  have h3 := fScan_in h
  exact ⟨by omega, by omega, (fIn_at (fScan_at h)).1⟩
/-- What the document's Inputs answers. -/
def InsR (F : Fp) (I : List Inp) (E : Int) (w : World) (e : Ending) (w' : World) : Prop := ∃ q c, e = .returned (.tuple #[.slice q I.length c, .int .i64 E]) ∧ RwF 24 inp0 PIn w' (fun g => F g ∨ w.heap.size ≤ g) q I ∧ Below w.heap.size w w'
theorem InsR.yes {F : Fp} {I J : List Inp} {E : Int} {w W : World} {q : Option Addr} {c : Nat} (hI : I = J) (hE : E = 0) (hr : RwF 24 inp0 PIn W (fun g => F g ∨ w.heap.size ≤ g) q J) (hb : Below w.heap.size w W) : InsR F I E w (.returned (.tuple #[.slice q J.length c, .int .i64 0])) W := by
  subst hI hE
  exact ⟨q, c, rfl, hr, hb⟩
theorem InsR.no {F : Fp} {I : List Inp} {E z : Int} {w W : World} (hI : I = []) (hE : E = z) (hb : Below w.heap.size w W) : InsR F I E w (.returned (.tuple #[.slice none 0 0, .int .i64 z])) W := by
  subst hI hE
  exact ⟨none, 0, rfl, RwF.nil _ _ _, hb⟩

set_option maxHeartbeats 16000000 in
theorem refInputs_any {w : World} {F : Fp} {Ls : List Bk} {q : Option Addr} {c : Nat} {n k : Int} (hr : RwF 2 bk0 PBk w F q Ls) (hF : ∀ g, F g → g < w.heap.size) (sm : BksSm Ls) (hl : Ls.length ≤ 1000) :
    Calls Try.prog 14 #[.slice q Ls.length c, .int .i64 n, .int .i64 k] w (InsR F (fInL Ls n k) (fInE Ls n k) w) := by
  obtain ⟨i0, hi, hz0, hz1, hz2⟩ := info_parts Try.infoInR
  replace hi := Lib.hid hi
  replace hz0 := Lib.hid hz0
  replace hz1 := Lib.hid hz1
  replace hz2 := Lib.hid hz2
  have HFF := Lib.hid hF
  have HR : Hid (∀ W, Below w.heap.size w W → RwF 2 bk0 PBk W F q Ls) := fun W hb => hr.on PBk_ok (by decide) hb
  have H0 := Lib.hid hr
  have SM := Lib.hid sm
  have LL := Lib.hid hl
  have KW := Lib.hid (fun (W : World) => refwindow_any k W)
  have KK := Lib.hid (fun (W : World) => refKnown_any (h := (Ls.length : Int)) (k := k) (by omega) W)
  have ATF := Lib.hid (fun (h1 : 1 ≤ n) (h2 : n ≤ kN Ls.length k) (b i : Nat) (h : fFind Ls n k = some (b, i)) => fFind_at h1 h2 h)
  have HE : Hid (fInE Ls n k = if wOk k = true then (if 1 ≤ n ∧ n ≤ kN Ls.length k then 0 else 3) else 1) := rfl
  have HI : Hid (fInL Ls n k = if wOk k = true ∧ 1 ≤ n ∧ n ≤ kN Ls.length k then (Ls.getD (n.toNat - 1) bk0).ds.map dIn ++ (foL Ls (fFind Ls n k)).map tIn else []) := rfl
  have HK : Hid (kN Ls.length k ≤ (Ls.length : Int) - 1 ∨ wOk k = false ∨ kN Ls.length k ≤ 0) := by
    show _ ∨ _
    unfold kN
    by_cases h : wOk k = true ∧ k < (Ls.length : Int)
    · rw [if_pos h]
      have : 1 ≤ k ∧ k ≤ 64 := by simpa [wOk] using h.1
      left; omega
    · rw [if_neg h]
      right; right; omega
  obtain ⟨I, hI⟩ : ∃ I, fInL Ls n k = I := ⟨_, rfl⟩
  obtain ⟨E, hE⟩ : ∃ E, fInE Ls n k = E := ⟨_, rfl⟩
  rw [hI] at HI ⊢
  rw [hE] at HE ⊢
  have NO := Lib.hid (fun (W : World) (z : Int) (h1 : I = []) (h2 : E = z) (hb : Below w.heap.size w W) => InsR.no (F := F) (I := I) (E := E) h1 h2 hb)
  have YES := Lib.hid (fun (W : World) (J : List Inp) (q' : Option Addr) (c' : Nat) (h1 : I = J) (h2 : E = 0) (hr : RwF 24 inp0 PIn W (fun g => F g ∨ w.heap.size ≤ g) q' J) (hb : Below w.heap.size w W) => InsR.yes (c := c') h1 h2 hr hb)
  obtain ⟨wk, hwk⟩ : ∃ x, wOk k = x := ⟨_, rfl⟩
  rw [hwk] at HE HI KW HK
  obtain ⟨N, hN⟩ : ∃ x, kN Ls.length k = x := ⟨_, rfl⟩
  rw [hN] at HE HI KK HK ATF
  clear hr hF sm hI hE hwk hN
  go_enter Try.func14, Try.ntmps14
  go_wp2_with fail
  refine (KW.out _).mono ?_
  rintro e wz ⟨rfl, hwz⟩
  obtain rfl := hwz.symm
  clear hwz
  cases wk with
  | false =>
    have X := Lib.hid (NO.out w 1 (by rw [HI.out]; exact if_neg (fun h => by simp at h)) (by rw [HE.out]; rfl) (Below.refl _ _))
    clear NO YES HE HI KK HK
    go_wp2_with fail
    go_ret2
    exact X.out
  | true =>
  replace HE : Hid (E = if 1 ≤ n ∧ n ≤ N then 0 else 3) := by show _ = _; rw [HE.out]; exact if_pos rfl
  replace HI : Hid (I = if 1 ≤ n ∧ n ≤ N then (Ls.getD (n.toNat - 1) bk0).ds.map dIn ++ (foL Ls (fFind Ls n k)).map tIn else []) := by
    show _ = _
    rw [HI.out]
    by_cases h : 1 ≤ n ∧ n ≤ N
    · rw [if_pos ⟨rfl, h⟩, if_pos h]
    · rw [if_neg (fun h2 => h h2.2), if_neg h]
  replace HK : Hid (N ≤ (Ls.length : Int) - 1 ∨ N ≤ 0) := by
    rcases HK.out with h | h | h
    · exact .inl h
    · simp at h
    · exact .inr h
  by_cases hn1 : n < 1
  · have d1 : decide (n < 1) = true := decide_eq_true hn1
    have X := Lib.hid (NO.out w 3 (by rw [HI.out]; exact if_neg (fun h => by omega)) (by rw [HE.out]; exact if_neg (fun h => by omega)) (Below.refl _ _))
    clear NO YES HE HI KK HK
    go_wp2_with fail
    go_ret2
    exact X.out
  have d1 : decide (n < 1) = false := decide_eq_false hn1
  go_wp2_with fail
  refine (KK.out _).mono ?_
  rintro e wz ⟨rfl, hwz⟩
  obtain rfl := hwz.symm
  clear hwz
  by_cases hn2 : n > N
  · have d2 : decide (n > N) = true := decide_eq_true hn2
    have d2' : decide (N < n) = true := decide_eq_true hn2
    have X := Lib.hid (NO.out w 3 (by rw [HI.out]; exact if_neg (fun h => by omega)) (by rw [HE.out]; exact if_neg (fun h => by omega)) (Below.refl _ _))
    clear NO YES HE HI KK HK
    go_wp2_with fail
    go_ret2
    exact X.out
  have d2 : decide (n > N) = false := decide_eq_false hn2
  have d2' : decide (N < n) = false := decide_eq_false hn2
  have hnl : n ≤ (Ls.length : Int) - 1 := by
    rcases HK.out with h | h
    · omega
    · omega
  have EI : Hid (I = (Ls.getD (n.toNat - 1) bk0).ds.map dIn ++ (foL Ls (fFind Ls n k)).map tIn) := by show _ = _; rw [HI.out]; exact if_pos ⟨by omega, by omega⟩
  have EE : Hid (E = 0) := by show _ = _; rw [HE.out]; exact if_pos ⟨by omega, by omega⟩
  replace ATF := Lib.hid (ATF.out (by omega) (by omega))
  replace YES := Lib.hid (fun (W : World) (J : List Inp) (q' : Option Addr) (c' : Nat) (h1 : I = J) (hr : RwF 24 inp0 PIn W (fun g => F g ∨ w.heap.size ≤ g) q' J) (hb : Below w.heap.size w W) => YES.out W J q' c' h1 EE.out hr hb)
  clear NO HE HI KK HK EE
  obtain ⟨a, rfl⟩ : ∃ a : Nat, n = (a : Int) + 1 := ⟨(n - 1).toNat, by omega⟩
  rw [show ((a : Int) + 1).toNat - 1 = a by omega] at EI
  have hal : a < Ls.length := by omega
  obtain ⟨bb, off, r, hq, hFb, hr2, hrow, qd, kd, qb, kb, hre, hds, hbs⟩ := H0.out.get hal
  subst hq hre
  have c0w := row_cell hrow hr2 (j := 0) (v := .slice qd (Ls.getD a bk0).ds.length kd) rfl
  rw [Nat.add_zero] at c0w
  have HDS := Lib.hid hds
  have OKD := Lib.hid (SM.out.get a)
  obtain ⟨D, hD⟩ : ∃ D, (Ls.getD a bk0).ds = D := ⟨_, rfl⟩
  have hD20 : D.length ≤ 20 := by rw [← hD]; exact OKD.out.ds
  rw [hD] at c0w HDS EI
  obtain ⟨o, ho⟩ : ∃ o, fFind Ls ((a : Int) + 1) k = o := ⟨_, rfl⟩
  have HOe := Lib.hid ho
  rw [ho] at EI ATF
  have wa0 : IntKind.i64.wrap ((a : Int) + 1 - 1) = (a : Int) := by
    rw [show (a : Int) + 1 - 1 = (a : Int) by omega]; exact IntWalk.i64_in _ (by omega)
  have O0 : Hid (OwF 24 inp0 PIn (fun g => F g ∨ w.heap.size ≤ g) w w 86 (.slice none ([] : List Inp).length 0) [] []) := OwF.start (Below.refl _ _)
  have HD := Lib.hid hD20
  clear hbs hds hrow hr2 hFb hD ho hD20
  go_wp2_with fail
  clear c0w wa0 d1 d2 d2'
  go_loopw [8, 10] (fun ov iv wr => ∃ (q1 : Option Addr) (c1 : Nat) (L : List Inp) (done : List Value), iv = .int .i64 (L.length : Int) ∧ ov = .slice q1 L.length c1 ∧ L.length ≤ D.length ∧ Hid (L = (D.map dIn).take L.length) ∧ Hid (OwF 24 inp0 PIn (fun g => F g ∨ w.heap.size ≤ g) w wr 86 (.slice q1 L.length c1) L done)) (fun _ iv _ => D.length - (intOf iv).toNat)
  case atStart => exact ⟨none, 0, [], [], rfl, rfl, by simp, rfl, O0⟩
  case round =>
    clear O0
    obtain ⟨q1, c1, L, done, rfl, rfl, hil, hLe, hO⟩ := hrel
    have hd20 := HD.out
    have hdl : L.length ≤ 20 := by omega
    by_cases hlt : L.length < D.length
    · obtain ⟨b1, off1, r1, hq1, _, hr3, hrow3, qm, km, hre3, hrd⟩ := HDS.out.get hlt
      subst hq1 hre3
      have hb1 := rowOf_lt (by decide) hr3 hrow3
      have HLM : Hid (L ++ [dIn (D.getD L.length mg0)] = (D.map dIn).take (L.length + 1)) := by
        have e : (D.map dIn).getD L.length inp0 = dIn (D.getD L.length mg0) := by simp [List.getD, hlt]
        show _ = _
        rw [← e]
        exact take_snoc hLe.out (by simpa using hlt)
      obtain ⟨m, hm⟩ : ∃ m, D.getD L.length mg0 = m := ⟨_, rfl⟩
      rw [hm] at hrow3 hr3 hrd HLM
      have ROW := Lib.hid (fun (W : World) (hb : Below w.heap.size w W) => (show rowOf W b1 (off1 + L.length * 9) 9 = mgRow m qm m.data.length km from by rw [rowOf_agr (hb.block b1 hb1)]; exact hrow3))
      have VAL := Lib.hid (fun (W : World) (hb : Below w.heap.size w W) => (show W.cell? ⟨b1, off1 + L.length * 9 + 3, none⟩ = some (.int .u64 m.val.a) ∧ W.cell? ⟨b1, off1 + L.length * 9 + 4, none⟩ = some (.int .u64 m.val.b) ∧ W.cell? ⟨b1, off1 + L.length * 9 + 5, none⟩ = some (.int .u64 m.val.c) ∧ W.cell? ⟨b1, off1 + L.length * 9 + 6, none⟩ = some (.int .u64 m.val.d) ∧ W.cell? ⟨b1, off1 + L.length * 9 + 3 + 1, none⟩ = some (.int .u64 m.val.b) ∧ W.cell? ⟨b1, off1 + L.length * 9 + 3 + 2, none⟩ = some (.int .u64 m.val.c) ∧ W.cell? ⟨b1, off1 + L.length * 9 + 3 + 3, none⟩ = some (.int .u64 m.val.d) from by
        have hx := ROW.out W hb
        have r3 := row_cell hx (mgRow_len _ _ _ _) (j := 3) rfl
        have r4 := row_cell hx (mgRow_len _ _ _ _) (j := 4) rfl
        have r5 := row_cell hx (mgRow_len _ _ _ _) (j := 5) rfl
        have r6 := row_cell hx (mgRow_len _ _ _ _) (j := 6) rfl
        exact ⟨r3, r4, r5, r6, r4, r5, r6⟩))
      have h9 := mgRow_len m qm m.data.length km
      have RIN := Lib.hid (fun (W : World) => Try.run_inrD W m qm m.data.length km)
      have h24 := inRow_len (dIn m) qm m.data.length km none 0 0
      obtain ⟨R, hR⟩ : ∃ R, inRow (dIn m) qm m.data.length km none 0 0 = R := ⟨_, rfl⟩
      have HRR := Lib.hid hR
      have R1 : Hid (∀ u ∈ R, u.oneCell' = true) := by show ∀ u ∈ R, _; rw [← hR]; exact inRow_one _ _ _ _ _ _ _
      rw [hR] at RIN h24
      have b5 : Below w.heap.size w wr.drew := hO.out.below.drew
      have S6 := b5
      have O6 := Lib.hid (hO.out.on PIn_ok ((Below.refl wr.heap.size wr).drew))
      have R6 : Hid (RdF wr.drew (fun g => (F g ∨ w.heap.size ≤ g) ∧ (Value.slice q1 L.length c1).ownBlock ≠ some g) (.slice qm m.data.length km) m.data) := (hrd.on b5).mono (fun g hg => ⟨.inl hg, fun e => by have := hO.out.fresh g e; have := HFF.out g hg; omega⟩)
      have HLT := Lib.hid hlt
      clear hm hR hr3 hrow3 hb1 hrd hLe hO b5
      go_wp2_with fail
      refine wp_region_held_drew (S := fun W => Below w.heap.size w W) (by kernel_rfl) (S6) (fun h0 => ?_)
      generalize wr.drew = w6 at *
      refine wpAnyH_take (i := 0) (v := ?_) (by rw [List.getElem?_toArray]; rfl) (by kernel_rfl) (by kernel_rfl) (by kernel_rfl) (by exact fun _ _ _ h => h) (Or.inl ⟨by rfl, ?_⟩) h0 ?_
      rotate_left
      · intro W hW
        go_simp
        all_goals with_reducible rfl
      try simp only [Act.put, List.setIfInBounds_toArray, List.set_cons_zero, List.set_cons_succ]
      refine wpAnyH_take (i := 1) (v := ?_) (by rw [List.getElem?_toArray]; rfl) (by kernel_rfl) (by kernel_rfl) (by kernel_rfl) (by exact fun _ _ _ h => h) (Or.inl ⟨by rfl, ?_⟩) h0 ?_
      rotate_left
      · intro W hW
        go_simp
        all_goals with_reducible rfl
      try simp only [Act.put, List.setIfInBounds_toArray, List.set_cons_zero, List.set_cons_succ]
      refine wpAnyH_take (i := 2) (v := ?_) (by rw [List.getElem?_toArray]; rfl) (by kernel_rfl) (by kernel_rfl) (by kernel_rfl) (by exact fun _ _ _ h => h) (Or.inl ⟨by rfl, ?_⟩) h0 ?_
      rotate_left
      · intro W hW
        go_simp
        all_goals with_reducible rfl
      try simp only [Act.put, List.setIfInBounds_toArray, List.set_cons_zero, List.set_cons_succ]
      refine wpAnyH_take (i := 3) (v := ?_) (by rw [List.getElem?_toArray]; rfl) (by kernel_rfl) (by kernel_rfl) (by kernel_rfl) (by exact fun _ _ _ h => h) (Or.inl ⟨by rfl, ?_⟩) h0 ?_
      rotate_left
      · intro W hW
        go_simp
        all_goals with_reducible rfl
      try simp only [Act.put, List.setIfInBounds_toArray, List.set_cons_zero, List.set_cons_succ]
      refine wpAnyH_take (i := 4) (v := ?_) (by rw [List.getElem?_toArray]; rfl) (by kernel_rfl) (by kernel_rfl) (by kernel_rfl) (by exact fun _ _ _ h => h) (Or.inl ⟨by rfl, ?_⟩) h0 ?_
      rotate_left
      · intro W hW
        go_simp
        all_goals with_reducible rfl
      try simp only [Act.put, List.setIfInBounds_toArray, List.set_cons_zero, List.set_cons_succ]
      refine wpAnyH_take (i := 5) (v := ?_) (by rw [List.getElem?_toArray]; rfl) (by kernel_rfl) (by kernel_rfl) (by kernel_rfl) (by exact fun _ _ _ h => h) (Or.inl ⟨by rfl, ?_⟩) h0 ?_
      rotate_left
      · intro W hW
        obtain ⟨c3, c4, c5, c6, c4b, c5b, c6b⟩ := VAL.out W hW
        go_simp
        all_goals with_reducible rfl
      try simp only [Act.put, List.setIfInBounds_toArray, List.set_cons_zero, List.set_cons_succ]
      refine wpAnyH_take (i := 6) (v := ?_) (by rw [List.getElem?_toArray]; rfl) (by kernel_rfl) (by kernel_rfl) (by kernel_rfl) (by exact fun _ _ _ h => h) (Or.inl ⟨by rfl, ?_⟩) h0 ?_
      rotate_left
      · intro W hW
        go_simp
        all_goals with_reducible rfl
      try simp only [Act.put, List.setIfInBounds_toArray, List.set_cons_zero, List.set_cons_succ]
      refine wpAnyH_take (i := 7) (v := ?_) (by rw [List.getElem?_toArray]; rfl) (by kernel_rfl) (by kernel_rfl) (by kernel_rfl) (by exact fun _ _ _ h => h) (Or.inl ⟨by rfl, ?_⟩) h0 ?_
      rotate_left
      · intro W hW
        go_simp
        all_goals with_reducible rfl
      try simp only [Act.put, List.setIfInBounds_toArray, List.set_cons_zero, List.set_cons_succ]
      refine wpAnyH_take (i := 8) (v := ?_) (by rw [List.getElem?_toArray]; rfl) (by kernel_rfl) (by kernel_rfl) (by kernel_rfl) (by exact fun _ _ _ h => h) (Or.inl ⟨by rfl, ?_⟩) h0 ?_
      rotate_left
      · intro W hW
        go_simp
        all_goals with_reducible rfl
      try simp only [Act.put, List.setIfInBounds_toArray, List.set_cons_zero, List.set_cons_succ]
      refine wpAnyH_take (i := 9) (v := ?_) (by rw [List.getElem?_toArray]; rfl) (by kernel_rfl) (by kernel_rfl) (by kernel_rfl) (by exact fun _ _ _ h => h) (Or.inl ⟨by rfl, ?_⟩) h0 ?_
      rotate_left
      · intro W hW
        have hrw := ROW.out W hW
        go_simp
        all_goals with_reducible rfl
      try simp only [Act.put, List.setIfInBounds_toArray, List.set_cons_zero, List.set_cons_succ]
      refine wpAnyH_take (i := 10) (v := ?_) (by rw [List.getElem?_toArray]; rfl) (by kernel_rfl) (by kernel_rfl) (by kernel_rfl) (by exact fun _ _ _ h => h) (Or.inl ⟨by rfl, ?_⟩) h0 ?_
      rotate_left
      · intro W hW
        have hin := RIN.out W
        go_simp
        all_goals with_reducible rfl
      try simp only [Act.put, List.setIfInBounds_toArray, List.set_cons_zero, List.set_cons_succ]
      refine wpAnyH_ready (rs := [11]) (by kernel_rfl) (by simp) ?_
      refine AllReadyH.cons (by rw [List.getElem?_toArray]; rfl) (fun K hK => ?_) AllReadyH.nil
      rw [if_pos (by rfl)]
      have ba : Below w6.heap.size w6 (w6.alloc (.cells R.toArray 86)) := (Below.refl _ _).alloc (Nat.le_refl _) _
      have O7 := Lib.hid (O6.out.on PIn_ok ba)
      have P7 : Hid (PIn (w6.alloc (.cells R.toArray 86)) (fun g => (F g ∨ w.heap.size ≤ g) ∧ (Value.slice q1 L.length c1).ownBlock ≠ some g) (dIn m) R) := ⟨qm, km, none, 0, HRR.out.symm, R6.out.on ba, RdF.nil _ _⟩
      have SR := Lib.hid (src_any (P := Try.prog) (T := 86) (w := w6) Try.underlying34 h24 R1.out)
      have S7 := Below.trans h0 (ba.mono (Below.size h0))
      have hsl := Try.run_slice_inr w6 R h24
      clear ba O6 R6
      go_wp2_with fail
      clear hsl
      generalize w6.alloc (.cells R.toArray 86) = w7 at *
      have OW7 := Lib.hid O7.out.own
      refine hK.out _ _ (S7) (fun h7 => ?_)
      clear hK K
      try simp only [Act.put, List.setIfInBounds_toArray, List.set_cons_zero, List.set_cons_succ]
      refine wpAnyH_ready (rs := [12]) (by kernel_rfl) (by simp) ?_
      refine AllReadyH.cons (by rw [List.getElem?_toArray]; rfl) (fun K hK => ?_) AllReadyH.nil
      rw [if_pos (by rfl)]
      refine wp_append_row _ _ rfl Try.underlying34 hi.out hz0.out hz1.out hz2.out in0_cells OW7.out SR.out (by unfold maxLen; omega) (by omega) ?_
      intro q8 k8 w8 own8 grow8 fr8
      have O8 := Lib.hid (O7.out.grow PIn_ok h24 P7.out own8 grow8 fr8)
      have S8 : Below w.heap.size w w8 := O8.out.below
      clear own8 grow8 fr8 O7 P7 SR OW7 S7
      refine hK.out _ _ (S8) (fun h8 => ?_)
      clear hK K
      try simp only [Act.put, List.setIfInBounds_toArray, List.set_cons_zero, List.set_cons_succ]
      refine wpAnyH_take (i := 13) (v := ?_) (by rw [List.getElem?_toArray]; rfl) (by kernel_rfl) (by kernel_rfl) (by kernel_rfl) (by exact fun _ _ _ h => h) (Or.inl ⟨by rfl, ?_⟩) h8 ?_
      rotate_left
      · intro W hW
        go_simp
        all_goals with_reducible rfl
      try simp only [Act.put, List.setIfInBounds_toArray, List.set_cons_zero, List.set_cons_succ]
      refine wpAnyH_done (by kernel_rfl) ?_ _
      clear h0 h7 h8 RIN ROW VAL
      go_wp2_with fail
      go_roundw
      case rel =>
        refine ⟨q8, k8, L ++ [dIn m], done ++ R, ?_, ?_, ?_, ?_, ?_⟩
        · rw [List.length_append, List.length_singleton]; go_num
        · rw [List.length_append, List.length_singleton]
        · have := HLT.out
          rw [List.length_append, List.length_singleton]
          omega
        · show _ = _
          rw [List.length_append, List.length_singleton]
          exact HLM.out
        · rw [List.length_append, List.length_singleton]
          exact O8.out
      case measure => have := HLT.out; simp [intOf]; omega
    · have HLD : Hid (L = D.map dIn) := by
        have e : L.length = D.length := by omega
        have := hLe.out
        rw [e, List.take_of_length_le (by simp)] at this
        exact this
      clear hLe
      go_wp2_with fail
      refine (refFind_any (HR.out _ hO.out.below) SM.out.ok (by have := LL.out; omega)).mono ?_
      rintro e w2 ⟨rfl, hb⟩
      rw [HOe.out]
      have O2 := Lib.hid (hO.out.on PIn_ok hb)
      have L20 : Hid (L.length ≤ 20) := hdl
      clear hb hO
      cases o with
      | none =>
        have X := Lib.hid (YES.out _ L q1 c1 (by rw [EI.out, HLD.out]; simp [foL]) (O2.out.rd PIn_ok (fun g hg => .inr hg)) O2.out.below)
        clear YES O2
        go_wp2_with fail
        go_ret2
        exact X.out
      | some p =>
      obtain ⟨b, i⟩ := p
      obtain ⟨hb1, hb2, hi2⟩ := ATF.out b i rfl
      obtain ⟨b', rfl⟩ : ∃ b', b = b' + 1 := ⟨b - 1, by omega⟩
      rw [Nat.add_sub_cancel] at hb2 hi2
      have hBe : foB (some (b' + 1, i)) = (b' : Int) + 1 := by simp [foB]
      have hIe : foI (some (b' + 1, i)) = (i : Int) := rfl
      rw [hBe, hIe]
      clear hBe hIe
      have EJ : Hid (I = D.map dIn ++ (bGl ((Ls.getD b' bk0).bs.getD i [])).map tIn) := EI.out
      have wb0 : IntKind.i64.wrap ((b' : Int) + 1 - 1) = (b' : Int) := by
        rw [show (b' : Int) + 1 - 1 = (b' : Int) by omega]; exact IntWalk.i64_in _ (by omega)
      obtain ⟨bb2, off2, r2, hq2, _, hr4, hrow4, qd2, kd2, qb2, kb2, hre4, _, hbs2⟩ := H0.out.get hb2
      obtain ⟨rfl, rfl⟩ : bb = bb2 ∧ off = off2 := by simpa using hq2
      subst hre4
      have c1w := row_cell hrow4 hr4 (j := 1) (v := .slice qb2 (Ls.getD b' bk0).bs.length kb2) rfl
      have e1 := (O2.out.below.cell (lt_of_cell c1w)).trans c1w
      have OKB := SM.out.get b'
      have bl20 := OKB.bs
      obtain ⟨b3, off3, r3, hq3, _, hr5, hrow5, qx, kx, hre5, hxd⟩ := hbs2.get hi2
      subst hq3 hre5
      have c3w := row_cell hrow5 hr5 (j := 0) (v := .slice qx ((Ls.getD b' bk0).bs.getD i []).length kx) rfl
      rw [Nat.mul_one, Nat.add_zero] at c3w
      have cX := (O2.out.below.cell (lt_of_cell c3w)).trans c3w
      obtain ⟨bX, lX⟩ := OKB.ok.bs _ (getD_mem (d := []) hi2)
      have KG := Lib.hid (refGetBatch_f (hxd.rd.on O2.out.below) bX (by omega))
      unfold GbF at KG
      have Y80 := bGl_len8 ((Ls.getD b' bk0).bs.getD i [])
      obtain ⟨bsz, hbsz⟩ : ∃ z, (Ls.getD b' bk0).bs.length = z := ⟨_, rfl⟩
      obtain ⟨X, hX⟩ : ∃ X, (Ls.getD b' bk0).bs.getD i [] = X := ⟨_, rfl⟩
      rw [hX] at EJ cX KG Y80
      rw [hbsz] at e1 hi2 bl20
      obtain ⟨Y, hY⟩ : ∃ Y, bGl X = Y := ⟨_, rfl⟩
      obtain ⟨ge, hge⟩ : ∃ z, bGe X = z := ⟨_, rfl⟩
      obtain ⟨be, hbe⟩ : ∃ z, bE X = z := ⟨_, rfl⟩
      rw [hY, hge, hbe] at KG
      rw [hY] at EJ Y80
      have HY8 := Lib.hid Y80
      have hnl' := hb2
      clear hY hge hbe hX hbsz lX bX hxd c3w hrow5 hr5 hbs2 hrow4 hr4 c1w hq2 OKB Y80 EI ATF HOe
      go_wp2_with fail
      clear cX e1 wb0
      refine KG.out.mono ?_
      rintro e w3 ⟨q5, c5, rfl, ry, hb⟩
      have ba : Below w3.heap.size w3 (w3.alloc (.cells #[.int .u64 ge, .slice q5 Y.length c5] 67)) := (Below.refl _ _).alloc (Nat.le_refl _) _
      have K4 := Lib.hid (heap_alloc_new w3 (.cells #[.int .u64 ge, .slice q5 Y.length c5] 67))
      have O4 := Lib.hid (O2.out.on PIn_ok (hb.trans (ba.mono hb.size)))
      have RY4 : Hid (RwF 10 tg0 PTx (w3.alloc (.cells #[.int .u64 ge, .slice q5 Y.length c5] 67)) (fun g => w.heap.size ≤ g ∧ (Value.slice q1 L.length c1).ownBlock ≠ some g) q5 Y) := (ry.on PTx_ok (by decide) ba).mono PTx_ok (fun g hg => ⟨by have := O2.out.below.size; omega, fun e => by have := own_lt O2.out.own e; omega⟩)
      have HLe : Hid (L = D.map dIn ++ (Y.take 0).map tIn) := by show _ = _; rw [HLD.out]; simp
      clear hb ry ba KG O2 HLD
      go_upto_region 15 with fail
      obtain ⟨bx, hbx⟩ : ∃ z, w3.heap.size = z := ⟨_, rfl⟩
      rw [hbx] at K4 ⊢
      generalize w3.alloc (.cells #[.int .u64 ge, .slice q5 Y.length c5] 67) = w4 at *
      clear hbx hdl hlt hil hd20
      go_wp2_with fail
      go_loopw [8, 16] (fun ov jv wr => ∃ (j : Nat) (q1 : Option Addr) (c1 : Nat) (L : List Inp) (done : List Value), jv = .int .i64 (j : Int) ∧ ov = .slice q1 L.length c1 ∧ j ≤ Y.length ∧ Hid (L.length ≤ 20 + j) ∧ Hid (L = D.map dIn ++ (Y.take j).map tIn) ∧ Hid (OwF 24 inp0 PIn (fun g => F g ∨ w.heap.size ≤ g) w wr 86 (.slice q1 L.length c1) L done) ∧ Hid (RwF 10 tg0 PTx wr (fun g => w.heap.size ≤ g ∧ (Value.slice q1 L.length c1).ownBlock ≠ some g) q5 Y) ∧ Hid (wr.heap[bx]? = some (.cells #[.int .u64 ge, .slice q5 Y.length c5] 67 (0, 0)))) (fun _ jv _ => Y.length - (intOf jv).toNat)
      case atStart => exact ⟨0, q1, c1, L, done, rfl, rfl, by omega, L20, HLe, O4, RY4, K4⟩
      case round =>
        clear O4 RY4 K4 L20 HLe
        obtain ⟨j, q1, c1, L, done, rfl, rfl, hjl, hLj, hLe, hO, hRY, hK⟩ := hrel
        have hy8 := HY8.out
        have e1 := (Joins.cell_of_block hK.out 1).trans (rfl : _ = some _)
        by_cases hlt : j < Y.length
        · obtain ⟨b1, off1, r1, hq1, _, hr3, hrow3, qm, km, hre3, hrd⟩ := hRY.out.get hlt
          subst hq1 hre3
          have HLM : Hid (L ++ [tIn (Y.getD j tg0)] = D.map dIn ++ (Y.take (j + 1)).map tIn) := by
            show _ = _
            have e : Y[j]?.toList = [Y.getD j tg0] := by simp [List.getD, hlt]
            rw [hLe.out, List.take_add_one, e, List.map_append, List.append_assoc]
            rfl
          obtain ⟨t, ht⟩ : ∃ t, Y.getD j tg0 = t := ⟨_, rfl⟩
          rw [ht] at hrow3 hrd HLM
          have h10 := txRow_len t qm t.data.length km
          have hin := fun W => Try.run_inrT W t qm t.data.length km
          have h24 := inRow_len (tIn t) none 0 0 qm t.data.length km
          obtain ⟨R, hR⟩ : ∃ R, inRow (tIn t) none 0 0 qm t.data.length km = R := ⟨_, rfl⟩
          have HRR := Lib.hid hR
          have R1 : Hid (∀ u ∈ R, u.oneCell' = true) := by show ∀ u ∈ R, _; rw [← hR]; exact inRow_one _ _ _ _ _ _ _
          rw [hR] at hin h24
          have hsl := Try.run_slice_inr wr R h24
          have b7 : Below wr.heap.size wr (wr.alloc (.cells R.toArray 86)) := (Below.refl _ _).alloc (Nat.le_refl _) _
          have O7 := Lib.hid (hO.out.on PIn_ok b7)
          have RY7 := Lib.hid (hRY.out.on PTx_ok (by decide) b7)
          have P7 : Hid (PIn (wr.alloc (.cells R.toArray 86)) (fun g => (F g ∨ w.heap.size ≤ g) ∧ (Value.slice (some ⟨b1, off1, none⟩) Y.length c5 = .slice (some ⟨b1, off1, none⟩) Y.length c5 ∧ (Value.slice q1 L.length c1).ownBlock ≠ some g)) (tIn t) R) := ⟨none, 0, qm, km, HRR.out.symm, RdF.nil _ _, (hrd.on b7).mono (fun g hg => ⟨.inr hg.1, rfl, hg.2⟩)⟩
          have P7' : Hid (PIn (wr.alloc (.cells R.toArray 86)) (fun g => (F g ∨ w.heap.size ≤ g) ∧ (Value.slice q1 L.length c1).ownBlock ≠ some g) (tIn t) R) := PIn_ok.mono P7.out (fun g hg => ⟨hg.1, hg.2.2⟩)
          have K7 : Hid ((wr.alloc (.cells R.toArray 86)).heap[bx]? = some (.cells #[.int .u64 ge, .slice (some ⟨b1, off1, none⟩) Y.length c5] 67 (0, 0))) := by
            show _ = _
            rw [b7.block _ (Array.getElem?_eq_some_iff.1 hK.out).1]; exact hK.out
          have SR := Lib.hid (src_any (P := Try.prog) (T := 86) (w := wr) Try.underlying34 h24 R1.out)
          have OWN := Lib.hid O7.out.own
          have HLT := Lib.hid hlt
          have hlj := hLj.out
          clear hR b7 hr3 hrd ht hLe hO hRY hK P7
          go_wp2_with (at_builtin; refine wpList_append_row rfl _ _ rfl Try.underlying34 hi.out hz0.out hz1.out hz2.out in0_cells OWN.out SR.out ?b1 ?b2 ?_)
          case b1 => unfold maxLen; omega
          case b2 => omega
          intro q8 k8 w8 own8 grow8 fr8
          have fr9 : (Value.slice q8 (L.length + 1) k8).ownBlock = (Value.slice q1 L.length c1).ownBlock ∨ (Value.slice q8 (L.length + 1) k8).ownBlock = some (wr.alloc (.cells R.toArray 86)).heap.size := by rw [show (wr.alloc (.cells R.toArray 86)).heap.size = wr.heap.size + 1 by simp]; exact fr8
          have O8 := Lib.hid (O7.out.grow PIn_ok h24 P7'.out own8 grow8 fr9)
          have RY8 := Lib.hid (RY7.out.grown PTx_ok (by decide) grow8 fr9)
          have K8 : Hid (w8.heap[bx]? = some (.cells #[.int .u64 ge, .slice (some ⟨b1, off1, none⟩) Y.length c5] 67 (0, 0))) := by
            show _ = _
            rw [grow8.block bx (Array.getElem?_eq_some_iff.1 K7.out).1 (fun e => own_ne O7.out.own K7.out (by decide) e.symm)]
            exact K7.out
          clear own8 grow8 fr8 fr9 O7 P7' SR OWN hsl hin hrow3 RY7 K7 e1
          go_wp2_with fail
          go_roundw
          case rel =>
            refine ⟨j + 1, q8, k8, L ++ [tIn t], done ++ R, by go_num, by simp, by have := HLT.out; omega, ?_, HLM, ?_, ?_, K8⟩
            · show _ ≤ _
              have := hLj.out
              simp only [List.length_append, List.length_singleton]
              omega
            · rw [List.length_append, List.length_singleton]; exact O8.out
            · rw [List.length_append, List.length_singleton]; exact RY8
          case measure => have := HLT.out; simp [intOf]; omega
        · have X := Lib.hid (YES.out _ L q1 c1 (by
            rw [EJ.out, hLe.out, show j = Y.length by omega, List.take_length]) (hO.out.rd PIn_ok (fun g hg => .inr hg)) hO.out.below)
          clear YES hO hRY hK
          go_wp2_with fail
          go_ret2
          exact X.out
end Go.Proofs.Ytonjkhhihiigfaa
namespace Go.Proofs.Ytonjkhhihiigfaa
set_option maxRecDepth 100000
open Go.RowKit

theorem Try.infoInSr : (Try.prog.info? 34).map (fun i => (i.zero, i.size, i.bytes)) = some (some (.slice none 0 0), 1, 24) := by kernel_rfl
/-- What the document's All answers. -/
def AllR (F : Fp) (A : List (List Inp)) (w : World) (e : Ending) (w' : World) : Prop := ∃ q c, e = .returned (.slice q A.length c) ∧ RwF 1 [] (PSl 24 inp0 PIn) w' (fun g => F g ∨ w.heap.size ≤ g) q A ∧ Below w.heap.size w w'
set_option maxHeartbeats 8000000 in
theorem refAll_any {w : World} {F : Fp} {Ls : List Bk} {q : Option Addr} {c : Nat} {k : Int} (hr : RwF 2 bk0 PBk w F q Ls) (hF : ∀ g, F g → g < w.heap.size) (sm : BksSm Ls) (hl : Ls.length ≤ 1000) :
    Calls Try.prog 20 #[.slice q Ls.length c, .int .i64 k] w (AllR F (fAll Ls k) w) := by
  obtain ⟨i0, hi, hz0, hz1, hz2⟩ := info_parts Try.infoInSr
  replace hi := Lib.hid hi
  replace hz0 := Lib.hid hz0
  replace hz1 := Lib.hid hz1
  replace hz2 := Lib.hid hz2
  have HR : Hid (∀ W, Below w.heap.size w W → RwF 2 bk0 PBk W F q Ls) := fun W hb => hr.on PBk_ok (by decide) hb
  have SM := Lib.hid sm
  have HFF := Lib.hid hF
  have LL := Lib.hid hl
  have KK := Lib.hid (fun (W : World) => refKnown_any (h := (Ls.length : Int)) (k := k) (by omega) W)
  have HA := Lib.hid (fAll_len Ls k)
  have HG := Lib.hid (fun (i : Nat) (hi : i < (kN Ls.length k).toNat) => fAll_get Ls k hi)
  have hk1 := kN_le Ls.length k (by omega)
  have hk2 := kN_ge Ls.length k
  obtain ⟨M, hM⟩ : ∃ M : Nat, kN Ls.length k = M := ⟨(kN Ls.length k).toNat, by omega⟩
  rw [hM] at HA HG KK hk1
  rw [Int.toNat_natCast] at HA HG
  have hM1 : M ≤ 1000 := by omega
  obtain ⟨A, hA⟩ : ∃ A, fAll Ls k = A := ⟨_, rfl⟩
  rw [hA] at HA HG ⊢
  have O0 : Hid (OwF 1 [] (PSl 24 inp0 PIn) (fun g => F g ∨ w.heap.size ≤ g) w w 34 (.slice none ([] : List (List Inp)).length 0) [] []) := OwF.start (Below.refl _ _)
  have YES := Lib.hid (fun (W : World) (B : List (List Inp)) (q' : Option Addr) (c' : Nat) (h : A = B) (hr : RwF 1 [] (PSl 24 inp0 PIn) W (fun g => F g ∨ w.heap.size ≤ g) q' B) (hb : Below w.heap.size w W) => (show AllR F A w (.returned (.slice q' B.length c')) W from ⟨q', c', by rw [h], by rw [h]; exact hr, hb⟩))
  clear hr hF sm hl hk1 hk2 hM hA
  go_enter Try.func20, Try.ntmps20
  go_wp2_with fail
  go_loopw [5, 6, 7, 8] (fun ov nv xv ev wr => ∃ (q1 : Option Addr) (c1 : Nat) (B : List (List Inp)) (done : List Value), nv = .int .i64 ((B.length : Int) + 1) ∧ ov = .slice q1 B.length c1 ∧ B.length ≤ M ∧ Hid (B = A.take B.length) ∧ Hid (OwF 1 [] (PSl 24 inp0 PIn) (fun g => F g ∨ w.heap.size ≤ g) w wr 34 (.slice q1 B.length c1) B done)) (fun _ nv _ _ _ => M + 1 - (intOf nv).toNat)
  case atStart => exact ⟨none, 0, [], [], rfl, rfl, by simp, rfl, O0⟩
  case round =>
    clear O0
    obtain ⟨q1, c1, B, done, rfl, rfl, hil, hBe, hO⟩ := hrel
    have wb : IntKind.i64.wrap ((B.length : Int) + 1 + 1) = (B.length : Int) + 1 + 1 := IntWalk.i64_in _ (by omega)
    go_wp2_with fail
    refine (KK.out _).mono ?_
    rintro e wz ⟨rfl, hwz⟩
    obtain rfl := hwz.symm
    clear hwz
    by_cases hlt : B.length < M
    · have d1 : decide ((B.length : Int) + 1 ≤ (M : Int)) = true := decide_eq_true (by omega)
      have i1 : (B.length : Int) + 1 ≤ (M : Int) := by omega
      go_wp2_with fail
      clear d1 i1
      refine (refInputs_any (HR.out _ hO.out.below) (fun g hg => Nat.lt_of_lt_of_le (HFF.out g hg) hO.out.below.size) SM.out (by have := LL.out; omega)).mono ?_
      rintro e w2 ⟨q5, c5, rfl, ry, hb⟩
      have hAl : B.length < A.length := by have := HA.out; omega
      have HBM : Hid (B ++ [fInL Ls ((B.length : Int) + 1) k] = A.take (B.length + 1)) := by
        show _ = _
        rw [← HG.out B.length hlt]
        exact take_snoc hBe.out hAl
      obtain ⟨I, hI⟩ : ∃ I, fInL Ls ((B.length : Int) + 1) k = I := ⟨_, rfl⟩
      obtain ⟨E, hE⟩ : ∃ E, fInE Ls ((B.length : Int) + 1) k = E := ⟨_, rfl⟩
      rw [hI] at ry HBM ⊢
      rw [hE]
      have O2 := hO.out.on PIn_sl hb
      have RY2 : RwF 24 inp0 PIn w2 (fun g => (F g ∨ w.heap.size ≤ g) ∧ (Value.slice q1 B.length c1).ownBlock ≠ some g) q5 I := ry.mono PIn_ok (fun g hg => by
        rcases hg with hg | hg
        · exact ⟨.inl hg, fun e => by have := hO.out.fresh g e; have := HFF.out g hg; omega⟩
        · exact ⟨.inr (by have := hO.out.below.size; omega), fun e => by have := own_lt hO.out.own e; omega⟩)
      have b7 : Below w2.heap.size w2 (w2.alloc (.cells #[.slice q5 I.length c5] 34)) := (Below.refl _ _).alloc (Nat.le_refl _) _
      have O7 := Lib.hid (O2.on PIn_sl b7)
      have P7 : Hid ((PSl 24 inp0 PIn) (w2.alloc (.cells #[.slice q5 I.length c5] 34)) (fun g => (F g ∨ w.heap.size ≤ g) ∧ (Value.slice q1 B.length c1).ownBlock ≠ some g) I [.slice q5 I.length c5]) := ⟨q5, c5, rfl, RY2.on PIn_ok (by decide) b7⟩
      have SR := Lib.hid (src_any (P := Try.prog) (T := 34) (n := 1) (w := w2) (R := [.slice q5 I.length c5]) Try.underlying42 rfl (by simp [Value.oneCell']))
      have OWN := Lib.hid O7.out.own
      have HLT := Lib.hid hlt
      clear hI hE ry hb O2 RY2 b7 hO hBe hAl
      go_wp2_with (at_builtin; refine wpList_append_row rfl _ _ rfl Try.underlying42 hi.out hz0.out hz1.out hz2.out rfl OWN.out SR.out ?b1 ?b2 ?_)
      case b1 => unfold maxLen; omega
      case b2 => omega
      intro q8 k8 w8 own8 grow8 fr8
      have fr9 : (Value.slice q8 (B.length + 1) k8).ownBlock = (Value.slice q1 B.length c1).ownBlock ∨ (Value.slice q8 (B.length + 1) k8).ownBlock = some (w2.alloc (.cells #[.slice q5 I.length c5] 34)).heap.size := by rw [show (w2.alloc (.cells #[.slice q5 I.length c5] 34)).heap.size = w2.heap.size + 1 by simp]; exact fr8
      have O8 := Lib.hid (O7.out.grow PIn_sl (n := 1) rfl P7.out own8 grow8 fr9)
      clear own8 grow8 fr8 fr9 O7 P7 SR OWN
      go_wp2_with fail
      go_roundw
      case rel =>
        refine ⟨q8, k8, B ++ [I], done ++ [.slice q5 I.length c5], ?_, ?_, ?_, ?_, ?_⟩
        · rw [List.length_append, List.length_singleton]; go_num
        · rw [List.length_append, List.length_singleton]
        · have := HLT.out
          rw [List.length_append, List.length_singleton]
          omega
        · show _ = _
          rw [List.length_append, List.length_singleton]
          exact HBM.out
        · rw [List.length_append, List.length_singleton]
          exact O8.out
      case measure => have := HLT.out; simp [intOf]; omega
    · have d1 : decide ((B.length : Int) + 1 ≤ (M : Int)) = false := decide_eq_false (by omega)
      have X := Lib.hid (YES.out _ B q1 c1 (by
        have e : B.length = A.length := by have := HA.out; omega
        have := hBe.out
        rw [e, List.take_length] at this
        exact this.symm) (hO.out.rd PIn_sl (fun g hg => .inr hg)) hO.out.below)
      clear YES hO hBe
      go_wp2_with fail
      go_ret
      exact X.out
end Go.Proofs.Ytonjkhhihiigfaa
namespace Go.Proofs.Ytonjkhhihiigfaa
set_option maxRecDepth 100000
open Go.RowKit

set_option maxHeartbeats 16000000 in
theorem DerivePlays_walk {w : World} {Ls : List Bk} {q : Option Addr} {c : Nat} {n k h : Int} (hr : RwF 2 bk0 PBk w (fun g => g < w.heap.size) q Ls) (ok : BksOk Ls) (hl : Ls.length ≤ 3000000000000) (hh : -9223372036854775808 ≤ h ∧ h < 9223372036854775808) :
    Calls Try.prog 3 #[.slice q Ls.length c, .int .i64 n, .int .i64 k, .int .i64 h] w fun e w' => e = .returned (.bool true) ∧ Below w.heap.size w w' := by
  have H0 := Lib.hid (fun (W : World) (hb : Below w.heap.size w W) => hr.on PBk_ok (by decide) hb)
  have OK := Lib.hid ok
  have KB0 := Lib.hid (fun (W : World) (hb : Below w.heap.size w W) => Big_any (c := c) (hr.on PBk_ok (by decide) hb) hl ok)
  have KW := Lib.hid (fun (W : World) => knows14_any W)
  have KN := Lib.hid (fun (W : World) => Known_any (h := h) (k := k) hh W)
  have KR := Lib.hid (fun (W : World) => refKnown_any (h := h) (k := k) hh W)
  clear hr ok hl hh
  go_enter Try.func3, Try.ntmps3
  go_wp2_with fail
  refine (KB0.out _ (Below.refl _ _)).mono ?_
  rintro e w1 ⟨v1, rfl, b1, hv1⟩
  have B1 := Lib.hid b1
  clear b1 KB0
  cases v1 with
  | true =>
    clear hv1
    go_wp2_with fail
    refine (KW.out _).mono ?_
    rintro e w9 ⟨rfl, hb⟩
    have B9 := Lib.hid (B1.out.trans (hb.mono B1.out.size))
    clear hb
    go_wp2_with fail
    go_ret
    exact ⟨rfl, B9.out⟩
  | false =>
  obtain ⟨hL, hS⟩ := hv1 rfl
  have SM := Lib.hid (BksSm.of OK.out hS)
  clear hS OK hv1
  have HL := Lib.hid hL
  have HL1 : Hid (Ls.length ≤ 1000) := Nat.le_trans hL (by decide)
  have HL3 : Hid (Ls.length ≤ 3000000000000) := Nat.le_trans hL (by decide)
  go_wp2_with fail
  refine (Blocks_any (H0.out _ B1.out) SM.out HL1.out).mono ?_
  rintro e w2 ⟨q3, c3, dn3, rfl, o3, -⟩
  have B2 := Lib.hid (B1.out.trans (o3.below.mono B1.out.size))
  have RX := Lib.hid (fun (W : World) (hb : Below w2.heap.size w2 W) => (o3.rd PBk_ok (fun g hg => hg)).on PBk_ok (by decide) hb)
  clear o3 B1
  go_wp2_with fail
  refine (Find_any (n := n) (k := k) (RX.out _ (Below.refl _ _)) SM.out.ok HL3.out).mono ?_
  rintro e w3 ⟨rfl, b3⟩
  have Y3 := Lib.hid b3
  have B3 := Lib.hid (B2.out.trans (b3.mono B2.out.size))
  clear b3
  go_wp2_with fail
  refine (refFind_any (n := n) (k := k) (H0.out _ B3.out) SM.out.ok HL3.out).mono ?_
  rintro e w4 ⟨rfl, b4⟩
  have Y4 := Lib.hid (Y3.out.trans (b4.mono Y3.out.size))
  have B4 := Lib.hid (B2.out.trans (Y4.out.mono B2.out.size))
  clear b4 Y3 B3
  go_wp2_with fail
  refine (Inputs_any (n := n) (k := k) (RX.out _ Y4.out) SM.out HL1.out).mono ?_
  rintro e w5 ⟨q5, c5, rfl, r5, b5⟩
  have Y5 := Lib.hid (Y4.out.trans (b5.mono Y4.out.size))
  have B5 := Lib.hid (B2.out.trans (Y5.out.mono B2.out.size))
  have R5 := Lib.hid r5
  clear b5 r5 Y4 B4
  go_wp2_with fail
  refine (refInputs_any (n := n) (k := k) (H0.out _ B5.out) (fun g hg => Nat.lt_of_lt_of_le hg B5.out.size) SM.out HL1.out).mono ?_
  rintro e w6 ⟨q6, c6, rfl, r6, b6⟩
  have Y6 := Lib.hid (Y5.out.trans (b6.mono Y5.out.size))
  have R5' := Lib.hid (R5.out.on PIn_ok (by decide) b6)
  have R6 := Lib.hid r6
  have IOK := Lib.hid (fInL_ok SM.out n k)
  have ISH := Lib.hid (fInL_short SM.out n k)
  clear b6 r6 Y5 B5 R5
  obtain ⟨I, hI⟩ : ∃ I, fInL Ls n k = I := ⟨_, rfl⟩
  obtain ⟨E, hE⟩ : ∃ E, fInE Ls n k = E := ⟨_, rfl⟩
  obtain ⟨nb, hnb⟩ : ∃ x, foB (fFind Ls n k) = x := ⟨_, rfl⟩
  obtain ⟨ni, hni⟩ : ∃ x, foI (fFind Ls n k) = x := ⟨_, rfl⟩
  obtain ⟨ov, hov⟩ : ∃ x, (fFind Ls n k).isSome = x := ⟨_, rfl⟩
  rw [hI] at R5' R6 IOK ISH
  rw [hI, hE, hnb, hni, hov]
  clear hI hE hnb hni hov
  obtain ⟨kn, hkn⟩ : ∃ x, kN h k = x := ⟨_, rfl⟩
  rw [hkn] at KN KR
  clear hkn
  have j1 : (kn != kn) = false := by simp
  have j2 : (nb != nb) = false := by simp
  have j3 : (ni != ni) = false := by simp
  have j4 : (ov != ov) = false := by cases ov <;> rfl
  have j5 : (E != E) = false := by simp
  go_wp2_with fail
  refine (KN.out _).mono ?_
  rintro e wz ⟨rfl, hwz⟩
  obtain rfl := hwz.symm
  clear hwz
  go_wp2_with fail
  refine (KR.out _).mono ?_
  rintro e wz ⟨rfl, hwz⟩
  obtain rfl := hwz.symm
  clear hwz
  go_wp2_with fail
  refine (Same14_any R5'.out R6.out IOK.out (Nat.le_trans ISH.out (by decide))).mono ?_
  rintro e w7 ⟨rfl, b7⟩
  have Y7 := Lib.hid (Y6.out.trans (b7.mono Y6.out.size))
  clear b7 Y6 R5' R6 IOK ISH KN KR
  go_wp2_with fail
  refine (num14_any E _).mono ?_
  rintro e wz ⟨rfl, hwz⟩
  obtain rfl := hwz.symm
  clear hwz
  go_wp2_with fail
  clear j1 j2 j3 j4 j5
  refine (All_any (k := k) (RX.out _ Y7.out) SM.out HL1.out).mono ?_
  rintro e w8 ⟨q8, c8, rfl, r8, b8⟩
  have Y8 := Lib.hid (Y7.out.trans (b8.mono Y7.out.size))
  have B8 := Lib.hid (B2.out.trans (Y8.out.mono B2.out.size))
  have R8 := Lib.hid r8
  clear b8 r8 Y7 RX
  go_wp2_with fail
  refine (refAll_any (k := k) (H0.out _ B8.out) (fun g hg => Nat.lt_of_lt_of_le hg B8.out.size) SM.out HL1.out).mono ?_
  rintro e w9 ⟨q9, c9, rfl, r9, b9⟩
  have B9 := Lib.hid (B8.out.trans (b9.mono B8.out.size))
  have R4' := Lib.hid (R8.out.on PIn_sl (by decide) b9)
  have R9' := Lib.hid r9
  have HI := Lib.hid (fun (i : Nat) (hi : i < (fAll Ls k).length) => (show InsOk ((fAll Ls k).getD i []) ∧ ((fAll Ls k).getD i []).length ≤ 28 from by rw [fAll_mem hi]; exact ⟨fInL_ok SM.out _ _, fInL_short SM.out _ _⟩))
  have hA20 : (fAll Ls k).length ≤ 20 := by
    rw [fAll_len]
    have := kN_le Ls.length k (by omega)
    have := HL.out
    omega
  clear b9 r9 R8 Y8 B8 B2
  obtain ⟨A, hA⟩ : ∃ A, fAll Ls k = A := ⟨_, rfl⟩
  rw [hA] at R4' R9' HI hA20 ⊢
  clear hA SM
  have JJ : ((A.length : Int) != (A.length : Int)) = false := by simp
  have T1 : Hid (Below w9.heap.size w9 w9) := Below.refl _ _
  go_wp2_with fail
  clear JJ
  go_loopw [22] (fun iv wr => ∃ (i : Nat), iv = .int .i64 (i : Int) ∧ i ≤ A.length ∧ Hid (Below w9.heap.size w9 wr)) (fun iv _ => A.length - (intOf iv).toNat)
  case atStart => exact ⟨0, rfl, by omega, T1⟩
  case round =>
    clear T1
    obtain ⟨i, rfl, hil, hT⟩ := hrel
    by_cases hlt : i < A.length
    · obtain ⟨ba, oa, qa, ca, hqa, CA, RA⟩ := R4'.out.cellAt hlt
      obtain ⟨bb, ob, qb, cb, hqb, CB, RB⟩ := R9'.out.cellAt hlt
      subst hqa hqb
      obtain ⟨ok, sh⟩ := HI.out i hlt
      have KA := Lib.hid (fun (W : World) (hW : Below w9.heap.size w9 W) => Same14_any (c := ca) (c' := cb) (RA W hW) (RB W hW) ok (by omega))
      obtain ⟨I, hI⟩ : ∃ I, A.getD i [] = I := ⟨_, rfl⟩
      rw [hI] at CA CB KA
      have CA := Lib.hid CA
      have CB := Lib.hid CB
      have HLT := Lib.hid hlt
      clear hI RA RB ok sh
      go_wp2_with fail
      have S0 : Below w9.heap.size w9 wr.drew := hT.out.drew
      clear hT
      refine wp_region_held_drew (S := fun W => Below w9.heap.size w9 W) (by kernel_rfl) (S0) (fun h0 => ?_)
      generalize wr.drew = w10 at *
      refine wpAnyH_take (i := 0) (v := ?_) (by rw [List.getElem?_toArray]; rfl) (by kernel_rfl) (by kernel_rfl) (by kernel_rfl) (by exact fun _ _ _ h => h) (Or.inl ⟨by rfl, ?_⟩) h0 ?_
      rotate_left
      · intro W hW
        go_simp
        all_goals with_reducible rfl
      try simp only [Act.put, List.setIfInBounds_toArray, List.set_cons_zero, List.set_cons_succ]
      refine wpAnyH_take (i := 1) (v := ?_) (by rw [List.getElem?_toArray]; rfl) (by kernel_rfl) (by kernel_rfl) (by kernel_rfl) (by exact fun _ _ _ h => h) (Or.inl ⟨by rfl, ?_⟩) h0 ?_
      rotate_left
      · intro W hW
        go_simp
        all_goals with_reducible rfl
      try simp only [Act.put, List.setIfInBounds_toArray, List.set_cons_zero, List.set_cons_succ]
      refine wpAnyH_take (i := 2) (v := ?_) (by rw [List.getElem?_toArray]; rfl) (by kernel_rfl) (by kernel_rfl) (by kernel_rfl) (by exact fun _ _ _ h => h) (Or.inl ⟨by rfl, ?_⟩) h0 ?_
      rotate_left
      · intro W hW
        go_simp
        all_goals with_reducible rfl
      try simp only [Act.put, List.setIfInBounds_toArray, List.set_cons_zero, List.set_cons_succ]
      refine wpAnyH_take (i := 3) (v := ?_) (by rw [List.getElem?_toArray]; rfl) (by kernel_rfl) (by kernel_rfl) (by kernel_rfl) (by exact fun _ _ _ h => h) (Or.inl ⟨by rfl, ?_⟩) h0 ?_
      rotate_left
      · intro W hW
        have hrow := CA.out W hW
        go_simp
        all_goals with_reducible rfl
      try simp only [Act.put, List.setIfInBounds_toArray, List.set_cons_zero, List.set_cons_succ]
      refine wpAnyH_take (i := 4) (v := ?_) (by rw [List.getElem?_toArray]; rfl) (by kernel_rfl) (by kernel_rfl) (by kernel_rfl) (by exact fun _ _ _ h => h) (Or.inl ⟨by rfl, ?_⟩) h0 ?_
      rotate_left
      · intro W hW
        go_simp
        all_goals with_reducible rfl
      try simp only [Act.put, List.setIfInBounds_toArray, List.set_cons_zero, List.set_cons_succ]
      refine wpAnyH_take (i := 5) (v := ?_) (by rw [List.getElem?_toArray]; rfl) (by kernel_rfl) (by kernel_rfl) (by kernel_rfl) (by exact fun _ _ _ h => h) (Or.inl ⟨by rfl, ?_⟩) h0 ?_
      rotate_left
      · intro W hW
        go_simp
        all_goals with_reducible rfl
      try simp only [Act.put, List.setIfInBounds_toArray, List.set_cons_zero, List.set_cons_succ]
      refine wpAnyH_take (i := 6) (v := ?_) (by rw [List.getElem?_toArray]; rfl) (by kernel_rfl) (by kernel_rfl) (by kernel_rfl) (by exact fun _ _ _ h => h) (Or.inl ⟨by rfl, ?_⟩) h0 ?_
      rotate_left
      · intro W hW
        go_simp
        all_goals with_reducible rfl
      try simp only [Act.put, List.setIfInBounds_toArray, List.set_cons_zero, List.set_cons_succ]
      refine wpAnyH_take (i := 7) (v := ?_) (by rw [List.getElem?_toArray]; rfl) (by kernel_rfl) (by kernel_rfl) (by kernel_rfl) (by exact fun _ _ _ h => h) (Or.inl ⟨by rfl, ?_⟩) h0 ?_
      rotate_left
      · intro W hW
        have hrow := CB.out W hW
        go_simp
        all_goals with_reducible rfl
      try simp only [Act.put, List.setIfInBounds_toArray, List.set_cons_zero, List.set_cons_succ]
      refine wpAnyH_ready (rs := [8]) (by kernel_rfl) (by simp) ?_
      refine AllReadyH.cons (by rw [List.getElem?_toArray]; rfl) (fun K hK => ?_) AllReadyH.nil
      rw [if_pos (by rfl)]
      go_wp2_with fail
      refine (KA.out _ h0).mono ?_
      rintro e w2 ⟨rfl, hb2⟩
      have B2 : Below w9.heap.size w9 w2 := Below.trans h0 (hb2.mono (Below.size h0))
      clear hb2
      go_wp2_with fail
      refine hK.out _ _ (B2) (fun h1x => ?_)
      clear hK K
      try simp only [Act.put, List.setIfInBounds_toArray, List.set_cons_zero, List.set_cons_succ]
      clear B2
      refine wpAnyH_take (i := 9) (v := ?_) (by rw [List.getElem?_toArray]; rfl) (by kernel_rfl) (by kernel_rfl) (by kernel_rfl) (by exact fun _ _ _ h => h) (Or.inl ⟨by rfl, ?_⟩) h1x ?_
      rotate_left
      · intro W hW
        go_simp
        all_goals with_reducible rfl
      try simp only [Act.put, List.setIfInBounds_toArray, List.set_cons_zero, List.set_cons_succ]
      refine wpAnyH_done (by kernel_rfl) ?_ _
      have T9 := Lib.hid h1x
      clear h0 h1x
      go_wp2_with fail
      go_roundw
      case rel => exact ⟨i + 1, by go_num, by have := HLT.out; omega, T9⟩
      case measure => have := HLT.out; simp [intOf]; omega
    · go_wp2_with fail
      refine (KW.out _).mono ?_
      rintro e wz ⟨rfl, hb⟩
      have B10 := Lib.hid (B9.out.trans (hT.out.mono B9.out.size))
      have B11 := Lib.hid (B10.out.trans (hb.mono B10.out.size))
      clear hb
      go_wp2_with fail
      go_ret
      exact ⟨rfl, B11.out⟩
end Go.Proofs.Ytonjkhhihiigfaa
