/-
  Inputs as rows; bytes.Clone.; The inputs of a number.; Whether blocks are too big for the law.; The inputs of all known numbers.
-/
import Derived.Lib.BufferMore
import Derived.Deep.CutRange
import Derived.Test.YtonjkhhihiigfaaDv13
namespace Go.Proofs.Ytonjkhhihiigfaa
set_option maxRecDepth 100000
open Go.RowKit

/-- An input's 24 cells. -/
def PIn (w : World) (F : Fp) (x : Inp) (r : List Value) : Prop := ∃ qm km qt kt, r = inRow x qm x.m.data.length km qt x.t.data.length kt ∧ RdF w F (.slice qm x.m.data.length km) x.m.data ∧ RdF w F (.slice qt x.t.data.length kt) x.t.data
theorem PIn_ok : FpOk PIn where
  mono := fun ⟨a, b, c, d, e, h1, h2⟩ hG => ⟨a, b, c, d, e, h1.mono hG, h2.mono hG⟩
  agr := fun ⟨a, b, c, d, e, h1, h2⟩ ha => ⟨a, b, c, d, e, h1.agr ha, h2.agr ha⟩
  lt := fun ⟨a, b, c, d, e, h1, h2⟩ => ⟨a, b, c, d, e, h1.lt, h2.lt⟩
theorem RdF.nil (w : World) (F : Fp) : RdF w F (.slice none 0 0) [] := ⟨Rd.nil w, fun h => absurd rfl h⟩
def dIn (m : Mg) : Inp := ⟨true, m.val, m, tg0⟩
def tIn (t : Tg) : Inp := ⟨false, ⟨0, 0, 0, 0⟩, mg0, t⟩
/-- What Inputs answers. -/
def fInE (Ls : List Bk) (n k : Int) : Int := if wOk k = true then (if 1 ≤ n ∧ n ≤ kN Ls.length k then 0 else 3) else 1
def fInL (Ls : List Bk) (n k : Int) : List Inp := if wOk k = true ∧ 1 ≤ n ∧ n ≤ kN Ls.length k then (Ls.getD (n.toNat - 1) bk0).ds.map dIn ++ (foL Ls (fFind Ls n k)).map tIn else []
def InsP (I : List Inp) (E : Int) (w : World) (e : Ending) (w' : World) : Prop := ∃ q c, e = .returned (.tuple #[.slice q I.length c, .int .i64 E]) ∧ RwF 24 inp0 PIn w' (fun x => w.heap.size ≤ x) q I ∧ Below w.heap.size w w'
@[go_sem ↓] theorem Try.slice_in (ps : Array (Nat × Value)) : Instr.buildSlice 30 1 ps = rowNew 30 ps := rfl
theorem Try.run_slice_in (w : World) (R : List Value) (hR : R.length = 24) :
    (rowNew 30 #[(0, .agg R.toArray)]).run Try.prog w = .ok (.slice (some ⟨w.heap.size, 0, none⟩) 1 1) (w.alloc (.cells R.toArray 56)) :=
  run_bs_one w Try.underlying30 (by kernel_rfl) (Try.zero_inp w) (n := 24) (by decide) (by decide) hR
theorem Try.infoIn : (Try.prog.info? 56).map (fun i => (i.zero, i.size, i.bytes)) = some (some (.agg (inRow inp0 none 0 0 none 0 0).toArray), 24, 224) := by kernel_rfl
theorem in0_cells : (Value.agg (inRow inp0 none 0 0 none 0 0).toArray).cells.size = 24 := by rfl
theorem Try.run_inD (w : World) (m : Mg) (q : Option Addr) (n k : Nat) : (rowBuild 56 #[(0, .bool true), (1, .agg #[.int .u64 m.val.a, .int .u64 m.val.b, .int .u64 m.val.c, .int .u64 m.val.d]), (2, .agg (mgRow m q n k).toArray)]).run Try.prog w = .ok (.agg (inRow (dIn m) q n k none 0 0).toArray) w := by unfold rowBuild; kernel_rfl
theorem Try.run_inT (w : World) (t : Tg) (q : Option Addr) (n k : Nat) : (rowBuild 56 #[(3, .agg (txRow t q n k).toArray)]).run Try.prog w = .ok (.agg (inRow (tIn t) none 0 0 q n k).toArray) w := by unfold rowBuild; kernel_rfl

theorem Clone_any {w : World} {q : Option Addr} {k : Nat} {xs : List Int} (hr : Rd w (.slice q xs.length k) xs) (hl : xs.length ≤ 140737488355328) :
    Calls Try.prog 30 #[.slice q xs.length k] w fun e w' => ∃ q' k', e = .returned (.slice q' xs.length k') ∧ RdF w' (fun x => w.heap.size ≤ x) (.slice q' xs.length k') xs ∧ Below w.heap.size w w' := by
  obtain ⟨i0, hi, hz0, hz1, hz2⟩ := info_parts Try.infoU8
  replace hi := Lib.hid hi
  replace hz0 := Lib.hid hz0
  replace hz1 := Lib.hid hz1
  replace hz2 := Lib.hid hz2
  cases q with
  | none =>
    have hx : xs = [] := by
      obtain ⟨q', c', e, h | ⟨b, off, h, _⟩⟩ := hr
      · exact h
      · simp only [Value.slice.injEq] at e
        rw [h] at e
        exact absurd e.1 (by simp)
    subst hx
    have hq := Lib.run_eql_slice_nil_nil (P := Try.prog) w ([] : List Int).length k Try.underlying50
    simp only [List.length_nil] at hq
    go_enter Try.func30, Try.ntmps30
    go_wp2_with fail
    go_ret
    exact ⟨none, 0, rfl, RdF.nil _ _, Below.refl _ _⟩
  | some a =>
    have b3 : Below w.heap.size w (w.alloc (.cells #[] 5)) := (Below.refl _ _).alloc (Nat.le_refl _) _
    have E3 := Lib.hid (own_empty w 5 1)
    have V3 := Lib.hid (hr.on b3)
    have B3 := Lib.hid b3
    obtain ⟨n, hn⟩ : ∃ n, xs.length = n := ⟨_, rfl⟩
    have LN := Lib.hid hn
    rw [hn] at V3 hl ⊢
    have hq := Lib.run_eql_slice_some_nil (P := Try.prog) w a n k Try.underlying50
    clear hr b3 hn
    go_enter Try.func30, Try.ntmps30
    go_wp2_with (at_builtin; refine wpList_append_row rfl _ _ rfl Try.underlying50 hi.out hz0.out hz1.out hz2.out rfl E3.out (by have := V3.out.src (P := Try.prog) Try.underlying50; rw [LN.out] at this; exact this) ?b1 ?b2 ?_)
    case b1 => unfold maxLen; omega
    case b2 => omega
    intro q6 k6 w6 own6 grow6 fr6
    have G6 : Below w.heap.size w w6 := B3.out.grown grow6 B3.out.size (fun j hj => by simp [Value.ownBlock] at hj; omega)
    have R6 : Hid (RdF w6 (fun x => w.heap.size ≤ x) (.slice q6 n k6) xs) := by
      try simp only [Nat.zero_add, List.nil_append] at own6 fr6
      refine ⟨rd_of_row own6, fun _ g hg => ?_⟩
      rcases fr6 with e | e
      · rw [e] at hg; simp [Value.ownBlock] at hg; omega
      · rw [e] at hg; simp at hg; omega
    have BB := Lib.hid G6
    clear own6 grow6 fr6 G6
    go_wp2_with fail
    go_ret
    exact ⟨q6, k6, rfl, R6.out, BB.out⟩
end Go.Proofs.Ytonjkhhihiigfaa
namespace Go.Proofs.Ytonjkhhihiigfaa
set_option maxRecDepth 100000
open Go.RowKit

/-- Small blocks. -/
structure Bk.sm (x : Bk) : Prop where
  ok : x.ok
  ds : x.ds.length ≤ 20
  bs : x.bs.length ≤ 20
  md : ∀ m ∈ x.ds, m.data.length ≤ 1000
  bd : ∀ b ∈ x.bs, b.length ≤ 5000
def BksSm (L : List Bk) : Prop := ∀ x ∈ L, x.sm
theorem BksSm.ok {L : List Bk} (h : BksSm L) : BksOk L := fun x hx => (h x hx).ok
theorem bk0_sm : bk0.sm := ⟨bk0_ok, by simp [bk0], by simp [bk0], fun m hm => by simp [bk0] at hm, fun m hm => by simp [bk0] at hm⟩
theorem BksSm.get {L : List Bk} (h : BksSm L) (i : Nat) : (L.getD i bk0).sm := by
  by_cases hi : i < L.length
  · exact h _ (getD_mem hi)
  · have e : L.getD i bk0 = bk0 := by simp [List.getD, Nat.not_lt.1 hi]
    rw [e]; exact bk0_sm
theorem bGl_len8 (xs : List Int) : (bGl xs).length ≤ 8 := by
  unfold bGl
  split
  · rename_i h
    simp only [bOk, okB, Bool.and_eq_true, decide_eq_true_eq] at h
    exact h.2.1
  · simp
theorem foL_len8 (Ls : List Bk) (o : Option (Nat × Nat)) : (foL Ls o).length ≤ 8 := by
  unfold foL
  split
  · exact bGl_len8 _
  · simp
theorem take_snoc {α : Type} {L M : List α} {d : α} (h : L = M.take L.length) (hl : L.length < M.length) : L ++ [M.getD L.length d] = M.take (L.length + 1) := by
  rw [List.take_add_one]
  conv => lhs; lhs; rw [h]
  simp [List.getD, hl]
theorem InsP.yes {I J : List Inp} {E : Int} {w W : World} {q : Option Addr} {c : Nat} (hI : I = J) (hE : E = 0) (hr : RwF 24 inp0 PIn W (fun x => w.heap.size ≤ x) q J) (hb : Below w.heap.size w W) : InsP I E w (.returned (.tuple #[.slice q J.length c, .int .i64 0])) W := by
  subst hI hE
  exact ⟨q, c, rfl, hr, hb⟩
theorem InsP.no {I : List Inp} {E z : Int} {w W : World} (hI : I = []) (hE : E = z) (hb : Below w.heap.size w W) : InsP I E w (.returned (.tuple #[.slice none 0 0, .int .i64 z])) W := by
  subst hI hE
  exact ⟨none, 0, rfl, RwF.nil _ _ _, hb⟩

set_option maxHeartbeats 16000000 in
theorem Inputs_any {w : World} {F : Fp} {Ls : List Bk} {q : Option Addr} {c : Nat} {n k : Int} (hr : RwF 2 bk0 PBk w F q Ls) (sm : BksSm Ls) (hl : Ls.length ≤ 1000) :
    Calls Try.prog 13 #[.slice q Ls.length c, .int .i64 n, .int .i64 k] w (InsP (fInL Ls n k) (fInE Ls n k) w) := by
  obtain ⟨i0, hi, hz0, hz1, hz2⟩ := info_parts Try.infoIn
  replace hi := Lib.hid hi
  replace hz0 := Lib.hid hz0
  replace hz1 := Lib.hid hz1
  replace hz2 := Lib.hid hz2
  have HR : Hid (∀ W, Below w.heap.size w W → RwF 2 bk0 PBk W F q Ls) := fun W hb => hr.on PBk_ok (by decide) hb
  have H0 := Lib.hid hr
  have SM := Lib.hid sm
  have LL := Lib.hid hl
  have KW := Lib.hid (fun (W : World) => rightWindow_any k W)
  have KK := Lib.hid (fun (W : World) => Known_any (h := (Ls.length : Int)) (k := k) (by omega) W)
  have HE : Hid (fInE Ls n k = if wOk k = true then (if 1 ≤ n ∧ n ≤ kN Ls.length k then 0 else 3) else 1) := rfl
  have HI : Hid (fInL Ls n k = if wOk k = true ∧ 1 ≤ n ∧ n ≤ kN Ls.length k then (Ls.getD (n.toNat - 1) bk0).ds.map dIn ++ (foL Ls (fFind Ls n k)).map tIn else []) := rfl
  have HK : Hid (kN Ls.length k ≤ (Ls.length : Int) - 1 ∨ wOk k = false ∨ kN Ls.length k ≤ 0) := by
    show _ ∨ _
    unfold kN
    by_cases h : wOk k = true ∧ k < (Ls.length : Int)
    · rw [if_pos h]
      have : 1 ≤ k ∧ k ≤ 64 := by simpa [wOk] using h.1
      left; omega
    · rw [if_neg h]
      right; right; omega
  obtain ⟨I, hI⟩ : ∃ I, fInL Ls n k = I := ⟨_, rfl⟩
  obtain ⟨E, hE⟩ : ∃ E, fInE Ls n k = E := ⟨_, rfl⟩
  rw [hI] at HI ⊢
  rw [hE] at HE ⊢
  have NO := Lib.hid (fun (W : World) (z : Int) (h1 : I = []) (h2 : E = z) (hb : Below w.heap.size w W) => InsP.no (I := I) (E := E) h1 h2 hb)
  have YES := Lib.hid (fun (W : World) (J : List Inp) (q' : Option Addr) (c' : Nat) (h1 : I = J) (h2 : E = 0) (hr : RwF 24 inp0 PIn W (fun x => w.heap.size ≤ x) q' J) (hb : Below w.heap.size w W) => InsP.yes (c := c') h1 h2 hr hb)
  obtain ⟨wk, hwk⟩ : ∃ x, wOk k = x := ⟨_, rfl⟩
  rw [hwk] at HE HI KW HK
  obtain ⟨N, hN⟩ : ∃ x, kN Ls.length k = x := ⟨_, rfl⟩
  rw [hN] at HE HI KK HK
  clear hr sm hI hE hwk hN
  go_enter Try.func13, Try.ntmps13
  go_wp2_with fail
  refine (KW.out _).mono ?_
  rintro e wz ⟨rfl, hwz⟩
  obtain rfl := hwz.symm
  clear hwz
  cases wk with
  | false =>
    have X := Lib.hid (NO.out w 1 (by rw [HI.out]; exact if_neg (fun h => by simp at h)) (by rw [HE.out]; rfl) (Below.refl _ _))
    clear NO YES HE HI KK HK
    go_wp2_with fail
    go_ret2
    exact X.out
  | true =>
  replace HE : Hid (E = if 1 ≤ n ∧ n ≤ N then 0 else 3) := by show _ = _; rw [HE.out]; exact if_pos rfl
  replace HI : Hid (I = if 1 ≤ n ∧ n ≤ N then (Ls.getD (n.toNat - 1) bk0).ds.map dIn ++ (foL Ls (fFind Ls n k)).map tIn else []) := by
    show _ = _
    rw [HI.out]
    by_cases h : 1 ≤ n ∧ n ≤ N
    · rw [if_pos ⟨rfl, h⟩, if_pos h]
    · rw [if_neg (fun h2 => h h2.2), if_neg h]
  replace HK : Hid (N ≤ (Ls.length : Int) - 1 ∨ N ≤ 0) := by
    rcases HK.out with h | h | h
    · exact .inl h
    · simp at h
    · exact .inr h
  by_cases hn1 : n < 1
  · have d1 : decide (n < 1) = true := decide_eq_true hn1
    have X := Lib.hid (NO.out w 3 (by rw [HI.out]; exact if_neg (fun h => by omega)) (by rw [HE.out]; exact if_neg (fun h => by omega)) (Below.refl _ _))
    clear NO YES HE HI KK HK
    go_wp2_with fail
    go_ret2
    exact X.out
  have d1 : decide (n < 1) = false := decide_eq_false hn1
  go_wp2_with fail
  refine (KK.out _).mono ?_
  rintro e wz ⟨rfl, hwz⟩
  obtain rfl := hwz.symm
  clear hwz
  by_cases hn2 : n > N
  · have d2 : decide (n > N) = true := decide_eq_true hn2
    have d2' : decide (N < n) = true := decide_eq_true hn2
    have X := Lib.hid (NO.out w 3 (by rw [HI.out]; exact if_neg (fun h => by omega)) (by rw [HE.out]; exact if_neg (fun h => by omega)) (Below.refl _ _))
    clear NO YES HE HI KK HK
    go_wp2_with fail
    go_ret2
    exact X.out
  have d2 : decide (n > N) = false := decide_eq_false hn2
  have d2' : decide (N < n) = false := decide_eq_false hn2
  have hnl : n ≤ (Ls.length : Int) - 1 := by
    rcases HK.out with h | h
    · omega
    · omega
  have EI : Hid (I = (Ls.getD (n.toNat - 1) bk0).ds.map dIn ++ (foL Ls (fFind Ls n k)).map tIn) := by show _ = _; rw [HI.out]; exact if_pos ⟨by omega, by omega⟩
  have EE : Hid (E = 0) := by show _ = _; rw [HE.out]; exact if_pos ⟨by omega, by omega⟩
  replace YES := Lib.hid (fun (W : World) (J : List Inp) (q' : Option Addr) (c' : Nat) (h1 : I = J) (hr : RwF 24 inp0 PIn W (fun x => w.heap.size ≤ x) q' J) (hb : Below w.heap.size w W) => YES.out W J q' c' h1 EE.out hr hb)
  clear NO HE HI KK HK EE
  obtain ⟨a, rfl⟩ : ∃ a : Nat, n = (a : Int) + 1 := ⟨(n - 1).toNat, by omega⟩
  rw [show ((a : Int) + 1).toNat - 1 = a by omega] at EI
  have hal : a < Ls.length := by omega
  obtain ⟨bb, off, r, hq, hFb, hr2, hrow, qd, kd, qb, kb, hre, hds, hbs⟩ := H0.out.get hal
  subst hq hre
  have c0w := row_cell hrow hr2 (j := 0) (v := .slice qd (Ls.getD a bk0).ds.length kd) rfl
  rw [Nat.add_zero] at c0w
  have HDS := Lib.hid hds
  have OKD := Lib.hid (SM.out.get a)
  obtain ⟨D, hD⟩ : ∃ D, (Ls.getD a bk0).ds = D := ⟨_, rfl⟩
  have OKM : Hid (∀ m ∈ D, m.data.length ≤ 1000) := by show ∀ m ∈ D, _; rw [← hD]; exact OKD.out.md
  have hD20 : D.length ≤ 20 := by rw [← hD]; exact OKD.out.ds
  rw [hD] at c0w HDS EI
  obtain ⟨Y, hY⟩ : ∃ Y, foL Ls (fFind Ls ((a : Int) + 1) k) = Y := ⟨_, rfl⟩
  have hY8 : Y.length ≤ 8 := by rw [← hY]; exact foL_len8 _ _
  have HY := Lib.hid hY
  rw [hY] at EI
  have wa0 : IntKind.i64.wrap ((a : Int) + 1 - 1) = (a : Int) := by
    rw [show (a : Int) + 1 - 1 = (a : Int) by omega]; exact IntWalk.i64_in _ (by omega)
  have O0 : Hid (OwF 24 inp0 PIn (fun x => w.heap.size ≤ x) w w 56 (.slice none ([] : List Inp).length 0) [] []) := OwF.start (Below.refl _ _)
  have HD := Lib.hid hD20
  have HY8 := Lib.hid hY8
  clear hbs hds hrow hr2 hFb hD hY hD20 hY8
  go_wp2_with fail
  clear c0w wa0 d1 d2 d2'
  go_loopw [8, 39] (fun ov iv wr => ∃ (q1 : Option Addr) (c1 : Nat) (L : List Inp) (done : List Value), iv = .int .i64 (L.length : Int) ∧ ov = .slice q1 L.length c1 ∧ L.length ≤ D.length ∧ Hid (L = (D.map dIn).take L.length) ∧ Hid (OwF 24 inp0 PIn (fun x => w.heap.size ≤ x) w wr 56 (.slice q1 L.length c1) L done)) (fun _ iv _ => D.length - (intOf iv).toNat)
  case atStart => exact ⟨none, 0, [], [], rfl, rfl, by simp, rfl, O0⟩
  case round =>
    clear O0
    obtain ⟨q1, c1, L, done, rfl, rfl, hil, hLe, hO⟩ := hrel
    have hd20 := HD.out
    have hdl : L.length ≤ 20 := by omega
    by_cases hlt : L.length < D.length
    · obtain ⟨b1, off1, r1, hq1, _, hr3, hrow3, qm, km, hre3, hrd⟩ := HDS.out.get hlt
      subst hq1 hre3
      have hb1 := rowOf_lt (by decide) hr3 hrow3
      have hrw : rowOf wr b1 (off1 + L.length * 9) 9 = mgRow (D.getD L.length mg0) qm (D.getD L.length mg0).data.length km := by rw [rowOf_agr (hO.out.below.block b1 hb1)]; exact hrow3
      have RD := Lib.hid (hrd.rd.on hO.out.below)
      have HLM : Hid (L ++ [dIn (D.getD L.length mg0)] = (D.map dIn).take (L.length + 1)) := by
        have e : (D.map dIn).getD L.length inp0 = dIn (D.getD L.length mg0) := by simp [List.getD, hlt]
        show _ = _
        rw [← e]
        exact take_snoc hLe.out (by simpa using hlt)
      have lm := OKM.out _ (getD_mem (d := mg0) hlt)
      obtain ⟨m, hm⟩ : ∃ m, D.getD L.length mg0 = m := ⟨_, rfl⟩
      rw [hm] at hrw RD HLM lm
      have LM := Lib.hid lm
      have h9 := mgRow_len m qm m.data.length km
      have KA := MgAt.new wr 52 mg0 none 0 0
      have th := KA.there
      have bA : Below wr.heap.size wr (wr.alloc (.cells (mgRow mg0 none 0 0).toArray 52)) := (Below.refl _ _).alloc (Nat.le_refl _) _
      have cs : Below wr.heap.size wr ((wr.alloc (.cells (mgRow mg0 none 0 0).toArray 52)).setCells wr.heap.size 0 (mgRow m qm m.data.length km)) := below_setCells' _ (Nat.le_refl _) _ _ bA
      have KP := Lib.hid (KA.put m qm m.data.length km)
      obtain ⟨-, -, -, -, -, -, -, -, c8⟩ := KP.out.cells
      have CS := Lib.hid cs
      have R4 := Lib.hid (RD.out.on cs)
      have szz : ((wr.alloc (.cells (mgRow mg0 none 0 0).toArray 52)).setCells wr.heap.size 0 (mgRow m qm m.data.length km)).heap.size = wr.heap.size + 1 := by rw [size_setCells]; simp
      have HLT := Lib.hid hlt
      clear hrow3 hr3 hb1 hrd hm lm KA bA cs RD hLe
      go_wp2_with fail
      clear hrw th szz c8
      obtain ⟨bm, hbm⟩ : ∃ b, wr.heap.size = b := ⟨_, rfl⟩
      have hBM := Lib.hid hbm
      rw [hbm] at KP CS R4 ⊢
      generalize (wr.alloc (.cells (mgRow mg0 none 0 0).toArray 52)).setCells bm 0 (mgRow m qm m.data.length km) = w4 at *
      clear hbm
      refine (Clone_any R4.out (by have := LM.out; omega)).mono ?_
      rintro e w5 ⟨q5, k5, rfl, hr5, hb5⟩
      have K5 := KP.out.on hb5
      have hs4 := KP.out.lt
      have c8 : w5.cell? ⟨bm, 8, none⟩ = some (.slice qm m.data.length km) := K5.cells.2.2.2.2.2.2.2.2
      have y8 := K5.frees 8
      have cS : Chg w5 (w5.setCell ⟨bm, 8, none⟩ (.slice q5 m.data.length k5)) [bm] := (Chg.refl _ [bm]).setCell (p := ⟨bm, 8, none⟩) (.inl (by simp)) _
      have K6 : Hid (MgAt (w5.setCell ⟨bm, 8, none⟩ (.slice q5 m.data.length k5)) bm 52 m q5 m.data.length k5) := by
        obtain ⟨e1, e2, e3, e4, e5, e6⟩ := m
        exact K5.st8 e6 q5 e6.length k5
      have B6 : Below wr.heap.size wr (w5.setCell ⟨bm, 8, none⟩ (.slice q5 m.data.length k5)) := by
        have hcs : bm ≤ w4.heap.size := Nat.le_trans (Nat.le_of_eq hBM.out.symm) CS.out.size
        rw [hBM.out]
        exact (CS.out.trans (hb5.mono hcs)).trans (cS.toBelow (Nat.le_trans hcs hb5.size) (fun g hg => by simp at hg; omega))
      have O6 := Lib.hid (hO.out.on PIn_ok B6)
      have R6 : Hid (RdF (w5.setCell ⟨bm, 8, none⟩ (.slice q5 m.data.length k5)) (fun g => w.heap.size ≤ g ∧ (Value.slice q1 L.length c1).ownBlock ≠ some g) (.slice q5 m.data.length k5) m.data) := by
        refine (hr5.agr (Agr.chg cS (fun g hg hm => ?_))).mono (fun g hg => ⟨?_, fun e => ?_⟩)
        · obtain rfl : g = bm := by simpa using hm
          omega
        · have := hO.out.below.size
          have := CS.out.size
          omega
        · have := own_lt hO.out.own e
          have := CS.out.size
          omega
      go_upto_region 10 with fail
      clear c8 y8
      generalize hw6 : (w5.setCell ⟨bm, 8, none⟩ (.slice q5 m.data.length k5)) = w6 at *
      clear hw6
      obtain ⟨-, -, -, c3, c4, c5, c6, -, -⟩ := K6.out.cells
      have hrw := K6.out.row
      have c8' : w6.cell? ⟨bm, 8, none⟩ = some (.slice q5 m.data.length k5) := K6.out.cells.2.2.2.2.2.2.2.2
      have h9' := mgRow_len m q5 m.data.length k5
      have hin := fun W => Try.run_inD W m q5 m.data.length k5
      have h24 := inRow_len (dIn m) q5 m.data.length k5 none 0 0
      obtain ⟨R, hR⟩ : ∃ R, inRow (dIn m) q5 m.data.length k5 none 0 0 = R := ⟨_, rfl⟩
      have HRR := Lib.hid hR
      have R1 : Hid (∀ u ∈ R, u.oneCell' = true) := by show ∀ u ∈ R, _; rw [← hR]; exact inRow_one _ _ _ _ _ _ _
      rw [hR] at hin h24
      have hsl := Try.run_slice_in w6 R h24
      have b7 : Below w6.heap.size w6 (w6.alloc (.cells R.toArray 56)) := (Below.refl _ _).alloc (Nat.le_refl _) _
      have O7 := Lib.hid (O6.out.on PIn_ok b7)
      have P7 : Hid (PIn (w6.alloc (.cells R.toArray 56)) (fun g => w.heap.size ≤ g ∧ (Value.slice q1 L.length c1).ownBlock ≠ some g) (dIn m) R) := ⟨q5, k5, none, 0, HRR.out.symm, R6.out.on b7, RdF.nil _ _⟩
      have SR := Lib.hid (src_any (P := Try.prog) (T := 56) (w := w6) Try.underlying30 h24 R1.out)
      have OWN := Lib.hid O7.out.own
      clear hR K5 cS K6 B6 O6 R6 b7 hb5 hr5 CS KP R4 hO hs4
      go_wp2_with (at_builtin; refine wpList_append_row rfl _ _ rfl Try.underlying30 hi.out hz0.out hz1.out hz2.out in0_cells OWN.out SR.out ?b1 ?b2 ?_)
      case b1 => unfold maxLen; omega
      case b2 => omega
      intro q8 k8 w8 own8 grow8 fr8
      have O8 := Lib.hid (O7.out.grow PIn_ok h24 P7.out own8 grow8 (by rw [show (w6.alloc (.cells R.toArray 56)).heap.size = w6.heap.size + 1 by simp]; exact fr8))
      clear own8 grow8 fr8 O7 P7 SR OWN hsl hin c8' c3 c4 c5 c6 hrw
      go_wp2_with fail
      go_roundw
      case rel =>
        refine ⟨q8, k8, L ++ [dIn m], done ++ R, ?_, ?_, ?_, ?_, ?_⟩
        · rw [List.length_append, List.length_singleton]; go_num
        · rw [List.length_append, List.length_singleton]
        · have := HLT.out
          rw [List.length_append, List.length_singleton]
          omega
        · show _ = _
          rw [List.length_append, List.length_singleton]
          exact HLM.out
        · rw [List.length_append, List.length_singleton]
          exact O8.out
      case measure => have := HLT.out; simp [intOf]; omega
    · have HLD : Hid (L = D.map dIn) := by
        have e : L.length = D.length := by omega
        have := hLe.out
        rw [e, List.take_of_length_le (by simp)] at this
        exact this
      clear hLe
      go_wp2_with fail
      refine (find_any (HR.out _ hO.out.below) SM.out.ok (by have := LL.out; omega)).mono ?_
      rintro e w2 ⟨q5, c5, rfl, ry, hb⟩
      rw [HY.out] at ry ⊢
      obtain ⟨oB, hoB⟩ : ∃ x, foB (fFind Ls ((a : Int) + 1) k) = x := ⟨_, rfl⟩
      obtain ⟨oI, hoI⟩ : ∃ x, foI (fFind Ls ((a : Int) + 1) k) = x := ⟨_, rfl⟩
      obtain ⟨oE, hoE⟩ : ∃ x, foE Ls (fFind Ls ((a : Int) + 1) k) = x := ⟨_, rfl⟩
      obtain ⟨oS, hoS⟩ : ∃ x, (fFind Ls ((a : Int) + 1) k).isSome = x := ⟨_, rfl⟩
      rw [hoB, hoI, hoE, hoS]
      have ba : Below w2.heap.size w2 (w2.alloc (.cells #[.int .u64 oE, .slice q5 Y.length c5] 78)) := (Below.refl _ _).alloc (Nat.le_refl _) _
      have K6 := heap_alloc_new w2 (.cells #[.int .u64 oE, .slice q5 Y.length c5] 78)
      have O2 := Lib.hid (hO.out.on PIn_ok (hb.trans (ba.mono hb.size)))
      have RY2 : Hid (RwF 10 tg0 PTx (w2.alloc (.cells #[.int .u64 oE, .slice q5 Y.length c5] 78)) (fun g => w.heap.size ≤ g ∧ (Value.slice q1 L.length c1).ownBlock ≠ some g) q5 Y) := (ry.on PTx_ok (by decide) ba).mono PTx_ok (fun g hg => ⟨by have := hO.out.below.size; omega, fun e => by have := own_lt hO.out.own e; omega⟩)
      have e1 := (Joins.cell_of_block K6 1).trans (rfl : _ = some _)
      have hL20 : L.length ≤ 20 := hdl
      have L20 := Lib.hid hL20
      have HLe : Hid (L = D.map dIn ++ (Y.take 0).map tIn) := by show _ = _; rw [HLD.out]; simp
      clear hb ry ba hO hoB hoI hoE hoS K6 hL20 hdl hlt hil hd20 HLD
      go_wp2_with fail
      clear e1
      generalize w2.alloc (.cells #[.int .u64 oE, .slice q5 Y.length c5] 78) = w3 at *
      go_loopw [8, 67] (fun ov jv wr => ∃ (j : Nat) (q1 : Option Addr) (c1 : Nat) (L : List Inp) (done : List Value), jv = .int .i64 (j : Int) ∧ ov = .slice q1 L.length c1 ∧ j ≤ Y.length ∧ Hid (L.length ≤ 20 + j) ∧ Hid (L = D.map dIn ++ (Y.take j).map tIn) ∧ Hid (OwF 24 inp0 PIn (fun x => w.heap.size ≤ x) w wr 56 (.slice q1 L.length c1) L done) ∧ Hid (RwF 10 tg0 PTx wr (fun g => w.heap.size ≤ g ∧ (Value.slice q1 L.length c1).ownBlock ≠ some g) q5 Y)) (fun _ jv _ => Y.length - (intOf jv).toNat)
      case atStart => exact ⟨0, q1, c1, L, done, rfl, rfl, by omega, L20, HLe, O2, RY2⟩
      case round =>
        clear O2 RY2 L20 HLe
        obtain ⟨j, q1, c1, L, done, rfl, rfl, hjl, hLj, hLe, hO, hRY⟩ := hrel
        have hy8 := HY8.out
        by_cases hlt : j < Y.length
        · obtain ⟨b1, off1, r1, hq1, _, hr3, hrow3, qm, km, hre3, hrd⟩ := hRY.out.get hlt
          subst hq1 hre3
          have HLM : Hid (L ++ [tIn (Y.getD j tg0)] = D.map dIn ++ (Y.take (j + 1)).map tIn) := by
            show _ = _
            have e : Y[j]?.toList = [Y.getD j tg0] := by simp [List.getD, hlt]
            rw [hLe.out, List.take_add_one, e, List.map_append, List.append_assoc]
            rfl
          obtain ⟨t, ht⟩ : ∃ t, Y.getD j tg0 = t := ⟨_, rfl⟩
          rw [ht] at hrow3 hrd HLM
          have h10 := txRow_len t qm t.data.length km
          have KA := TxAt.new wr 54 tg0 none 0 0
          have th := KA.there
          have bA : Below wr.heap.size wr (wr.alloc (.cells (txRow tg0 none 0 0).toArray 54)) := (Below.refl _ _).alloc (Nat.le_refl _) _
          have cs : Below wr.heap.size wr ((wr.alloc (.cells (txRow tg0 none 0 0).toArray 54)).setCells wr.heap.size 0 (txRow t qm t.data.length km)) := below_setCells' _ (Nat.le_refl _) _ _ bA
          have KP := Lib.hid (KA.put t qm t.data.length km)
          have O6 := Lib.hid (hO.out.on PIn_ok cs)
          have R6 := Lib.hid (hrd.on cs)
          have RY6 := Lib.hid (hRY.out.on PTx_ok (by decide) cs)
          have szz : ((wr.alloc (.cells (txRow tg0 none 0 0).toArray 54)).setCells wr.heap.size 0 (txRow t qm t.data.length km)).heap.size = wr.heap.size + 1 := by rw [size_setCells]; simp
          have HLT := Lib.hid hlt
          have hlj := hLj.out
          clear hr3 hrd ht KA bA cs hLe hO hRY
          go_upto_region 16 with fail
          clear hrow3 th szz
          obtain ⟨bm, hbm⟩ : ∃ b, wr.heap.size = b := ⟨_, rfl⟩
          rw [hbm] at KP O6 R6 RY6 ⊢
          generalize (wr.alloc (.cells (txRow tg0 none 0 0).toArray 54)).setCells bm 0 (txRow t qm t.data.length km) = w6 at *
          clear hbm
          have hrw := KP.out.row
          have hin := fun W => Try.run_inT W t qm t.data.length km
          have h24 := inRow_len (tIn t) none 0 0 qm t.data.length km
          obtain ⟨R, hR⟩ : ∃ R, inRow (tIn t) none 0 0 qm t.data.length km = R := ⟨_, rfl⟩
          have HRR := Lib.hid hR
          have R1 : Hid (∀ u ∈ R, u.oneCell' = true) := by show ∀ u ∈ R, _; rw [← hR]; exact inRow_one _ _ _ _ _ _ _
          rw [hR] at hin h24
          have hsl := Try.run_slice_in w6 R h24
          have b7 : Below w6.heap.size w6 (w6.alloc (.cells R.toArray 56)) := (Below.refl _ _).alloc (Nat.le_refl _) _
          have O7 := Lib.hid (O6.out.on PIn_ok b7)
          have RY7 := Lib.hid (RY6.out.on PTx_ok (by decide) b7)
          have P7 : Hid (PIn (w6.alloc (.cells R.toArray 56)) (fun g => w.heap.size ≤ g ∧ (Value.slice q1 L.length c1).ownBlock ≠ some g) (tIn t) R) := ⟨none, 0, qm, km, HRR.out.symm, RdF.nil _ _, R6.out.on b7⟩
          have SR := Lib.hid (src_any (P := Try.prog) (T := 56) (w := w6) Try.underlying30 h24 R1.out)
          have OWN := Lib.hid O7.out.own
          clear hR O6 R6 b7 RY6 KP
          go_wp2_with (at_builtin; refine wpList_append_row rfl _ _ rfl Try.underlying30 hi.out hz0.out hz1.out hz2.out in0_cells OWN.out SR.out ?b1 ?b2 ?_)
          case b1 => unfold maxLen; omega
          case b2 => omega
          intro q8 k8 w8 own8 grow8 fr8
          have fr9 : (Value.slice q8 (L.length + 1) k8).ownBlock = (Value.slice q1 L.length c1).ownBlock ∨ (Value.slice q8 (L.length + 1) k8).ownBlock = some (w6.alloc (.cells R.toArray 56)).heap.size := by rw [show (w6.alloc (.cells R.toArray 56)).heap.size = w6.heap.size + 1 by simp]; exact fr8
          have O8 := Lib.hid (O7.out.grow PIn_ok h24 P7.out own8 grow8 fr9)
          have RY8 := Lib.hid (RY7.out.grown PTx_ok (by decide) grow8 fr9)
          clear own8 grow8 fr8 fr9 O7 P7 SR OWN hsl hin hrw RY7
          go_wp2_with fail
          go_roundw
          case rel =>
            refine ⟨j + 1, q8, k8, L ++ [tIn t], done ++ R, by go_num, by simp, by have := HLT.out; omega, ?_, HLM, ?_, ?_⟩
            · show _ ≤ _
              have := hLj.out
              simp only [List.length_append, List.length_singleton]
              omega
            · rw [List.length_append, List.length_singleton]; exact O8.out
            · rw [List.length_append, List.length_singleton]; exact RY8
          case measure => have := HLT.out; simp [intOf]; omega
        · have X := Lib.hid (YES.out _ L q1 c1 (by
            rw [EI.out, hLe.out, show j = Y.length by omega, List.take_length]) (hO.out.rd PIn_ok (fun g hg => hg)) hO.out.below)
          clear YES hO hRY
          go_wp2_with fail
          go_ret2
          exact X.out
end Go.Proofs.Ytonjkhhihiigfaa
namespace Go.Proofs.Ytonjkhhihiigfaa
set_option maxRecDepth 100000
open Go.RowKit

structure Bk.sz (x : Bk) : Prop where
  ds : x.ds.length ≤ 20
  bs : x.bs.length ≤ 20
  md : ∀ j, j < x.ds.length → (x.ds.getD j mg0).data.length ≤ 1000
  bd : ∀ j, j < x.bs.length → (x.bs.getD j []).length ≤ 5000
theorem mem_getD {α : Type} {L : List α} {d x : α} (h : x ∈ L) : ∃ i, i < L.length ∧ L.getD i d = x := by
  obtain ⟨i, hi, rfl⟩ := List.getElem_of_mem h
  exact ⟨i, hi, by simp [List.getD, hi]⟩
theorem BksSm.of {L : List Bk} (ok : BksOk L) (h : ∀ i, i < L.length → (L.getD i bk0).sz) : BksSm L := fun x hx => by
  obtain ⟨i, hi, rfl⟩ := mem_getD (d := bk0) hx
  refine ⟨ok _ hx, (h i hi).ds, (h i hi).bs, fun m hm => ?_, fun b hb => ?_⟩
  · obtain ⟨j, hj, rfl⟩ := mem_getD (d := mg0) hm
    exact (h i hi).md j hj
  · obtain ⟨j, hj, rfl⟩ := mem_getD (d := []) hb
    exact (h i hi).bd j hj
def BgP (Ls : List Bk) (w : World) (e : Ending) (w' : World) : Prop := ∃ v, e = .returned (.bool v) ∧ Below w.heap.size w w' ∧ (v = false → Ls.length ≤ 20 ∧ ∀ i, i < Ls.length → (Ls.getD i bk0).sz)
theorem BgP.yes {Ls : List Bk} {w W : World} (hb : Below w.heap.size w W) : BgP Ls w (.returned (.bool true)) W := ⟨true, rfl, hb, fun h => by cases h⟩
set_option maxHeartbeats 8000000 in
theorem Big_any {w : World} {F : Fp} {Ls : List Bk} {q : Option Addr} {c : Nat} (hr : RwF 2 bk0 PBk w F q Ls) (hl : Ls.length ≤ 3000000000000) (ok : BksOk Ls) :
    Calls Try.prog 8 #[.slice q Ls.length c] w (BgP Ls w) := by
  have H0 := Lib.hid hr
  have OK := Lib.hid ok
  have YES := Lib.hid (fun (W : World) (hb : Below w.heap.size w W) => BgP.yes (Ls := Ls) hb)
  have B0 : Hid (Below w.heap.size w w) := Below.refl _ _
  have S0 : Hid (∀ a, a < 0 → (Ls.getD a bk0).sz) := fun a ha => by omega
  clear hr ok
  go_enter Try.func8, Try.ntmps8
  go_wp2_with fail
  go_loopw [3, 4, 5] (fun iv jv kv wr => ∃ (i : Nat), iv = .int .i64 (i : Int) ∧ i ≤ Ls.length ∧ i ≤ 30 ∧ Hid (∀ a, a < i → (Ls.getD a bk0).sz) ∧ Hid (Below w.heap.size w wr)) (fun iv _ _ _ => Ls.length - (intOf iv).toNat)
  case atStart => exact ⟨0, rfl, by omega, by omega, S0, B0⟩
  case round =>
    clear S0 B0
    obtain ⟨i, rfl, hil, hi30, hS, hB⟩ := hrel
    by_cases hlt : i < Ls.length
    · by_cases h30 : i < 30
      · obtain ⟨b1, off1, r1, hq1, _, hr3, hrow3, qd, kd, qb, kb, hre3, hds, hbs⟩ := H0.out.get hlt
        subst hq1 hre3
        have c0w := row_cell hrow3 hr3 (j := 0) (v := .slice qd (Ls.getD i bk0).ds.length kd) rfl
        have c1w := row_cell hrow3 hr3 (j := 1) (v := .slice qb (Ls.getD i bk0).bs.length kb) rfl
        rw [Nat.add_zero] at c0w
        have E0 := Lib.hid (fun (W : World) (hb : Below w.heap.size w W) => (hb.cell (lt_of_cell c0w)).trans c0w)
        have E1 := Lib.hid (fun (W : World) (hb : Below w.heap.size w W) => (hb.cell (lt_of_cell c1w)).trans c1w)
        have HD := Lib.hid (fun (W : World) (hb : Below w.heap.size w W) => hds.on PMg_ok (by decide) hb)
        have HB := Lib.hid (fun (W : World) (hb : Below w.heap.size w W) => hbs.on PBs_ok (by decide) hb)
        have OX := Lib.hid (OK.out.get i)
        have HS1 := Lib.hid (fun (hx : (Ls.getD i bk0).sz) (a : Nat) (ha : a < i + 1) => (show (Ls.getD a bk0).sz from by
          by_cases e : a = i
          · rw [e]; exact hx
          · exact hS.out a (by omega)))
        have e0 := E0.out _ hB.out
        have e1 := E1.out _ hB.out
        have odl := OX.out.dl
        have obl := OX.out.bl
        obtain ⟨x, hx⟩ : ∃ x, Ls.getD i bk0 = x := ⟨_, rfl⟩
        rw [hx] at e0 e1 E0 E1 HD HB OX HS1 odl obl
        have HLT := Lib.hid hlt
        have H30 := Lib.hid h30
        have h30' : (i : Int) < 30 := by omega
        have h30d : decide ((i : Int) < 30) = true := decide_eq_true h30'
        clear hx c0w c1w hrow3 hr3 hds hbs hS
        by_cases hd : x.ds.length ≤ 20
        · by_cases hb2 : x.bs.length ≤ 20
          · have SZ0 : Hid (∀ j, j < 0 → (x.bs.getD j []).length ≤ 5000) := fun j hj => by omega
            have d1 : decide ((x.ds.length : Int) > 20) = false := by exact decide_eq_false (by omega)
            have d2 : decide (20 < (x.ds.length : Int)) = false := d1
            have d3 : decide (20 < x.ds.length) = false := by exact decide_eq_false (by omega)
            have d4 : ¬ (20 < x.ds.length) := by omega
            have f1 : decide ((x.bs.length : Int) > 20) = false := by exact decide_eq_false (by omega)
            have f2 : decide (20 < (x.bs.length : Int)) = false := f1
            have f3 : decide (20 < x.bs.length) = false := by exact decide_eq_false (by omega)
            have f4 : ¬ (20 < x.bs.length) := by omega
            go_wp2_with fail
            clear d1 d2 d3 d4 f1 f2 f3 f4 e0 e1
            go_loopw [4] (fun jv wr => ∃ (j : Nat), jv = .int .i64 (j : Int) ∧ j ≤ x.bs.length ∧ Hid (∀ a, a < j → (x.bs.getD a []).length ≤ 5000) ∧ Hid (Below w.heap.size w wr)) (fun jv _ => x.bs.length - (intOf jv).toNat)
            case atStart => exact ⟨0, rfl, by omega, SZ0, hB⟩
            case round =>
              clear SZ0 hB
              obtain ⟨j, rfl, hjl, hJ, hB⟩ := hrel
              have e1 := E1.out _ hB.out
              by_cases hjt : j < x.bs.length
              · obtain ⟨b2, off2, r2, hq2, _, hr4, hrow4, q2, k2, hre4, hx4⟩ := (HB.out _ hB.out).get hjt
                subst hq2 hre4
                have g0 := row_cell hrow4 hr4 (j := 0) (v := .slice q2 (x.bs.getD j []).length k2) rfl
                rw [Nat.add_zero, Nat.mul_one] at g0
                have oy := (OX.out.bs _ (getD_mem (d := []) hjt)).2
                have HJ1 := Lib.hid (fun (hy : (x.bs.getD j []).length ≤ 5000) (a : Nat) (ha : a < j + 1) => (show (x.bs.getD a []).length ≤ 5000 from by
                  by_cases e : a = j
                  · rw [e]; exact hy
                  · exact hJ.out a (by omega)))
                obtain ⟨y, hy⟩ : ∃ y, x.bs.getD j [] = y := ⟨_, rfl⟩
                rw [hy] at g0 oy HJ1
                clear hy hrow4 hr4 hx4 hJ
                by_cases hyl : y.length ≤ 5000
                · have d1 : decide ((y.length : Int) > 5000) = false := by exact decide_eq_false (by omega)
                  have d2 : decide (5000 < (y.length : Int)) = false := d1
                  have d3 : decide (5000 < y.length) = false := by exact decide_eq_false (by omega)
                  have d4 : ¬ (5000 < y.length) := by omega
                  go_wp2_with fail
                  go_roundw
                  case rel =>
                    refine ⟨j + 1, ?_, by omega, HJ1.out hyl, hB⟩
                    go_num
                  case measure => simp [intOf]; omega
                · have d1 : decide ((y.length : Int) > 5000) = true := by exact decide_eq_true (by omega)
                  have d2 : decide (5000 < (y.length : Int)) = true := d1
                  have d3 : decide (5000 < y.length) = true := by exact decide_eq_true (by omega)
                  have d4 : (5000 < y.length) := by omega
                  have X := Lib.hid (YES.out _ hB.out)
                  go_wp2_with fail
                  go_ret
                  exact X.out
              · have HJE : Hid (∀ a, a < x.bs.length → (x.bs.getD a []).length ≤ 5000) := fun a ha => hJ.out a (by omega)
                have SZ0 : Hid (∀ j, j < 0 → (x.ds.getD j mg0).data.length ≤ 1000) := fun j hj => by omega
                go_wp2_with fail
                clear e1
                go_loopw [5] (fun kv wr => ∃ (l : Nat), kv = .int .i64 (l : Int) ∧ l ≤ x.ds.length ∧ Hid (∀ a, a < l → (x.ds.getD a mg0).data.length ≤ 1000) ∧ Hid (Below w.heap.size w wr)) (fun kv _ => x.ds.length - (intOf kv).toNat)
                case atStart => exact ⟨0, rfl, by omega, SZ0, hB⟩
                case round =>
                  clear SZ0 hB
                  obtain ⟨l, rfl, hll, hL, hB⟩ := hrel
                  have e0 := E0.out _ hB.out
                  by_cases hlt2 : l < x.ds.length
                  · obtain ⟨b2, off2, r2, hq2, _, hr4, hrow4, q2, k2, hre4, hx4⟩ := (HD.out _ hB.out).get hlt2
                    subst hq2 hre4
                    have g0 := row_cell hrow4 hr4 (j := 8) (v := .slice q2 (x.ds.getD l mg0).data.length k2) rfl
                    have oy := (OX.out.ds _ (getD_mem (d := mg0) hlt2)).2
                    have HL1 := Lib.hid (fun (hy : (x.ds.getD l mg0).data.length ≤ 1000) (a : Nat) (ha : a < l + 1) => (show (x.ds.getD a mg0).data.length ≤ 1000 from by
                      by_cases e : a = l
                      · rw [e]; exact hy
                      · exact hL.out a (by omega)))
                    obtain ⟨y, hy⟩ : ∃ y, (x.ds.getD l mg0).data = y := ⟨_, rfl⟩
                    rw [hy] at g0 oy HL1
                    clear hy hrow4 hr4 hx4 hL
                    by_cases hyl : y.length ≤ 1000
                    · have d1 : decide ((y.length : Int) > 1000) = false := by exact decide_eq_false (by omega)
                      have d2 : decide (1000 < (y.length : Int)) = false := d1
                      have d3 : decide (1000 < y.length) = false := by exact decide_eq_false (by omega)
                      have d4 : ¬ (1000 < y.length) := by omega
                      go_wp2_with fail
                      go_roundw
                      case rel =>
                        refine ⟨l + 1, ?_, by omega, HL1.out hyl, hB⟩
                        go_num
                      case measure => simp [intOf]; omega
                    · have d1 : decide ((y.length : Int) > 1000) = true := by exact decide_eq_true (by omega)
                      have d2 : decide (1000 < (y.length : Int)) = true := d1
                      have d3 : decide (1000 < y.length) = true := by exact decide_eq_true (by omega)
                      have d4 : (1000 < y.length) := by omega
                      have X := Lib.hid (YES.out _ hB.out)
                      go_wp2_with fail
                      go_ret
                      exact X.out
                  · have HS2 := Lib.hid (HS1.out ⟨hd, hb2, fun a ha => hL.out a (by omega), HJE.out⟩)
                    go_wp2_with fail
                    go_roundw
                    case rel =>
                      refine ⟨i + 1, ?_, by have := HLT.out; omega, by have := H30.out; omega, HS2, hB⟩
                      go_num
                    case measure => have := HLT.out; simp [intOf]; omega
          · have X := Lib.hid (YES.out _ hB.out)
            have d1 : decide ((x.ds.length : Int) > 20) = false := by exact decide_eq_false (by omega)
            have d2 : decide (20 < (x.ds.length : Int)) = false := d1
            have d3 : decide (20 < x.ds.length) = false := by exact decide_eq_false (by omega)
            have d4 : ¬ (20 < x.ds.length) := by omega
            have f1 : decide ((x.bs.length : Int) > 20) = true := by exact decide_eq_true (by omega)
            have f2 : decide (20 < (x.bs.length : Int)) = true := f1
            have f3 : decide (20 < x.bs.length) = true := by exact decide_eq_true (by omega)
            have f4 : (20 < x.bs.length) := by omega
            go_wp2_with fail
            go_ret
            exact X.out
        · have X := Lib.hid (YES.out _ hB.out)
          have d1 : decide ((x.ds.length : Int) > 20) = true := by exact decide_eq_true (by omega)
          have d2 : decide (20 < (x.ds.length : Int)) = true := d1
          have d3 : decide (20 < x.ds.length) = true := by exact decide_eq_true (by omega)
          have d4 : (20 < x.ds.length) := by omega
          go_wp2_with fail
          go_ret
          exact X.out
      · have X := Lib.hid (YES.out _ hB.out)
        have h30' : ¬ (i : Int) < 30 := by omega
        have h30d : decide ((i : Int) < 30) = false := decide_eq_false h30'
        have f1 : decide ((Ls.length : Int) > 20) = true := by exact decide_eq_true (by omega)
        have f2 : decide (20 < (Ls.length : Int)) = true := f1
        have f3 : decide (20 < Ls.length) = true := by exact decide_eq_true (by omega)
        have f4 : (20 < Ls.length) := by omega
        go_wp2_with fail
        go_ret
        exact X.out
    · by_cases h20 : Ls.length ≤ 20
      · have X : Hid (BgP Ls w (.returned (.bool false)) wr) := ⟨false, rfl, hB.out, fun _ => ⟨h20, fun a ha => hS.out a (by omega)⟩⟩
        have f1 : decide ((Ls.length : Int) > 20) = false := by exact decide_eq_false (by omega)
        have f2 : decide (20 < (Ls.length : Int)) = false := f1
        have f3 : decide (20 < Ls.length) = false := by exact decide_eq_false (by omega)
        have f4 : ¬ (20 < Ls.length) := by omega
        go_wp2_with fail
        go_ret
        exact X.out
      · have X := Lib.hid (YES.out _ hB.out)
        have f1 : decide ((Ls.length : Int) > 20) = true := by exact decide_eq_true (by omega)
        have f2 : decide (20 < (Ls.length : Int)) = true := f1
        have f3 : decide (20 < Ls.length) = true := by exact decide_eq_true (by omega)
        have f4 : (20 < Ls.length) := by omega
        go_wp2_with fail
        go_ret
        exact X.out
end Go.Proofs.Ytonjkhhihiigfaa
namespace Go.Proofs.Ytonjkhhihiigfaa
set_option maxRecDepth 100000
open Go.RowKit

def fAll (Ls : List Bk) (k : Int) : List (List Inp) := (List.range (kN Ls.length k).toNat).map fun (i : Nat) => fInL Ls ((i : Int) + 1) k
theorem fAll_len (Ls : List Bk) (k : Int) : (fAll Ls k).length = (kN Ls.length k).toNat := by simp [fAll]
theorem fAll_get (Ls : List Bk) (k : Int) {i : Nat} (hi : i < (kN Ls.length k).toNat) : (fAll Ls k).getD i [] = fInL Ls ((i : Int) + 1) k := by simp [fAll, List.getD, hi]
theorem PIn_sl : FpOk (PSl 24 inp0 PIn) := PSl_ok PIn_ok (by decide)
theorem Try.infoInS : (Try.prog.info? 30).map (fun i => (i.zero, i.size, i.bytes)) = some (some (.slice none 0 0), 1, 24) := by kernel_rfl
theorem kN_le (h k : Int) (hh : 0 ≤ h) : kN h k ≤ h := by
  unfold kN
  split
  · rename_i e
    have : 1 ≤ k ∧ k ≤ 64 := by simpa [wOk] using e.1
    omega
  · exact hh
theorem kN_ge (h k : Int) : 0 ≤ kN h k := by
  unfold kN
  split
  · omega
  · omega
/-- What All answers. -/
def AllP (A : List (List Inp)) (w : World) (e : Ending) (w' : World) : Prop := ∃ q c, e = .returned (.slice q A.length c) ∧ RwF 1 [] (PSl 24 inp0 PIn) w' (fun x => w.heap.size ≤ x) q A ∧ Below w.heap.size w w'
set_option maxHeartbeats 8000000 in
theorem All_any {w : World} {F : Fp} {Ls : List Bk} {q : Option Addr} {c : Nat} {k : Int} (hr : RwF 2 bk0 PBk w F q Ls) (sm : BksSm Ls) (hl : Ls.length ≤ 1000) :
    Calls Try.prog 19 #[.slice q Ls.length c, .int .i64 k] w (AllP (fAll Ls k) w) := by
  obtain ⟨i0, hi, hz0, hz1, hz2⟩ := info_parts Try.infoInS
  replace hi := Lib.hid hi
  replace hz0 := Lib.hid hz0
  replace hz1 := Lib.hid hz1
  replace hz2 := Lib.hid hz2
  have HR : Hid (∀ W, Below w.heap.size w W → RwF 2 bk0 PBk W F q Ls) := fun W hb => hr.on PBk_ok (by decide) hb
  have SM := Lib.hid sm
  have LL := Lib.hid hl
  have KK := Lib.hid (fun (W : World) => Known_any (h := (Ls.length : Int)) (k := k) (by omega) W)
  have HA := Lib.hid (fAll_len Ls k)
  have HG := Lib.hid (fun (i : Nat) (hi : i < (kN Ls.length k).toNat) => fAll_get Ls k hi)
  have hk1 := kN_le Ls.length k (by omega)
  have hk2 := kN_ge Ls.length k
  obtain ⟨M, hM⟩ : ∃ M : Nat, kN Ls.length k = M := ⟨(kN Ls.length k).toNat, by omega⟩
  rw [hM] at HA HG KK hk1
  rw [Int.toNat_natCast] at HA HG
  have hM1 : M ≤ 1000 := by omega
  obtain ⟨A, hA⟩ : ∃ A, fAll Ls k = A := ⟨_, rfl⟩
  rw [hA] at HA HG ⊢
  have O0 : Hid (OwF 1 [] (PSl 24 inp0 PIn) (fun x => w.heap.size ≤ x) w w 30 (.slice none ([] : List (List Inp)).length 0) [] []) := OwF.start (Below.refl _ _)
  have YES := Lib.hid (fun (W : World) (B : List (List Inp)) (q' : Option Addr) (c' : Nat) (h : A = B) (hr : RwF 1 [] (PSl 24 inp0 PIn) W (fun x => w.heap.size ≤ x) q' B) (hb : Below w.heap.size w W) => (show AllP A w (.returned (.slice q' B.length c')) W from ⟨q', c', by rw [h], by rw [h]; exact hr, hb⟩))
  clear hr sm hl hk1 hk2 hM hA
  go_enter Try.func19, Try.ntmps19
  go_wp2_with fail
  go_loopw [5, 6] (fun ov nv wr => ∃ (q1 : Option Addr) (c1 : Nat) (B : List (List Inp)) (done : List Value), nv = .int .i64 ((B.length : Int) + 1) ∧ ov = .slice q1 B.length c1 ∧ B.length ≤ M ∧ Hid (B = A.take B.length) ∧ Hid (OwF 1 [] (PSl 24 inp0 PIn) (fun x => w.heap.size ≤ x) w wr 30 (.slice q1 B.length c1) B done)) (fun _ nv _ => M + 1 - (intOf nv).toNat)
  case atStart => exact ⟨none, 0, [], [], rfl, rfl, by simp, rfl, O0⟩
  case round =>
    clear O0
    obtain ⟨q1, c1, B, done, rfl, rfl, hil, hBe, hO⟩ := hrel
    have wb : IntKind.i64.wrap ((B.length : Int) + 1 + 1) = (B.length : Int) + 1 + 1 := IntWalk.i64_in _ (by omega)
    go_wp2_with fail
    refine (KK.out _).mono ?_
    rintro e wz ⟨rfl, hwz⟩
    obtain rfl := hwz.symm
    clear hwz
    by_cases hlt : B.length < M
    · have d1 : decide ((B.length : Int) + 1 ≤ (M : Int)) = true := decide_eq_true (by omega)
      have i1 : (B.length : Int) + 1 ≤ (M : Int) := by omega
      go_wp2_with fail
      clear d1 i1
      refine (Inputs_any (HR.out _ hO.out.below) SM.out (by have := LL.out; omega)).mono ?_
      rintro e w2 ⟨q5, c5, rfl, ry, hb⟩
      have hAl : B.length < A.length := by have := HA.out; omega
      have HBM : Hid (B ++ [fInL Ls ((B.length : Int) + 1) k] = A.take (B.length + 1)) := by
        show _ = _
        rw [← HG.out B.length hlt]
        exact take_snoc hBe.out hAl
      obtain ⟨I, hI⟩ : ∃ I, fInL Ls ((B.length : Int) + 1) k = I := ⟨_, rfl⟩
      obtain ⟨E, hE⟩ : ∃ E, fInE Ls ((B.length : Int) + 1) k = E := ⟨_, rfl⟩
      rw [hI] at ry HBM ⊢
      rw [hE]
      have O2 := hO.out.on PIn_sl hb
      have RY2 : RwF 24 inp0 PIn w2 (fun g => w.heap.size ≤ g ∧ (Value.slice q1 B.length c1).ownBlock ≠ some g) q5 I := ry.mono PIn_ok (fun g hg => ⟨by have := hO.out.below.size; omega, fun e => by have := own_lt hO.out.own e; omega⟩)
      have b7 : Below w2.heap.size w2 (w2.alloc (.cells #[.slice q5 I.length c5] 30)) := (Below.refl _ _).alloc (Nat.le_refl _) _
      have O7 := Lib.hid (O2.on PIn_sl b7)
      have P7 : Hid ((PSl 24 inp0 PIn) (w2.alloc (.cells #[.slice q5 I.length c5] 30)) (fun g => w.heap.size ≤ g ∧ (Value.slice q1 B.length c1).ownBlock ≠ some g) I [.slice q5 I.length c5]) := ⟨q5, c5, rfl, RY2.on PIn_ok (by decide) b7⟩
      have SR := Lib.hid (src_any (P := Try.prog) (T := 30) (n := 1) (w := w2) (R := [.slice q5 I.length c5]) Try.underlying40 rfl (by simp [Value.oneCell']))
      have OWN := Lib.hid O7.out.own
      have HLT := Lib.hid hlt
      clear hI hE ry hb O2 RY2 b7 hO hBe hAl
      go_wp2_with (at_builtin; refine wpList_append_row rfl _ _ rfl Try.underlying40 hi.out hz0.out hz1.out hz2.out rfl OWN.out SR.out ?b1 ?b2 ?_)
      case b1 => unfold maxLen; omega
      case b2 => omega
      intro q8 k8 w8 own8 grow8 fr8
      have fr9 : (Value.slice q8 (B.length + 1) k8).ownBlock = (Value.slice q1 B.length c1).ownBlock ∨ (Value.slice q8 (B.length + 1) k8).ownBlock = some (w2.alloc (.cells #[.slice q5 I.length c5] 30)).heap.size := by rw [show (w2.alloc (.cells #[.slice q5 I.length c5] 30)).heap.size = w2.heap.size + 1 by simp]; exact fr8
      have O8 := Lib.hid (O7.out.grow PIn_sl (n := 1) rfl P7.out own8 grow8 fr9)
      clear own8 grow8 fr8 fr9 O7 P7 SR OWN
      go_wp2_with fail
      go_roundw
      case rel =>
        refine ⟨q8, k8, B ++ [I], done ++ [.slice q5 I.length c5], ?_, ?_, ?_, ?_, ?_⟩
        · rw [List.length_append, List.length_singleton]; go_num
        · rw [List.length_append, List.length_singleton]
        · have := HLT.out
          rw [List.length_append, List.length_singleton]
          omega
        · show _ = _
          rw [List.length_append, List.length_singleton]
          exact HBM.out
        · rw [List.length_append, List.length_singleton]
          exact O8.out
      case measure => have := HLT.out; simp [intOf]; omega
    · have d1 : decide ((B.length : Int) + 1 ≤ (M : Int)) = false := decide_eq_false (by omega)
      have X := Lib.hid (YES.out _ B q1 c1 (by
        have e : B.length = A.length := by have := HA.out; omega
        have := hBe.out
        rw [e, List.take_length] at this
        exact this.symm) (hO.out.rd PIn_sl (fun g hg => hg)) hO.out.below)
      clear YES hO hBe
      go_wp2_with fail
      go_ret
      exact X.out
end Go.Proofs.Ytonjkhhihiigfaa
