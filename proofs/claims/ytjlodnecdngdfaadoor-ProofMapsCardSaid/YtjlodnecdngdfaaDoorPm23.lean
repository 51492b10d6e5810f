/-
  What the walk of basculelaw06.ProofMaps carries: a map of the call's own, hashes laid, a proof, the document's copy of it.; Package smt: New of one pair.; basculelaw06.knows answers true.
-/
import Derived.Test.YtjlodnecdngdfaaDoorPm14
import Derived.Test.YtjlodnecdngdfaaDoorPm22
namespace Go.Proofs.YtjlodnecdngdfaaDoor
open Go.RowKit
set_option maxRecDepth 100000

/-- A new row of three elements. -/
theorem run_bs_three {P : Program} {t e : TypeId} {n : Nat} {zs xs ys us : List Value} (w : World) (ht : P.underlying t = some (.slice e)) (hs : (sizeOf e).run P w = .ok n w) (hz : (zeroValue e).run P w = .ok (.agg zs.toArray) w)
    (hn : 0 < n) (hm : n ≤ 65536) (hx : xs.length = n) (hy : ys.length = n) (hu : us.length = n) :
    (Instr.buildSlice t 3 #[(0, .agg xs.toArray), (1, .agg ys.toArray), (2, .agg us.toArray)]).run P w = .ok (.slice (some ⟨w.heap.size, 0, none⟩) 3 3) (w.alloc (.cells (xs ++ (ys ++ us)).toArray e)) := by
  have hf : ∀ m : List Value, m.length = 3 * n → Instr.fill (fun i => some (i * n, n)) m.toArray #[(0, Value.agg xs.toArray), (1, Value.agg ys.toArray), (2, Value.agg us.toArray)].toList = some (xs ++ (ys ++ us)).toArray := by
    intro m hm
    have e0 : m = [] ++ (m.take n ++ (m.drop n)) := by simp
    have l1 : (m.take n).length = n := by simp; omega
    have l2 : ((m.drop n).take n).length = n := by simp; omega
    have l3 : ((m.drop n).drop n).length = n := by simp; omega
    have e2 : m.drop n = (m.drop n).take n ++ (m.drop n).drop n := (List.take_append_drop n (m.drop n)).symm
    show Instr.fill _ _ ((0, Value.agg xs.toArray) :: (1, Value.agg ys.toArray) :: (2, Value.agg us.toArray) :: []) = _
    rw [e0, fill_at (i := 0) (off := 0) (size := n) (vs := xs) (by simp) rfl rfl l1 hx]
    rw [List.nil_append, e2, fill_at (i := 1) (off := n) (size := n) (vs := ys) (by simp) rfl hx l2 hy]
    rw [show xs ++ (ys ++ (m.drop n).drop n) = (xs ++ ys) ++ ((m.drop n).drop n ++ []) by simp]
    rw [fill_at (i := 2) (off := 2 * n) (size := n) (vs := us) (by simp) rfl (by rw [List.length_append]; omega) l3 hu]
    simp [Instr.fill]
  have hf' := hf ((Array.range (3 * n)).map (zs.toArray[· % zs.toArray.size]!)).toList (by simp)
  rw [Array.toArray_toList] at hf'
  unfold Instr.buildSlice
  simp only [Sem.run_bind, run_underlying ht, Result.andThen_ok, hs]
  rw [if_neg (by omega)]
  rw [if_neg (by omega)]
  simp only [Sem.run_bind, Sem.run_pure, Result.andThen_ok, hz, Value.cells]
  rw [hf']
  simp [newRow]
def rowNew3 (t : TypeId) (ps : Array (Nat × Value)) : Sem Value := Instr.buildSlice t 3 ps
@[go_sem ↓] theorem Tryd.slice_h3 (ps : Array (Nat × Value)) : Instr.buildSlice 46 3 ps = rowNew3 46 ps := rfl
@[go_sem] theorem Tryd.run_slice_h3 (w : World) (A B C : List Int) (hA : A.length = 32) (hB : B.length = 32) (hC : C.length = 32) :
    (rowNew3 46 #[(0, .agg (hc A).toArray), (1, .agg (hc B).toArray), (2, .agg (hc C).toArray)]).run Tryd.prog w = .ok (.slice (some ⟨w.heap.size, 0, none⟩) 3 3) (w.alloc (.cells (hc A ++ (hc B ++ hc C)).toArray 24)) :=
  run_bs_three w Tryd.underlying46 (by kernel_rfl) (Tryd.zero_hash w) (n := 32) (by decide) (by decide) (by rw [hc_len, hA]) (by rw [hc_len, hB]) (by rw [hc_len, hC])
theorem three_ok {A B C : List Int} (lA : A.length = 32) (lB : B.length = 32) (lC : C.length = 32) (bA : Bytes A) (bB : Bytes B) (bC : Bytes C) : HsOk [A, B, C] := by
  intro F hF
  rcases List.mem_cons.1 hF with rfl | hF
  · exact ⟨lA, bA⟩
  · rcases List.mem_cons.1 hF with rfl | hF
    · exact ⟨lB, bB⟩
    · rw [List.mem_singleton.1 hF]; exact ⟨lC, bC⟩
theorem three_rd (w : World) {A B C : List Int} (ok : HsOk [A, B, C]) : RdHs (w.alloc (.cells (hc A ++ (hc B ++ hc C)).toArray 24)) (some ⟨w.heap.size, 0, none⟩) [A, B, C] :=
  rdHs_block (tail := []) (T := 24) (fr := (0, 0)) (by have := heap_alloc_new w (.cells (hc A ++ (hc B ++ hc C)).toArray 24); simpa [hcs] using this) ok

/-- A map of the call's own, and hashes laid. -/
structure LhM (w1 wr : World) (p m c : Nat) (E : List En) (top : Option Addr) (bl : List Nat) (Hs : List (Nat × List Int)) : Prop where
  map : MpW w1 wr p m E c top bl
  hh : ∀ x ∈ Hs, HashAt wr x.1 x.2 ∧ x.1 ∉ p :: m :: bl
  hlo : ∀ x ∈ Hs, w1.heap.size ≤ x.1
section
variable {w1 wr w' : World} {p m c : Nat} {E : List En} {top : Option Addr} {bl : List Nat} {Hs : List (Nat × List Int)} {pb : Nat} {M : List Int} {v : Value} {Ss : List (List Int)}
theorem LhM.start (h : MpW w1 wr p m E c top bl) : LhM w1 wr p m c E top bl [] := ⟨h, fun x hx => (by cases hx), fun x hx => (by cases hx)⟩
theorem LhM.chg {S : List Nat} (h : LhM w1 wr p m c E top bl Hs) (hc : Chg wr w' S) (hS : ∀ g ∈ S, g ∈ p :: m :: bl) (hm : MpW w1 w' p m E c top bl) : LhM w1 w' p m c E top bl Hs :=
  ⟨hm, fun x hx => ⟨(h.hh x hx).1.chg' hc (fun hin => (h.hh x hx).2 (hS _ hin)), (h.hh x hx).2⟩, h.hlo⟩
theorem LhM.on (h : LhM w1 wr p m c E top bl Hs) (hb : Below wr.heap.size wr w') : LhM w1 w' p m c E top bl Hs :=
  h.chg (Chg.below hb (Nat.le_refl _) []) (by simp) (h.map.on hb)
theorem LhM.root (h : LhM w1 wr p m c E top bl Hs) (hc : Chg wr w' bl) (hm : MapS w' p m E c top bl) : LhM w1 w' p m c E top bl Hs :=
  h.chg hc (fun g hg => by simp [hg]) (h.map.chg hc hm)
theorem LhM.hash {F : List Int} {o : Nat} (h : LhM w1 wr p m c E top bl Hs) (ho : w' = (wr.alloc (.cells (hc zero32).toArray 24)).setCells wr.heap.size 0 (hc F)) (hoe : o = wr.heap.size) (hF : F.length = 32) : LhM w1 w' p m c E top bl ((o, F) :: Hs) := by
  subst hoe
  have b1 : Below wr.heap.size wr (wr.alloc (.cells (hc zero32).toArray 24)) := (Below.refl _ _).alloc (Nat.le_refl _) _
  have b2 : Below wr.heap.size wr w' := by rw [ho]; exact below_setCells' wr.heap.size (Nat.le_refl _) (hc F) 0 b1
  have hN : HashAt w' wr.heap.size F := by rw [ho]; exact (HashAt.new wr zero32).put zero32_len hF
  have h2 := h.on b2
  refine ⟨h2.map, fun x hx => ?_, fun x hx => ?_⟩
  · rcases List.mem_cons.1 hx with rfl | hx
    · exact ⟨hN, fun hin => by have := (h.map.noin _ hin).2; simp at this⟩
    · exact h2.hh x hx
  · rcases List.mem_cons.1 hx with rfl | hx
    · exact h.map.below.size
    · exact h2.hlo x hx
theorem LhM.at (h : LhM w1 wr p m c E top bl Hs) {o : Nat} {F : List Int} (hx : (o, F) ∈ Hs) : HashAt wr o F := (h.hh _ hx).1
/-- Behind Prove: its answer laid. -/
theorem LhM.proof {w w2 w3 : World} {q : Option Addr} {k : Nat} (h : LhM w1 w p m c E top bl Hs) (lM : M.length = 32) (hs : HsS w1 w2 (.slice q Ss.length k) Ss) (hm : MpW w1 w2 p m E c top bl) (hc : Chg w w2 bl) (hf : ∀ g, (Value.slice q Ss.length k).ownBlock = some g → w.heap.size ≤ g)
    (h3 : w3 = (w2.alloc (.cells (pfRow zero32 (.slice none 0 0)).toArray 48)).setCells w2.heap.size 0 (pfRow M (.slice q Ss.length k))) : LwM w1 w3 p m c E top bl Hs w2.heap.size M (.slice q Ss.length k) Ss := by
  have h0 := LwM.start h.map lM hs hm hf h3
  have b1 : Below w2.heap.size w2 (w2.alloc (.cells (pfRow zero32 (.slice none 0 0)).toArray 48)) := (Below.refl _ _).alloc (Nat.le_refl _) _
  have b2 : Below w2.heap.size w2 w3 := by rw [h3]; exact below_setCells' w2.heap.size (Nat.le_refl _) _ 0 b1
  have h2 : LhM w1 w2 p m c E top bl Hs := h.chg hc (fun g hg => by simp [hg]) hm
  exact ⟨h0.map, fun x hx => ⟨((h2.hh x hx).1.on b2), (h2.hh x hx).2⟩, h0.pf, h0.np, h0.hs, h0.nv, h0.lo, h2.hlo⟩

/-- .. and the document's copy of the proof. -/
structure LwR (w1 wr : World) (p m c : Nat) (E : List En) (top : Option Addr) (bl : List Nat) (Hs : List (Nat × List Int)) (pb : Nat) (M : List Int) (v : Value) (Ss : List (List Int)) (rp : Nat) (u : Value) : Prop where
  lw : LwM w1 wr p m c E top bl Hs pb M v Ss
  r : PfB 50 wr rp M u
  nr : rp ∉ p :: m :: bl
  hr : HsS w1 wr u Ss
  nu : ∀ g, u.ownBlock = some g → g ∉ p :: m :: bl
variable {rp : Nat} {u : Value}
theorem LwR.on (h : LwR w1 wr p m c E top bl Hs pb M v Ss rp u) (hb : Below wr.heap.size wr w') : LwR w1 w' p m c E top bl Hs pb M v Ss rp u :=
  ⟨h.lw.on hb, h.r.on hb, h.nr, h.hr.on hb, h.nu⟩
theorem LwR.root (h : LwR w1 wr p m c E top bl Hs pb M v Ss rp u) (hc : Chg wr w' bl) (hm : MapS w' p m E c top bl) : LwR w1 w' p m c E top bl Hs pb M v Ss rp u :=
  ⟨h.lw.root hc hm, h.r.chg hc (fun hin => h.nr (by simp [hin])), h.nr, h.hr.chg hc (fun k hk => h.lw.map.bg k hk) (fun k hk hin => h.nu k hk (by simp [hin])), h.nu⟩
theorem LwR.hash {F : List Int} {o : Nat} (h : LwR w1 wr p m c E top bl Hs pb M v Ss rp u) (ho : w' = (wr.alloc (.cells (hc zero32).toArray 24)).setCells wr.heap.size 0 (hc F)) (hoe : o = wr.heap.size) (hF : F.length = 32) : LwR w1 w' p m c E top bl ((o, F) :: Hs) pb M v Ss rp u := by
  have b1 : Below wr.heap.size wr (wr.alloc (.cells (hc zero32).toArray 24)) := (Below.refl _ _).alloc (Nat.le_refl _) _
  have b2 : Below wr.heap.size wr w' := by rw [ho]; exact below_setCells' wr.heap.size (Nat.le_refl _) (hc F) 0 b1
  exact ⟨h.lw.hash ho hoe hF, h.r.on b2, h.nr, h.hr.on b2, h.nu⟩
theorem LwR.put {K V : List Int} {e : Ending} (h : LwR w1 wr p m c E top bl Hs pb M v Ss rp u) (hq : PutQ wr p m E bl K V e w') :
    e = .returned (.int .i64 0) ∧ ∃ E' c' top' bl', LwR w1 w' p m c' E' top' bl' Hs pb M v Ss rp u ∧ (∀ k, vOf E' k = if k = K then V else vOf E k) ∧ E'.length ≤ E.length + 1 := by
  obtain ⟨he, hc, E2, c2, top2, bl2, hm2, hin, hv2, h2, _⟩ := hq
  have hI : ∀ g, g < wr.heap.size → g ∉ p :: m :: bl → g ∉ p :: m :: bl2 := fun g hl hg hi => by
    rcases List.mem_cons.1 hi with rfl | hi
    · exact hg (by simp)
    · rcases List.mem_cons.1 hi with rfl | hi
      · exact hg (by simp)
      · rcases hin g hi with hi | hi
        · exact hg (by simp [hi])
        · omega
  have hm3 : MpW w1 w' p m E2 c2 top2 bl2 := ⟨hm2, h.lw.map.below.trans (hc.toBelow h.lw.map.below.size (fun k hk => (h.lw.map.noin k hk).1)), h.lw.map.pg, h.lw.map.mg, fun g hg => by
    rcases hin g hg with hg | hg
    · exact h.lw.map.bg g hg
    · have := h.lw.map.below.size; omega⟩
  exact ⟨he, E2, c2, top2, bl2, ⟨⟨hm3, fun x hx => ⟨(h.lw.hh x hx).1.chg' hc (h.lw.hh x hx).2, hI _ (h.lw.hh x hx).1.lt (h.lw.hh x hx).2⟩, h.lw.pf.chg hc h.lw.np, hI _ h.lw.pf.lt h.lw.np, h.lw.hs.chg hc (fun k hk => (h.lw.map.noin k hk).1) (fun k hk => h.lw.nv k hk), fun g hg => hI g (own_lt h.lw.hs.own hg) (h.lw.nv g hg), h.lw.lo, h.lw.hlo⟩,
    h.r.chg hc h.nr, hI _ h.r.lt h.nr, h.hr.chg hc (fun k hk => (h.lw.map.noin k hk).1) (fun k hk => h.nu k hk), fun g hg => hI g (own_lt h.hr.own hg) (h.nu g hg)⟩, hv2, h2⟩
theorem LwR.at (h : LwR w1 wr p m c E top bl Hs pb M v Ss rp u) {o : Nat} {F : List Int} (hx : (o, F) ∈ Hs) : HashAt wr o F := (h.lw.hh _ hx).1
/-- The copy laid. -/
theorem LwM.copied {w2 w3 : World} {q : Option Addr} {k : Nat} (h : LwM w1 wr p m c E top bl Hs pb M v Ss) (lM : M.length = 32) (b : Below wr.heap.size wr w2) (own : w2.ownsRow 0 24 32 (.slice q Ss.length k) Ss.length (hcs Ss)) (fr : ∀ g, (Value.slice q Ss.length k).ownBlock = some g → wr.heap.size ≤ g) {o : Nat} (ho : wr.heap.size ≤ o)
    (hP : PfB 50 w3 o M (.slice q Ss.length k)) (b3 : Below wr.heap.size wr w3) (own3 : w3.ownsRow 0 24 32 (.slice q Ss.length k) Ss.length (hcs Ss)) : LwR w1 w3 p m c E top bl Hs pb M v Ss o (.slice q Ss.length k) := by
  have _ := own
  have _ := b
  have _ := lM
  have h3 := h.on b3
  exact ⟨h3, hP, fun hin => by have := (h.map.noin _ hin).2; omega, ⟨own3, h.hs.ok, fun g hg => Nat.le_trans h.map.below.size (fr g hg), h3.map.below⟩, fun g hg hin => by have := fr g hg; have := (h.map.noin g hin).2; omega⟩
end
/-- Strings of a call's own, read. -/
theorem TxS.rdL {N : Nat} {w wr : World} {v : Value} {Ls : List (List Int)} (h : TxS N w wr v Ls) : RdL wr v Ls [] := by
  obtain ⟨q, c, rfl⟩ := h.slice
  obtain ⟨d, h⟩ := h
  refine ⟨q, c, rfl, ?_⟩
  rcases h.rows PBs_ok with hn | ⟨b, off, rfl, -, hx⟩
  · exact .inl hn
  · refine .inr ⟨b, off, rfl, by simp, fun i hi => ?_⟩
    obtain ⟨r, hr, hrow, q1, c1, rfl, hrd⟩ := hx i hi
    refine ⟨_, ?_, hrd.1, fun _ k _ => by simp⟩
    have := range_rowOf wr b (off + i * 1) 1 0 (.slice q1 (Ls.getD i []).length c1) (by rw [hrow]; rfl)
    simpa using this
theorem clash_of {N : Nat} {w wr : World} {v : Value} {Ls : List (List Int)} (h : TxS N w wr v Ls) (ok : TtOk Ls) (hn : Ls.length ≤ 90000) (hc : Clh Ls) :
    Calls Tryd.prog 28 #[v] wr fun e w' => e = .returned (.bool true) ∧ Below wr.heap.size wr w' := by
  obtain ⟨n, hnl, hs⟩ := hc.idx
  refine Clash_z h.rdL (fun b hb => (ok b hb).2) (fun i => ?_) (by omega) hnl hs
  by_cases hi : i < Ls.length
  · have := (ok _ (getD_mem' (d := []) hi)).1
    omega
  · have : Ls.getD i [] = [] := by rw [List.getD, List.getElem?_eq_none (by omega)]; rfl
    rw [this]; simp
end Go.Proofs.YtjlodnecdngdfaaDoor
namespace Go.Proofs.YtjlodnecdngdfaaDoor
set_option maxRecDepth 100000
open Go.RowKit


theorem zero_unit (w : World) : (zeroValue 73).run Tryd.prog w = .ok (.agg #[]) w := by kernel_rfl
def U1 : Array MapEntry := #[{ key := .agg (hc K1).toArray, val := .agg #[], born := 0 }]
theorem look_u0 {w : World} {b : Nat} (hb : w.heap[b]? = some (.map #[] 0)) : (Instr.lookup 71 (.map (some b)) (.agg (hc K1).toArray) true).run Tryd.prog w = .ok (.tuple #[.agg #[], .bool false]) w :=
  run_lookup_at (r := none) true Tryd.underlying71 hb (ck_k1 _ w) (by kernel_rfl) (zero_unit w)
theorem upd_u0 {w : World} {b : Nat} (hb : w.heap[b]? = some (.map #[] 0)) : (Instr.mapUpdate 71 (.map (some b)) (.agg (hc K1).toArray) (.agg #[])).run Tryd.prog w = .ok () (putMap w b U1 1) :=
  run_mapUpdate_new Tryd.underlying71 hb (ck_k1 _ w) (by kernel_rfl)

set_option maxHeartbeats 8000000 in
theorem New_one {w : World} {b : Nat} (hb : PrB w b K1 V2) : Calls Tryd.prog 9 #[.slice (some ⟨b, 0, none⟩) 1 1] w fun e w' => ∃ p m nb, e = .returned (.tuple #[.pointer (some ⟨p, 0, none⟩), .int .i64 0]) ∧ w.heap.size ≤ p ∧ w.heap.size ≤ m ∧ w.heap.size ≤ nb ∧ p ≠ nb ∧ m ≠ nb ∧ Below w.heap.size w w' ∧ MpS w' p m (M1 (.agg (hc V2).toArray)) 1 (some ⟨nb, 0, none⟩) ∧ NdB w' nb ⟨K1, 256, none, none, zero32, false, zero32, 0, false⟩ := by
  have hmm := @run_makeMap Tryd.prog
  have B3 := Lib.hid ((((Below.refl w.heap.size w).alloc (Nat.le_refl _) (.map #[] 0)).alloc (by simp) (.cells #[.map (some w.heap.size), .pointer none] 56)).alloc (by simp; omega) (.map #[] 0))
  have M3 : Hid (MpS (((w.alloc (.map #[] 0)).alloc (.cells #[.map (some w.heap.size), .pointer none] 56)).alloc (.map #[] 0)) (w.heap.size + 1) w.heap.size #[] 0 none) := by
    refine ⟨?_, ?_⟩
    · rw [Below.heap_alloc _ _ _ (by simp)]
      have := heap_alloc_new (w.alloc (.map #[] 0)) (.cells #[.map (some w.heap.size), .pointer none] 56)
      simpa using this
    · rw [Below.heap_alloc _ _ _ (by simp; omega), Below.heap_alloc _ _ _ (by simp)]
      exact heap_alloc_new w _
  have E3 : Hid ((((w.alloc (.map #[] 0)).alloc (.cells #[.map (some w.heap.size), .pointer none] 56)).alloc (.map #[] 0)).heap[w.heap.size + 1 + 1]? = some (.map #[] 0)) := by
    have := heap_alloc_last ((w.alloc (.map #[] 0)).alloc (.cells #[.map (some w.heap.size), .pointer none] 56)) (.map #[] 0)
    show _ = _
    simpa using this
  have P3 := Lib.hid (hb.on B3.out)
  have hs3 : Hid ((((w.alloc (.map #[] 0)).alloc (.cells #[.map (some w.heap.size), .pointer none] 56)).alloc (.map #[] 0)).heap.size = w.heap.size + 3) := by show _ = _; simp
  have hbw := hb.lt
  have z32 := zero32_len
  have k32 := K1_len
  have v32 := V2_len
  have hlk := hc_len K1
  have hlv := hc_len V2
  clear hb
  go_enter Tryd.func9, Tryd.ntmps9
  go_wp2_with fail
  clear hmm
  generalize ((w.alloc (.map #[] 0)).alloc (.cells #[.map (some w.heap.size), .pointer none] 56)).alloc (.map #[] 0) = w3 at *
  refine wp_loop_rounds 2 ?_
  rw [rounds_succ]
  have r3 := P3.out.whole K1_len V2_len
  have A4 := PrB.new w3 zero32 zero32
  have th4 := A4.there zero32_len zero32_len
  have P4 := A4.put zero32_len zero32_len K1_len V2_len
  have k4 := P4.key K1_len
  have B4 : Below w3.heap.size w3 ((w3.alloc (.cells (prRow zero32 zero32).toArray 72)).setCells w3.heap.size 0 (prRow K1 V2)) := below_setCells' _ (Nat.le_refl _) _ _ ((Below.refl _ _).alloc (Nat.le_refl _) _)
  have hle : w.heap.size + 1 + 1 < w3.heap.size := by have := hs3.out; omega
  have E4 : ((w3.alloc (.cells (prRow zero32 zero32).toArray 72)).setCells w3.heap.size 0 (prRow K1 V2)).heap[w.heap.size + 1 + 1]? = some (.map #[] 0) := by rw [B4.block _ hle]; exact E3.out
  have hl4 := look_u0 E4
  have hst := run_storeCells_pr (P := Tryd.prog) _ w3.heap.size K1 V2 K1_len V2_len th4
  have hsz4 : ((w3.alloc (.cells (prRow zero32 zero32).toArray 72)).setCells w3.heap.size 0 (prRow K1 V2)).heap.size = w3.heap.size + 1 := by rw [size_setCells]; simp
  have hpl := prRow_len K1_len V2_len
  have hb5 : Below ((w3.alloc (.cells (prRow zero32 zero32).toArray 72)).setCells w3.heap.size 0 (prRow K1 V2)).heap.size ((w3.alloc (.cells (prRow zero32 zero32).toArray 72)).setCells w3.heap.size 0 (prRow K1 V2)) (((w3.alloc (.cells (prRow zero32 zero32).toArray 72)).setCells w3.heap.size 0 (prRow K1 V2)).alloc (.cells #[] 73)) := (Below.refl _ _).alloc (Nat.le_refl _) _
  have P5 := P4.on hb5
  have k5 := P5.key K1_len
  have E5 : (((w3.alloc (.cells (prRow zero32 zero32).toArray 72)).setCells w3.heap.size 0 (prRow K1 V2)).alloc (.cells #[] 73)).heap[w.heap.size + 1 + 1]? = some (.map #[] 0) := by rw [hb5.block _ (by rw [hsz4]; omega)]; exact E4
  have hu5 := upd_u0 E5
  have B5 := Lib.hid (B3.out.trans ((B4.trans (hb5.mono B4.size)).mono B3.out.size))
  have M5 := Lib.hid (M3.out.on (B4.trans (hb5.mono B4.size)))
  have Q5 := Lib.hid P5
  have Q4 := Lib.hid E5
  clear A4 P4 E4 hb5 P5 E5 B4 th4
  obtain ⟨R, hR⟩ : ∃ R, prRow K1 V2 = R := ⟨_, rfl⟩
  rw [hR] at r3 hst k4 hl4 hsz4 hpl k5 hu5 B5 M5 Q5 Q4
  clear hR
  go_wp2_with fail
  have hq : w.heap.size + 1 + 1 < (((w3.alloc (.cells (prRow zero32 zero32).toArray 72)).setCells w3.heap.size 0 R).alloc (.cells #[] 73)).heap.size := by simp [hsz4]; omega
  have Q6 : Hid (PrB (putMap (((w3.alloc (.cells (prRow zero32 zero32).toArray 72)).setCells w3.heap.size 0 R).alloc (.cells #[] 73)) (w.heap.size + 1 + 1) U1 1) w3.heap.size K1 V2) := by
    show _ = _
    rw [putMap_other (by omega)]; exact Q5.out
  have B6 : Hid (Below w.heap.size w (putMap (((w3.alloc (.cells (prRow zero32 zero32).toArray 72)).setCells w3.heap.size 0 R).alloc (.cells #[] 73)) (w.heap.size + 1 + 1) U1 1)) := by
    have h := (Chg.below B5.out (Nat.le_refl _) []).putMap (b := w.heap.size + 1 + 1) (.inr (by omega)) U1 1
    exact h.toBelow (Nat.le_refl _) (by simp)
  have M6 : Hid (MpS (putMap (((w3.alloc (.cells (prRow zero32 zero32).toArray 72)).setCells w3.heap.size 0 R).alloc (.cells #[] 73)) (w.heap.size + 1 + 1) U1 1) (w.heap.size + 1) w.heap.size #[] 0 none) :=
    ⟨by rw [putMap_other (by omega)]; exact M5.out.blk, by rw [putMap_other (by omega)]; exact M5.out.mp⟩
  have k6 := Q6.out.key K1_len
  have v6 := Q6.out.val K1_len V2_len
  clear Q5 B5 M5 hq hu5 k5 hst k4 hl4 hsz4 r3 Q4
  generalize putMap (((w3.alloc (.cells (prRow zero32 zero32).toArray 72)).setCells w3.heap.size 0 R).alloc (.cells #[] 73)) (w.heap.size + 1 + 1) U1 1 = w6 at *
  have e1 := run_rowLoad (P := Tryd.prog) w6 w3.heap.size 0 32 (by rw [k6]; simp [hc_len, K1_len])
  rw [k6] at e1
  rw [e1]
  simp only [Result.andThen_ok]
  clear e1
  go_wp2_with fail
  refine (Put_new V2_len (by simp [V2, zero32]) (by simp [V2, zero32]) M6.out).mono ?_
  rintro e w7 ⟨rfl, hc7, nb, hnb, hM7, hN7⟩
  have h6 := B6.out.size
  have B7 := Lib.hid (B6.out.trans (hc7.toBelow B6.out.size (by intro x hx; simp at hx; omega)))
  have M7 := Lib.hid hM7
  have N7 := Lib.hid hN7
  have hlp6 := M6.out.lp
  have hlm6 := M6.out.lm
  clear hc7 hM7 hN7 k6 v6 Q6 B6 M6
  go_wp2_with fail
  rw [rounds_succ]
  go_wp2_with fail
  refine bodyPost_ret (v := .tuple #[.pointer (some ⟨w.heap.size + 1, 0, none⟩), .int .i64 0]) (by simp [results, Tryd.results9, go_sem]) rfl ⟨_, _, nb, rfl, by omega, by omega, by omega, by omega, by omega, B7.out, M7.out, N7.out⟩
end Go.Proofs.YtjlodnecdngdfaaDoor
namespace Go.Proofs.YtjlodnecdngdfaaDoor
set_option maxRecDepth 100000
open Go.RowKit

theorem num6_any (n : Int) (w : World) : Calls Tryd.prog 25 #[.int .i64 n] w fun e w' => e = .returned (.int .i64 n) ∧ w' = w := by
  go_enter Tryd.func25, Tryd.ntmps25
  go_wp2_with fail
  go_ret
  exact ⟨rfl, rfl⟩
theorem zero32_get (j : Nat) : zero32.getD j 0 = 0 := by
  by_cases hj : j < 32
  · have : ∀ n : Fin 32, zero32.getD n.val 0 = 0 := by decide
    exact this ⟨j, hj⟩
  · simp [List.getD, zero32_len, hj]
theorem bitI_zero (i : Nat) : bitI zero32 i = 0 := by unfold bitI; rw [zero32_get]; simp
theorem cntI_zero : ∀ n, cntI zero32 n = 0
  | 0 => rfl
  | n + 1 => by simp [cntI, cntI_zero n, bitI_zero]
theorem ok_zero : okS zero32 [] = true := decide_eq_true ⟨by rw [cntI_zero]; rfl, by simp⟩
theorem sd_zero (l : Nat) : sdI zero32 [] l = zero32 := by unfold sdI; rw [bitI_zero]; rfl
theorem upS_zero (K h : List Int) : ∀ k, upS K zero32 [] h k = upH K 256 h k
  | 0 => rfl
  | k + 1 => by
    rw [upS, upH, upS_zero K h k]
    unfold stpS stp
    rw [sd_zero]
theorem root_zero (K V : List Int) : rootH K V zero32 [] = upH K 256 (lfH K V) 256 := by unfold rootH; rw [if_pos ok_zero, upS_zero]
theorem root_none (K : List Int) : rootH K zero32 zero32 [] = zero32 := by rw [root_zero, lfH_zero, upH_zero]
theorem ck_none : ckS zero32 K1 zero32 zero32 [] = true := by unfold ckS; rw [ok_zero, root_none]; simp
theorem kn_u : updH zero32 K1 zero32 V2 zero32 [] = upH K1 256 (lfH K1 V2) 256 := by unfold updH; rw [if_pos ok_zero, if_pos ck_none, root_zero]
theorem kn_e : updE zero32 K1 zero32 zero32 [] = 0 := by unfold updE; rw [if_pos ok_zero, if_pos ck_none]
theorem kn_c1 {R : List Int} (h : upH K1 256 (lfH K1 V2) 256 = R) : ckS R K1 V2 zero32 [] = true := by unfold ckS; rw [ok_zero, root_zero, h]; simp
theorem kn_c2 {R : List Int} (h : (R == zero32) = false) : ckS R K1 zero32 zero32 [] = false := by
  unfold ckS
  rw [ok_zero, root_none, Bool.true_and]
  simp only [beq_eq_false_iff_ne, ne_eq] at h ⊢
  exact fun e => h e.symm

set_option maxHeartbeats 8000000 in
theorem knows6_any {w : World} (hT : Tbl w) : Calls Tryd.prog 24 #[] w fun e w' => e = .returned (.bool true) ∧ Below w.heap.size w w' := by
  have HT := Lib.hid hT
  have hpos := hT.pos
  have z32 := zero32_len
  have k32 := K1_len
  have v32 := V2_len
  have hlz := hc_len zero32
  have hlk := hc_len K1
  have hlv := hc_len V2
  have P1 := Lib.hid (PrB.new w K1 V2)
  have B1 := Lib.hid ((Below.refl w.heap.size w).alloc (Nat.le_refl _) (.cells (prRow K1 V2).toArray 72))
  clear hT
  go_enter Tryd.func24, Tryd.ntmps24
  go_wp2_with fail
  refine (New_one P1.out).mono ?_
  rintro e w2 ⟨p, m, nb, rfl, hp, hm, hn, hpn, hmn, hb2, hM2, hN2⟩
  have h1 := B1.out.size
  have B2 := Lib.hid (B1.out.trans (hb2.mono B1.out.size))
  have M2 := Lib.hid hM2
  have N2 := Lib.hid hN2
  clear hb2 hM2 hN2 P1 B1
  go_wp2_with fail
  refine (show Calls Tryd.prog 30 #[.agg (hc zero32).toArray, .agg (hc K1).toArray, .agg (hc zero32).toArray, .agg (hc V2).toArray, .agg (pfRow zero32 (.slice none 0 0)).toArray] w2 _ from pUpdate_any (Ss := []) (k := 0) (q := none) (HT.out.on B2.out hpos) zero32_len K1_len zero32_len V2_len zero32_len K1_bytes zero32_bytes V2_bytes zero32_bytes (.inl rfl) HsOk.nil (by decide)).mono ?_
  rintro e w3 ⟨rfl, hb3⟩
  rw [kn_u, kn_e]
  obtain ⟨R, hR⟩ : ∃ R, upH K1 256 (lfH K1 V2) 256 = R := ⟨_, rfl⟩
  have HR := Lib.hid hR
  have lR : R.length = 32 := hR ▸ rtK_len
  have dR : (R == zero32) = false := hR ▸ rtK_some
  have cR1 := kn_c1 hR
  have cR2 := kn_c2 dR
  have C1 := Lib.hid cR1
  have C2 := Lib.hid cR2
  have DR := Lib.hid dR
  rw [hR]
  clear hR cR1 cR2 dR
  have hlr := hc_len R
  have M3 := M2.out.on hb3
  have N3 := N2.out.on hb3
  have B3 := B2.out.trans (hb3.mono B2.out.size)
  have hnl := N3.lt
  have H3 := HashAt.new w3 zero32
  have th3 := H3.there zero32_len
  have B4' : Below w3.heap.size w3 ((w3.alloc (.cells (hc zero32).toArray 24)).setCells w3.heap.size 0 (hc R)) := below_setCells' _ (Nat.le_refl _) _ _ ((Below.refl _ _).alloc (Nat.le_refl _) _)
  have H4 := Lib.hid (H3.put zero32_len lR)
  have M4 := Lib.hid (M3.on B4')
  have N4 := Lib.hid (N3.on B4')
  have B4 := Lib.hid (B3.trans (B4'.mono B3.size))
  clear hb3 M3 N3 B3 H3 B4' M2 N2 B2
  go_wp2_with fail
  clear th3
  obtain ⟨q3, hq⟩ : ∃ q, q = w3.heap.size := ⟨_, rfl⟩
  rw [← hq] at H4 M4 N4 B4 hnl ⊢
  generalize (w3.alloc (.cells (hc zero32).toArray 24)).setCells q3 0 (hc R) = w4 at *
  clear hq
  have dRR : (R == R) = true := beq_self_eq_true _
  have dR := DR.out
  refine wp_region_held_drew (S := fun W => Below w.heap.size w W ∧ HashAt W q3 R) (by kernel_rfl) (⟨B4.out.drew, H4.out.on ((Below.refl _ _).drew)⟩) (fun h0 => ?_)
  replace M4 := Lib.hid (M4.out.on ((Below.refl _ _).drew))
  replace N4 := Lib.hid (N4.out.on ((Below.refl _ _).drew))
  clear B4 H4
  generalize w4.drew = w4 at *
  refine wpAnyH_take (i := 0) (v := ?_) (by rw [List.getElem?_toArray]; rfl) (by kernel_rfl) (by kernel_rfl) (by kernel_rfl) (by exact fun _ _ _ h => h) (Or.inl ⟨by rfl, ?_⟩) h0 ?_
  rotate_left
  · intro W hW
    go_simp
    all_goals with_reducible rfl
  try simp only [Act.put, List.setIfInBounds_toArray, List.set_cons_zero, List.set_cons_succ]
  refine wpAnyH_take (i := 2) (v := ?_) (by rw [List.getElem?_toArray]; rfl) (by kernel_rfl) (by kernel_rfl) (by kernel_rfl) (by exact fun _ _ _ h => h) (Or.inl ⟨by rfl, ?_⟩) h0 ?_
  rotate_left
  · intro W hW
    go_simp
    all_goals with_reducible rfl
  try simp only [Act.put, List.setIfInBounds_toArray, List.set_cons_zero, List.set_cons_succ]
  refine wpAnyH_ready (rs := [1]) (by kernel_rfl) (by simp) ?_
  refine AllReadyH.cons (by rw [List.getElem?_toArray]; rfl) (fun K hK => ?_) AllReadyH.nil
  rw [if_pos (by rfl)]
  go_wp2_with fail
  refine (num6_any 0 _).mono ?_
  rintro e wx ⟨rfl, hwx⟩
  obtain rfl := hwx.symm
  clear hwx
  go_wp2_with fail
  refine hK.out _ _ (h0) (fun hn1 => ?_)
  clear hK K
  try simp only [Act.put, List.setIfInBounds_toArray, List.set_cons_zero, List.set_cons_succ]
  refine wpAnyH_ready (rs := [3]) (by kernel_rfl) (by simp) ?_
  refine AllReadyH.cons (by rw [List.getElem?_toArray]; rfl) (fun K hK => ?_) AllReadyH.nil
  rw [if_pos (by rfl)]
  go_wp2_with fail
  refine (num6_any 0 _).mono ?_
  rintro e wx ⟨rfl, hwx⟩
  obtain rfl := hwx.symm
  clear hwx
  go_wp2_with fail
  refine hK.out _ _ (hn1) (fun hn3 => ?_)
  clear hK K
  try simp only [Act.put, List.setIfInBounds_toArray, List.set_cons_zero, List.set_cons_succ]
  refine wpAnyH_take (i := 4) (v := ?_) (by rw [List.getElem?_toArray]; rfl) (by kernel_rfl) (by kernel_rfl) (by kernel_rfl) (by exact fun _ _ _ h => h) (Or.inl ⟨by rfl, ?_⟩) hn3 ?_
  rotate_left
  · intro W hW
    go_simp
    all_goals with_reducible rfl
  try simp only [Act.put, List.setIfInBounds_toArray, List.set_cons_zero, List.set_cons_succ]
  refine wpAnyH_take (i := 5) (v := ?_) (by rw [List.getElem?_toArray]; rfl) (by kernel_rfl) (by kernel_rfl) (by kernel_rfl) (by exact fun _ _ _ h => h) (Or.inl ⟨by rfl, ?_⟩) hn3 ?_
  rotate_left
  · intro W hW
    go_simp
    all_goals with_reducible rfl
  try simp only [Act.put, List.setIfInBounds_toArray, List.set_cons_zero, List.set_cons_succ]
  refine wpAnyH_take (i := 6) (v := ?_) (by rw [List.getElem?_toArray]; rfl) (by kernel_rfl) (by kernel_rfl) (by kernel_rfl) (by exact fun _ _ _ h => h) (Or.inl ⟨by rfl, ?_⟩) hn3 ?_
  rotate_left
  · intro W hW
    go_simp
    all_goals with_reducible rfl
  try simp only [Act.put, List.setIfInBounds_toArray, List.set_cons_zero, List.set_cons_succ]
  refine wpAnyH_take (i := 7) (v := ?_) (by rw [List.getElem?_toArray]; rfl) (by kernel_rfl) (by kernel_rfl) (by kernel_rfl) (by exact fun _ _ _ h => h) (Or.inl ⟨by rfl, ?_⟩) hn3 ?_
  rotate_left
  · intro W hW
    have ca := hW.2.row lR
    go_simp
    all_goals with_reducible rfl
  try simp only [Act.put, List.setIfInBounds_toArray, List.set_cons_zero, List.set_cons_succ]
  refine wpAnyH_take (i := 8) (v := ?_) (by rw [List.getElem?_toArray]; rfl) (by kernel_rfl) (by kernel_rfl) (by kernel_rfl) (by exact fun _ _ _ h => h) (Or.inl ⟨by rfl, ?_⟩) hn3 ?_
  rotate_left
  · intro W hW
    go_simp
    all_goals with_reducible rfl
  try simp only [Act.put, List.setIfInBounds_toArray, List.set_cons_zero, List.set_cons_succ]
  refine wpAnyH_ready (rs := [9]) (by kernel_rfl) (by simp) ?_
  refine AllReadyH.cons (by rw [List.getElem?_toArray]; rfl) (fun K hK => ?_) AllReadyH.nil
  rw [if_pos (by rfl)]
  go_wp2_with fail
  refine (Root_leaf (n := ⟨K1, 256, none, none, zero32, false, zero32, 0, false⟩) (V := V2) (HT.out.on hn3.1 hpos) ⟨K1_len, zero32_len, zero32_len⟩ rfl K1_bytes V2_len V2_bytes rfl rfl rfl N4.out M4.out hpn hmn (by simp; omega)).mono ?_
  rintro e w9 ⟨rfl, hc9, -⟩
  rw [HR.out]
  have H9 := hn3.2.chg hc9 (by simp; omega)
  have B9 := hn3.1.trans (hc9.toBelow hn3.1.size (by intro x hx; simp at hx; omega))
  go_wp2_with fail
  refine hK.out _ _ (⟨B9, H9⟩) (fun h9x => ?_)
  clear hK K
  try simp only [Act.put, List.setIfInBounds_toArray, List.set_cons_zero, List.set_cons_succ]
  refine wpAnyH_take (i := 10) (v := ?_) (by rw [List.getElem?_toArray]; rfl) (by kernel_rfl) (by kernel_rfl) (by kernel_rfl) (by exact fun _ _ _ h => h) (Or.inl ⟨by rfl, ?_⟩) h9x ?_
  rotate_left
  · intro W hW
    go_simp
    all_goals with_reducible rfl
  try simp only [Act.put, List.setIfInBounds_toArray, List.set_cons_zero, List.set_cons_succ]
  refine wpAnyH_take (i := 11) (v := ?_) (by rw [List.getElem?_toArray]; rfl) (by kernel_rfl) (by kernel_rfl) (by kernel_rfl) (by exact fun _ _ _ h => h) (Or.inl ⟨by rfl, ?_⟩) h9x ?_
  rotate_left
  · intro W hW
    go_simp
    all_goals with_reducible rfl
  try simp only [Act.put, List.setIfInBounds_toArray, List.set_cons_zero, List.set_cons_succ]
  refine wpAnyH_take (i := 12) (v := ?_) (by rw [List.getElem?_toArray]; rfl) (by kernel_rfl) (by kernel_rfl) (by kernel_rfl) (by exact fun _ _ _ h => h) (Or.inl ⟨by rfl, ?_⟩) h9x ?_
  rotate_left
  · intro W hW
    go_simp
    all_goals with_reducible rfl
  try simp only [Act.put, List.setIfInBounds_toArray, List.set_cons_zero, List.set_cons_succ]
  refine wpAnyH_take (i := 13) (v := ?_) (by rw [List.getElem?_toArray]; rfl) (by kernel_rfl) (by kernel_rfl) (by kernel_rfl) (by exact fun _ _ _ h => h) (Or.inl ⟨by rfl, ?_⟩) h9x ?_
  rotate_left
  · intro W hW
    have ca := hW.2.row lR
    go_simp
    all_goals with_reducible rfl
  try simp only [Act.put, List.setIfInBounds_toArray, List.set_cons_zero, List.set_cons_succ]
  refine wpAnyH_take (i := 14) (v := ?_) (by rw [List.getElem?_toArray]; rfl) (by kernel_rfl) (by kernel_rfl) (by kernel_rfl) (by exact fun _ _ _ h => h) (Or.inl ⟨by rfl, ?_⟩) h9x ?_
  rotate_left
  · intro W hW
    go_simp
    all_goals with_reducible rfl
  try simp only [Act.put, List.setIfInBounds_toArray, List.set_cons_zero, List.set_cons_succ]
  refine wpAnyH_take (i := 15) (v := ?_) (by rw [List.getElem?_toArray]; rfl) (by kernel_rfl) (by kernel_rfl) (by kernel_rfl) (by exact fun _ _ _ h => h) (Or.inl ⟨by rfl, ?_⟩) h9x ?_
  rotate_left
  · intro W hW
    go_simp
    all_goals with_reducible rfl
  try simp only [Act.put, List.setIfInBounds_toArray, List.set_cons_zero, List.set_cons_succ]
  refine wpAnyH_take (i := 16) (v := ?_) (by rw [List.getElem?_toArray]; rfl) (by kernel_rfl) (by kernel_rfl) (by kernel_rfl) (by exact fun _ _ _ h => h) (Or.inl ⟨by rfl, ?_⟩) h9x ?_
  rotate_left
  · intro W hW
    go_simp
    all_goals with_reducible rfl
  try simp only [Act.put, List.setIfInBounds_toArray, List.set_cons_zero, List.set_cons_succ]
  refine wpAnyH_take (i := 17) (v := ?_) (by rw [List.getElem?_toArray]; rfl) (by kernel_rfl) (by kernel_rfl) (by kernel_rfl) (by exact fun _ _ _ h => h) (Or.inl ⟨by rfl, ?_⟩) h9x ?_
  rotate_left
  · intro W hW
    go_simp
    all_goals with_reducible rfl
  try simp only [Act.put, List.setIfInBounds_toArray, List.set_cons_zero, List.set_cons_succ]
  refine wpAnyH_take (i := 18) (v := ?_) (by rw [List.getElem?_toArray]; rfl) (by kernel_rfl) (by kernel_rfl) (by kernel_rfl) (by exact fun _ _ _ h => h) (Or.inl ⟨by rfl, ?_⟩) h9x ?_
  rotate_left
  · intro W hW
    have ca := hW.2.row lR
    go_simp
    all_goals with_reducible rfl
  try simp only [Act.put, List.setIfInBounds_toArray, List.set_cons_zero, List.set_cons_succ]
  refine wpAnyH_take (i := 19) (v := ?_) (by rw [List.getElem?_toArray]; rfl) (by kernel_rfl) (by kernel_rfl) (by kernel_rfl) (by exact fun _ _ _ h => h) (Or.inl ⟨by rfl, ?_⟩) h9x ?_
  rotate_left
  · intro W hW
    go_simp
    all_goals with_reducible rfl
  try simp only [Act.put, List.setIfInBounds_toArray, List.set_cons_zero, List.set_cons_succ]
  refine wpAnyH_take (i := 20) (v := ?_) (by rw [List.getElem?_toArray]; rfl) (by kernel_rfl) (by kernel_rfl) (by kernel_rfl) (by exact fun _ _ _ h => h) (Or.inl ⟨by rfl, ?_⟩) h9x ?_
  rotate_left
  · intro W hW
    go_simp
    all_goals with_reducible rfl
  try simp only [Act.put, List.setIfInBounds_toArray, List.set_cons_zero, List.set_cons_succ]
  refine wpAnyH_take (i := 21) (v := ?_) (by rw [List.getElem?_toArray]; rfl) (by kernel_rfl) (by kernel_rfl) (by kernel_rfl) (by exact fun _ _ _ h => h) (Or.inl ⟨by rfl, ?_⟩) h9x ?_
  rotate_left
  · intro W hW
    go_simp
    all_goals with_reducible rfl
  try simp only [Act.put, List.setIfInBounds_toArray, List.set_cons_zero, List.set_cons_succ]
  refine wpAnyH_ready (rs := [22]) (by kernel_rfl) (by simp) ?_
  refine AllReadyH.cons (by rw [List.getElem?_toArray]; rfl) (fun K hK => ?_) AllReadyH.nil
  rw [if_pos (by rfl)]
  go_wp2_with fail
  refine (show Calls Tryd.prog 27 #[.agg (hc R).toArray, .agg (hc K1).toArray, .agg (hc V2).toArray, .agg (pfRow zero32 (.slice none 0 0)).toArray] w9 _ from pCheck_any (Ss := []) (k := 0) (q := none) (HT.out.on h9x.1 hpos) lR K1_len V2_len zero32_len K1_bytes V2_bytes zero32_bytes (.inl rfl) HsOk.nil (by decide)).mono ?_
  rintro e w22 ⟨rfl, hb22⟩
  rw [C1.out]
  go_wp2_with fail
  refine hK.out _ _ (⟨h9x.1.trans (hb22.mono h9x.1.size), h9x.2.on hb22⟩) (fun h22x => ?_)
  clear hK K
  try simp only [Act.put, List.setIfInBounds_toArray, List.set_cons_zero, List.set_cons_succ]
  refine wpAnyH_take (i := 23) (v := ?_) (by rw [List.getElem?_toArray]; rfl) (by kernel_rfl) (by kernel_rfl) (by kernel_rfl) (by exact fun _ _ _ h => h) (Or.inl ⟨by rfl, ?_⟩) h22x ?_
  rotate_left
  · intro W hW
    go_simp
    all_goals with_reducible rfl
  try simp only [Act.put, List.setIfInBounds_toArray, List.set_cons_zero, List.set_cons_succ]
  refine wpAnyH_take (i := 24) (v := ?_) (by rw [List.getElem?_toArray]; rfl) (by kernel_rfl) (by kernel_rfl) (by kernel_rfl) (by exact fun _ _ _ h => h) (Or.inl ⟨by rfl, ?_⟩) h22x ?_
  rotate_left
  · intro W hW
    go_simp
    all_goals with_reducible rfl
  try simp only [Act.put, List.setIfInBounds_toArray, List.set_cons_zero, List.set_cons_succ]
  refine wpAnyH_take (i := 25) (v := ?_) (by rw [List.getElem?_toArray]; rfl) (by kernel_rfl) (by kernel_rfl) (by kernel_rfl) (by exact fun _ _ _ h => h) (Or.inl ⟨by rfl, ?_⟩) h22x ?_
  rotate_left
  · intro W hW
    have ca := hW.2.row lR
    go_simp
    all_goals with_reducible rfl
  try simp only [Act.put, List.setIfInBounds_toArray, List.set_cons_zero, List.set_cons_succ]
  refine wpAnyH_take (i := 26) (v := ?_) (by rw [List.getElem?_toArray]; rfl) (by kernel_rfl) (by kernel_rfl) (by kernel_rfl) (by exact fun _ _ _ h => h) (Or.inl ⟨by rfl, ?_⟩) h22x ?_
  rotate_left
  · intro W hW
    go_simp
    all_goals with_reducible rfl
  try simp only [Act.put, List.setIfInBounds_toArray, List.set_cons_zero, List.set_cons_succ]
  refine wpAnyH_take (i := 27) (v := ?_) (by rw [List.getElem?_toArray]; rfl) (by kernel_rfl) (by kernel_rfl) (by kernel_rfl) (by exact fun _ _ _ h => h) (Or.inl ⟨by rfl, ?_⟩) h22x ?_
  rotate_left
  · intro W hW
    go_simp
    all_goals with_reducible rfl
  try simp only [Act.put, List.setIfInBounds_toArray, List.set_cons_zero, List.set_cons_succ]
  refine wpAnyH_take (i := 28) (v := ?_) (by rw [List.getElem?_toArray]; rfl) (by kernel_rfl) (by kernel_rfl) (by kernel_rfl) (by exact fun _ _ _ h => h) (Or.inl ⟨by rfl, ?_⟩) h22x ?_
  rotate_left
  · intro W hW
    go_simp
    all_goals with_reducible rfl
  try simp only [Act.put, List.setIfInBounds_toArray, List.set_cons_zero, List.set_cons_succ]
  refine wpAnyH_ready (rs := [29]) (by kernel_rfl) (by simp) ?_
  refine AllReadyH.cons (by rw [List.getElem?_toArray]; rfl) (fun K hK => ?_) AllReadyH.nil
  rw [if_pos (by rfl)]
  go_wp2_with fail
  refine (show Calls Tryd.prog 27 #[.agg (hc R).toArray, .agg (hc K1).toArray, .agg (hc zero32).toArray, .agg (pfRow zero32 (.slice none 0 0)).toArray] w22 _ from pCheck_any (Ss := []) (k := 0) (q := none) (HT.out.on h22x.1 hpos) lR K1_len zero32_len zero32_len K1_bytes zero32_bytes zero32_bytes (.inl rfl) HsOk.nil (by decide)).mono ?_
  rintro e w29 ⟨rfl, hb29⟩
  rw [C2.out]
  go_wp2_with fail
  refine hK.out _ _ (⟨h22x.1.trans (hb29.mono h22x.1.size), h22x.2.on hb29⟩) (fun h29x => ?_)
  clear hK K
  try simp only [Act.put, List.setIfInBounds_toArray, List.set_cons_zero, List.set_cons_succ]
  refine wpAnyH_take (i := 30) (v := ?_) (by rw [List.getElem?_toArray]; rfl) (by kernel_rfl) (by kernel_rfl) (by kernel_rfl) (by exact fun _ _ _ h => h) (Or.inl ⟨by rfl, ?_⟩) h29x ?_
  rotate_left
  · intro W hW
    go_simp
    all_goals with_reducible rfl
  try simp only [Act.put, List.setIfInBounds_toArray, List.set_cons_zero, List.set_cons_succ]
  refine wpAnyH_take (i := 31) (v := ?_) (by rw [List.getElem?_toArray]; rfl) (by kernel_rfl) (by kernel_rfl) (by kernel_rfl) (by exact fun _ _ _ h => h) (Or.inl ⟨by rfl, ?_⟩) h29x ?_
  rotate_left
  · intro W hW
    go_simp
    all_goals with_reducible rfl
  try simp only [Act.put, List.setIfInBounds_toArray, List.set_cons_zero, List.set_cons_succ]
  refine wpAnyH_take (i := 32) (v := ?_) (by rw [List.getElem?_toArray]; rfl) (by kernel_rfl) (by kernel_rfl) (by kernel_rfl) (by exact fun _ _ _ h => h) (Or.inl ⟨by rfl, ?_⟩) h29x ?_
  rotate_left
  · intro W hW
    go_simp
    all_goals with_reducible rfl
  try simp only [Act.put, List.setIfInBounds_toArray, List.set_cons_zero]
  refine wpAnyH_done (by kernel_rfl) ?_ _
  have BE := Lib.hid h29x.1
  go_wp2_with fail
  go_ret
  exact ⟨rfl, BE.out⟩
end Go.Proofs.YtjlodnecdngdfaaDoor
