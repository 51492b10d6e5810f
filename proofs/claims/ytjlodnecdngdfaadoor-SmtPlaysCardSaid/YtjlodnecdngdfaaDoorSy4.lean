/-
  The walks of basculeref02: Table, sum, Sum.; The walk of basculeref02.Sum.; Tagged, in the program and in the reference.; Pair, in the program and in the reference.
-/
import Derived.Test.YtjlodnecdngdfaaDoorSy2
import Derived.Test.YtjlodnecdngdfaaDoorSy3
namespace Go.Proofs.YtjlodnecdngdfaaDoor
open Go.RowKit
set_option maxRecDepth 100000

/-- Cells of words. -/
def uc (F : List Int) : List Value := F.map (Value.int .u32)
@[go_sem] theorem uc_len (F : List Int) : (uc F).length = F.length := by simp [uc]
@[go_sem] theorem rootsZ_len : rootsZ.length = 64 := by rfl
def zero64 : List Int := List.replicate 64 0
@[go_sem] theorem zero64_len : zero64.length = 64 := by rfl
@[go_sem ↓] theorem load64 (a : Addr) : loadCellsFrom a 0 64 #[] = rowLoad a 64 := rfl
@[go_sem ↓] theorem Tryd.build_tab (ps : Array (Nat × Value)) : Instr.build 107 ps = rowBuild 107 ps := rfl
set_option maxHeartbeats 4000000 in
@[go_sem] theorem Tryd.run_tab (w : World) : (rowBuild 107 #[(0, .int .u32 1116352408), (1, .int .u32 1899447441), (2, .int .u32 3049323471), (3, .int .u32 3921009573), (4, .int .u32 961987163), (5, .int .u32 1508970993), (6, .int .u32 2453635748), (7, .int .u32 2870763221), (8, .int .u32 3624381080), (9, .int .u32 310598401), (10, .int .u32 607225278), (11, .int .u32 1426881987), (12, .int .u32 1925078388), (13, .int .u32 2162078206), (14, .int .u32 2614888103), (15, .int .u32 3248222580), (16, .int .u32 3835390401), (17, .int .u32 4022224774), (18, .int .u32 264347078), (19, .int .u32 604807628), (20, .int .u32 770255983), (21, .int .u32 1249150122), (22, .int .u32 1555081692), (23, .int .u32 1996064986), (24, .int .u32 2554220882), (25, .int .u32 2821834349), (26, .int .u32 2952996808), (27, .int .u32 3210313671), (28, .int .u32 3336571891), (29, .int .u32 3584528711), (30, .int .u32 113926993), (31, .int .u32 338241895), (32, .int .u32 666307205), (33, .int .u32 773529912), (34, .int .u32 1294757372), (35, .int .u32 1396182291), (36, .int .u32 1695183700), (37, .int .u32 1986661051), (38, .int .u32 2177026350), (39, .int .u32 2456956037), (40, .int .u32 2730485921), (41, .int .u32 2820302411), (42, .int .u32 3259730800), (43, .int .u32 3345764771), (44, .int .u32 3516065817), (45, .int .u32 3600352804), (46, .int .u32 4094571909), (47, .int .u32 275423344), (48, .int .u32 430227734), (49, .int .u32 506948616), (50, .int .u32 659060556), (51, .int .u32 883997877), (52, .int .u32 958139571), (53, .int .u32 1322822218), (54, .int .u32 1537002063), (55, .int .u32 1747873779), (56, .int .u32 1955562222), (57, .int .u32 2024104815), (58, .int .u32 2227730452), (59, .int .u32 2361852424), (60, .int .u32 2428436474), (61, .int .u32 2756734187), (62, .int .u32 3204031479), (63, .int .u32 3329325298)]).run Tryd.prog w = .ok (.agg (uc rootsZ).toArray) w := by
  unfold rowBuild; kernel_rfl
@[go_sem ↓] theorem Tryd.zero_tab (w : World) : (zeroValue 107).run Tryd.prog w = .ok (.agg (uc zero64).toArray) w := by kernel_rfl
theorem uc_one (F : List Int) : (uc F).toArray.all (·.oneCell') = true := by
  rw [Array.all_eq_true_iff_forall_mem]
  intro v hv
  simp [uc] at hv
  obtain ⟨x, _, rfl⟩ := hv
  rfl
@[go_sem] theorem run_storeCells_u32 {P : Program} (w : World) (b o : Nat) (F : List Int) (ht : w.there b o F.length) : (storeCells ⟨b, o, none⟩ (uc F) 0).run P w = .ok () (w.setCells b o (uc F)) := by
  have := run_storeCells_cells (P := P) b o (uc F) 0 w (fun j hj => by rw [uc_len] at hj; simpa using (ht j hj).1) (fun j hj => by rw [uc_len] at hj; simpa using (ht j hj).2) (fun v hv => (Array.all_eq_true_iff_forall_mem.1 (uc_one F)) v (by simpa using hv))
  simpa using this
/-- Block b holds the words F. -/
def TabAt (w : World) (b : Nat) (F : List Int) : Prop := w.heap[b]? = some (.cells (uc F).toArray 107 (0, 0))
theorem TabAt.there {w : World} {b : Nat} {G : List Int} (h : TabAt w b G) (hG : G.length = 64) : w.there b 0 64 := fun j hj => by
  refine ⟨?_, Joins.unfrozen_of_block h _⟩
  rw [cell_of_row _ _ _ _ _ _ h]
  simp [uc_len, hG, hj]
theorem TabAt.put {w : World} {b : Nat} {G : List Int} (h : TabAt w b G) (hG : G.length = 64) {F : List Int} (hF : F.length = 64) : TabAt (w.setCells b 0 (uc F)) b F := by
  have := setCells_block (b := b) (t := 107) (fr := (0, 0)) (uc F) (o := 0) (w := w) (pre := []) (mid := uc G) (post := []) (by simp only [List.nil_append, List.append_nil]; exact h) rfl (by rw [uc_len, uc_len, hF, hG])
  simpa only [TabAt, List.nil_append, List.append_nil] using this
theorem TabAt.row {w : World} {b : Nat} {F : List Int} (h : TabAt w b F) (hF : F.length = 64) : rowOf w b 0 64 = uc F := by
  rw [rowOf_block h]
  have : (uc F).length = 64 := by rw [uc_len, hF]
  simp [List.take_of_length_le (Nat.le_of_eq this)]
theorem TabAt.new (w : World) (F : List Int) : TabAt (w.alloc (.cells (uc F).toArray 107)) w.heap.size F := heap_alloc_last w _
theorem TabAt.on {w w1 : World} {b : Nat} {F : List Int} (h : TabAt w b F) (hb : Below w.heap.size w w1) : TabAt w1 b F := by
  have : b < w.heap.size := (Array.getElem?_eq_some_iff.1 h).1
  unfold TabAt
  rw [hb.block _ this]; exact h

set_option maxHeartbeats 4000000 in
theorem Table_any (w : World) : Calls Tryd.prog 64 #[] w fun e w' => e = .returned (.tuple #[.agg #[.int .u32 1779033703, .int .u32 3144134277, .int .u32 1013904242, .int .u32 2773480762, .int .u32 1359893119, .int .u32 2600822924, .int .u32 528734635, .int .u32 1541459225], .agg (uc rootsZ).toArray]) ∧ Below w.heap.size w w' := by
  have hT := TabAt.new (w.alloc (.cells #[.int .u32 1779033703, .int .u32 3144134277, .int .u32 1013904242, .int .u32 2773480762, .int .u32 1359893119, .int .u32 2600822924, .int .u32 528734635, .int .u32 1541459225] 106)) zero64
  simp only [World.size_alloc] at hT
  have hth := hT.there zero64_len
  have hrow := (hT.put zero64_len rootsZ_len).row rootsZ_len
  have h8 : ((((w.alloc (.cells #[.int .u32 1779033703, .int .u32 3144134277, .int .u32 1013904242, .int .u32 2773480762, .int .u32 1359893119, .int .u32 2600822924, .int .u32 528734635, .int .u32 1541459225] 106)).alloc (.cells (uc zero64).toArray 107)).setCells (w.heap.size + 1) 0 (uc rootsZ))).heap[w.heap.size]? = some (.cells #[.int .u32 1779033703, .int .u32 3144134277, .int .u32 1013904242, .int .u32 2773480762, .int .u32 1359893119, .int .u32 2600822924, .int .u32 528734635, .int .u32 1541459225] 106 (0, 0)) := by
    rw [setCells_other (by omega), Below.heap_alloc _ _ _ (by simp)]
    exact heap_alloc_new w _
  have hb : Below w.heap.size w (((w.alloc (.cells #[.int .u32 1779033703, .int .u32 3144134277, .int .u32 1013904242, .int .u32 2773480762, .int .u32 1359893119, .int .u32 2600822924, .int .u32 528734635, .int .u32 1541459225] 106)).alloc (.cells (uc zero64).toArray 107)).setCells (w.heap.size + 1) 0 (uc rootsZ)) :=
    below_setCells' _ (by omega) _ _ (((Below.refl _ _).alloc (Nat.le_refl _) _).alloc (by simp) _)
  have HB := Lib.hid hb
  have H8 := Lib.hid h8
  have HR := Lib.hid hrow
  clear hT hrow h8 hb
  go_enter Tryd.func64, Tryd.ntmps64
  go_wp2_with fail
  have hrow := HR.out
  have h8 := H8.out
  clear hth HR H8
  generalize ((w.alloc (.cells #[.int .u32 1779033703, .int .u32 3144134277, .int .u32 1013904242, .int .u32 2773480762, .int .u32 1359893119, .int .u32 2600822924, .int .u32 528734635, .int .u32 1541459225] 106)).alloc (.cells (uc zero64).toArray 107)).setCells (w.heap.size + 1) 0 (uc rootsZ) = W at *
  have c0 := Joins.cell_of_block h8 0
  have c1 := Joins.cell_of_block h8 1
  have c2 := Joins.cell_of_block h8 2
  have c3 := Joins.cell_of_block h8 3
  have c4 := Joins.cell_of_block h8 4
  have c5 := Joins.cell_of_block h8 5
  have c6 := Joins.cell_of_block h8 6
  have c7 := Joins.cell_of_block h8 7
  simp only [List.getElem?_toArray, List.getElem?_cons_zero, List.getElem?_cons_succ] at c0 c1 c2 c3 c4 c5 c6 c7
  refine bodyPost_ret (v := .tuple #[.agg #[.int .u32 1779033703, .int .u32 3144134277, .int .u32 1013904242, .int .u32 2773480762, .int .u32 1359893119, .int .u32 2600822924, .int .u32 528734635, .int .u32 1541459225], .agg (uc rootsZ).toArray]) (by simp [results, Tryd.results64, go_sem, hrow, c0, c1, c2, c3, c4, c5, c6, c7]) rfl ⟨rfl, HB.out⟩

/-- What stands in memory within the document's sum. -/
structure RsSt (w wr : World) (S : St8) (g N : Nat) (xs : List Int) : Prop where
  below : Below w.heap.size w wr
  rs : RwK .u32 wr w.heap.size 8 106 (fun i => S.lst.getD i 0)
  rk : RwK .u32 wr (w.heap.size + 1) 64 107 rt
  rr : HashAt wr (w.heap.size + 1 + 1) zero32
  rp : RwK .u8 wr g N 5 (padF xs)
  hg : w.heap.size + 1 + 1 < g
theorem RsSt.on {w wr w1 : World} {S : St8} {g N : Nat} {xs : List Int} (h : RsSt w wr S g N xs) (hb : Below wr.heap.size wr w1) : RsSt w w1 S g N xs :=
  ⟨h.below.trans (hb.mono h.below.size), h.rs.on hb, h.rk.on hb, h.rr.on hb, h.rp.on hb, h.hg⟩
theorem RsSt.drew {w wr : World} {S : St8} {g N : Nat} {xs : List Int} (h : RsSt w wr S g N xs) : RsSt w wr.drew S g N xs := ⟨h.below.drew, h.rs, h.rk, h.rr, h.rp, h.hg⟩
theorem RsSt.put {w wr : World} {S : St8} {g N : Nat} {xs : List Int} (h : RsSt w wr S g N xs) (T : St8) :
    RsSt w ((((((((wr.setCell ⟨w.heap.size, 0, none⟩ (.int .u32 T.a)).setCell ⟨w.heap.size, 1, none⟩ (.int .u32 T.b)).setCell ⟨w.heap.size, 2, none⟩ (.int .u32 T.c)).setCell ⟨w.heap.size, 3, none⟩ (.int .u32 T.d)).setCell ⟨w.heap.size, 4, none⟩ (.int .u32 T.e)).setCell ⟨w.heap.size, 5, none⟩ (.int .u32 T.f)).setCell ⟨w.heap.size, 6, none⟩ (.int .u32 T.g)).setCell ⟨w.heap.size, 7, none⟩ (.int .u32 T.h)) T g N xs := by
  have hb := h.below
  have hr := h.rr
  have ht := h.rk
  have hp := h.rp
  have hg := h.hg
  refine ⟨?_, ?_, ?_, ?_, ?_, hg⟩
  · repeat (first | with_reducible exact hb | with_reducible refine Below.setCell ?_ (by simp) _)
  · refine ((((((((h.rs.store (j := 0) (by omega) T.a).store (j := 1) (by omega) T.b).store (j := 2) (by omega) T.c).store (j := 3) (by omega) T.d).store (j := 4) (by omega) T.e).store (j := 5) (by omega) T.f).store (j := 6) (by omega) T.g).store (j := 7) (by omega) T.h).same ?_
    intro i hi
    have e : i = 0 ∨ i = 1 ∨ i = 2 ∨ i = 3 ∨ i = 4 ∨ i = 5 ∨ i = 6 ∨ i = 7 := by omega
    rcases e with rfl | rfl | rfl | rfl | rfl | rfl | rfl | rfl <;> simp [updK, St8.lst]
  · repeat (first | with_reducible exact ht | with_reducible refine RwK.other ?_ (by simp) _)
  · repeat (first | with_reducible exact hr | with_reducible refine HashAt.other ?_ (by simp; omega) _)
  · repeat (first | with_reducible exact hp | with_reducible refine RwK.other ?_ (by simp; omega) _)
theorem RwK.hashL {w : World} {b : Nat} {F : List Int} (hF : F.length = 32) (h : RwK .u8 w b 32 24 (fun i => F.getD i 0)) : HashAt w b F := by
  have := h.block
  rw [show ((List.range 32).map fun i => Value.int .u8 (F.getD i 0)) = hc F from (list_ext_K (k := .u8) (by simp [hc, hF]) (fun i hi => by simp [hc, List.getD, hF, hi])).symm] at this
  exact this
theorem out_get (S : St8) {i : Nat} (h : i < 32) : S.out.getD i 0 = (be4 (S.lst.getD (i / 4) 0)).getD (i % 4) 0 := by
  have e : i = 0 ∨ i = 1 ∨ i = 2 ∨ i = 3 ∨ i = 4 ∨ i = 5 ∨ i = 6 ∨ i = 7 ∨ i = 8 ∨ i = 9 ∨ i = 10 ∨ i = 11 ∨ i = 12 ∨ i = 13 ∨ i = 14 ∨ i = 15 ∨ i = 16 ∨ i = 17 ∨ i = 18 ∨ i = 19 ∨ i = 20 ∨ i = 21 ∨ i = 22 ∨ i = 23 ∨ i = 24 ∨ i = 25 ∨ i = 26 ∨ i = 27 ∨ i = 28 ∨ i = 29 ∨ i = 30 ∨ i = 31 := by omega
  rcases e with rfl | rfl | rfl | rfl | rfl | rfl | rfl | rfl | rfl | rfl | rfl | rfl | rfl | rfl | rfl | rfl | rfl | rfl | rfl | rfl | rfl | rfl | rfl | rfl | rfl | rfl | rfl | rfl | rfl | rfl | rfl | rfl <;> rfl

set_option maxHeartbeats 8000000 in
theorem rsum_any {w : World} {v : Value} {xs : List Int} (hr : Rd w v xs) (hx : Bytes xs) (hl : xs.length ≤ 100000000000000) :
    Calls Tryd.prog 65 #[v, .agg #[.int .u32 1779033703, .int .u32 3144134277, .int .u32 1013904242, .int .u32 2773480762, .int .u32 1359893119, .int .u32 2600822924, .int .u32 528734635, .int .u32 1541459225], .agg (uc rootsZ).toArray] w fun e w' => e = .returned (.agg (hc (sha xs)).toArray) ∧ Below w.heap.size w w' := by
  have HX := Lib.hid hx
  have HR := Lib.hid hr
  clear hx hr
  go_enter Tryd.func65, Tryd.ntmps65
  go_wp2_with fail
  have hb0 : Below w.heap.size w (((w.alloc (.cells #[.int .u32 1779033703, .int .u32 3144134277, .int .u32 1013904242, .int .u32 2773480762, .int .u32 1359893119, .int .u32 2600822924, .int .u32 528734635, .int .u32 1541459225] 106)).alloc (.cells (uc rootsZ).toArray 107)).alloc (.cells (hc zero32).toArray 24)) := by
    exact (((Below.refl _ _).alloc (Nat.le_refl _) _).alloc (by simp) _).alloc (by simp; omega) _
  have hs0 : RwK .u32 (((w.alloc (.cells #[.int .u32 1779033703, .int .u32 3144134277, .int .u32 1013904242, .int .u32 2773480762, .int .u32 1359893119, .int .u32 2600822924, .int .u32 528734635, .int .u32 1541459225] 106)).alloc (.cells (uc rootsZ).toArray 107)).alloc (.cells (hc zero32).toArray 24)) w.heap.size 8 106 (fun i => iv.lst.getD i 0) :=
    ((RwK.newL .u32 w iv.lst 106).alloc _).alloc _
  have hk0 : RwK .u32 (((w.alloc (.cells #[.int .u32 1779033703, .int .u32 3144134277, .int .u32 1013904242, .int .u32 2773480762, .int .u32 1359893119, .int .u32 2600822924, .int .u32 528734635, .int .u32 1541459225] 106)).alloc (.cells (uc rootsZ).toArray 107)).alloc (.cells (hc zero32).toArray 24)) (w.heap.size + 1) 64 107 rt := by
    have := (RwK.newL .u32 (w.alloc (.cells #[.int .u32 1779033703, .int .u32 3144134277, .int .u32 1013904242, .int .u32 2773480762, .int .u32 1359893119, .int .u32 2600822924, .int .u32 528734635, .int .u32 1541459225] 106)) rootsZ 107).alloc (.cells (hc zero32).toArray 24)
    simp only [World.size_alloc] at this
    exact this
  have hr0 : HashAt (((w.alloc (.cells #[.int .u32 1779033703, .int .u32 3144134277, .int .u32 1013904242, .int .u32 2773480762, .int .u32 1359893119, .int .u32 2600822924, .int .u32 528734635, .int .u32 1541459225] 106)).alloc (.cells (uc rootsZ).toArray 107)).alloc (.cells (hc zero32).toArray 24)) (w.heap.size + 1 + 1) zero32 := by
    have := HashAt.new ((w.alloc (.cells #[.int .u32 1779033703, .int .u32 3144134277, .int .u32 1013904242, .int .u32 2773480762, .int .u32 1359893119, .int .u32 2600822924, .int .u32 528734635, .int .u32 1541459225] 106)).alloc (.cells (uc rootsZ).toArray 107)) zero32
    simp only [World.size_alloc] at this
    exact this
  refine (pad_any (HR.out.on hb0) hl).mono ?_
  rintro e w1 ⟨rfl, hp1, hb1⟩
  simp only [World.size_alloc] at hp1
  have HM : Hid (RsSt w w1 iv (w.heap.size + 1 + 1 + 1) (64 * nbk xs.length) xs) := ⟨hb0.trans (hb1.mono (by simp; omega)), hs0.on hb1, hk0.on hb1, hr0.on hb1, hp1, by omega⟩
  simp only [World.size_alloc]
  clear hb0 hs0 hk0 hr0 hp1 hb1 HR
  have hnb : 64 * nbk xs.length ≤ 100000000000073 := by have := padlen xs.length; omega
  obtain ⟨M, hM⟩ : ∃ M, nbk xs.length = M := ⟨_, rfl⟩
  have HSH : Hid (sha xs = (shaSt xs M).out) := by unfold sha; rw [hM]; exact rfl
  rw [hM] at HM hnb ⊢
  clear hM
  go_wp2_with fail
  go_loopw [8] (fun iv wr => ∃ i : Nat, iv = .int .i64 (64 * (i : Int)) ∧ i ≤ M ∧ Hid (RsSt w wr (shaSt xs i) (w.heap.size + 1 + 1 + 1) (64 * M) xs)) (fun iv _ => 64 * M - (intOf iv).toNat)
  case atStart => exact ⟨0, by simp, by omega, HM⟩
  case round =>
    clear HM
    obtain ⟨i, rfl, hi, hm⟩ := hrel
    by_cases hlt : i < M
    · have hle : 64 * i + 64 ≤ 64 * M := by omega
      have e1 : (64 * (i : Int)).toNat = 64 * i := by omega
      have e2 : (64 * (i : Int) + 64).toNat = 64 * i + 64 := by omega
      have k2 : IntKind.i64.wrap (64 * (i : Int) + 64) = 64 * (i : Int) + 64 := IntWalk.i64_in _ (by omega)
      have p0 : (0 : Int) ≤ 64 * (i : Int) := by omega
      have p1 : 64 * (i : Int) + 64 ≤ 64 * (M : Int) := by omega
      have p2 : 64 * (i : Int) ≤ 64 * (i : Int) + 64 := by omega
      have p3 : ¬ 64 * M = 64 * i := by omega
      have p4 : (0 : Int) ≤ (i : Int) := by omega
      have p5 : (i : Int) + 1 ≤ (M : Int) := by omega
      have p6 : ¬ M = i := by omega
      go_wp2_with fail
      refine wp_region_held_drew (S := fun _ => True) (by kernel_rfl) (trivial) (fun h0 => ?_)
      refine wpAnyH_take (i := 1) (v := ?_) (by rw [List.getElem?_toArray]; rfl) (by kernel_rfl) (by kernel_rfl) (by kernel_rfl) (by exact fun _ _ _ h => h) (Or.inl ⟨by rfl, ?_⟩) h0 ?_
      rotate_left
      · intro W hW
        go_simp
        all_goals with_reducible rfl
      try simp only [Act.put, List.setIfInBounds_toArray, List.set_cons_zero, List.set_cons_succ]
      refine wpAnyH_take (i := 2) (v := ?_) (by rw [List.getElem?_toArray]; rfl) (by kernel_rfl) (by kernel_rfl) (by kernel_rfl) (by exact fun _ _ _ h => h) (Or.inl ⟨by rfl, ?_⟩) h0 ?_
      rotate_left
      · intro W hW
        go_simp
        all_goals with_reducible rfl
      try simp only [Act.put, List.setIfInBounds_toArray, List.set_cons_zero, List.set_cons_succ]
      refine wpAnyH_take (i := 3) (v := ?_) (by rw [List.getElem?_toArray]; rfl) (by kernel_rfl) (by kernel_rfl) (by kernel_rfl) (by exact fun _ _ _ h => h) (Or.inl ⟨by rfl, ?_⟩) h0 ?_
      rotate_left
      · intro W hW
        go_simp
        all_goals with_reducible rfl
      try simp only [Act.put, List.setIfInBounds_toArray, List.set_cons_zero, List.set_cons_succ]
      refine wpAnyH_take (i := 4) (v := ?_) (by rw [List.getElem?_toArray]; rfl) (by kernel_rfl) (by kernel_rfl) (by kernel_rfl) (by exact fun _ _ _ h => h) (Or.inl ⟨by rfl, ?_⟩) h0 ?_
      rotate_left
      · intro W hW
        go_simp
        all_goals with_reducible rfl
      try simp only [Act.put, List.setIfInBounds_toArray, List.set_cons_zero, List.set_cons_succ]
      refine wpAnyH_take (i := 5) (v := ?_) (by rw [List.getElem?_toArray]; rfl) (by kernel_rfl) (by kernel_rfl) (by kernel_rfl) (by exact fun _ _ _ h => h) (Or.inl ⟨by rfl, ?_⟩) h0 ?_
      rotate_left
      · intro W hW
        go_simp
        all_goals with_reducible rfl
      try simp only [Act.put, List.setIfInBounds_toArray, List.set_cons_zero, List.set_cons_succ]
      refine wpAnyH_ready (rs := [0]) (by kernel_rfl) (by simp) ?_
      refine AllReadyH.cons (by rw [List.getElem?_toArray]; rfl) (fun K hK => ?_) AllReadyH.nil
      rw [if_pos (by rfl)]
      have s0 := hm.out.rs.cell 0 (by omega)
      have s1 := hm.out.rs.cell 1 (by omega)
      have s2 := hm.out.rs.cell 2 (by omega)
      have s3 := hm.out.rs.cell 3 (by omega)
      have s4 := hm.out.rs.cell 4 (by omega)
      have s5 := hm.out.rs.cell 5 (by omega)
      have s6 := hm.out.rs.cell 6 (by omega)
      have s7 := hm.out.rs.cell 7 (by omega)
      simp only [St8.lst, List.getD_cons_zero, List.getD_cons_succ] at s0 s1 s2 s3 s4 s5 s6 s7
      go_wp2_with fail
      clear s0 s1 s2 s3 s4 s5 s6 s7
      refine hK.out _ _ (trivial) (fun hx0 => ?_)
      clear hK K
      try simp only [Act.put, List.setIfInBounds_toArray, List.set_cons_zero, List.set_cons_succ]
      refine wpAnyH_ready (rs := [6]) (by kernel_rfl) (by simp) ?_
      refine AllReadyH.cons (by rw [List.getElem?_toArray]; rfl) (fun K hK => ?_) AllReadyH.nil
      rw [if_pos (by rfl)]
      have KB := Lib.hid (block_any (w := wr.drew) (S := shaSt xs i) (shaSt_ok xs i) (b := w.heap.size + 1 + 1 + 1) (off := 64 * i) (n := 64) (c := 64 * M - 64 * i) (kb := w.heap.size + 1) (B := blkF xs i) (by omega) (fun j hj => by rw [hm.out.drew.rp.cell (64 * i + j) (by omega)]; rfl) (fun j hj => padF_bytes HX.out _) (fun j hj => hm.out.drew.rk.cell j hj))
      go_wp2_with fail
      refine KB.out.mono ?_
      rintro e w3 ⟨rfl, hb3⟩
      have hm3 := hm.out.drew.on hb3
      have HP := Lib.hid (hm3.put (shaSt xs (i + 1)))
      have HM3 := Lib.hid hm3
      go_wp2_with fail
      refine hK.out _ _ (trivial) (fun hx6 => ?_)
      clear hK K
      try simp only [Act.put, List.setIfInBounds_toArray, List.set_cons_zero, List.set_cons_succ]
      clear KB hb3 hm3
      refine wpAnyH_ready (rs := [7]) (by kernel_rfl) (by simp) ?_
      refine AllReadyH.cons (by rw [List.getElem?_toArray]; rfl) (fun K hK => ?_) AllReadyH.nil
      rw [if_pos (by rfl)]
      have s0 := HM3.out.rs.cell 0 (by omega)
      have s1 := HM3.out.rs.cell 1 (by omega)
      have s2 := HM3.out.rs.cell 2 (by omega)
      have s3 := HM3.out.rs.cell 3 (by omega)
      have s4 := HM3.out.rs.cell 4 (by omega)
      have s5 := HM3.out.rs.cell 5 (by omega)
      have s6 := HM3.out.rs.cell 6 (by omega)
      have s7 := HM3.out.rs.cell 7 (by omega)
      simp only [St8.lst, List.getD_cons_zero, List.getD_cons_succ] at s0 s1 s2 s3 s4 s5 s6 s7
      have f0 := HM3.out.rs.free 0
      have f1 := HM3.out.rs.free 1
      have f2 := HM3.out.rs.free 2
      have f3 := HM3.out.rs.free 3
      have f4 := HM3.out.rs.free 4
      have f5 := HM3.out.rs.free 5
      have f6 := HM3.out.rs.free 6
      have f7 := HM3.out.rs.free 7
      rw [show (shaSt xs i).mix (blkF xs i) = shaSt xs (i + 1) from rfl]
      obtain ⟨T8, hT8⟩ : ∃ T : St8, shaSt xs (i + 1) = T := ⟨_, rfl⟩
      rw [hT8] at HP ⊢
      have HT8 := Lib.hid hT8
      clear hT8
      go_wp2_with fail
      refine hK.out _ _ (trivial) (fun hx7 => ?_)
      clear hK K
      try simp only [Act.put, List.setIfInBounds_toArray, List.set_cons_zero, List.set_cons_succ]
      refine wpAnyH_done (by kernel_rfl) ?_ _
      go_wp2_with fail
      go_roundw
      case rel => exact ⟨i + 1, by go_num, by omega, by rw [HT8.out]; exact HP⟩
      case measure => simp [intOf]; omega
    · obtain rfl : i = M := by omega
      have HM := hm
      have s0 := hm.out.rs.cell 0 (by omega)
      have s1 := hm.out.rs.cell 1 (by omega)
      have s2 := hm.out.rs.cell 2 (by omega)
      have s3 := hm.out.rs.cell 3 (by omega)
      have s4 := hm.out.rs.cell 4 (by omega)
      have s5 := hm.out.rs.cell 5 (by omega)
      have s6 := hm.out.rs.cell 6 (by omega)
      have s7 := hm.out.rs.cell 7 (by omega)
      simp only [St8.lst, List.getD_cons_zero, List.getD_cons_succ] at s0 s1 s2 s3 s4 s5 s6 s7
      have hz1 := hm.out.rs.lt
      have hz2 := hm.out.rr.lt
      clear hm
      generalize hS : shaSt xs i = S at *
      clear hS
      have hr0 : RwK .u8 (wr.alloc (.cells (hc zero32).toArray 24)) wr.heap.size 32 24 (fun i => zero32.getD i 0) := RwK.newL .u8 wr zero32 24
      have HW : Hid (∃ f, RwK .u8 (wr.alloc (.cells (hc zero32).toArray 24)) wr.heap.size 32 24 f ∧ Below wr.heap.size wr (wr.alloc (.cells (hc zero32).toArray 24)) ∧ ∀ j, j < 0 → f j = S.out.getD j 0) := ⟨_, hr0, (Below.refl _ _).alloc (Nat.le_refl _) _, fun j hj => by omega⟩
      have HM2 := Lib.hid HM.out
      obtain ⟨w0, rfl⟩ : ∃ w0 : World, w0 = wr := ⟨_, rfl⟩
      clear hr0 s0 s1 s2 s3 s4 s5 s6 s7
      go_wp2_with fail
      go_loopw [10] (fun iv wr => ∃ i : Nat, iv = .int .i64 i ∧ i ≤ 32 ∧ Hid (∃ f, RwK .u8 wr w0.heap.size 32 24 f ∧ Below w0.heap.size w0 wr ∧ ∀ j, j < i → f j = S.out.getD j 0)) (fun iv _ => 32 - (intOf iv).toNat)
      case atStart => exact ⟨0, rfl, by omega, HW⟩
      case round =>
        clear HW
        obtain ⟨k, rfl, hk, hW⟩ := hrel
        by_cases hlk : k < 32
        · obtain ⟨f, hf1, hf2, hf3⟩ := hW.out
          have cs : wr.cell? ⟨w.heap.size, k / 4, none⟩ = some (.int .u32 (S.lst.getD (k / 4) 0)) := (HM2.out.rs.on hf2).cell (k / 4) (by omega)
          have cf := hf1.cell k hlk
          have ff := hf1.free k
          have HN : Hid (∀ v, v = S.out.getD k 0 → ∃ f, RwK .u8 (wr.setCell ⟨w0.heap.size, k, none⟩ (.int .u8 v)) w0.heap.size 32 24 f ∧ Below w0.heap.size w0 (wr.setCell ⟨w0.heap.size, k, none⟩ (.int .u8 v)) ∧ ∀ j, j < k + 1 → f j = S.out.getD j 0) := by
            intro v hv
            refine ⟨_, hf1.store hlk v, hf2.setCell (Nat.le_refl _) _, fun j hj => ?_⟩
            by_cases e : j = k
            · subst e; rw [updK_same, hv]
            · rw [updK_ne _ _ e]; exact hf3 j (by omega)
          have HG := Lib.hid (out_get S hlk)
          clear hW hf1 hf2 hf3
          have ed : ((k : Int) / 4).toNat = k / 4 := by omega
          have d0 : (0 : Int) ≤ (k : Int) / 4 := by omega
          have d8 : (k : Int) / 4 < 8 := by omega
          obtain ⟨m, hm4⟩ : ∃ m : Nat, k % 4 = m := ⟨_, rfl⟩
          have hm3 : m = 0 ∨ m = 1 ∨ m = 2 ∨ m = 3 := by omega
          rw [hm4] at HG
          generalize S.lst.getD (k / 4) 0 = x at cs HG
          rcases hm3 with rfl | rfl | rfl | rfl
          all_goals
            have hmI : (k : Int) % 4 = ((k % 4 : Nat) : Int) := by omega
            rw [hm4] at hmI
            clear hm4
            go_wp2_with fail
            exact ⟨⟨k + 1, by go_num, by omega, Lib.hid (HN.out _ (by rw [HG.out]; rfl))⟩, by simp [intOf]; omega⟩
        · obtain rfl : k = 32 := by omega
          obtain ⟨f, hf1, hf2, hf3⟩ := hW.out
          have hF : HashAt wr w0.heap.size S.out := RwK.hashL rfl (hf1.same hf3)
          have hS32 : S.out.length = 32 := rfl
          have hrow := hF.row hS32
          have hm8 := HM2.out.on hf2
          have hth := hm8.rr.there zero32_len
          have hput := (hm8.rr.put zero32_len hS32).row hS32
          have HB := Lib.hid (below_setCells' (B := w.heap.size) (w.heap.size + 1 + 1) (by omega) (hc S.out) 0 hm8.below)
          clear hF hm8 hW hf1 hf2 hf3
          go_wp2_with fail
          refine bodyPost_ret (v := .agg (hc S.out).toArray) (by simp [results, Tryd.results65, go_sem, hput, hS32]) rfl ⟨by rw [HSH.out], HB.out⟩

end Go.Proofs.YtjlodnecdngdfaaDoor
namespace Go.Proofs.YtjlodnecdngdfaaDoor
open Go.RowKit
set_option maxRecDepth 100000

set_option maxHeartbeats 4000000 in
theorem refSum_any {w : World} {v : Value} {xs : List Int} (hr : Rd w v xs) (hx : Bytes xs) (hl : xs.length ≤ 100000000000000) :
    Calls Tryd.prog 50 #[v] w fun e w' => e = .returned (.agg (hc (sha xs)).toArray) ∧ Below w.heap.size w w' := by
  have HR := Lib.hid hr
  have HX := Lib.hid hx
  have H0 := Lib.hid (HashAt.new w zero32)
  have B0 := Lib.hid ((Below.refl w.heap.size w).alloc (Nat.le_refl _) (.cells (hc zero32).toArray 24))
  clear hr hx
  go_enter Tryd.func50, Tryd.ntmps50
  go_wp2_with fail
  refine (Table_any _).mono ?_
  rintro e w1 ⟨rfl, hb1⟩
  have H1 := Lib.hid (H0.out.on hb1)
  have B1 := Lib.hid (B0.out.trans (hb1.mono B0.out.size))
  clear hb1 H0 B0
  have hTn := TabAt.new (w1.alloc (.cells #[.int .u32 1779033703, .int .u32 3144134277, .int .u32 1013904242, .int .u32 2773480762, .int .u32 1359893119, .int .u32 2600822924, .int .u32 528734635, .int .u32 1541459225] 106)) zero64
  simp only [World.size_alloc] at hTn
  have hth := hTn.there zero64_len
  have hrow := (hTn.put zero64_len rootsZ_len).row rootsZ_len
  have h8 : ((((w1.alloc (.cells #[.int .u32 1779033703, .int .u32 3144134277, .int .u32 1013904242, .int .u32 2773480762, .int .u32 1359893119, .int .u32 2600822924, .int .u32 528734635, .int .u32 1541459225] 106)).alloc (.cells (uc zero64).toArray 107)).setCells (w1.heap.size + 1) 0 (uc rootsZ))).heap[w1.heap.size]? = some (.cells #[.int .u32 1779033703, .int .u32 3144134277, .int .u32 1013904242, .int .u32 2773480762, .int .u32 1359893119, .int .u32 2600822924, .int .u32 528734635, .int .u32 1541459225] 106 (0, 0)) := by
    rw [setCells_other (by omega), Below.heap_alloc _ _ _ (by simp)]
    exact heap_alloc_new w1 _
  have hb2 : Below w1.heap.size w1 (((w1.alloc (.cells #[.int .u32 1779033703, .int .u32 3144134277, .int .u32 1013904242, .int .u32 2773480762, .int .u32 1359893119, .int .u32 2600822924, .int .u32 528734635, .int .u32 1541459225] 106)).alloc (.cells (uc zero64).toArray 107)).setCells (w1.heap.size + 1) 0 (uc rootsZ)) :=
    below_setCells' _ (by omega) _ _ (((Below.refl _ _).alloc (Nat.le_refl _) _).alloc (by simp) _)
  have H2 := Lib.hid (H1.out.on hb2)
  have B2 := Lib.hid (B1.out.trans (hb2.mono B1.out.size))
  have c0 := Joins.cell_of_block h8 0
  have c1 := Joins.cell_of_block h8 1
  have c2 := Joins.cell_of_block h8 2
  have c3 := Joins.cell_of_block h8 3
  have c4 := Joins.cell_of_block h8 4
  have c5 := Joins.cell_of_block h8 5
  have c6 := Joins.cell_of_block h8 6
  have c7 := Joins.cell_of_block h8 7
  simp only [List.getElem?_toArray, List.getElem?_cons_zero, List.getElem?_cons_succ] at c0 c1 c2 c3 c4 c5 c6 c7
  have KS := Lib.hid (rsum_any (HR.out.on B2.out) HX.out hl)
  clear hTn hb2 H1 B1 h8
  go_wp2_with fail
  refine KS.out.mono ?_
  rintro e w3 ⟨rfl, hb3⟩
  have H3 := H2.out.on hb3
  have B3 := B2.out.trans (hb3.mono B2.out.size)
  have hth3 := H3.there zero32_len
  have hlen := sha_len xs
  have hput := (H3.put zero32_len hlen).row hlen
  have HB := Lib.hid (below_setCells' (B := w.heap.size) w.heap.size (Nat.le_refl _) (hc (sha xs)) 0 B3)
  generalize hF : sha xs = F at *
  have HF := Lib.hid hF
  clear hF
  clear hb3 H3 B3 KS H2 B2 hth hrow c0 c1 c2 c3 c4 c5 c6 c7
  go_wp2_with fail
  refine bodyPost_ret (v := .agg (hc F).toArray) (by simp [results, Tryd.results50, go_sem, hput, hlen]) rfl ⟨by rw [HF.out], HB.out⟩
end Go.Proofs.YtjlodnecdngdfaaDoor
namespace Go.Proofs.YtjlodnecdngdfaaDoor
open Go.RowKit
set_option maxRecDepth 100000

set_option maxHeartbeats 4000000 in
theorem Tagged_any {w : World} {s t : ByteArray} {v : Value} {L : List (List Int)} (hL : RdL w v L []) (hT : Tbl w) (hs : s.size ≤ maxLen) (hst : cut255 s = t) (hn : (frm (sn t) L).length ≤ 140737488355328) (hx : Bytes (frm (sn t) L)) :
    Calls Tryd.prog 84 #[.string s, v] w fun e w' => e = .returned (.agg (hc (sha (frm (sn t) L))).toArray) ∧ Below w.heap.size w w' := by
  have H0 := Lib.hid (HashAt.new w zero32)
  have B0 := Lib.hid ((Below.refl w.heap.size w).alloc (Nat.le_refl _) (.cells (hc zero32).toArray 24))
  have KF := Lib.hid (Frame_cut (hL.chg (Chg.below B0.out (Nat.le_refl _) [])) hs hst hn)
  have HX := Lib.hid hx
  clear hL hx
  go_enter Tryd.func84, Tryd.ntmps84
  go_wp2_with fail
  refine KF.out.mono ?_
  rintro e w1 ⟨rfl, hr1, hb1⟩
  simp only [World.size_alloc] at hr1
  have H1 := Lib.hid (H0.out.on hb1)
  have B1 := Lib.hid (B0.out.trans (hb1.mono B0.out.size))
  have KS := Lib.hid (Sum_any (rdc_of_rw hr1) HX.out (hT.on B1.out hT.pos))
  clear hr1
  clear KF H0 hn hs hst HX hT
  generalize hX : frm (sn t) L = X at *
  have HXX := Lib.hid hX
  clear hX
  go_wp2_with fail
  refine KS.out.mono ?_
  rintro e w3 ⟨rfl, hb3⟩
  have H3 := H1.out.on hb3
  have B3 := B1.out.trans (hb3.mono B1.out.size)
  have hth3 := H3.there zero32_len
  have hlen := sha_len X
  have hput := (H3.put zero32_len hlen).row hlen
  have HB := Lib.hid (below_setCells' (B := w.heap.size) w.heap.size (Nat.le_refl _) (hc (sha X)) 0 B3)
  generalize hF : sha X = F at *
  have HF := Lib.hid hF
  clear hF
  clear hb3 H3 B3 KS H1 B1 hb1
  go_wp2_with fail
  refine bodyPost_ret (v := .agg (hc F).toArray) (by simp [results, Tryd.results84, go_sem, hput, hlen]) rfl ⟨by rw [HXX.out, HF.out], HB.out⟩

set_option maxHeartbeats 4000000 in
theorem refTagged_any {w : World} {s t : ByteArray} {v : Value} {L : List (List Int)} (hL : RdL w v L []) (hs : s.size ≤ maxLen) (hst : cut255 s = t) (hn : (frm (sn t) L).length ≤ 100000000000000) (hx : Bytes (frm (sn t) L)) :
    Calls Tryd.prog 80 #[.string s, v] w fun e w' => e = .returned (.agg (hc (sha (frm (sn t) L))).toArray) ∧ Below w.heap.size w w' := by
  have H0 := Lib.hid (HashAt.new w zero32)
  have B0 := Lib.hid ((Below.refl w.heap.size w).alloc (Nat.le_refl _) (.cells (hc zero32).toArray 24))
  have KF := Lib.hid (refFrame_any (hL.chg (Chg.below B0.out (Nat.le_refl _) [])) hs hst hn)
  have HX := Lib.hid hx
  clear hL hx
  go_enter Tryd.func80, Tryd.ntmps80
  go_wp2_with fail
  refine KF.out.mono ?_
  rintro e w1 ⟨q, n, c, rfl, hf1⟩
  have hb1 := hf1.below
  have H1 := Lib.hid (H0.out.on hb1)
  have B1 := Lib.hid (B0.out.trans (hb1.mono B0.out.size))
  have KS := Lib.hid (refSum_any hf1.rd HX.out hn)
  clear hf1
  clear KF H0 hn hs hst HX
  generalize hX : frm (sn t) L = X at *
  have HXX := Lib.hid hX
  clear hX
  go_wp2_with fail
  refine KS.out.mono ?_
  rintro e w3 ⟨rfl, hb3⟩
  have H3 := H1.out.on hb3
  have B3 := B1.out.trans (hb3.mono B1.out.size)
  have hth3 := H3.there zero32_len
  have hlen := sha_len X
  have hput := (H3.put zero32_len hlen).row hlen
  have HB := Lib.hid (below_setCells' (B := w.heap.size) w.heap.size (Nat.le_refl _) (hc (sha X)) 0 B3)
  generalize hF : sha X = F at *
  have HF := Lib.hid hF
  clear hF
  clear hb3 H3 B3 KS H1 B1 hb1
  go_wp2_with fail
  refine bodyPost_ret (v := .agg (hc F).toArray) (by simp [results, Tryd.results80, go_sem, hput, hlen]) rfl ⟨by rw [HXX.out, HF.out], HB.out⟩
end Go.Proofs.YtjlodnecdngdfaaDoor
namespace Go.Proofs.YtjlodnecdngdfaaDoor
open Go.RowKit
set_option maxRecDepth 100000

def pairS : ByteArray := ⟨#[112, 97, 105, 114]⟩
theorem pair_sn : sn pairS = [112, 97, 105, 114] := by rfl
theorem HashAt.rd {w : World} {b : Nat} {A : List Int} (h : HashAt w b A) (hA : A.length = 32) : Rd w (.slice (some ⟨b, 0, none⟩) 32 32) A :=
  ⟨_, 32, by rw [hA], .inr ⟨b, 0, rfl, fun i hi => by rw [Nat.zero_add]; exact h.cell hi⟩⟩
theorem two_rdl {W : World} {v v' : Value} {A B : List Int} (h : Rd W v A) (h' : Rd W v' B) : RdL (W.alloc (.cells #[v, v'] 82)) (.slice (some ⟨W.heap.size, 0, none⟩) 2 2) [A, B] [] := by
  refine ⟨_, 2, rfl, .inr ⟨W.heap.size, 0, rfl, by simp, fun i hi => ?_⟩⟩
  have hb := heap_alloc_new W (.cells #[v, v'] 82)
  rw [Nat.zero_add, Joins.cell_of_block hb]
  have e : i = 0 ∨ i = 1 := by simp at hi; omega
  rcases e with rfl | rfl
  · exact ⟨v, rfl, h.alloc _, by simp⟩
  · exact ⟨v', rfl, h'.alloc _, by simp⟩
theorem pair_len {A B : List Int} (hA : A.length = 32) (hB : B.length = 32) : (frm (sn pairS) [A, B]).length = 85 := by
  rw [frm_len, pair_sn]; simp [blobs, hA, hB]
theorem pair_bytes {A B : List Int} (bA : Bytes A) (bB : Bytes B) : Bytes (frm (sn pairS) [A, B]) :=
  frm_bytes (sn_bytes _) (by rw [pair_sn]; decide) (fun b hb => by simp only [List.mem_cons, List.not_mem_nil, or_false] at hb; rcases hb with rfl | rfl <;> assumption)

/-! ### Two rows of the call's own -/
theorem FrS.born {W0 W : World} (hb : Below W0.heap.size W0 W) {k : Nat} (hk : W.heap.size = k) : FrS W0 (W.alloc (.cells #[] 5)) (.slice (some ⟨k, 0, none⟩) 0 0) [] 0 := by
  subst hk
  exact ⟨own_empty W _ 1, (fun g hg => by have := hb.size; simp [Value.ownBlock] at hg; omega), hb.alloc hb.size _⟩
structure Two (W0 W : World) (v v' : Value) (xs ys : List Int) (n m : Nat) : Prop where
  a : FrS W0 W v xs n
  b : FrS W0 W v' ys m
  ne : ∀ g, v.ownBlock = some g → v'.ownBlock ≠ some g
theorem Two.symm {W0 W : World} {v v' : Value} {xs ys : List Int} {n m : Nat} (h : Two W0 W v v' xs ys n m) : Two W0 W v' v ys xs m n := ⟨h.b, h.a, fun g e e' => h.ne g e' e⟩
theorem Two.ofA {W0 W : World} {v : Value} {xs : List Int} {n : Nat} (h : FrS W0 W v xs n) {k : Nat} (hk : W.heap.size = k) : Two W0 (W.alloc (.cells #[] 5)) v (.slice (some ⟨k, 0, none⟩) 0 0) xs [] n 0 := by
  subst hk
  exact ⟨h.on ((Below.refl _ _).alloc (Nat.le_refl _) _), FrS.born h.below rfl, fun g e e' => by have := own_lt h.own e; simp [Value.ownBlock] at e'; omega⟩
theorem Two.growA {W0 W w2 : World} {v v' v2 : Value} {xs ys zs : List Int} {n m k : Nat} (h : Two W0 W v v' xs ys n m) (own : w2.ownsRow 0 5 1 v2 (n + k) (bc xs ++ bc zs)) (grow : W.grownBy w2 v.ownBlock) (fr : v2.ownBlock = v.ownBlock ∨ v2.ownBlock = some W.heap.size) : Two W0 w2 v2 v' (xs ++ zs) ys (n + k) m := by
  have ha := h.a.grow own grow fr
  refine ⟨ha, ⟨own_chg2 h.b.own (Chg.grown grow (S := v.ownBlock.toList) (fun g hg => Option.mem_toList.2 hg)) (fun g hg hm => h.ne g (Option.mem_toList.1 hm) hg), h.b.fresh, ha.below⟩, fun g e e' => ?_⟩
  rcases fr with e1 | e1
  · rw [e1] at e; exact h.ne g e e'
  · rw [e1] at e; have := own_lt h.b.own e'; simp at e; omega

set_option maxHeartbeats 4000000 in
theorem Pair_any {w : World} {A B : List Int} (hT : Tbl w) (hA : A.length = 32) (hB : B.length = 32) (bA : Bytes A) (bB : Bytes B) :
    Calls Tryd.prog 83 #[.agg (hc A).toArray, .agg (hc B).toArray] w fun e w' => e = .returned (.agg (hc (sha (frm (sn pairS) [A, B]))).toArray) ∧ Below w.heap.size w w' := by
  have LL := Lib.hid (pair_len hA hB)
  have BX := Lib.hid (pair_bytes bA bB)
  have HA := Lib.hid ((HashAt.new w A).alloc (.cells (hc B).toArray 24) |>.alloc (.cells (hc zero32).toArray 24))
  have HB := Lib.hid ((HashAt.new (w.alloc (.cells (hc A).toArray 24)) B).alloc (.cells (hc zero32).toArray 24))
  have HZ := Lib.hid (HashAt.new ((w.alloc (.cells (hc A).toArray 24)).alloc (.cells (hc B).toArray 24)) zero32)
  have B0 := Lib.hid ((((Below.refl w.heap.size w).alloc (Nat.le_refl _) (.cells (hc A).toArray 24)).alloc (by simp) (.cells (hc B).toArray 24)).alloc (by simp; omega) (.cells (hc zero32).toArray 24))
  have hlA : (hc A).length = 32 := by rw [hc_len, hA]
  have hlB : (hc B).length = 32 := by rw [hc_len, hB]
  obtain ⟨i0, hi, hz0, hz1, hz2⟩ := info_parts Tryd.infoU8
  replace hi := Lib.hid hi
  replace hz0 := Lib.hid hz0
  replace hz1 := Lib.hid hz1
  replace hz2 := Lib.hid hz2
  replace hA := Lib.hid hA
  replace hB := Lib.hid hB
  clear bA bB
  go_enter Tryd.func83, Tryd.ntmps83
  go_wp2_with fail
  simp only [World.size_alloc] at HB HZ
  generalize ((w.alloc (.cells (hc A).toArray 24)).alloc (.cells (hc B).toArray 24)).alloc (.cells (hc zero32).toArray 24) = W0 at *
  refine wp_region_held_drew (S := fun W => Below w.heap.size w W) (by kernel_rfl) (B0.out.drew) (fun h0 => ?_)
  refine wpAnyH_take (i := 0) (v := ?_) (by rw [List.getElem?_toArray]; rfl) (by kernel_rfl) (by kernel_rfl) (by kernel_rfl) (by exact fun _ _ _ h => h) (Or.inl ⟨by rfl, ?_⟩) h0 ?_
  rotate_left
  · intro W hW
    go_simp
    all_goals with_reducible rfl
  try simp only [Act.put, List.setIfInBounds_toArray, List.set_cons_zero, List.set_cons_succ]
  refine wpAnyH_take (i := 1) (v := ?_) (by rw [List.getElem?_toArray]; rfl) (by kernel_rfl) (by kernel_rfl) (by kernel_rfl) (by exact fun _ _ _ h => h) (Or.inl ⟨by rfl, ?_⟩) h0 ?_
  rotate_left
  · intro W hW
    go_simp
    all_goals with_reducible rfl
  try simp only [Act.put, List.setIfInBounds_toArray, List.set_cons_zero, List.set_cons_succ]
  refine wpAnyH_ready (rs := [2]) (by kernel_rfl) (by simp) ?_
  refine AllReadyH.cons (by rw [List.getElem?_toArray]; rfl) (fun K hK => ?_) AllReadyH.nil
  rw [if_pos (by rfl)]
  have G0 : Below W0.heap.size W0 W0.drew := (Below.refl _ _).drew
  go_wp2_with fail
  refine hK.out _ _ (h0.alloc h0.size _) (fun h2 => ?_)
  clear hK K
  try simp only [Act.put, List.setIfInBounds_toArray, List.set_cons_zero, List.set_cons_succ]
  have RL := two_rdl ((HA.out.on G0).rd hA.out) ((HB.out.on G0).rd hB.out)
  have RL2 := Lib.hid RL
  have G2 := G0.alloc G0.size (.cells #[.slice (some ⟨w.heap.size, 0, none⟩) 32 32, .slice (some ⟨w.heap.size + 1, 0, none⟩) 32 32] 82)
  clear RL
  refine wpAnyH_ready (rs := [3]) (by kernel_rfl) (by simp) ?_
  refine AllReadyH.cons (by rw [List.getElem?_toArray]; rfl) (fun K hK => ?_) AllReadyH.nil
  rw [if_pos (by rfl)]
  go_wp2_with fail
  refine (Tagged_any (s := pairS) RL2.out (hT.on h2 hT.pos) (by decide) (cut_small (by decide)) (by rw [LL.out]; omega) BX.out).mono ?_
  rintro e w8 ⟨rfl, hb8⟩
  have hB8 : Below W0.heap.size W0 w8 := G2.trans (hb8.mono G2.size)
  go_wp2_with fail
  refine hK.out _ _ (h2.trans (hb8.mono h2.size)) (fun h3 => ?_)
  clear hK K
  try simp only [Act.put, List.setIfInBounds_toArray, List.set_cons_zero, List.set_cons_succ]
  refine wpAnyH_ready (rs := [4]) (by kernel_rfl) (by simp) ?_
  refine AllReadyH.cons (by rw [List.getElem?_toArray]; rfl) (fun K hK => ?_) AllReadyH.nil
  rw [if_pos (by rfl)]
  have H3 := HZ.out.on hB8
  have B3 := B0.out.trans (hB8.mono B0.out.size)
  have hth3 := H3.there zero32_len
  have hlen := sha_len (frm (sn pairS) [A, B])
  have hput := (H3.put zero32_len hlen).row hlen
  have HX := Lib.hid (below_setCells' (B := w.heap.size) (w.heap.size + 1 + 1) (by omega) (hc (sha (frm (sn pairS) [A, B]))) 0 B3)
  generalize hF : sha (frm (sn pairS) [A, B]) = F at *
  have HF := Lib.hid hF
  clear hF hb8 H3 B3
  go_wp2_with fail
  refine hK.out _ _ (HX.out) (fun _ => ?_)
  clear hK K
  try simp only [Act.put, List.setIfInBounds_toArray, List.set_cons_zero, List.set_cons_succ]
  refine wpAnyH_done (by kernel_rfl) ?_ _
  go_wp2_with fail
  refine bodyPost_ret (v := .agg (hc F).toArray) (by simp [results, Tryd.results83, go_sem, hput, hlen]) rfl ⟨by rw [HF.out], HX.out⟩

set_option maxHeartbeats 4000000 in
theorem refPair_any {w : World} {A B : List Int} (hA : A.length = 32) (hB : B.length = 32) (bA : Bytes A) (bB : Bytes B) :
    Calls Tryd.prog 81 #[.agg (hc A).toArray, .agg (hc B).toArray] w fun e w' => e = .returned (.agg (hc (sha (frm (sn pairS) [A, B]))).toArray) ∧ Below w.heap.size w w' := by
  have LL := Lib.hid (pair_len hA hB)
  have BX := Lib.hid (pair_bytes bA bB)
  have HA := Lib.hid ((HashAt.new w A).alloc (.cells (hc B).toArray 24) |>.alloc (.cells (hc zero32).toArray 24))
  have HB := Lib.hid ((HashAt.new (w.alloc (.cells (hc A).toArray 24)) B).alloc (.cells (hc zero32).toArray 24))
  have HZ := Lib.hid (HashAt.new ((w.alloc (.cells (hc A).toArray 24)).alloc (.cells (hc B).toArray 24)) zero32)
  have B0 := Lib.hid ((((Below.refl w.heap.size w).alloc (Nat.le_refl _) (.cells (hc A).toArray 24)).alloc (by simp) (.cells (hc B).toArray 24)).alloc (by simp; omega) (.cells (hc zero32).toArray 24))
  have hlA : (hc A).length = 32 := by rw [hc_len, hA]
  have hlB : (hc B).length = 32 := by rw [hc_len, hB]
  obtain ⟨i0, hi, hz0, hz1, hz2⟩ := info_parts Tryd.infoU8
  replace hi := Lib.hid hi
  replace hz0 := Lib.hid hz0
  replace hz1 := Lib.hid hz1
  replace hz2 := Lib.hid hz2
  replace hA := Lib.hid hA
  replace hB := Lib.hid hB
  clear bA bB
  go_enter Tryd.func81, Tryd.ntmps81
  go_wp2_with fail
  simp only [World.size_alloc] at HB HZ
  generalize ((w.alloc (.cells (hc A).toArray 24)).alloc (.cells (hc B).toArray 24)).alloc (.cells (hc zero32).toArray 24) = W0 at *
  refine wp_region_held_drew (S := fun W => Below w.heap.size w W) (by kernel_rfl) (B0.out.drew) (fun h0 => ?_)
  have G0 : Below W0.heap.size W0 W0.drew := (Below.refl _ _).drew
  refine wpAnyH_take (i := 1) (v := ?_) (by rw [List.getElem?_toArray]; rfl) (by kernel_rfl) (by kernel_rfl) (by kernel_rfl) (by exact fun _ _ _ h => h) (Or.inl ⟨by rfl, ?_⟩) h0 ?_
  rotate_left
  · intro W hW
    go_simp
    all_goals with_reducible rfl
  try simp only [Act.put, List.setIfInBounds_toArray, List.set_cons_zero, List.set_cons_succ]
  refine wpAnyH_take (i := 4) (v := ?_) (by rw [List.getElem?_toArray]; rfl) (by kernel_rfl) (by kernel_rfl) (by kernel_rfl) (by exact fun _ _ _ h => h) (Or.inl ⟨by rfl, ?_⟩) h0 ?_
  rotate_left
  · intro W hW
    go_simp
    all_goals with_reducible rfl
  try simp only [Act.put, List.setIfInBounds_toArray, List.set_cons_zero, List.set_cons_succ]
  refine wpAnyH_ready (rs := [0, 3]) (by kernel_rfl) (by simp) ?_
  refine AllReadyH.cons (by rw [List.getElem?_toArray]; rfl) (fun K hK => ?_) (AllReadyH.cons (by rw [List.getElem?_toArray]; rfl) (fun K hK => ?_) AllReadyH.nil)
  · rw [if_pos (by rfl)]
    go_wp2_with fail
    have R1 := Lib.hid (FrS.born G0 (k := W0.heap.size) rfl)
    have G1 := G0.alloc G0.size (.cells #[] 5)
    refine hK.out _ _ (h0.alloc h0.size _) (fun h1 => ?_)
    clear hK K
    try simp only [Act.put, List.setIfInBounds_toArray, List.set_cons_zero, List.set_cons_succ]
    refine wpAnyH_ready (rs := [2, 3]) (by kernel_rfl) (by simp) ?_
    refine AllReadyH.cons (by rw [List.getElem?_toArray]; rfl) (fun K hK => ?_) (AllReadyH.cons (by rw [List.getElem?_toArray]; rfl) (fun K hK => ?_) AllReadyH.nil)
    · rw [if_pos (by rfl)]
      refine wp_append_row _ _ rfl Tryd.underlying82 hi.out hz0.out hz1.out hz2.out rfl R1.out.own (((HA.out.on G1).rd hA.out).src Tryd.underlying82) (by rw [hA.out]; unfold maxLen; omega) (by rw [hA.out]; omega) ?_
      intro q2 k2 w2 own2 grow2 fr2
      have R2 := Lib.hid (R1.out.grow own2 grow2 fr2)
      have G2 := R2.out.below
      clear own2 grow2 fr2
      refine hK.out _ _ (B0.out.trans (G2.mono B0.out.size)) (fun h2 => ?_)
      clear hK K
      try simp only [Act.put, List.setIfInBounds_toArray, List.set_cons_zero, List.set_cons_succ]
      refine wpAnyH_ready (rs := [3]) (by kernel_rfl) (by simp) ?_
      refine AllReadyH.cons (by rw [List.getElem?_toArray]; rfl) (fun K hK => ?_) AllReadyH.nil
      · rw [if_pos (by rfl)]
        go_wp2_with fail
        have R3 := Lib.hid (Two.ofA R2.out (k := w2.heap.size) rfl)
        have G3 := G2.alloc G2.size (.cells #[] 5)
        refine hK.out _ _ (h2.alloc h2.size _) (fun h3 => ?_)
        clear hK K
        try simp only [Act.put, List.setIfInBounds_toArray, List.set_cons_zero, List.set_cons_succ]
        refine wpAnyH_ready (rs := [5]) (by kernel_rfl) (by simp) ?_
        refine AllReadyH.cons (by rw [List.getElem?_toArray]; rfl) (fun K hK => ?_) AllReadyH.nil
        · rw [if_pos (by rfl)]
          refine wp_append_row _ _ rfl Tryd.underlying82 hi.out hz0.out hz1.out hz2.out rfl R3.out.b.own (((HB.out.on G3).rd hB.out).src Tryd.underlying82) (by rw [hB.out]; unfold maxLen; omega) (by rw [hB.out]; omega) ?_
          intro q4 k4 w4 own4 grow4 fr4
          have R4 := Lib.hid (R3.out.symm.growA own4 grow4 fr4).symm
          have G4 := R4.out.a.below
          clear own4 grow4 fr4
          refine hK.out _ _ (B0.out.trans (G4.mono B0.out.size)) (fun h4 => ?_)
          clear hK K
          try simp only [Act.put, List.setIfInBounds_toArray, List.set_cons_zero, List.set_cons_succ]
          refine wpAnyH_ready (rs := [6]) (by kernel_rfl) (by simp) ?_
          refine AllReadyH.cons (by rw [List.getElem?_toArray]; rfl) (fun K hK => ?_) AllReadyH.nil
          · rw [if_pos (by rfl)]
            go_wp2_with fail
            have RL := two_rdl R4.out.a.rd R4.out.b.rd
            simp only [List.nil_append, Nat.zero_add] at RL
            have RL2 := Lib.hid RL
            clear RL
            have G5 := G4.alloc G4.size (.cells #[.slice q2 A.length k2, .slice q4 B.length k4] 82)
            refine hK.out _ _ (h4.alloc h4.size _) (fun h5 => ?_)
            clear hK K
            try simp only [Act.put, List.setIfInBounds_toArray, List.set_cons_zero, List.set_cons_succ]
            refine wpAnyH_ready (rs := [7]) (by kernel_rfl) (by simp) ?_
            refine AllReadyH.cons (by rw [List.getElem?_toArray]; rfl) (fun K hK => ?_) AllReadyH.nil
            · rw [if_pos (by rfl)]
              go_wp2_with fail
              refine (refTagged_any (s := pairS) RL2.out (by decide) (cut_small (by decide)) (by rw [LL.out]; omega) BX.out).mono ?_
              rintro e w8 ⟨rfl, hb8⟩
              have hB8 : Below W0.heap.size W0 w8 := G5.trans (hb8.mono G5.size)
              go_wp2_with fail
              have G6 := hB8
              refine hK.out _ _ (h5.trans (hb8.mono h5.size)) (fun h6 => ?_)
              clear hK K
              try simp only [Act.put, List.setIfInBounds_toArray, List.set_cons_zero, List.set_cons_succ]
              refine wpAnyH_ready (rs := [8]) (by kernel_rfl) (by simp) ?_
              refine AllReadyH.cons (by rw [List.getElem?_toArray]; rfl) (fun K hK => ?_) AllReadyH.nil
              · rw [if_pos (by rfl)]
                have H3 := HZ.out.on hB8
                have B3 := B0.out.trans (hB8.mono B0.out.size)
                have hth3 := H3.there zero32_len
                have hlen := sha_len (frm (sn pairS) [A, B])
                have hput := (H3.put zero32_len hlen).row hlen
                have HX := Lib.hid (below_setCells' (B := w.heap.size) (w.heap.size + 1 + 1) (by omega) (hc (sha (frm (sn pairS) [A, B]))) 0 B3)
                generalize hF : sha (frm (sn pairS) [A, B]) = F at *
                have HF := Lib.hid hF
                clear hF hb8 H3 B3
                go_wp2_with fail
                refine hK.out _ _ (HX.out) (fun h7 => ?_)
                clear hK K
                try simp only [Act.put, List.setIfInBounds_toArray, List.set_cons_zero, List.set_cons_succ]
                refine wpAnyH_done (by kernel_rfl) ?_ _
                go_wp2_with fail
                refine bodyPost_ret (v := .agg (hc F).toArray) (by simp [results, Tryd.results81, go_sem, hput, hlen]) rfl ⟨by rw [HF.out], HX.out⟩
    · rw [if_pos (by rfl)]
      go_wp2_with fail
      have R2 := Lib.hid (Two.ofA R1.out (k := W0.heap.size + 1) (by simp))
      have G2 := G1.alloc G1.size (.cells #[] 5)
      refine hK.out _ _ (h1.alloc h1.size _) (fun h2 => ?_)
      clear hK K
      try simp only [Act.put, List.setIfInBounds_toArray, List.set_cons_zero, List.set_cons_succ]
      refine wpAnyH_ready (rs := [2]) (by kernel_rfl) (by simp) ?_
      refine AllReadyH.cons (by rw [List.getElem?_toArray]; rfl) (fun K hK => ?_) AllReadyH.nil
      · rw [if_pos (by rfl)]
        refine wp_append_row _ _ rfl Tryd.underlying82 hi.out hz0.out hz1.out hz2.out rfl R2.out.a.own (((HA.out.on G2).rd hA.out).src Tryd.underlying82) (by rw [hA.out]; unfold maxLen; omega) (by rw [hA.out]; omega) ?_
        intro q3 k3 w3 own3 grow3 fr3
        have R3 := Lib.hid (R2.out.growA own3 grow3 fr3)
        have G3 := R3.out.a.below
        clear own3 grow3 fr3
        refine hK.out _ _ (B0.out.trans (G3.mono B0.out.size)) (fun h3 => ?_)
        clear hK K
        try simp only [Act.put, List.setIfInBounds_toArray, List.set_cons_zero, List.set_cons_succ]
        refine wpAnyH_ready (rs := [5]) (by kernel_rfl) (by simp) ?_
        refine AllReadyH.cons (by rw [List.getElem?_toArray]; rfl) (fun K hK => ?_) AllReadyH.nil
        · rw [if_pos (by rfl)]
          refine wp_append_row _ _ rfl Tryd.underlying82 hi.out hz0.out hz1.out hz2.out rfl R3.out.b.own (((HB.out.on G3).rd hB.out).src Tryd.underlying82) (by rw [hB.out]; unfold maxLen; omega) (by rw [hB.out]; omega) ?_
          intro q4 k4 w4 own4 grow4 fr4
          have R4 := Lib.hid (R3.out.symm.growA own4 grow4 fr4).symm
          have G4 := R4.out.a.below
          clear own4 grow4 fr4
          refine hK.out _ _ (B0.out.trans (G4.mono B0.out.size)) (fun h4 => ?_)
          clear hK K
          try simp only [Act.put, List.setIfInBounds_toArray, List.set_cons_zero, List.set_cons_succ]
          refine wpAnyH_ready (rs := [6]) (by kernel_rfl) (by simp) ?_
          refine AllReadyH.cons (by rw [List.getElem?_toArray]; rfl) (fun K hK => ?_) AllReadyH.nil
          · rw [if_pos (by rfl)]
            go_wp2_with fail
            have RL := two_rdl R4.out.a.rd R4.out.b.rd
            simp only [List.nil_append, Nat.zero_add] at RL
            have RL2 := Lib.hid RL
            clear RL
            have G5 := G4.alloc G4.size (.cells #[.slice q3 A.length k3, .slice q4 B.length k4] 82)
            refine hK.out _ _ (h4.alloc h4.size _) (fun h5 => ?_)
            clear hK K
            try simp only [Act.put, List.setIfInBounds_toArray, List.set_cons_zero, List.set_cons_succ]
            refine wpAnyH_ready (rs := [7]) (by kernel_rfl) (by simp) ?_
            refine AllReadyH.cons (by rw [List.getElem?_toArray]; rfl) (fun K hK => ?_) AllReadyH.nil
            · rw [if_pos (by rfl)]
              go_wp2_with fail
              refine (refTagged_any (s := pairS) RL2.out (by decide) (cut_small (by decide)) (by rw [LL.out]; omega) BX.out).mono ?_
              rintro e w8 ⟨rfl, hb8⟩
              have hB8 : Below W0.heap.size W0 w8 := G5.trans (hb8.mono G5.size)
              go_wp2_with fail
              have G6 := hB8
              refine hK.out _ _ (h5.trans (hb8.mono h5.size)) (fun h6 => ?_)
              clear hK K
              try simp only [Act.put, List.setIfInBounds_toArray, List.set_cons_zero, List.set_cons_succ]
              refine wpAnyH_ready (rs := [8]) (by kernel_rfl) (by simp) ?_
              refine AllReadyH.cons (by rw [List.getElem?_toArray]; rfl) (fun K hK => ?_) AllReadyH.nil
              · rw [if_pos (by rfl)]
                have H3 := HZ.out.on hB8
                have B3 := B0.out.trans (hB8.mono B0.out.size)
                have hth3 := H3.there zero32_len
                have hlen := sha_len (frm (sn pairS) [A, B])
                have hput := (H3.put zero32_len hlen).row hlen
                have HX := Lib.hid (below_setCells' (B := w.heap.size) (w.heap.size + 1 + 1) (by omega) (hc (sha (frm (sn pairS) [A, B]))) 0 B3)
                generalize hF : sha (frm (sn pairS) [A, B]) = F at *
                have HF := Lib.hid hF
                clear hF hb8 H3 B3
                go_wp2_with fail
                refine hK.out _ _ (HX.out) (fun h7 => ?_)
                clear hK K
                try simp only [Act.put, List.setIfInBounds_toArray, List.set_cons_zero, List.set_cons_succ]
                refine wpAnyH_done (by kernel_rfl) ?_ _
                go_wp2_with fail
                refine bodyPost_ret (v := .agg (hc F).toArray) (by simp [results, Tryd.results81, go_sem, hput, hlen]) rfl ⟨by rw [HF.out], HX.out⟩
  · rw [if_pos (by rfl)]
    go_wp2_with fail
    have R1 := Lib.hid (FrS.born G0 (k := W0.heap.size) rfl)
    have G1 := G0.alloc G0.size (.cells #[] 5)
    refine hK.out _ _ (h0.alloc h0.size _) (fun h1 => ?_)
    clear hK K
    try simp only [Act.put, List.setIfInBounds_toArray, List.set_cons_zero, List.set_cons_succ]
    refine wpAnyH_ready (rs := [0]) (by kernel_rfl) (by simp) ?_
    refine AllReadyH.cons (by rw [List.getElem?_toArray]; rfl) (fun K hK => ?_) AllReadyH.nil
    · rw [if_pos (by rfl)]
      go_wp2_with fail
      have R2 := Lib.hid (Two.ofA R1.out (k := W0.heap.size + 1) (by simp)).symm
      have G2 := G1.alloc G1.size (.cells #[] 5)
      refine hK.out _ _ (h1.alloc h1.size _) (fun h2 => ?_)
      clear hK K
      try simp only [Act.put, List.setIfInBounds_toArray, List.set_cons_zero, List.set_cons_succ]
      refine wpAnyH_ready (rs := [2]) (by kernel_rfl) (by simp) ?_
      refine AllReadyH.cons (by rw [List.getElem?_toArray]; rfl) (fun K hK => ?_) AllReadyH.nil
      · rw [if_pos (by rfl)]
        refine wp_append_row _ _ rfl Tryd.underlying82 hi.out hz0.out hz1.out hz2.out rfl R2.out.a.own (((HA.out.on G2).rd hA.out).src Tryd.underlying82) (by rw [hA.out]; unfold maxLen; omega) (by rw [hA.out]; omega) ?_
        intro q3 k3 w3 own3 grow3 fr3
        have R3 := Lib.hid (R2.out.growA own3 grow3 fr3)
        have G3 := R3.out.a.below
        clear own3 grow3 fr3
        refine hK.out _ _ (B0.out.trans (G3.mono B0.out.size)) (fun h3 => ?_)
        clear hK K
        try simp only [Act.put, List.setIfInBounds_toArray, List.set_cons_zero, List.set_cons_succ]
        refine wpAnyH_ready (rs := [5]) (by kernel_rfl) (by simp) ?_
        refine AllReadyH.cons (by rw [List.getElem?_toArray]; rfl) (fun K hK => ?_) AllReadyH.nil
        · rw [if_pos (by rfl)]
          refine wp_append_row _ _ rfl Tryd.underlying82 hi.out hz0.out hz1.out hz2.out rfl R3.out.b.own (((HB.out.on G3).rd hB.out).src Tryd.underlying82) (by rw [hB.out]; unfold maxLen; omega) (by rw [hB.out]; omega) ?_
          intro q4 k4 w4 own4 grow4 fr4
          have R4 := Lib.hid (R3.out.symm.growA own4 grow4 fr4).symm
          have G4 := R4.out.a.below
          clear own4 grow4 fr4
          refine hK.out _ _ (B0.out.trans (G4.mono B0.out.size)) (fun h4 => ?_)
          clear hK K
          try simp only [Act.put, List.setIfInBounds_toArray, List.set_cons_zero, List.set_cons_succ]
          refine wpAnyH_ready (rs := [6]) (by kernel_rfl) (by simp) ?_
          refine AllReadyH.cons (by rw [List.getElem?_toArray]; rfl) (fun K hK => ?_) AllReadyH.nil
          · rw [if_pos (by rfl)]
            go_wp2_with fail
            have RL := two_rdl R4.out.a.rd R4.out.b.rd
            simp only [List.nil_append, Nat.zero_add] at RL
            have RL2 := Lib.hid RL
            clear RL
            have G5 := G4.alloc G4.size (.cells #[.slice q3 A.length k3, .slice q4 B.length k4] 82)
            refine hK.out _ _ (h4.alloc h4.size _) (fun h5 => ?_)
            clear hK K
            try simp only [Act.put, List.setIfInBounds_toArray, List.set_cons_zero, List.set_cons_succ]
            refine wpAnyH_ready (rs := [7]) (by kernel_rfl) (by simp) ?_
            refine AllReadyH.cons (by rw [List.getElem?_toArray]; rfl) (fun K hK => ?_) AllReadyH.nil
            · rw [if_pos (by rfl)]
              go_wp2_with fail
              refine (refTagged_any (s := pairS) RL2.out (by decide) (cut_small (by decide)) (by rw [LL.out]; omega) BX.out).mono ?_
              rintro e w8 ⟨rfl, hb8⟩
              have hB8 : Below W0.heap.size W0 w8 := G5.trans (hb8.mono G5.size)
              go_wp2_with fail
              have G6 := hB8
              refine hK.out _ _ (h5.trans (hb8.mono h5.size)) (fun h6 => ?_)
              clear hK K
              try simp only [Act.put, List.setIfInBounds_toArray, List.set_cons_zero, List.set_cons_succ]
              refine wpAnyH_ready (rs := [8]) (by kernel_rfl) (by simp) ?_
              refine AllReadyH.cons (by rw [List.getElem?_toArray]; rfl) (fun K hK => ?_) AllReadyH.nil
              · rw [if_pos (by rfl)]
                have H3 := HZ.out.on hB8
                have B3 := B0.out.trans (hB8.mono B0.out.size)
                have hth3 := H3.there zero32_len
                have hlen := sha_len (frm (sn pairS) [A, B])
                have hput := (H3.put zero32_len hlen).row hlen
                have HX := Lib.hid (below_setCells' (B := w.heap.size) (w.heap.size + 1 + 1) (by omega) (hc (sha (frm (sn pairS) [A, B]))) 0 B3)
                generalize hF : sha (frm (sn pairS) [A, B]) = F at *
                have HF := Lib.hid hF
                clear hF hb8 H3 B3
                go_wp2_with fail
                refine hK.out _ _ (HX.out) (fun h7 => ?_)
                clear hK K
                try simp only [Act.put, List.setIfInBounds_toArray, List.set_cons_zero, List.set_cons_succ]
                refine wpAnyH_done (by kernel_rfl) ?_ _
                go_wp2_with fail
                refine bodyPost_ret (v := .agg (hc F).toArray) (by simp [results, Tryd.results81, go_sem, hput, hlen]) rfl ⟨by rw [HF.out], HX.out⟩
end Go.Proofs.YtjlodnecdngdfaaDoor
