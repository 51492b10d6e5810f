/-
  Package smt: no map, and one that nobody made; a proof's cells.; Slices of hashes; rows of hashes of the call's own.; A proof of a key, as a law's argument.; Slices of whatever rows, and of pairs, as a law's argument.; A map of the call's own, from call to call; a pair's two halves.; A row of pairs as it reads in memory.
-/
import Derived.SizedLaws
import Derived.Test.YtlncolpcehjdeaaDoorSo12
import Derived.Test.YtlncolpcehjdeaaDoorSo13
namespace Go.Proofs.YtlncolpcehjdeaaDoor
open Go.RowKit
set_option maxRecDepth 100000

/-- No map, or one that nobody made. -/
def Nm (w : World) (v : Value) : Prop := v = .pointer none ∨ ∃ p, v = .pointer (some ⟨p, 0, none⟩) ∧ w.cell? ⟨p, 0, none⟩ = some (.map none)
theorem Nm.on {w w' : World} {v : Value} (h : Nm w v) (hb : Below w.heap.size w w') : Nm w' v := by
  rcases h with h | ⟨p, h, c⟩
  · exact .inl h
  · exact .inr ⟨p, h, by rw [hb.cell (World.block_lt_of_cell? w _ c)]; exact c⟩
theorem Nm.alloc {w : World} {v : Value} (h : Nm w v) (o : Obj) : Nm (w.alloc o) v := h.on ((Below.refl _ _).alloc (Nat.le_refl _) o)
theorem made_N {w : World} {v : Value} (h : Nm w v) : Calls Tryd.prog 33 #[v] w fun e w' => e = .returned (.bool false) ∧ w' = w := by
  rcases h with rfl | ⟨p, rfl, c⟩
  · exact made_none
  · exact made_no c

/-! ### A proof's cells -/
def pfRow (F : List Int) (v : Value) : List Value := hc F ++ [v]
theorem pfRow_len {F : List Int} (h : F.length = 32) (v : Value) : (pfRow F v).length = 33 := by simp [pfRow, hc_len, h]
def PfB (t : TypeId) (w : World) (b : Nat) (F : List Int) (v : Value) : Prop := w.heap[b]? = some (.cells (pfRow F v).toArray t (0, 0))
section
variable {t : TypeId} {w w' : World} {b : Nat} {F : List Int} {v : Value}
theorem PfB.lt (h : PfB t w b F v) : b < w.heap.size := (Array.getElem?_eq_some_iff.1 h).1
theorem PfB.new (w : World) (F : List Int) (v : Value) : PfB t (w.alloc (.cells (pfRow F v).toArray t)) w.heap.size F v := heap_alloc_new w _
theorem PfB.chg {S : List Nat} (h : PfB t w b F v) (hc : Chg w w' S) (hS : b ∉ S) : PfB t w' b F v := by
  unfold PfB
  rw [hc.block b h.lt hS]; exact h
theorem PfB.on (h : PfB t w b F v) (hb : Below w.heap.size w w') : PfB t w' b F v := h.chg (S := []) (Chg.below hb (Nat.le_refl _) []) (by simp)
theorem PfB.alloc (h : PfB t w b F v) (o : Obj) : PfB t (w.alloc o) b F v := h.on ((Below.refl _ _).alloc (Nat.le_refl _) o)
theorem PfB.mask (h : PfB t w b F v) (hF : F.length = 32) : rowOf w b 0 32 = hc F := by
  rw [rowOf_block h]
  simp [pfRow, hc_len, hF]
theorem PfB.whole (h : PfB t w b F v) (hF : F.length = 32) : rowOf w b 0 33 = pfRow F v := by
  rw [rowOf_block h]
  have := pfRow_len hF v
  simp [List.take_of_length_le (Nat.le_of_eq this)]
theorem PfB.sides (h : PfB t w b F v) (hF : F.length = 32) : w.cell? ⟨b, 32, none⟩ = some v := by
  rw [cell_of_row _ _ _ _ _ _ h]
  simp [pfRow, hc_len, hF]
theorem PfB.there (h : PfB t w b F v) (hF : F.length = 32) : w.there b 0 33 := fun j hj => by
  refine ⟨?_, Joins.unfrozen_of_block h _⟩
  rw [cell_of_row _ _ _ _ _ _ h]
  have := pfRow_len hF v
  simp [this]; omega
theorem PfB.put (h : PfB t w b F v) (hF : F.length = 32) {G : List Int} (hG : G.length = 32) (u : Value) : PfB t (w.setCells b 0 (pfRow G u)) b G u := by
  have := setCells_block (b := b) (t := t) (fr := (0, 0)) (pfRow G u) (o := 0) (w := w) (pre := []) (mid := pfRow F v) (post := []) (by simpa [PfB] using h) rfl (by rw [pfRow_len hF, pfRow_len hG])
  simpa [PfB] using this
theorem PfB.others (h : PfB t w b F v) {k : Nat} (hk : b ≠ k) (o : Nat) (vs : List Value) : PfB t (w.setCells k o vs) b F v := by
  unfold PfB
  rw [setCells_other hk]; exact h
end
theorem pf_one (F : List Int) {v : Value} (hv : v.oneCell' = true) : (pfRow F v).toArray.all (·.oneCell') = true := by
  refine all_oneCell_toArray fun u hu => ?_
  simp only [pfRow, List.mem_append, List.mem_cons, List.not_mem_nil, or_false] at hu
  rcases hu with hu | rfl
  · exact (Array.all_eq_true_iff_forall_mem.1 (hc_one _)) u (by simpa using hu)
  · exact hv
@[go_sem ↓] theorem load33 (a : Addr) : loadCellsFrom a 0 33 #[] = rowLoad a 33 := rfl
theorem run_storeCells_pf {P : Program} (w : World) (b : Nat) (F : List Int) (v : Value) (hF : F.length = 32) (hv : v.oneCell' = true) (ht : w.there b 0 33) : (storeCells ⟨b, 0, none⟩ (pfRow F v) 0).run P w = .ok () (w.setCells b 0 (pfRow F v)) := by
  have e := pfRow_len hF v
  have := run_storeCells_cells (P := P) b 0 (pfRow F v) 0 w (fun j hj => by rw [e] at hj; simpa using (ht j hj).1) (fun j hj => by rw [e] at hj; simpa using (ht j hj).2) (fun u hu => (Array.all_eq_true_iff_forall_mem.1 (pf_one F hv)) u (by simpa using hu))
  simpa using this
@[go_sem] theorem run_storeCells_pf0 {P : Program} (w : World) (b : Nat) (F : List Int) (q : Option Addr) (n k : Nat) (hF : F.length = 32) (ht : w.there b 0 33) : (storeCells ⟨b, 0, none⟩ (pfRow F (.slice q n k)) 0).run P w = .ok () (w.setCells b 0 (pfRow F (.slice q n k))) :=
  run_storeCells_pf w b F _ hF rfl ht
@[go_sem ↓] theorem Tryd.zero_pf (w : World) : (zeroValue 48).run Tryd.prog w = .ok (.agg (pfRow zero32 (.slice none 0 0)).toArray) w := by kernel_rfl
@[go_sem] theorem pfRow_len' {F : List Int} (h : F.length = 32) (v : Value) : (pfRow F v).length = 33 := pfRow_len h v

set_option maxHeartbeats 4000000 in
theorem Put_N {w : World} {v : Value} (hv : Nm w v) {K V : List Int} : Calls Tryd.prog 14 #[v, .agg (hc K).toArray, .agg (hc V).toArray] w fun e w' => e = .returned (.int .i64 1) ∧ Below w.heap.size w w' := by
  have B0 := Lib.hid (((Below.refl w.heap.size w).alloc (Nat.le_refl _) (.cells (hc K).toArray 24)).alloc (by simp) (.cells (hc V).toArray 24))
  have N0 := Lib.hid ((hv.alloc (.cells (hc K).toArray 24)).alloc (.cells (hc V).toArray 24))
  clear hv
  go_enter Tryd.func14, Tryd.ntmps14
  go_wp2_with fail
  refine (made_N N0.out).mono ?_
  rintro e wn ⟨rfl, h⟩
  obtain rfl := h.symm
  clear h
  go_wp2_with fail
  go_ret
  exact ⟨rfl, B0.out⟩
set_option maxHeartbeats 4000000 in
theorem Get_N {w : World} {v : Value} (hv : Nm w v) {K : List Int} : Calls Tryd.prog 16 #[v, .agg (hc K).toArray] w fun e w' => e = .returned (.agg (hc zero32).toArray) ∧ Below w.heap.size w w' := by
  have HZ := HashAt.new (w.alloc (.cells (hc K).toArray 24)) zero32
  simp only [World.size_alloc] at HZ
  have B0 := ((Below.refl w.heap.size w).alloc (Nat.le_refl _) (.cells (hc K).toArray 24)).alloc (by simp) (.cells (hc zero32).toArray 24)
  have N0 := Lib.hid ((hv.alloc (.cells (hc K).toArray 24)).alloc (.cells (hc zero32).toArray 24))
  have th := HZ.there zero32_len
  have hput := (HZ.put zero32_len zero32_len).row zero32_len
  have z32 := zero32_len
  have HX := Lib.hid (below_setCells' (B := w.heap.size) (w.heap.size + 1) (by omega) (hc zero32) 0 B0)
  clear hv HZ B0
  go_enter Tryd.func16, Tryd.ntmps16
  go_wp2_with fail
  refine (made_N N0.out).mono ?_
  rintro e wn ⟨rfl, h⟩
  obtain rfl := h.symm
  clear h
  go_wp2_with fail
  refine bodyPost_ret (v := .agg (hc zero32).toArray) (by simp [results, Tryd.results16, go_sem, hput, z32]) rfl ⟨rfl, HX.out⟩
set_option maxHeartbeats 4000000 in
theorem Root_N {w : World} {v : Value} (hv : Nm w v) : Calls Tryd.prog 20 #[v] w fun e w' => e = .returned (.agg (hc zero32).toArray) ∧ Below w.heap.size w w' := by
  have HZ := HashAt.new w zero32
  have B0 := (Below.refl w.heap.size w).alloc (Nat.le_refl _) (.cells (hc zero32).toArray 24)
  have N0 := Lib.hid (hv.alloc (.cells (hc zero32).toArray 24))
  have th := HZ.there zero32_len
  have hput := (HZ.put zero32_len zero32_len).row zero32_len
  have z32 := zero32_len
  have HX := Lib.hid (below_setCells' (B := w.heap.size) w.heap.size (Nat.le_refl _) (hc zero32) 0 B0)
  clear hv HZ B0
  go_enter Tryd.func20, Tryd.ntmps20
  go_wp2_with fail
  refine (made_N N0.out).mono ?_
  rintro e wn ⟨rfl, h⟩
  obtain rfl := h.symm
  clear h
  go_wp2_with fail
  refine bodyPost_ret (v := .agg (hc zero32).toArray) (by simp [results, Tryd.results20, go_sem, hput, z32]) rfl ⟨rfl, HX.out⟩
set_option maxHeartbeats 4000000 in
theorem Pairs_N {w : World} {v : Value} (hv : Nm w v) : Calls Tryd.prog 19 #[v] w fun e w' => e = .returned (.slice none 0 0) ∧ w' = w := by
  go_enter Tryd.func19, Tryd.ntmps19
  go_wp2_with fail
  refine (made_N hv).mono ?_
  rintro e wn ⟨rfl, h⟩
  obtain rfl := h.symm
  clear h
  go_wp2_with fail
  go_ret
  exact ⟨rfl, rfl⟩
set_option maxHeartbeats 4000000 in
theorem Prove_N {w : World} {v : Value} (hv : Nm w v) {K : List Int} : Calls Tryd.prog 23 #[v, .agg (hc K).toArray] w fun e w' => e = .returned (.agg (pfRow zero32 (.slice none 0 0)).toArray) ∧ Below w.heap.size w w' := by
  have z32 := zero32_len
  have P1 := (PfB.new (t := 48) (w.alloc (.cells (hc K).toArray 24)) zero32 (.slice none 0 0)).alloc (.cells (pfRow zero32 (.slice none 0 0)).toArray 48)
  have P2 := PfB.new (t := 48) ((w.alloc (.cells (hc K).toArray 24)).alloc (.cells (pfRow zero32 (.slice none 0 0)).toArray 48)) zero32 (.slice none 0 0)
  simp only [World.size_alloc] at P1 P2
  have B0 := (((Below.refl w.heap.size w).alloc (Nat.le_refl _) (.cells (hc K).toArray 24)).alloc (by simp) (.cells (pfRow zero32 (.slice none 0 0)).toArray 48)).alloc (by simp; omega) (.cells (pfRow zero32 (.slice none 0 0)).toArray 48)
  have N0 := Lib.hid (((hv.alloc (.cells (hc K).toArray 24)).alloc (.cells (pfRow zero32 (.slice none 0 0)).toArray 48)).alloc (.cells (pfRow zero32 (.slice none 0 0)).toArray 48))
  have r2 := P2.whole zero32_len
  have th := P1.there zero32_len
  have hput := (P1.put zero32_len zero32_len (.slice none 0 0)).whole zero32_len
  have HX := Lib.hid (below_setCells' (B := w.heap.size) (w.heap.size + 1) (by omega) (pfRow zero32 (.slice none 0 0)) 0 B0)
  have lp := pfRow_len zero32_len (.slice none 0 0)
  clear hv P1 P2 B0
  go_enter Tryd.func23, Tryd.ntmps23
  go_wp2_with fail
  go_step3
  go_wp2_with fail
  refine (made_N N0.out).mono ?_
  rintro e wn ⟨rfl, h⟩
  obtain rfl := h.symm
  clear h
  go_wp2_with fail
  try rw [Exit.noGoto_ret]
  refine bodyPost_ret (v := .agg (pfRow zero32 (.slice none 0 0)).toArray) (by simp [results, Tryd.results23, go_sem, hput, lp]) rfl ⟨rfl, HX.out⟩
end Go.Proofs.YtlncolpcehjdeaaDoor
namespace Go.Proofs.YtlncolpcehjdeaaDoor
set_option maxRecDepth 100000
open Go.RowKit

/-- A slice of hashes. -/
def RdHs (w : World) (q : Option Addr) (Ss : List (List Int)) : Prop := Ss = [] ∨ ∃ b off, q = some ⟨b, off, none⟩ ∧ ∀ i, i < Ss.length → rowOf w b (off + i * 32) 32 = hc (Ss.getD i [])
theorem blk_onB2 {w w' : World} {b : Nat} {x : Obj} (h : w.heap[b]? = some x) (hb : Below w.heap.size w w') : w'.heap[b]? = some x := by
  rw [hb.block b (Array.getElem?_eq_some_iff.1 h).1]; exact h
theorem rowOf_on {w w' : World} {b o n : Nat} (h : 0 < (rowOf w b o n).length) (hb : Below w.heap.size w w') : rowOf w' b o n = rowOf w b o n := by
  unfold rowOf at *
  cases e : w.heap[b]? with
  | none => rw [e] at h; simp at h
  | some x => rw [blk_onB2 e hb]
theorem RdHs.on {w w' : World} {q : Option Addr} {Ss : List (List Int)} (h : RdHs w q Ss) (hS : ∀ i, i < Ss.length → (Ss.getD i []).length = 32) (hb : Below w.heap.size w w') : RdHs w' q Ss := by
  rcases h with h | ⟨b, off, e, hx⟩
  · exact .inl h
  · refine .inr ⟨b, off, e, fun i hi => ?_⟩
    rw [rowOf_on (by rw [hx i hi, hc_len, hS i hi]; omega) hb]
    exact hx i hi
/-- The cells of a row of hashes. -/
def hcs (Ss : List (List Int)) : List Value := Ss.flatMap hc
theorem hcs_append (A B : List (List Int)) : hcs (A ++ B) = hcs A ++ hcs B := by simp [hcs]
theorem hcs_one (F : List Int) : hcs [F] = hc F := by simp [hcs]
/-- Hashes: 32 bytes each. -/
def HsOk (Ss : List (List Int)) : Prop := ∀ F ∈ Ss, F.length = 32 ∧ Bytes F
theorem HsOk.get {Ss : List (List Int)} (h : HsOk Ss) (i : Nat) (hi : i < Ss.length) : (Ss.getD i []).length = 32 ∧ Bytes (Ss.getD i []) := by
  have e : Ss.getD i [] = Ss[i] := by simp [List.getD, hi]
  rw [e]
  exact h _ (List.getElem_mem hi)
theorem HsOk.nil : HsOk [] := fun _ h => by cases h
theorem HsOk.append {A B : List (List Int)} (hA : HsOk A) (hB : HsOk B) : HsOk (A ++ B) := fun F h => (List.mem_append.1 h).elim (hA F) (hB F)
theorem HsOk.one {F : List Int} (h : F.length = 32) (b : Bytes F) : HsOk [F] := fun G hG => by
  obtain rfl := List.mem_singleton.1 hG
  exact ⟨h, b⟩
theorem hcs_len : ∀ {Ss : List (List Int)}, HsOk Ss → (hcs Ss).length = Ss.length * 32
  | [], _ => rfl
  | F :: Ss, h => by
    have h1 := hcs_len (Ss := Ss) (fun G hG => h G (List.mem_cons_of_mem _ hG))
    have h2 := (h F (List.mem_cons_self ..)).1
    have e : hcs (F :: Ss) = hc F ++ hcs Ss := rfl
    rw [e, List.length_append, h1, hc_len, h2, List.length_cons]
    omega
theorem hcs_mid (tail : List Value) : ∀ {Ss : List (List Int)}, HsOk Ss → ∀ i, i < Ss.length → ((hcs Ss ++ tail).drop (i * 32)).take 32 = hc (Ss.getD i [])
  | [], _, i, hi => by simp at hi
  | F :: Ss, h, i, hi => by
    have h2 := (h F (List.mem_cons_self ..)).1
    have e : hcs (F :: Ss) ++ tail = hc F ++ (hcs Ss ++ tail) := by rw [← List.append_assoc]; rfl
    have hl : (hc F).length = 32 := by rw [hc_len, h2]
    rw [e]
    cases i with
    | zero => rw [Nat.zero_mul, List.drop_zero]; exact List.take_left' hl
    | succ i =>
      rw [List.drop_append, hl, List.drop_eq_nil_of_le (by omega), List.nil_append, show (i + 1) * 32 - 32 = i * 32 by omega]
      exact hcs_mid tail (fun G hG => h G (List.mem_cons_of_mem _ hG)) i (by simpa using hi)
theorem hcs_cell : ∀ {Ss : List (List Int)}, HsOk Ss → ∀ {j : Nat} {u : Value}, (hcs Ss)[j]? = some u → j / 32 < Ss.length ∧ (hc (Ss.getD (j / 32) []))[j % 32]? = some u
  | [], _, j, u, hj => by simp [hcs] at hj
  | F :: Ss, h, j, u, hj => by
    have h2 := (h F (List.mem_cons_self ..)).1
    have hl : (hc F).length = 32 := by rw [hc_len, h2]
    have e : hcs (F :: Ss) = hc F ++ hcs Ss := rfl
    rw [e] at hj
    by_cases hlt : j < 32
    · rw [List.getElem?_append_left (by omega)] at hj
      rw [show j / 32 = 0 by omega, show j % 32 = j by omega]
      exact ⟨by simp, hj⟩
    · rw [List.getElem?_append_right (by omega), hl] at hj
      obtain ⟨h3, h4⟩ := hcs_cell (fun G hG => h G (List.mem_cons_of_mem _ hG)) hj
      have e1 : j / 32 = (j - 32) / 32 + 1 := by omega
      have e2 : j % 32 = (j - 32) % 32 := by omega
      rw [e1, e2]
      exact ⟨by simp; omega, h4⟩
theorem hcs_cells_one (Ss : List (List Int)) : ∀ u ∈ hcs Ss, u.oneCell' = true := by
  intro u hu
  obtain ⟨F, _, hF⟩ := List.mem_flatMap.1 hu
  exact (Array.all_eq_true_iff_forall_mem.1 (hc_one F)) u (by simpa using hF)

/-! ### A row that reads as hashes -/
theorem RdHs.cell {w : World} {b off : Nat} {Ss : List (List Int)} (hx : ∀ i, i < Ss.length → rowOf w b (off + i * 32) 32 = hc (Ss.getD i [])) (ok : HsOk Ss) {j : Nat} {u : Value} (hj : (hcs Ss)[j]? = some u) : w.cell? ⟨b, off + j, none⟩ = some u := by
  obtain ⟨h1, h2⟩ := hcs_cell ok hj
  have := range_rowOf w b (off + j / 32 * 32) 32 (j % 32) u (by rw [hx _ h1]; exact h2)
  rw [show off + j / 32 * 32 + j % 32 = off + j by omega] at this
  exact this
theorem RdHs.src {P : Program} {w : World} {tx e' : TypeId} {q : Option Addr} {c : Nat} {Ss : List (List Int)} (h : RdHs w q Ss) (ok : HsOk Ss) (hk : P.underlying tx = some (.slice e')) : Src P 32 tx (.slice q Ss.length c) Ss.length (hcs Ss) w := by
  rcases h with rfl | ⟨b, off, rfl, hx⟩
  · cases q with
    | none => exact Src.ofNil w hk c
    | some a => exact Src.ofSlice w hk a 0 c [] (by simp) (fun j u hu => by simp at hu) (by simp)
  · refine Src.ofSlice w hk _ _ _ _ (hcs_len ok) (fun j u hu => ?_) (hcs_cells_one Ss)
    rw [addr_add]
    exact RdHs.cell hx ok hu
theorem rdHs_block {w : World} {b : Nat} {T : TypeId} {fr : Nat × Nat} {tail : List Value} {Ss : List (List Int)} (h : w.heap[b]? = some (.cells (hcs Ss ++ tail).toArray T fr)) (ok : HsOk Ss) : RdHs w (some ⟨b, 0, none⟩) Ss := by
  refine .inr ⟨b, 0, rfl, fun i hi => ?_⟩
  rw [rowOf_block h, Nat.zero_add, ← hcs_mid tail ok i hi]
  simp [List.take_drop]
theorem RdHs.nil (w : World) (q : Option Addr) : RdHs w q [] := .inl rfl

/-- A row of hashes that the call lays. -/
structure HsS (w wr : World) (v : Value) (Ss : List (List Int)) : Prop where
  own : wr.ownsRow 0 24 32 v Ss.length (hcs Ss)
  ok : HsOk Ss
  fresh : ∀ g, v.ownBlock = some g → w.heap.size ≤ g
  below : Below w.heap.size w wr
theorem HsS.start (w : World) : HsS w w (.slice none 0 0) [] := ⟨World.ownsRow_nil w 0 _ 32, HsOk.nil, by simp [Value.ownBlock], Below.refl _ _⟩
theorem HsS.on {w wr w1 : World} {v : Value} {Ss : List (List Int)} (h : HsS w wr v Ss) (hb : Below wr.heap.size wr w1) : HsS w w1 v Ss :=
  ⟨own_on h.own hb, h.ok, h.fresh, h.below.trans (hb.mono h.below.size)⟩
theorem HsS.grow {w wr w2 : World} {v v' : Value} {Ss Ts : List (List Int)} {m : Nat} (h : HsS w wr v Ss) (ok : HsOk Ts) (hm : Ts.length = m) (own : w2.ownsRow 0 24 32 v' (Ss.length + m) (hcs Ss ++ hcs Ts)) (grow : wr.grownBy w2 v.ownBlock) (fr : v'.ownBlock = v.ownBlock ∨ v'.ownBlock = some wr.heap.size) : HsS w w2 v' (Ss ++ Ts) := by
  subst hm
  refine ⟨by rw [List.length_append, hcs_append]; exact own, h.ok.append ok, fun g hg => ?_, h.below.grown grow h.below.size (fun k hk => h.fresh k hk)⟩
  rcases fr with e | e
  · rw [e] at hg; exact h.fresh g hg
  · rw [e] at hg; have := h.below.size; simp at hg; omega
theorem HsS.rd {w wr : World} {q : Option Addr} {n c : Nat} {Ss : List (List Int)} (h : HsS w wr (.slice q n c) Ss) : n = Ss.length ∧ RdHs wr q Ss ∧ n ≤ c ∧ c ≤ maxLen := by
  rcases h.own.2 with ⟨e, h0⟩ | ⟨g, cap, cur, e, _, hg, hnc, hcm, hcs', htake⟩
  · simp only [Value.slice.injEq] at e
    obtain ⟨rfl, rfl, rfl⟩ := e
    have h1 : Ss = [] := List.eq_nil_of_length_eq_zero h0
    subst h1
    exact ⟨rfl, .inl rfl, Nat.le_refl _, by unfold maxLen; omega⟩
  · simp only [Value.slice.injEq] at e
    obtain ⟨rfl, rfl, rfl⟩ := e
    refine ⟨rfl, ?_, hnc, hcm⟩
    have hc2 : cur = (hcs Ss ++ cur.toList.drop (Ss.length * 32)).toArray := by
      apply Array.ext'
      show cur.toList = hcs Ss ++ cur.toList.drop (Ss.length * 32)
      rw [← htake, List.take_append_drop]
    rw [hc2] at hg
    exact rdHs_block hg h.ok
theorem one_hs {w : World} {F : List Int} (h : F.length = 32) (b : Bytes F) : RdHs (w.alloc (.cells (hc F).toArray 24)) (some ⟨w.heap.size, 0, none⟩) [F] := by
  refine rdHs_block (tail := []) (T := 24) (fr := (0, 0)) ?_ (HsOk.one h b)
  rw [List.append_nil, hcs_one]
  exact heap_alloc_new w _
theorem Tryd.infoHs : (Tryd.prog.info? 24).map (fun i => (i.zero, i.size, i.bytes)) = some (some (.agg (hc zero32).toArray), 32, 32) := by kernel_rfl
theorem zero_cells : (Value.agg (hc zero32).toArray).cells.size = 32 := by rfl

end Go.Proofs.YtlncolpcehjdeaaDoor
namespace Go.Proofs.YtlncolpcehjdeaaDoor
set_option maxRecDepth 100000
open Go.ChangeShapes Go.WideShapes Go.ChangeAt Go.RowKit Go.Deep

section
variable {H : Type} {enc : TypeId × Value → H} {P : Program} {w : World} {base : Nat} {held : Bool}

theorem trod_struct {t : TypeId} {fs : Array Field} {fuel n : Nat} {cs : List Value} {x : DataW H × List MemPlace} (ht : P.underlying t = some (.struct fs)) (hC : P.cellsOf t = n) (h : DataW.trod enc P w base (fun _ => true) held fuel t cs = some x) :
    cs.length = n ∧ ∃ m, ∃ ys : List (DataW H × List MemPlace), x.1 = .agg (ys.map (·.1)) ∧
      ∀ (i : Nat) f, fs.toList[i]? = some f → ∃ y, ys[i]? = some y ∧ DataW.trod enc P w base (fun _ => true) held m f.type ((cs.drop f.offset).take (P.cellsOf f.type)) = some y := by
  cases fuel with
  | zero => simp [DataW.trod] at h
  | succ m =>
    rw [DataW.trod_step] at h
    unfold DataW.trodStep at h
    simp only [ht, hC] at h
    split at h
    · rename_i hl
      simp only [Option.map_eq_some_iff] at h
      obtain ⟨ys, hy, hx⟩ := h
      refine ⟨hl, m, ys, by rw [← hx], fun i f hf => ?_⟩
      have h1 := mapM_some_get hy i f hf
      obtain ⟨y, hyy⟩ := mapM_mem hy f (List.mem_of_getElem? hf)
      exact ⟨y, by rw [← h1]; exact hyy, hyy⟩
    · simp at h
theorem weights_mem_all {e : TypeId} : ∀ {el : List (DataW H)} {d : DataW H}, d ∈ el → ∀ n ∈ d.weights P e, n ∈ DataW.weightsAll P e el
  | [], d, hd, _, _ => by cases hd
  | c :: el, d, hd, n, hn => by
    rw [DataW.weightsAll]
    rcases List.mem_cons.1 hd with rfl | hd
    · exact List.mem_append.2 (.inl hn)
    · exact List.mem_append.2 (.inr (weights_mem_all hd n hn))
theorem weights_struct {t : TypeId} {fs : Array Field} (ht : P.underlying t = some (.struct fs)) {parts : List (DataW H)} (h : ∀ n ∈ (DataW.agg parts).weights P t, n ≤ reachBytes) {j : Nat} {f : Field} {d : DataW H} (hf : fs.toList[j]? = some f) (hd : parts[j]? = some d) :
    ∀ n ∈ d.weights P f.type, n ≤ reachBytes := by
  intro n hn
  refine h n ?_
  rw [DataW.weights, ht]
  exact DataW.weights_mem_each (by rw [List.getElem?_map, hf]; rfl) hd n hn
theorem weights_slice {t e : TypeId} (ht : P.underlying t = some (.slice e)) {el sp : List (DataW H)} (h : ∀ n ∈ (DataW.slice el sp).weights P t, n ≤ reachBytes) : el.length * P.bytesOf e ≤ reachBytes ∧ ∀ d ∈ el, ∀ n ∈ d.weights P e, n ≤ reachBytes := by
  rw [DataW.weights, ht] at h
  simp only at h
  refine ⟨Nat.le_trans (Nat.mul_le_mul_right _ (Nat.le_add_right _ sp.length)) (h _ (List.mem_cons_self ..)), fun d hd n hn => h n ?_⟩
  exact List.mem_cons.2 (.inr (List.mem_append.2 (.inl (weights_mem_all hd n hn))))
end

section
variable {H : Type} {enc : TypeId × Value → H} {w : World} {base : Nat} {held : Bool}
theorem reach47 : reachBytes ≤ 140737488355328 := by decide
theorem trod_hs {fuel : Nat} {cs : List Value} {y : DataW H × List MemPlace} (h : DataW.trod enc Tryd.prog w base (fun _ => true) held fuel 46 cs = some y) :
    ∃ q k Ss, cs = [.slice q Ss.length k] ∧ RdHs w q Ss ∧ HsOk Ss ∧ (Ss.length = 0 ∨ ∃ el sp, y.1 = .slice el sp ∧ el.length = Ss.length) := by
  rcases Deep.open_slice Tryd.underlying46 h with ⟨rfl, _⟩ | ⟨a, len, cap, m, n, D, Pl, rfl, hb, hl, hm, hmm, hy, hx⟩
  · exact ⟨none, 0, [], rfl, .inl rfl, HsOk.nil, .inl rfl⟩
  · simp only [if_true] at hmm
    subst hmm
    rw [show Tryd.prog.cellsOf 24 = 32 by kernel_rfl] at hx
    have key : ∀ i, ∃ F : List Int, i < len → F.length = 32 ∧ Bytes F ∧ ∀ j, j < 32 → w.cell? (a.add (i * 32 + j)) = some (.int .u8 (F.getD j 0)) := by
      intro i
      by_cases hi : i < len
      · obtain ⟨cs', hc1, ht⟩ := hx i (by omega)
        obtain ⟨F, hF, rfl, bF⟩ := trod_hashB Tryd.underlying24 Tryd.underlying5 (by kernel_rfl) (by kernel_rfl) ht
        refine ⟨F, fun _ => ⟨hF, bF, fun j hj => ?_⟩⟩
        have := (World.cells?_some hc1).2.2 j hj
        rw [Addr.add_add] at this
        rw [this]
        simp [hc, List.getD, hF, hj]
      · exact ⟨[], fun h => absurd h hi⟩
    obtain ⟨f, hf⟩ := Classical.axiomOfChoice key
    have hlen : ((List.range len).map f).length = len := by simp
    have hg : ∀ i, i < len → ((List.range len).map f).getD i [] = f i := fun i hi => by simp [List.getD, hi]
    refine ⟨some a, _, (List.range len).map f, by rw [hlen], ?_, ?_, .inr ⟨_, _, by rw [hy], by simp⟩⟩
    · by_cases h0 : len = 0
      · exact .inl (by simp [h0])
      · obtain ⟨b, o, sp⟩ := a
        have hsp : sp = none := by
          have := (hf 0 (by omega)).2.2 0 (by omega)
          simpa [Addr.add] using World.cell?_spot this
        subst hsp
        refine .inr ⟨b, o, rfl, fun i hi => ?_⟩
        rw [hlen] at hi
        obtain ⟨h1, h2, h3⟩ := hf i hi
        rw [hg i hi]
        have := rowOf_cells (w := w) (b := b) (o := o + i * 32) (F := f i) (fun j hj => by
          have := h3 j (by omega)
          rw [addr_add] at this
          rw [← this]
          congr 2
          omega)
        rw [h1] at this
        exact this
    · intro F hF
      obtain ⟨i, hi, rfl⟩ := List.mem_map.1 hF
      obtain ⟨h1, h2, _⟩ := hf i (List.mem_range.1 hi)
      exact ⟨h1, h2⟩
theorem open_pf5 {r : Reach} {b0 : Nat} {v : Value} {d : DataW H} {p : List MemPlace} (hv : Value.okWide Tryd.prog w r b0 50 v) (h : DataW.Trod enc Tryd.prog w base (fun _ => true) held 50 v d p)
    (hs : ∀ n ∈ d.weights Tryd.prog 50, n ≤ reachBytes) : ∃ M q k Ss, v = .agg (pfRow M (.slice q Ss.length k)).toArray ∧ M.length = 32 ∧ Bytes M ∧ RdHs w q Ss ∧ HsOk Ss ∧ Ss.length * 32 ≤ 140737488355328 := by
  have hr := reach47
  obtain ⟨arr, rfl, _, _⟩ : ∃ cs, v = .agg cs ∧ cs.size = Tryd.prog.cellsOf 50 ∧ Row.okWide Tryd.prog w r b0 50 cs := by
    simpa [Value.okWide, Tryd.underlying50] using hv
  obtain ⟨fuel, hf⟩ := h
  obtain ⟨hl, m, ys, hx, hfld⟩ := trod_struct Tryd.underlying50 (n := 33) (by kernel_rfl) hf
  simp only at hx
  subst hx
  obtain ⟨y0, g0, t0⟩ := hfld 0 _ rfl
  dsimp only at t0
  rw [show Tryd.prog.cellsOf 24 = 32 by kernel_rfl] at t0
  obtain ⟨M, hM, e0, bM⟩ := trod_hashB Tryd.underlying24 Tryd.underlying5 (by kernel_rfl) (by kernel_rfl) t0
  obtain ⟨y2, g2, t2⟩ := hfld 1 _ rfl
  dsimp only at t2
  rw [show Tryd.prog.cellsOf 46 = 1 by kernel_rfl] at t2
  have m2 := weights_struct Tryd.underlying50 hs (j := 1) rfl (show (ys.map (·.1))[1]? = some y2.1 by rw [List.getElem?_map, g2]; rfl)
  dsimp only at m2
  obtain ⟨q, k, Ss, e2, r2, ok, z2⟩ := trod_hs t2
  have s2 : Ss.length * 32 ≤ 140737488355328 := by
    rcases z2 with z | ⟨el, sp, z1, z2⟩
    · omega
    · rw [z1] at m2
      have := (weights_slice Tryd.underlying46 m2).1
      rw [show Tryd.prog.bytesOf 24 = 32 by kernel_rfl, z2] at this
      omega
  refine ⟨M, q, k, Ss, ?_, hM, bM, r2, ok, s2⟩
  obtain ⟨cs, hcs⟩ : ∃ cs, (Value.agg arr).cells.toList = cs := ⟨_, rfl⟩
  have ha : arr = cs.toArray := by rw [← hcs]; simp [Value.cells]
  rw [hcs] at hl e0 e2
  rw [ha]
  congr 1
  apply Array.ext'
  simp only [pfRow]
  rw [← e2, ← e0]
  simp only [List.drop_zero]
  have h1 : (cs.drop 32).take 1 = cs.drop 32 := List.take_of_length_le (by simp; omega)
  rw [h1, List.take_append_drop]
end
end Go.Proofs.YtlncolpcehjdeaaDoor
namespace Go.Proofs.YtlncolpcehjdeaaDoor
set_option maxRecDepth 100000
open Go.ChangeShapes Go.WideShapes Go.ChangeAt Go.RowKit Go.Deep

theorem rowOf_vals {w : World} {b o n : Nat} {cs : List Value} (hn : cs.length = n) (h0 : 0 < n) (h : ∀ j v, cs[j]? = some v → w.cell? ⟨b, o + j, none⟩ = some v) : rowOf w b o n = cs := by
  subst hn
  have hf := h 0 cs[0] (by simp [h0])
  unfold World.cell? at hf
  split at hf
  · rename_i C t fr hb
    rw [rowOf_block hb]
    apply List.ext_getElem?
    intro j
    by_cases hj : j < cs.length
    · have := h j cs[j] (by simp [hj])
      rw [Joins.cell_of_block hb] at this
      have hlt := (Array.getElem?_eq_some_iff.1 this).1
      rw [Array.getElem?_toList, Array.getElem?_extract, if_pos (by omega), this, List.getElem?_eq_getElem hj]
    · rw [List.getElem?_eq_none (by rw [Array.length_toList, Array.size_extract]; omega), List.getElem?_eq_none (by omega)]
  · simp at hf

section
variable {H : Type} {enc : TypeId × Value → H} {P : Program} {w : World} {base : Nat} {held : Bool}
/-- A slice's cell, element by element. -/
theorem trod_rows {α : Type} {R : World → Fp → α → List Value → Prop} {okx : α → Prop} {d0 : α} {n by_ : Nat} {t e : TypeId} (k : FpOk R) (hn : 0 < n) (ht : P.underlying t = some (.slice e)) (hC : P.cellsOf e = n) (hB : P.bytesOf e = by_)
    (elem : ∀ (fuel : Nat) (cs : List Value) (y : DataW H × List MemPlace), DataW.trod enc P w base (fun _ => true) held fuel e cs = some y → (∀ n ∈ y.1.weights P e, n ≤ reachBytes) → ∃ x, cs.length = n ∧ R w (fun g => g < w.heap.size) x cs ∧ okx x)
    {fuel : Nat} {cs : List Value} {y : DataW H × List MemPlace} (hf : DataW.trod enc P w base (fun _ => true) held fuel t cs = some y) (hs : ∀ n ∈ y.1.weights P t, n ≤ reachBytes) :
    ∃ q c L, cs = [.slice q L.length c] ∧ RwF n d0 R w (fun g => g < w.heap.size) q L ∧ (∀ x ∈ L, okx x) ∧ L.length * by_ ≤ reachBytes := by
  have _ := k
  rcases Deep.open_slice ht hf with ⟨h0, _⟩ | ⟨a, len, cap, m, nn, D, Pl, hcs, hb, hl, hm, hmm, hy, hx⟩
  · exact ⟨none, 0, [], h0, .inl rfl, fun s h => by simp at h, by simp⟩
  · simp only [if_true] at hmm
    subst hmm
    rw [hy] at hs
    obtain ⟨w1, w2⟩ := weights_slice ht hs
    rw [hB] at w1
    have key : ∀ i, ∃ x : α × List Value, i < len → okx x.1 ∧ x.2.length = n ∧ R w (fun g => g < w.heap.size) x.1 x.2 ∧ ∀ j u, x.2[j]? = some u → w.cell? (a.add (i * n + j)) = some u := by
      intro i
      by_cases hi : i < len
      · obtain ⟨cs', hc1, hte⟩ := hx i (by omega)
        rw [hC] at hc1
        obtain ⟨x, l9, hr, ok⟩ := elem _ _ _ hte (w2 (D i) (List.mem_map.2 ⟨i, by simpa using hi, rfl⟩))
        refine ⟨(x, cs'), fun _ => ⟨ok, l9, hr, fun j u hu => ?_⟩⟩
        have hj2 : j < cs'.length := (List.getElem?_eq_some_iff.1 hu).1
        have hj : j < n := by omega
        have := (World.cells?_some hc1).2.2 j hj
        rw [Addr.add_add] at this
        rw [this]
        exact hu
      · exact ⟨(d0, []), fun h => absurd h hi⟩
    obtain ⟨f, hf⟩ := Classical.axiomOfChoice key
    have hlen : ((List.range len).map fun i => (f i).1).length = len := by simp
    have hg : ∀ i, i < len → ((List.range len).map fun i => (f i).1).getD i d0 = (f i).1 := fun i hi => by simp [List.getD, hi]
    refine ⟨some a, m, (List.range len).map fun i => (f i).1, by rw [hlen]; exact hcs, ?_, ?_, by rw [hlen]; simpa using w1⟩
    · by_cases h0 : len = 0
      · exact .inl (by simp [h0])
      · obtain ⟨b, o, sp⟩ := a
        have hsp : sp = none := by
          obtain ⟨_, l9, _, h3⟩ := hf 0 (by omega)
          have := h3 0 _ (List.getElem?_eq_getElem (by omega))
          simpa [Addr.add] using World.cell?_spot this
        subst hsp
        refine .inr ⟨b, o, rfl, ?_, fun i hi => ?_⟩
        · obtain ⟨_, l9, _, h3⟩ := hf 0 (by omega)
          have := lt_of_cell (h3 0 _ (List.getElem?_eq_getElem (by omega)))
          rw [addr_add] at this
          exact this
        · rw [hlen] at hi
          obtain ⟨ok, l9, h2, h3⟩ := hf i hi
          rw [hg i hi]
          refine ⟨(f i).2, l9, rowOf_vals l9 hn (fun j u hu => ?_), h2⟩
          have := h3 j u hu
          rw [addr_add] at this
          rw [← this]
          congr 2
          omega
    · intro s hS
      obtain ⟨i, hi, rfl⟩ := List.mem_map.1 hS
      exact (hf i (List.mem_range.1 hi)).1
end

/-- A pair's cells. -/
def PPr (_ : World) (_ : Fp) (x : List Int × List Int) (r : List Value) : Prop := r = prRow x.1 x.2
theorem PPr_ok : FpOk PPr where
  mono := fun h _ => h
  agr := fun h _ => h
  lt := fun h => h
def pr0 : List Int × List Int := (zero32, zero32)
structure PrOk (x : List Int × List Int) : Prop where
  k : KyOk x.1
  l : x.2.length = 32
  b : Bytes x.2
section
variable {H : Type} {enc : TypeId × Value → H} {w : World} {base : Nat} {held : Bool}
theorem elem_pr (fuel : Nat) (cs : List Value) (y : DataW H × List MemPlace) (hf : DataW.trod enc Tryd.prog w base (fun _ => true) held fuel 37 cs = some y) (_ : ∀ n ∈ y.1.weights Tryd.prog 37, n ≤ reachBytes) :
    ∃ x, cs.length = 64 ∧ PPr w (fun g => g < w.heap.size) x cs ∧ PrOk x := by
  obtain ⟨hl, mm, ys, hx, hfld⟩ := trod_struct Tryd.underlying37 (n := 64) (by kernel_rfl) hf
  have c1 : Tryd.prog.cellsOf 24 = 32 := by kernel_rfl
  have c2 : Tryd.prog.cellsOf 5 = 1 := by kernel_rfl
  obtain ⟨y0, g0, t0⟩ := hfld 0 _ rfl
  obtain ⟨y1, g1, t1⟩ := hfld 1 _ rfl
  dsimp only at t0 t1
  rw [c1] at t0 t1
  obtain ⟨F, lF, eF, bF⟩ := trod_hashB Tryd.underlying24 Tryd.underlying5 c1 c2 t0
  obtain ⟨G, lG, eG, bG⟩ := trod_hashB Tryd.underlying24 Tryd.underlying5 c1 c2 t1
  refine ⟨(F, G), hl, ?_, ⟨⟨lF, bF⟩, lG, bG⟩⟩
  show cs = prRow F G
  rw [List.drop_zero] at eF
  have e2 : (cs.drop 32).take 32 = cs.drop 32 := List.take_of_length_le (by simp [hl])
  rw [e2] at eG
  rw [← List.take_append_drop 32 cs, eF, eG]
  simp [prRow]
theorem open_prs {r : Reach} {b0 : Nat} {v : Value} {d : DataW H} {p : List MemPlace} (hv : Value.okWide Tryd.prog w r b0 22 v) (h : DataW.Trod enc Tryd.prog w base (fun _ => true) held 22 v d p)
    (hs : ∀ n ∈ d.weights Tryd.prog 22, n ≤ reachBytes) : ∃ q c L, v = .slice q L.length c ∧ RwF 64 pr0 PPr w (fun g => g < w.heap.size) q L ∧ (∀ x ∈ L, PrOk x) ∧ L.length ≤ 3000000000000 := by
  obtain ⟨a0, len0, cap0, rfl⟩ := okWide_slice Tryd.underlying22 hv
  obtain ⟨fuel, hf⟩ := h
  obtain ⟨q, c, L, e, rr, ok, l⟩ := trod_rows (d0 := pr0) PPr_ok (by decide) Tryd.underlying22 (n := 64) (by kernel_rfl) (by_ := 64) (by kernel_rfl) elem_pr hf hs
  refine ⟨q, c, L, ?_, rr, ok, by unfold reachBytes at l; omega⟩
  simpa [Value.cells] using e
end
end Go.Proofs.YtlncolpcehjdeaaDoor
namespace Go.Proofs.YtlncolpcehjdeaaDoor
open Go.RowKit
set_option maxRecDepth 100000

theorem rowOf_half {w : World} {b o : Nat} {K V : List Int} (lK : K.length = 32) (lV : V.length = 32) (h : rowOf w b o 64 = prRow K V) : rowOf w b o 32 = hc K ∧ rowOf w b (o + 32) 32 = hc V := by
  have hl := prRow_len lK lV
  unfold rowOf at *
  cases hb : w.heap[b]? with
  | none => rw [hb] at h; simp at h; rw [h] at hl; simp at hl
  | some x =>
    rw [hb] at h
    cases x with
    | cells cs t fr =>
      simp only [Array.toList_extract, List.extract_eq_take_drop] at h ⊢
      rw [show o + 64 - o = 64 by omega] at h
      rw [show o + 32 - o = 32 by omega, show o + 32 + 32 - (o + 32) = 32 by omega]
      have e1 : (cs.toList.drop o).take 32 = ((cs.toList.drop o).take 64).take 32 := by rw [List.take_take]; rfl
      have e2 : (cs.toList.drop (o + 32)).take 32 = ((cs.toList.drop o).take 64).drop 32 := by
        rw [List.drop_take, List.drop_drop]
      rw [e1, e2, h]
      constructor
      · simp [prRow, hc_len, lK]
      · have := hc_len K
        have := hc_len V
        simp only [prRow, List.append_nil]
        rw [List.drop_append_of_le_length (by omega), List.drop_of_length_le (by omega)]
        rfl
    | _ => simp at h; rw [h] at hl; simp at hl
/-- A map that the call made, as it stands now. -/
structure MpW (w wr : World) (p m : Nat) (E : List En) (c : Nat) (top : Option Addr) (bl : List Nat) : Prop where
  map : MapS wr p m E c top bl
  below : Below w.heap.size w wr
  pg : w.heap.size ≤ p
  mg : w.heap.size ≤ m
  bg : ∀ g ∈ bl, w.heap.size ≤ g
section
variable {w wr w' : World} {p m c : Nat} {E : List En} {top : Option Addr} {bl : List Nat}
theorem MpW.on (h : MpW w wr p m E c top bl) (hb : Below wr.heap.size wr w') : MpW w w' p m E c top bl := ⟨h.map.on hb, h.below.trans (hb.mono h.below.size), h.pg, h.mg, h.bg⟩
theorem MpW.chg (h : MpW w wr p m E c top bl) (hc : Chg wr w' bl) (hm : MapS w' p m E c top bl) : MpW w w' p m E c top bl :=
  ⟨hm, h.below.trans (hc.toBelow h.below.size (fun k hk => h.bg k hk)), h.pg, h.mg, h.bg⟩
theorem MpW.put {K V : List Int} {e : Ending} (h : MpW w wr p m E c top bl) (hq : PutQ wr p m E bl K V e w') :
    e = .returned (.int .i64 0) ∧ ∃ E' c' top' bl', MpW w w' p m E' c' top' bl' ∧ (∀ k, vOf E' k = if k = K then V else vOf E k) ∧ E'.length ≤ E.length + 1 ∧ E.length ≤ E'.length + 1 := by
  obtain ⟨he, hc, E', c', top', bl', hm, hin, hv, h1, h2⟩ := hq
  refine ⟨he, E', c', top', bl', ⟨hm, h.below.trans (hc.toBelow h.below.size (fun k hk => ?_)), h.pg, h.mg, fun g hg => ?_⟩, hv, h1, h2⟩
  · rcases List.mem_cons.1 hk with rfl | hk
    · exact h.pg
    · rcases List.mem_cons.1 hk with rfl | hk
      · exact h.mg
      · exact h.bg k hk
  · rcases hin g hg with hg | hg
    · exact h.bg g hg
    · have := h.below.size; omega
end
/-- A new map of no pairs. -/
theorem MpW_new {w w' : World} {p m : Nat} (hb : Below w.heap.size w w') (hp : w.heap.size ≤ p) (hm : w.heap.size ≤ m) (h : MpS w' p m #[] 0 none) : MpW w w' p m [] 0 none [] :=
  ⟨⟨h, .inl ⟨rfl, rfl, rfl⟩, EnW.nil, EnC.nil 0, by simp, by simp⟩, hb, hp, hm, fun g hg => (by cases hg)⟩
end Go.Proofs.YtlncolpcehjdeaaDoor
namespace Go.Proofs.YtlncolpcehjdeaaDoor
open Go.RowKit
set_option maxRecDepth 100000

def e0 : En := ⟨zero32, zero32, 0⟩
/-- A slice reads as pairs. -/
def RdP (w : World) (q : Option Addr) (L : List En) : Prop := L = [] ∨ ∃ b off, q = some ⟨b, off, none⟩ ∧ b < w.heap.size ∧ ∀ i, i < L.length → rowOf w b (off + i * 64) 64 = prRow (L.getD i e0).k (L.getD i e0).v
theorem getD_memE {L : List En} {i : Nat} (hi : i < L.length) : L.getD i e0 ∈ L := by
  have e : L.getD i e0 = L[i] := by simp [List.getD, hi]
  rw [e]; exact List.getElem_mem hi
theorem prL_mid (tail : List Value) : ∀ {L : List En}, EnOk L → ∀ i, i < L.length → ((prL L ++ tail).drop (i * 64)).take 64 = prRow (L.getD i e0).k (L.getD i e0).v
  | [], _, i, hi => by simp at hi
  | x :: L, h, i, hi => by
    have h2 := h x (List.mem_cons_self ..)
    have e : prL (x :: L) ++ tail = prRow x.k x.v ++ (prL L ++ tail) := by rw [← List.append_assoc]; rfl
    have hl : (prRow x.k x.v).length = 64 := prRow_len h2.1 h2.2
    rw [e]
    cases i with
    | zero => rw [Nat.zero_mul, List.drop_zero]; exact List.take_left' hl
    | succ i =>
      rw [List.drop_append, hl, List.drop_eq_nil_of_le (by omega), List.nil_append, show (i + 1) * 64 - 64 = i * 64 by omega]
      exact prL_mid tail (fun G hG => h G (List.mem_cons_of_mem _ hG)) i (by simpa using hi)
theorem RdP.on {w w' : World} {q : Option Addr} {L : List En} (h : RdP w q L) (hb : Below w.heap.size w w') : RdP w' q L := by
  rcases h with h | ⟨b, off, e, hl, hx⟩
  · exact .inl h
  · refine .inr ⟨b, off, e, Nat.lt_of_lt_of_le hl hb.size, fun i hi => ?_⟩
    rw [← hx i hi]
    unfold rowOf
    rw [hb.block b hl]
theorem RdP.chg {w w' : World} {q : Option Addr} {L : List En} {S : List Nat} (h : RdP w q L) (hc : Chg w w' S) (hs : ∀ g, q.map (·.block) = some g → g ∉ S) : RdP w' q L := by
  rcases h with h | ⟨b, off, rfl, hl, hx⟩
  · exact .inl h
  · refine .inr ⟨b, off, rfl, Nat.lt_of_lt_of_le hl hc.size, fun i hi => ?_⟩
    rw [← hx i hi]
    unfold rowOf
    rw [hc.block b hl (hs b rfl)]
/-- A row of the call's own reads so. -/
theorem rdP_own {w : World} {v : Value} {L : List En} (ok : EnOk L) (h : w.ownsRow 0 53 64 v L.length (prL L)) : ∃ q c, v = .slice q L.length c ∧ RdP w q L ∧ L.length ≤ c ∧ c ≤ maxLen ∧ (∀ g, q.map (·.block) = some g → v.ownBlock = some g) ∧ ∀ g, q.map (·.block) = some g → g < w.heap.size := by
  rcases h.2 with ⟨e, hn⟩ | ⟨g, cap, cur, e, _, hg, hnc, hcm, hcs', htake⟩
  · have h1 : L = [] := List.eq_nil_of_length_eq_zero hn
    subst h1
    exact ⟨none, 0, e, .inl rfl, Nat.le_refl _, by unfold maxLen; omega, fun g hg => by simp at hg, fun g hg => by simp at hg⟩
  · refine ⟨some ⟨g, 0, none⟩, cap, e, .inr ⟨g, 0, rfl, (Array.getElem?_eq_some_iff.1 hg).1, fun i hi => ?_⟩, hnc, hcm, fun g' hg' => ?_, fun g' hg' => ?_⟩
    · have hc2 : cur = (prL L ++ cur.toList.drop (L.length * 64)).toArray := by
        apply Array.ext'
        show cur.toList = prL L ++ cur.toList.drop (L.length * 64)
        rw [← htake, List.take_append_drop]
      rw [hc2] at hg
      rw [rowOf_block hg, Nat.zero_add, ← prL_mid (cur.toList.drop (L.length * 64)) ok i hi]
      simp [List.take_drop]
    · rw [e]
      simp at hg'
      simp [Value.ownBlock, hg']
    · simp at hg'
      rw [← hg']
      exact (Array.getElem?_eq_some_iff.1 hg).1
theorem RdP.half {w : World} {b off : Nat} {L : List En} (ok : EnOk L) (hx : ∀ i, i < L.length → rowOf w b (off + i * 64) 64 = prRow (L.getD i e0).k (L.getD i e0).v) (hl : b < w.heap.size) {i : Nat} (hi : i < L.length) {W : World} (hW : Below w.heap.size w W) :
    rowOf W b (off + i * 64) 32 = hc (L.getD i e0).k ∧ rowOf W b (off + i * 64 + 32) 32 = hc (L.getD i e0).v := by
  have h := hx i hi
  have h2 : rowOf W b (off + i * 64) 64 = prRow (L.getD i e0).k (L.getD i e0).v := by
    rw [← h]
    unfold rowOf
    rw [hW.block b hl]
  exact rowOf_half (ok _ (getD_memE hi)).1 (ok _ (getD_memE hi)).2 h2
theorem nodup_inj : ∀ {E : List En} {x y : En}, (E.map (·.k)).Nodup → x ∈ E → y ∈ E → x.k = y.k → x = y
  | a :: E, x, y, h, hx, hy, e => by
    rw [List.map_cons, List.nodup_cons] at h
    rcases List.mem_cons.1 hx with rfl | hx2 <;> rcases List.mem_cons.1 hy with rfl | hy2
    · rfl
    · exact (h.1 (List.mem_map.2 ⟨y, hy2, e.symm⟩)).elim
    · exact (h.1 (List.mem_map.2 ⟨x, hx2, e⟩)).elim
    · exact nodup_inj h.2 hx2 hy2 e
theorem perm_vOf {L E : List En} (hp : L.Perm E) (hE : EnW E) {i : Nat} (hi : i < L.length) : vOf E (L.getD i e0).k = (L.getD i e0).v := by
  have hm : L.getD i e0 ∈ E := hp.mem_iff.1 (getD_memE hi)
  obtain ⟨y, hy, h1, h2⟩ := vR_mem (E := E) (K := (L.getD i e0).k) ⟨_, hm, rfl⟩
  rw [vOf_vR, h2]
  have : y = L.getD i e0 := by
    have hnd := hE.nd
    have := nodup_inj hnd hy hm h1
    exact this
  rw [this]
theorem vR_perm {L E : List En} (hp : L.Perm E) (hE : EnW E) (k : List Int) : vR L k = vOf E k := by
  by_cases h : ∃ x ∈ L, x.k = k
  · obtain ⟨x, hx, hxk, hv⟩ := vR_mem h
    have hxE := hp.mem_iff.1 hx
    obtain ⟨y, hy, h1, h2⟩ := vR_mem (E := E) (K := k) ⟨x, hxE, hxk⟩
    have : y = x := nodup_inj hE.nd hy hxE (h1.trans hxk.symm)
    rw [hv, vOf_vR, h2, this]
  · rw [vR_none (fun x hx hk => h ⟨x, hx, hk⟩), vOf_vR, vR_none (fun x hx hk => h ⟨x, hp.mem_iff.2 hx, hk⟩)]
/-- A root hangs on what is told of each key alone. -/
theorem rootE_congr {E E' : List En} (hE : EnW E) (hE' : EnW E') (h : ∀ k, vOf E' k = vOf E k) : rootE E' = rootE E := by
  unfold rootE
  refine pl_congr 256 (Nat.le_refl _) (fun x hx => ?_) (fun x _ y _ i hi => absurd hi (by omega)) (fun x => ?_) (fun x _ => h x)
  · obtain ⟨e, he, rfl⟩ := List.mem_map.1 hx
    exact ⟨(hE'.b.ok e he).1, hE'.b.kb e he⟩
  · rw [List.mem_map, List.mem_map]
    have h1 := hE'.key (K := x)
    have h2 := hE.key (K := x)
    rw [h x] at h1
    exact h1.trans h2.symm
end Go.Proofs.YtlncolpcehjdeaaDoor
