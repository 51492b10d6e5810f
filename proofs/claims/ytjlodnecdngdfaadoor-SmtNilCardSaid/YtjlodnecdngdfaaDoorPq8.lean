/-
  Package smt: no map, and one that nobody made; a proof's cells.; Slices of hashes; rows of hashes of the call's own.; Bits of a hash, in package proof and in the document; how many are set.; Whether a proof may be, in package proof and in the document.; The root behind a proof, plain and in package proof.
-/
import Derived.Lib.BitFns
import Derived.Laws.Bits64
import Derived.Test.YtjlodnecdngdfaaDoorPq7
namespace Go.Proofs.YtjlodnecdngdfaaDoor
open Go.RowKit
set_option maxRecDepth 100000

/-- No map, or one that nobody made. -/
def Nm (w : World) (v : Value) : Prop := v = .pointer none ∨ ∃ p, v = .pointer (some ⟨p, 0, none⟩) ∧ w.cell? ⟨p, 0, none⟩ = some (.map none)
theorem Nm.on {w w' : World} {v : Value} (h : Nm w v) (hb : Below w.heap.size w w') : Nm w' v := by
  rcases h with h | ⟨p, h, c⟩
  · exact .inl h
  · exact .inr ⟨p, h, by rw [hb.cell (World.block_lt_of_cell? w _ c)]; exact c⟩
theorem Nm.alloc {w : World} {v : Value} (h : Nm w v) (o : Obj) : Nm (w.alloc o) v := h.on ((Below.refl _ _).alloc (Nat.le_refl _) o)
theorem made_N {w : World} {v : Value} (h : Nm w v) : Calls Tryd.prog 32 #[v] w fun e w' => e = .returned (.bool false) ∧ w' = w := by
  rcases h with rfl | ⟨p, rfl, c⟩
  · exact made_none
  · exact made_no c

/-! ### A proof's cells -/
def pfRow (F : List Int) (v : Value) : List Value := hc F ++ [v]
theorem pfRow_len {F : List Int} (h : F.length = 32) (v : Value) : (pfRow F v).length = 33 := by simp [pfRow, hc_len, h]
def PfB (t : TypeId) (w : World) (b : Nat) (F : List Int) (v : Value) : Prop := w.heap[b]? = some (.cells (pfRow F v).toArray t (0, 0))
section
variable {t : TypeId} {w w' : World} {b : Nat} {F : List Int} {v : Value}
theorem PfB.lt (h : PfB t w b F v) : b < w.heap.size := (Array.getElem?_eq_some_iff.1 h).1
theorem PfB.new (w : World) (F : List Int) (v : Value) : PfB t (w.alloc (.cells (pfRow F v).toArray t)) w.heap.size F v := heap_alloc_new w _
theorem PfB.chg {S : List Nat} (h : PfB t w b F v) (hc : Chg w w' S) (hS : b ∉ S) : PfB t w' b F v := by
  unfold PfB
  rw [hc.block b h.lt hS]; exact h
theorem PfB.on (h : PfB t w b F v) (hb : Below w.heap.size w w') : PfB t w' b F v := h.chg (S := []) (Chg.below hb (Nat.le_refl _) []) (by simp)
theorem PfB.alloc (h : PfB t w b F v) (o : Obj) : PfB t (w.alloc o) b F v := h.on ((Below.refl _ _).alloc (Nat.le_refl _) o)
theorem PfB.mask (h : PfB t w b F v) (hF : F.length = 32) : rowOf w b 0 32 = hc F := by
  rw [rowOf_block h]
  simp [pfRow, hc_len, hF]
theorem PfB.whole (h : PfB t w b F v) (hF : F.length = 32) : rowOf w b 0 33 = pfRow F v := by
  rw [rowOf_block h]
  have := pfRow_len hF v
  simp [List.take_of_length_le (Nat.le_of_eq this)]
theorem PfB.sides (h : PfB t w b F v) (hF : F.length = 32) : w.cell? ⟨b, 32, none⟩ = some v := by
  rw [cell_of_row _ _ _ _ _ _ h]
  simp [pfRow, hc_len, hF]
theorem PfB.there (h : PfB t w b F v) (hF : F.length = 32) : w.there b 0 33 := fun j hj => by
  refine ⟨?_, Joins.unfrozen_of_block h _⟩
  rw [cell_of_row _ _ _ _ _ _ h]
  have := pfRow_len hF v
  simp [this]; omega
theorem PfB.put (h : PfB t w b F v) (hF : F.length = 32) {G : List Int} (hG : G.length = 32) (u : Value) : PfB t (w.setCells b 0 (pfRow G u)) b G u := by
  have := setCells_block (b := b) (t := t) (fr := (0, 0)) (pfRow G u) (o := 0) (w := w) (pre := []) (mid := pfRow F v) (post := []) (by simpa [PfB] using h) rfl (by rw [pfRow_len hF, pfRow_len hG])
  simpa [PfB] using this
theorem PfB.others (h : PfB t w b F v) {k : Nat} (hk : b ≠ k) (o : Nat) (vs : List Value) : PfB t (w.setCells k o vs) b F v := by
  unfold PfB
  rw [setCells_other hk]; exact h
end
theorem pf_one (F : List Int) {v : Value} (hv : v.oneCell' = true) : (pfRow F v).toArray.all (·.oneCell') = true := by
  refine all_oneCell_toArray fun u hu => ?_
  simp only [pfRow, List.mem_append, List.mem_cons, List.not_mem_nil, or_false] at hu
  rcases hu with hu | rfl
  · exact (Array.all_eq_true_iff_forall_mem.1 (hc_one _)) u (by simpa using hu)
  · exact hv
@[go_sem ↓] theorem load33 (a : Addr) : loadCellsFrom a 0 33 #[] = rowLoad a 33 := rfl
theorem run_storeCells_pf {P : Program} (w : World) (b : Nat) (F : List Int) (v : Value) (hF : F.length = 32) (hv : v.oneCell' = true) (ht : w.there b 0 33) : (storeCells ⟨b, 0, none⟩ (pfRow F v) 0).run P w = .ok () (w.setCells b 0 (pfRow F v)) := by
  have e := pfRow_len hF v
  have := run_storeCells_cells (P := P) b 0 (pfRow F v) 0 w (fun j hj => by rw [e] at hj; simpa using (ht j hj).1) (fun j hj => by rw [e] at hj; simpa using (ht j hj).2) (fun u hu => (Array.all_eq_true_iff_forall_mem.1 (pf_one F hv)) u (by simpa using hu))
  simpa using this
@[go_sem] theorem run_storeCells_pf0 {P : Program} (w : World) (b : Nat) (F : List Int) (q : Option Addr) (n k : Nat) (hF : F.length = 32) (ht : w.there b 0 33) : (storeCells ⟨b, 0, none⟩ (pfRow F (.slice q n k)) 0).run P w = .ok () (w.setCells b 0 (pfRow F (.slice q n k))) :=
  run_storeCells_pf w b F _ hF rfl ht
@[go_sem ↓] theorem Tryd.zero_pf (w : World) : (zeroValue 48).run Tryd.prog w = .ok (.agg (pfRow zero32 (.slice none 0 0)).toArray) w := by kernel_rfl
@[go_sem] theorem pfRow_len' {F : List Int} (h : F.length = 32) (v : Value) : (pfRow F v).length = 33 := pfRow_len h v

set_option maxHeartbeats 4000000 in
theorem Put_N {w : World} {v : Value} (hv : Nm w v) {K V : List Int} : Calls Tryd.prog 13 #[v, .agg (hc K).toArray, .agg (hc V).toArray] w fun e w' => e = .returned (.int .i64 1) ∧ Below w.heap.size w w' := by
  have B0 := Lib.hid (((Below.refl w.heap.size w).alloc (Nat.le_refl _) (.cells (hc K).toArray 24)).alloc (by simp) (.cells (hc V).toArray 24))
  have N0 := Lib.hid ((hv.alloc (.cells (hc K).toArray 24)).alloc (.cells (hc V).toArray 24))
  clear hv
  go_enter Tryd.func13, Tryd.ntmps13
  go_wp2_with fail
  refine (made_N N0.out).mono ?_
  rintro e wn ⟨rfl, h⟩
  obtain rfl := h.symm
  clear h
  go_wp2_with fail
  go_ret
  exact ⟨rfl, B0.out⟩
set_option maxHeartbeats 4000000 in
theorem Get_N {w : World} {v : Value} (hv : Nm w v) {K : List Int} : Calls Tryd.prog 15 #[v, .agg (hc K).toArray] w fun e w' => e = .returned (.agg (hc zero32).toArray) ∧ Below w.heap.size w w' := by
  have HZ := HashAt.new (w.alloc (.cells (hc K).toArray 24)) zero32
  simp only [World.size_alloc] at HZ
  have B0 := ((Below.refl w.heap.size w).alloc (Nat.le_refl _) (.cells (hc K).toArray 24)).alloc (by simp) (.cells (hc zero32).toArray 24)
  have N0 := Lib.hid ((hv.alloc (.cells (hc K).toArray 24)).alloc (.cells (hc zero32).toArray 24))
  have th := HZ.there zero32_len
  have hput := (HZ.put zero32_len zero32_len).row zero32_len
  have z32 := zero32_len
  have HX := Lib.hid (below_setCells' (B := w.heap.size) (w.heap.size + 1) (by omega) (hc zero32) 0 B0)
  clear hv HZ B0
  go_enter Tryd.func15, Tryd.ntmps15
  go_wp2_with fail
  refine (made_N N0.out).mono ?_
  rintro e wn ⟨rfl, h⟩
  obtain rfl := h.symm
  clear h
  go_wp2_with fail
  refine bodyPost_ret (v := .agg (hc zero32).toArray) (by simp [results, Tryd.results15, go_sem, hput, z32]) rfl ⟨rfl, HX.out⟩
set_option maxHeartbeats 4000000 in
theorem Root_N {w : World} {v : Value} (hv : Nm w v) : Calls Tryd.prog 19 #[v] w fun e w' => e = .returned (.agg (hc zero32).toArray) ∧ Below w.heap.size w w' := by
  have HZ := HashAt.new w zero32
  have B0 := (Below.refl w.heap.size w).alloc (Nat.le_refl _) (.cells (hc zero32).toArray 24)
  have N0 := Lib.hid (hv.alloc (.cells (hc zero32).toArray 24))
  have th := HZ.there zero32_len
  have hput := (HZ.put zero32_len zero32_len).row zero32_len
  have z32 := zero32_len
  have HX := Lib.hid (below_setCells' (B := w.heap.size) w.heap.size (Nat.le_refl _) (hc zero32) 0 B0)
  clear hv HZ B0
  go_enter Tryd.func19, Tryd.ntmps19
  go_wp2_with fail
  refine (made_N N0.out).mono ?_
  rintro e wn ⟨rfl, h⟩
  obtain rfl := h.symm
  clear h
  go_wp2_with fail
  refine bodyPost_ret (v := .agg (hc zero32).toArray) (by simp [results, Tryd.results19, go_sem, hput, z32]) rfl ⟨rfl, HX.out⟩
set_option maxHeartbeats 4000000 in
theorem Pairs_N {w : World} {v : Value} (hv : Nm w v) : Calls Tryd.prog 18 #[v] w fun e w' => e = .returned (.slice none 0 0) ∧ w' = w := by
  go_enter Tryd.func18, Tryd.ntmps18
  go_wp2_with fail
  refine (made_N hv).mono ?_
  rintro e wn ⟨rfl, h⟩
  obtain rfl := h.symm
  clear h
  go_wp2_with fail
  go_ret
  exact ⟨rfl, rfl⟩
set_option maxHeartbeats 4000000 in
theorem Prove_N {w : World} {v : Value} (hv : Nm w v) {K : List Int} : Calls Tryd.prog 22 #[v, .agg (hc K).toArray] w fun e w' => e = .returned (.agg (pfRow zero32 (.slice none 0 0)).toArray) ∧ Below w.heap.size w w' := by
  have z32 := zero32_len
  have P1 := (PfB.new (t := 48) (w.alloc (.cells (hc K).toArray 24)) zero32 (.slice none 0 0)).alloc (.cells (pfRow zero32 (.slice none 0 0)).toArray 48)
  have P2 := PfB.new (t := 48) ((w.alloc (.cells (hc K).toArray 24)).alloc (.cells (pfRow zero32 (.slice none 0 0)).toArray 48)) zero32 (.slice none 0 0)
  simp only [World.size_alloc] at P1 P2
  have B0 := (((Below.refl w.heap.size w).alloc (Nat.le_refl _) (.cells (hc K).toArray 24)).alloc (by simp) (.cells (pfRow zero32 (.slice none 0 0)).toArray 48)).alloc (by simp; omega) (.cells (pfRow zero32 (.slice none 0 0)).toArray 48)
  have N0 := Lib.hid (((hv.alloc (.cells (hc K).toArray 24)).alloc (.cells (pfRow zero32 (.slice none 0 0)).toArray 48)).alloc (.cells (pfRow zero32 (.slice none 0 0)).toArray 48))
  have r2 := P2.whole zero32_len
  have th := P1.there zero32_len
  have hput := (P1.put zero32_len zero32_len (.slice none 0 0)).whole zero32_len
  have HX := Lib.hid (below_setCells' (B := w.heap.size) (w.heap.size + 1) (by omega) (pfRow zero32 (.slice none 0 0)) 0 B0)
  have lp := pfRow_len zero32_len (.slice none 0 0)
  clear hv P1 P2 B0
  go_enter Tryd.func22, Tryd.ntmps22
  go_wp2_with fail
  go_step3
  go_wp2_with fail
  refine (made_N N0.out).mono ?_
  rintro e wn ⟨rfl, h⟩
  obtain rfl := h.symm
  clear h
  go_wp2_with fail
  try rw [Exit.noGoto_ret]
  refine bodyPost_ret (v := .agg (pfRow zero32 (.slice none 0 0)).toArray) (by simp [results, Tryd.results22, go_sem, hput, lp]) rfl ⟨rfl, HX.out⟩
end Go.Proofs.YtjlodnecdngdfaaDoor
namespace Go.Proofs.YtjlodnecdngdfaaDoor
set_option maxRecDepth 100000
open Go.RowKit

/-- A slice of hashes. -/
def RdHs (w : World) (q : Option Addr) (Ss : List (List Int)) : Prop := Ss = [] ∨ ∃ b off, q = some ⟨b, off, none⟩ ∧ ∀ i, i < Ss.length → rowOf w b (off + i * 32) 32 = hc (Ss.getD i [])
theorem blk_onB2 {w w' : World} {b : Nat} {x : Obj} (h : w.heap[b]? = some x) (hb : Below w.heap.size w w') : w'.heap[b]? = some x := by
  rw [hb.block b (Array.getElem?_eq_some_iff.1 h).1]; exact h
theorem rowOf_on {w w' : World} {b o n : Nat} (h : 0 < (rowOf w b o n).length) (hb : Below w.heap.size w w') : rowOf w' b o n = rowOf w b o n := by
  unfold rowOf at *
  cases e : w.heap[b]? with
  | none => rw [e] at h; simp at h
  | some x => rw [blk_onB2 e hb]
theorem RdHs.on {w w' : World} {q : Option Addr} {Ss : List (List Int)} (h : RdHs w q Ss) (hS : ∀ i, i < Ss.length → (Ss.getD i []).length = 32) (hb : Below w.heap.size w w') : RdHs w' q Ss := by
  rcases h with h | ⟨b, off, e, hx⟩
  · exact .inl h
  · refine .inr ⟨b, off, e, fun i hi => ?_⟩
    rw [rowOf_on (by rw [hx i hi, hc_len, hS i hi]; omega) hb]
    exact hx i hi
/-- The cells of a row of hashes. -/
def hcs (Ss : List (List Int)) : List Value := Ss.flatMap hc
theorem hcs_append (A B : List (List Int)) : hcs (A ++ B) = hcs A ++ hcs B := by simp [hcs]
theorem hcs_one (F : List Int) : hcs [F] = hc F := by simp [hcs]
/-- Hashes: 32 bytes each. -/
def HsOk (Ss : List (List Int)) : Prop := ∀ F ∈ Ss, F.length = 32 ∧ Bytes F
theorem HsOk.get {Ss : List (List Int)} (h : HsOk Ss) (i : Nat) (hi : i < Ss.length) : (Ss.getD i []).length = 32 ∧ Bytes (Ss.getD i []) := by
  have e : Ss.getD i [] = Ss[i] := by simp [List.getD, hi]
  rw [e]
  exact h _ (List.getElem_mem hi)
theorem HsOk.nil : HsOk [] := fun _ h => by cases h
theorem HsOk.append {A B : List (List Int)} (hA : HsOk A) (hB : HsOk B) : HsOk (A ++ B) := fun F h => (List.mem_append.1 h).elim (hA F) (hB F)
theorem HsOk.one {F : List Int} (h : F.length = 32) (b : Bytes F) : HsOk [F] := fun G hG => by
  obtain rfl := List.mem_singleton.1 hG
  exact ⟨h, b⟩
theorem hcs_len : ∀ {Ss : List (List Int)}, HsOk Ss → (hcs Ss).length = Ss.length * 32
  | [], _ => rfl
  | F :: Ss, h => by
    have h1 := hcs_len (Ss := Ss) (fun G hG => h G (List.mem_cons_of_mem _ hG))
    have h2 := (h F (List.mem_cons_self ..)).1
    have e : hcs (F :: Ss) = hc F ++ hcs Ss := rfl
    rw [e, List.length_append, h1, hc_len, h2, List.length_cons]
    omega
theorem hcs_mid (tail : List Value) : ∀ {Ss : List (List Int)}, HsOk Ss → ∀ i, i < Ss.length → ((hcs Ss ++ tail).drop (i * 32)).take 32 = hc (Ss.getD i [])
  | [], _, i, hi => by simp at hi
  | F :: Ss, h, i, hi => by
    have h2 := (h F (List.mem_cons_self ..)).1
    have e : hcs (F :: Ss) ++ tail = hc F ++ (hcs Ss ++ tail) := by rw [← List.append_assoc]; rfl
    have hl : (hc F).length = 32 := by rw [hc_len, h2]
    rw [e]
    cases i with
    | zero => rw [Nat.zero_mul, List.drop_zero]; exact List.take_left' hl
    | succ i =>
      rw [List.drop_append, hl, List.drop_eq_nil_of_le (by omega), List.nil_append, show (i + 1) * 32 - 32 = i * 32 by omega]
      exact hcs_mid tail (fun G hG => h G (List.mem_cons_of_mem _ hG)) i (by simpa using hi)
theorem hcs_cell : ∀ {Ss : List (List Int)}, HsOk Ss → ∀ {j : Nat} {u : Value}, (hcs Ss)[j]? = some u → j / 32 < Ss.length ∧ (hc (Ss.getD (j / 32) []))[j % 32]? = some u
  | [], _, j, u, hj => by simp [hcs] at hj
  | F :: Ss, h, j, u, hj => by
    have h2 := (h F (List.mem_cons_self ..)).1
    have hl : (hc F).length = 32 := by rw [hc_len, h2]
    have e : hcs (F :: Ss) = hc F ++ hcs Ss := rfl
    rw [e] at hj
    by_cases hlt : j < 32
    · rw [List.getElem?_append_left (by omega)] at hj
      rw [show j / 32 = 0 by omega, show j % 32 = j by omega]
      exact ⟨by simp, hj⟩
    · rw [List.getElem?_append_right (by omega), hl] at hj
      obtain ⟨h3, h4⟩ := hcs_cell (fun G hG => h G (List.mem_cons_of_mem _ hG)) hj
      have e1 : j / 32 = (j - 32) / 32 + 1 := by omega
      have e2 : j % 32 = (j - 32) % 32 := by omega
      rw [e1, e2]
      exact ⟨by simp; omega, h4⟩
theorem hcs_cells_one (Ss : List (List Int)) : ∀ u ∈ hcs Ss, u.oneCell' = true := by
  intro u hu
  obtain ⟨F, _, hF⟩ := List.mem_flatMap.1 hu
  exact (Array.all_eq_true_iff_forall_mem.1 (hc_one F)) u (by simpa using hF)

/-! ### A row that reads as hashes -/
theorem RdHs.cell {w : World} {b off : Nat} {Ss : List (List Int)} (hx : ∀ i, i < Ss.length → rowOf w b (off + i * 32) 32 = hc (Ss.getD i [])) (ok : HsOk Ss) {j : Nat} {u : Value} (hj : (hcs Ss)[j]? = some u) : w.cell? ⟨b, off + j, none⟩ = some u := by
  obtain ⟨h1, h2⟩ := hcs_cell ok hj
  have := range_rowOf w b (off + j / 32 * 32) 32 (j % 32) u (by rw [hx _ h1]; exact h2)
  rw [show off + j / 32 * 32 + j % 32 = off + j by omega] at this
  exact this
theorem RdHs.src {P : Program} {w : World} {tx e' : TypeId} {q : Option Addr} {c : Nat} {Ss : List (List Int)} (h : RdHs w q Ss) (ok : HsOk Ss) (hk : P.underlying tx = some (.slice e')) : Src P 32 tx (.slice q Ss.length c) Ss.length (hcs Ss) w := by
  rcases h with rfl | ⟨b, off, rfl, hx⟩
  · cases q with
    | none => exact Src.ofNil w hk c
    | some a => exact Src.ofSlice w hk a 0 c [] (by simp) (fun j u hu => by simp at hu) (by simp)
  · refine Src.ofSlice w hk _ _ _ _ (hcs_len ok) (fun j u hu => ?_) (hcs_cells_one Ss)
    rw [addr_add]
    exact RdHs.cell hx ok hu
theorem rdHs_block {w : World} {b : Nat} {T : TypeId} {fr : Nat × Nat} {tail : List Value} {Ss : List (List Int)} (h : w.heap[b]? = some (.cells (hcs Ss ++ tail).toArray T fr)) (ok : HsOk Ss) : RdHs w (some ⟨b, 0, none⟩) Ss := by
  refine .inr ⟨b, 0, rfl, fun i hi => ?_⟩
  rw [rowOf_block h, Nat.zero_add, ← hcs_mid tail ok i hi]
  simp [List.take_drop]
theorem RdHs.nil (w : World) (q : Option Addr) : RdHs w q [] := .inl rfl

/-- A row of hashes that the call lays. -/
structure HsS (w wr : World) (v : Value) (Ss : List (List Int)) : Prop where
  own : wr.ownsRow 0 24 32 v Ss.length (hcs Ss)
  ok : HsOk Ss
  fresh : ∀ g, v.ownBlock = some g → w.heap.size ≤ g
  below : Below w.heap.size w wr
theorem HsS.start (w : World) : HsS w w (.slice none 0 0) [] := ⟨World.ownsRow_nil w 0 _ 32, HsOk.nil, by simp [Value.ownBlock], Below.refl _ _⟩
theorem HsS.on {w wr w1 : World} {v : Value} {Ss : List (List Int)} (h : HsS w wr v Ss) (hb : Below wr.heap.size wr w1) : HsS w w1 v Ss :=
  ⟨own_on h.own hb, h.ok, h.fresh, h.below.trans (hb.mono h.below.size)⟩
theorem HsS.grow {w wr w2 : World} {v v' : Value} {Ss Ts : List (List Int)} {m : Nat} (h : HsS w wr v Ss) (ok : HsOk Ts) (hm : Ts.length = m) (own : w2.ownsRow 0 24 32 v' (Ss.length + m) (hcs Ss ++ hcs Ts)) (grow : wr.grownBy w2 v.ownBlock) (fr : v'.ownBlock = v.ownBlock ∨ v'.ownBlock = some wr.heap.size) : HsS w w2 v' (Ss ++ Ts) := by
  subst hm
  refine ⟨by rw [List.length_append, hcs_append]; exact own, h.ok.append ok, fun g hg => ?_, h.below.grown grow h.below.size (fun k hk => h.fresh k hk)⟩
  rcases fr with e | e
  · rw [e] at hg; exact h.fresh g hg
  · rw [e] at hg; have := h.below.size; simp at hg; omega
theorem HsS.rd {w wr : World} {q : Option Addr} {n c : Nat} {Ss : List (List Int)} (h : HsS w wr (.slice q n c) Ss) : n = Ss.length ∧ RdHs wr q Ss ∧ n ≤ c ∧ c ≤ maxLen := by
  rcases h.own.2 with ⟨e, h0⟩ | ⟨g, cap, cur, e, _, hg, hnc, hcm, hcs', htake⟩
  · simp only [Value.slice.injEq] at e
    obtain ⟨rfl, rfl, rfl⟩ := e
    have h1 : Ss = [] := List.eq_nil_of_length_eq_zero h0
    subst h1
    exact ⟨rfl, .inl rfl, Nat.le_refl _, by unfold maxLen; omega⟩
  · simp only [Value.slice.injEq] at e
    obtain ⟨rfl, rfl, rfl⟩ := e
    refine ⟨rfl, ?_, hnc, hcm⟩
    have hc2 : cur = (hcs Ss ++ cur.toList.drop (Ss.length * 32)).toArray := by
      apply Array.ext'
      show cur.toList = hcs Ss ++ cur.toList.drop (Ss.length * 32)
      rw [← htake, List.take_append_drop]
    rw [hc2] at hg
    exact rdHs_block hg h.ok
theorem one_hs {w : World} {F : List Int} (h : F.length = 32) (b : Bytes F) : RdHs (w.alloc (.cells (hc F).toArray 24)) (some ⟨w.heap.size, 0, none⟩) [F] := by
  refine rdHs_block (tail := []) (T := 24) (fr := (0, 0)) ?_ (HsOk.one h b)
  rw [List.append_nil, hcs_one]
  exact heap_alloc_new w _
theorem Tryd.infoHs : (Tryd.prog.info? 24).map (fun i => (i.zero, i.size, i.bytes)) = some (some (.agg (hc zero32).toArray), 32, 32) := by kernel_rfl
theorem zero_cells : (Value.agg (hc zero32).toArray).cells.size = 32 := by rfl

end Go.Proofs.YtjlodnecdngdfaaDoor
namespace Go.Proofs.YtjlodnecdngdfaaDoor
set_option maxRecDepth 100000
open Go.RowKit

set_option maxHeartbeats 2000000 in
theorem pbit_any {w : World} {K : List Int} {i : Nat} (hK : K.length = 32) (bK : Bytes K) (hi : i < 256) : Calls Tryd.prog 63 #[.agg (hc K).toArray, .int .i64 i] w fun e w' => e = .returned (.int .i64 (bitI K i)) ∧ Below w.heap.size w w' := by
  have H0 := HashAt.new w K
  have B0 := Lib.hid ((Below.refl w.heap.size w).alloc (Nat.le_refl _) (.cells (hc K).toArray 24))
  have hc0 := H0.cell (i := i / 8) (by omega)
  have hb := bK.getD (i / 8)
  obtain ⟨x, hx⟩ : ∃ x : Nat, K.getD (i / 8) 0 = (x : Int) := ⟨(K.getD (i / 8) 0).toNat, by omega⟩
  have hR : Hid (bitI K i = ((x / 2 ^ (7 - i % 8) : Nat) : Int) % 2) := by
    show bitI K i = _
    unfold bitI
    rw [hx, Int.natCast_ediv, Int.natCast_pow]
    rfl
  rw [hx] at hc0 hb
  clear hx bK
  have e1 : ((i : Nat) : Int).tdiv 8 = ((i / 8 : Nat) : Int) := by
    rw [Int.tdiv_eq_ediv_of_nonneg (by omega)]; omega
  have e2 : ((i : Nat) : Int).tmod 8 = ((i % 8 : Nat) : Int) := by
    rw [Int.tmod_eq_emod_of_nonneg (by omega)]; omega
  have hlK := hc_len K
  have hs : x / 2 ^ (7 - i % 8) ≤ x := Nat.div_le_self _ _
  have hd : ((x : Int) / 2 ^ (7 - i % 8)) = ((x / 2 ^ (7 - i % 8) : Nat) : Int) := by rw [Int.natCast_ediv, Int.natCast_pow]; rfl
  generalize x / 2 ^ (7 - i % 8) = y at hs hd hR
  have e3 : wrap64 ((x : Int) / 2 ^ (7 - i % 8)) = (y : Int) := by
    rw [hd]
    unfold wrap64
    omega
  have e4 := and_one (x := y) (by omega)
  clear hd
  go_enter Tryd.func63, Tryd.ntmps63
  go_wp2_with fail
  go_ret
  exact ⟨by rw [hR.out]; rfl, B0.out⟩
set_option maxHeartbeats 2000000 in
theorem rbit_any {w : World} {K : List Int} {i : Nat} (hK : K.length = 32) (bK : Bytes K) (hi : i < 256) : Calls Tryd.prog 47 #[.agg (hc K).toArray, .int .i64 i] w fun e w' => e = .returned (.int .i64 (bitI K i)) ∧ Below w.heap.size w w' := by
  have H0 := HashAt.new w K
  have B0 := Lib.hid ((Below.refl w.heap.size w).alloc (Nat.le_refl _) (.cells (hc K).toArray 24))
  have hc0 := H0.cell (i := i / 8) (by omega)
  have hb := bK.getD (i / 8)
  obtain ⟨x, hx⟩ : ∃ x : Nat, K.getD (i / 8) 0 = (x : Int) := ⟨(K.getD (i / 8) 0).toNat, by omega⟩
  have hR : Hid (bitI K i = ((x / 2 ^ (7 - i % 8) : Nat) : Int) % 2) := by
    show bitI K i = _
    unfold bitI
    rw [hx, Int.natCast_ediv, Int.natCast_pow]
    rfl
  rw [hx] at hc0 hb
  clear hx bK
  have e1 : ((i : Nat) : Int).tdiv 8 = ((i / 8 : Nat) : Int) := by
    rw [Int.tdiv_eq_ediv_of_nonneg (by omega)]; omega
  have e2 : ((i : Nat) : Int).tmod 8 = ((i % 8 : Nat) : Int) := by
    rw [Int.tmod_eq_emod_of_nonneg (by omega)]; omega
  have hlK := hc_len K
  have hs : x / 2 ^ (7 - i % 8) ≤ x := Nat.div_le_self _ _
  have hd : ((x : Int) / 2 ^ (7 - i % 8)) = ((x / 2 ^ (7 - i % 8) : Nat) : Int) := by rw [Int.natCast_ediv, Int.natCast_pow]; rfl
  generalize x / 2 ^ (7 - i % 8) = y at hs hd hR
  have e3 : wrap64 ((x : Int) / 2 ^ (7 - i % 8)) = (y : Int) := by
    rw [hd]
    unfold wrap64
    omega
  have e4 : (y : Int).tmod 2 = (y : Int) % 2 := Int.tmod_eq_emod_of_nonneg (by omega)
  have e5 : IntKind.u64.wrap (7 - (i : Int) % 8) = 7 - (i : Int) % 8 := by rw [IntKind.wrap_u64]; omega
  clear hd
  go_enter Tryd.func47, Tryd.ntmps47
  go_wp2_with fail
  go_ret
  exact ⟨by rw [hR.out]; rfl, B0.out⟩

theorem ones_any (x : Int) (w : World) (h0 : 0 ≤ x) (h1 : x ≤ 255) : Calls Tryd.prog 48 #[.int .u8 x] w fun e w' => e = .returned (.int .i64 (Lib.onesCount x.toNat)) ∧ w' = w := by
  rw [← Lib.pop8_int x h0 h1]
  go_enter Tryd.func48, Tryd.ntmps48
  go_wp2
  go_ret
  exact ⟨by kernel_rfl, rfl⟩
/-- How many of the first n bits are set. -/
def cntI (M : List Int) : Nat → Nat
  | 0 => 0
  | n + 1 => cntI M n + (bitI M n).toNat
theorem bitI_two {M : List Int} (n : Nat) : bitI M n = 0 ∨ bitI M n = 1 := by unfold bitI; omega
theorem cntI_le (M : List Int) : ∀ n, cntI M n ≤ n
  | 0 => Nat.le_refl _
  | n + 1 => by
    have := cntI_le M n
    rcases bitI_two (M := M) n with e | e <;> simp only [cntI, e] <;> simp <;> omega
theorem cntI_mono (M : List Int) {a b : Nat} (h : a ≤ b) : cntI M a ≤ cntI M b := by
  induction b with
  | zero => have : a = 0 := by omega
            subst this; exact Nat.le_refl _
  | succ b ih =>
    by_cases e : a = b + 1
    · subst e; exact Nat.le_refl _
    · have := ih (by omega)
      simp only [cntI]
      omega
def pcN (x : Nat) : Nat := x / 128 % 2 + x / 64 % 2 + x / 32 % 2 + x / 16 % 2 + x / 8 % 2 + x / 4 % 2 + x / 2 % 2 + x % 2
theorem pcN_ones : ∀ n : Fin 256, Lib.onesCount n.val = pcN n.val := by decide +kernel
theorem bitI_at (M : List Int) (k j : Nat) (hj : j < 8) : bitI M (8 * k + j) = M.getD k 0 / 2 ^ (7 - j) % 2 := by
  unfold bitI
  rw [show (8 * k + j) / 8 = k by omega, show (8 * k + j) % 8 = j by omega]
theorem cntI_byte {M : List Int} (bM : Bytes M) (k : Nat) : cntI M (8 * (k + 1)) = cntI M (8 * k) + Lib.onesCount (M.getD k 0).toNat := by
  have hb := bM.getD k
  obtain ⟨x, hx⟩ : ∃ x : Nat, M.getD k 0 = (x : Int) := ⟨(M.getD k 0).toNat, by omega⟩
  have ho := pcN_ones ⟨x, by omega⟩
  simp only at ho
  rw [hx, Int.toNat_natCast, ho]
  have e : ∀ j, j < 8 → (bitI M (8 * k + j)).toNat = x / 2 ^ (7 - j) % 2 := fun j hj => by
    rw [bitI_at M k j hj, hx]
    have : ((x : Int) / 2 ^ (7 - j) % 2) = ((x / 2 ^ (7 - j) % 2 : Nat) : Int) := by
      rw [Int.natCast_emod, Int.natCast_ediv, Int.natCast_pow]; rfl
    rw [this, Int.toNat_natCast]
  have e0 := e 0 (by omega)
  have e1 := e 1 (by omega)
  have e2 := e 2 (by omega)
  have e3 := e 3 (by omega)
  have e4 := e 4 (by omega)
  have e5 := e 5 (by omega)
  have e6 := e 6 (by omega)
  have e7 := e 7 (by omega)
  rw [show 8 * (k + 1) = 8 * k + 7 + 1 by omega]
  simp only [cntI, show 8 * k + 7 = 8 * k + 6 + 1 by omega]
  simp only [show 8 * k + 6 = 8 * k + 5 + 1 by omega]
  simp only [show 8 * k + 5 = 8 * k + 4 + 1 by omega]
  simp only [show 8 * k + 4 = 8 * k + 3 + 1 by omega]
  simp only [show 8 * k + 3 = 8 * k + 2 + 1 by omega]
  simp only [show 8 * k + 2 = 8 * k + 1 + 1 by omega]
  rw [Nat.add_zero] at e0
  simp only [Nat.add_assoc, Nat.reduceAdd]
  rw [e0, e1, e2, e3, e4, e5, e6, e7]
  simp only [pcN, Nat.reduceSub, Nat.reducePow]
  omega
/-- May a proof be? -/
def okS (M : List Int) (Ss : List (List Int)) : Bool := decide (cntI M 256 = Ss.length ∧ zero32 ∉ Ss)
end Go.Proofs.YtjlodnecdngdfaaDoor
namespace Go.Proofs.YtjlodnecdngdfaaDoor
set_option maxRecDepth 100000
open Go.RowKit

theorem idxH32 (w : World) {F : List Int} {i : Nat} (hi : i < 32) (hF : F.length = 32) : (Instr.index 24 (.agg (hc F).toArray) (.int .i64 (i : Int))).run Tryd.prog w = .ok (.int .u8 (F.getD i 0)) w := by
  have hl : (hc F)[i]? = some (.int .u8 (F.getD i 0)) := by simp [hc, List.getD, show i < F.length by omega]
  have e : (i : Int).toNat = i := by omega
  have hsz : (sizeOf 5).run Tryd.prog w = .ok 1 w := by kernel_rfl
  simp [Instr.index, asIntOf, run_underlying Tryd.underlying24, hsz, part, hl, go_sem]
  try (intro h; omega)
/-- What stands in memory within Right. -/
structure RgS (t : TypeId) (w wr : World) (M : List Int) (q : Option Addr) (k : Nat) (Ss : List (List Int)) : Prop where
  below : Below w.heap.size w wr
  pf : PfB t wr w.heap.size M (.slice q Ss.length k)
  hs : RdHs wr q Ss
theorem RgS.on {t : TypeId} {w wr w1 : World} {M : List Int} {q : Option Addr} {k : Nat} {Ss : List (List Int)} (h : RgS t w wr M q k Ss) (ok : HsOk Ss) (hb : Below wr.heap.size wr w1) : RgS t w w1 M q k Ss :=
  ⟨h.below.trans (hb.mono h.below.size), h.pf.on hb, h.hs.on (fun i hi => (ok.get i hi).1) hb⟩
theorem okS_cnt {M : List Int} {Ss : List (List Int)} (h : ¬ cntI M 256 = Ss.length) : okS M Ss = false := decide_eq_false fun e => h e.1
theorem okS_zero {M : List Int} {Ss : List (List Int)} {i : Nat} (hi : i < Ss.length) (h : Ss.getD i [] = zero32) : okS M Ss = false := decide_eq_false fun e => e.2 (by rw [← h]; simp [List.getD, hi])
theorem okS_yes {M : List Int} {Ss : List (List Int)} (hc : cntI M 256 = Ss.length) (h : ∀ i, i < Ss.length → ¬ Ss.getD i [] = zero32) : okS M Ss = true := decide_eq_true ⟨hc, fun hm => by
  obtain ⟨i, hi, e⟩ := List.getElem_of_mem hm
  exact h i hi (by simp [List.getD, hi, e])⟩
theorem RgS.start {t : TypeId} {w : World} {M : List Int} {q : Option Addr} {k : Nat} {Ss : List (List Int)} (hs : RdHs w q Ss) (ok : HsOk Ss) : RgS t w (w.alloc (.cells (pfRow M (.slice q Ss.length k)).toArray t)) M q k Ss :=
  ⟨(Below.refl _ _).alloc (Nat.le_refl _) _, PfB.new _ _ _, hs.on (fun i hi => (ok.get i hi).1) ((Below.refl _ _).alloc (Nat.le_refl _) _)⟩

set_option maxHeartbeats 8000000 in
theorem Right_any {w : World} {M : List Int} {q : Option Addr} {k : Nat} {Ss : List (List Int)} (hM : M.length = 32) (bM : Bytes M) (hs : RdHs w q Ss) (ok : HsOk Ss) (hn : Ss.length ≤ 140737488355328) :
    Calls Tryd.prog 26 #[.agg (pfRow M (.slice q Ss.length k)).toArray] w fun e w' => e = .returned (.bool (okS M Ss)) ∧ Below w.heap.size w w' := by
  have S0 : Hid (RgS 48 w _ M q k Ss) := Lib.hid (RgS.start (t := 48) (k := k) hs ok)
  have rm := S0.out.pf.mask hM
  have hlM := hc_len M
  have hlp := pfRow_len hM (.slice q Ss.length k)
  have BM := Lib.hid bM
  have OK := Lib.hid ok
  have z32 := zero32_len
  clear bM hs ok
  go_enter Tryd.func26, Tryd.ntmps26
  go_wp2_with fail
  clear rm
  generalize w.alloc (.cells (pfRow M (.slice q Ss.length k)).toArray 48) = w1 at *
  go_loopw [3, 10] (fun nv iv wr => ∃ j c : Nat, iv = .int .i64 (j : Int) ∧ j ≤ 32 ∧ nv = .int .i64 (c : Int) ∧ Hid (c = cntI M (8 * j)) ∧ Hid (RgS 48 w wr M q k Ss)) (fun _ iv _ => 32 - (intOf iv).toNat)
  case atStart => exact ⟨0, 0, rfl, by omega, rfl, rfl, S0⟩
  case round =>
    clear S0
    obtain ⟨j, c, rfl, hj, rfl, hc, hS⟩ := hrel
    by_cases hlt : j < 32
    · have hix := fun W => idxH32 W hlt hM
      have hb := BM.out.getD j
      have hcb := Lib.hid (cntI_byte BM.out j)
      have hcl : c ≤ 256 := by have := cntI_le M (8 * j); rw [hc.out]; omega
      obtain ⟨x, hx⟩ : ∃ x, M.getD j 0 = x := ⟨_, rfl⟩
      rw [hx] at hix hb hcb
      clear hx
      go_wp2_with fail
      refine (ones_any x wr hb.1 (by omega)).mono ?_
      rintro e wn ⟨rfl, h⟩
      obtain rfl := h.symm
      clear h
      have hol : Lib.onesCount x.toNat ≤ 8 := by
        have h1 := Lib.onesCount_le8 ⟨x.toNat, by omega⟩
        exact h1
      obtain ⟨d, hd⟩ : ∃ d, Lib.onesCount x.toNat = d := ⟨_, rfl⟩
      rw [hd] at hcb hol ⊢
      clear hd hix hb
      have hw : wrap64 ((c : Int) + (d : Int)) = ((c + d : Nat) : Int) := by unfold wrap64; omega
      go_wp2_with fail
      go_roundw
      case rel => exact ⟨j + 1, c + d, by go_num, by omega, by go_num, by show _ = _; rw [hcb.out, hc.out], hS⟩
      case measure => simp [intOf]; omega
    · obtain rfl : j = 32 := by omega
      have sd := hS.out.pf.sides hM
      have hcc := Lib.hid (show c = cntI M 256 from hc.out)
      clear hc
      by_cases hcn : c = Ss.length
      · have HC := Lib.hid (show cntI M 256 = Ss.length by rw [← hcc.out]; exact hcn)
        clear hcc
        subst hcn
        go_wp2_with fail
        go_loopw [26] (fun iv wr => ∃ i : Nat, iv = .int .i64 (i : Int) ∧ i ≤ Ss.length ∧ Hid (∀ m, m < i → ¬ Ss.getD m [] = zero32) ∧ Hid (RgS 48 w wr M q k Ss)) (fun iv _ => Ss.length - (intOf iv).toNat)
        case atStart => exact ⟨0, rfl, by omega, fun m hm => by omega, hS⟩
        case round =>
          clear hS sd
          obtain ⟨i, rfl, hi, hz, hS⟩ := hrel
          by_cases hlt : i < Ss.length
          · have hne : Ss ≠ [] := fun e => by rw [e] at hlt; simp at hlt
            obtain ⟨b, off, rfl, hx⟩ := hS.out.hs.resolve_left hne
            have r1 := hx i hlt
            have hl := (OK.out.get i hlt).1
            obtain ⟨F, hF⟩ : ∃ F, Ss.getD i [] = F := ⟨_, rfl⟩
            have HF := Lib.hid hF
            rw [hF] at r1 hl
            have lc := hc_len F
            have HZ := HashAt.new wr zero32
            have th := HZ.there zero32_len
            have rr := (HZ.put zero32_len hl).row hl
            have B1 : Below wr.heap.size wr ((wr.alloc (.cells (hc zero32).toArray 24)).setCells wr.heap.size 0 (hc F)) := below_setCells' _ (Nat.le_refl _) _ _ ((Below.refl _ _).alloc (Nat.le_refl _) _)
            have S1 := Lib.hid (hS.out.on OK.out B1)
            clear hx hne hF HZ B1
            by_cases he : F = zero32
            · have dz : (F == zero32) = true := by rw [he]; exact beq_self_eq_true _
              have HO := Lib.hid (okS_zero (M := M) hlt (by rw [HF.out]; exact he))
              have BE := Lib.hid S1.out.below
              clear he
              go_wp2_with fail
              go_ret
              exact ⟨by rw [HO.out]; rfl, BE.out⟩
            · have dz : (F == zero32) = false := by simpa using he
              have hz2 : Hid (∀ m, m < i + 1 → ¬ Ss.getD m [] = zero32) := fun m hm => by
                by_cases e : m = i
                · subst e; rw [HF.out]; exact he
                · exact hz.out m (by omega)
              clear he
              go_wp2_with fail
              go_roundw
              case rel => exact ⟨i + 1, by go_num, by omega, hz2, S1⟩
              case measure => simp [intOf]; omega
          · obtain rfl : i = Ss.length := by omega
            have HO := Lib.hid (okS_yes (M := M) HC.out hz.out)
            have BE := Lib.hid hS.out.below
            clear hS
            go_wp2_with fail
            go_ret
            exact ⟨by rw [HO.out]; rfl, BE.out⟩
      · have HO := Lib.hid (okS_cnt (M := M) (Ss := Ss) (by rw [← hcc.out]; exact hcn))
        have BE := Lib.hid hS.out.below
        have hd : ((c : Int) == (Ss.length : Int)) = false := by simp; omega
        clear hS
        go_wp2_with fail
        go_ret
        exact ⟨by rw [HO.out]; rfl, BE.out⟩

set_option maxHeartbeats 8000000 in
theorem refRight_any {w : World} {M : List Int} {q : Option Addr} {k : Nat} {Ss : List (List Int)} (hM : M.length = 32) (bM : Bytes M) (hs : RdHs w q Ss) (ok : HsOk Ss) (hn : Ss.length ≤ 140737488355328) :
    Calls Tryd.prog 67 #[.agg (pfRow M (.slice q Ss.length k)).toArray] w fun e w' => e = .returned (.bool (okS M Ss)) ∧ Below w.heap.size w w' := by
  have S0 : Hid (RgS 50 w _ M q k Ss) := Lib.hid (RgS.start (t := 50) (k := k) hs ok)
  have hlM := hc_len M
  have hlp := pfRow_len hM (.slice q Ss.length k)
  have BM := Lib.hid bM
  have OK := Lib.hid ok
  have z32 := zero32_len
  clear bM hs ok
  go_enter Tryd.func67, Tryd.ntmps67
  go_wp2_with fail
  generalize w.alloc (.cells (pfRow M (.slice q Ss.length k)).toArray 50) = w1 at *
  go_loopw [3, 4] (fun nv iv wr => ∃ j c : Nat, iv = .int .i64 (j : Int) ∧ j ≤ 256 ∧ nv = .int .i64 (c : Int) ∧ Hid (c = cntI M j) ∧ Hid (RgS 50 w wr M q k Ss)) (fun _ iv _ => 256 - (intOf iv).toNat)
  case atStart => exact ⟨0, 0, rfl, by omega, rfl, rfl, S0⟩
  case round =>
    clear S0
    obtain ⟨j, c, rfl, hj, rfl, hc, hS⟩ := hrel
    by_cases hlt : j < 256
    · have rm := hS.out.pf.mask hM
      have hcl : c ≤ 256 := by have := cntI_le M j; rw [hc.out]; omega
      go_wp2_with fail
      refine (rbit_any hM BM.out hlt).mono ?_
      rintro e w2 ⟨rfl, hb2⟩
      have S2 := Lib.hid (hS.out.on OK.out hb2)
      have hcb := Lib.hid (show cntI M (j + 1) = cntI M j + (bitI M j).toNat from rfl)
      obtain ⟨d, hd, hd1⟩ : ∃ d : Nat, bitI M j = (d : Int) ∧ d ≤ 1 := by
        rcases bitI_two (M := M) j with e | e
        · exact ⟨0, e, by omega⟩
        · exact ⟨1, e, by omega⟩
      rw [hd] at hcb ⊢
      rw [Int.toNat_natCast] at hcb
      clear hd hb2 hS rm
      have hw : wrap64 ((c : Int) + (d : Int)) = ((c + d : Nat) : Int) := by unfold wrap64; omega
      go_wp2_with fail
      go_roundw
      case rel => exact ⟨j + 1, c + d, by go_num, by omega, by go_num, by show _ = _; rw [hcb.out, hc.out], S2⟩
      case measure => simp [intOf]; omega
    · obtain rfl : j = 256 := by omega
      have sd := hS.out.pf.sides hM
      by_cases hcn : c = Ss.length
      · have HC := Lib.hid (show cntI M 256 = Ss.length by rw [← hc.out]; exact hcn)
        clear hc
        subst hcn
        go_wp2_with fail
        go_loopw [5] (fun iv wr => ∃ i : Nat, iv = .int .i64 (i : Int) ∧ i ≤ Ss.length ∧ Hid (∀ m, m < i → ¬ Ss.getD m [] = zero32) ∧ Hid (RgS 50 w wr M q k Ss)) (fun iv _ => Ss.length - (intOf iv).toNat)
        case atStart => exact ⟨0, rfl, by omega, fun m hm => by omega, hS⟩
        case round =>
          clear hS sd
          obtain ⟨i, rfl, hi, hz, hS⟩ := hrel
          by_cases hlt : i < Ss.length
          · have hne : Ss ≠ [] := fun e => by rw [e] at hlt; simp at hlt
            have sd := hS.out.pf.sides hM
            obtain ⟨b, off, rfl, hx⟩ := hS.out.hs.resolve_left hne
            have r1 := hx i hlt
            have hl := (OK.out.get i hlt).1
            obtain ⟨F, hF⟩ : ∃ F, Ss.getD i [] = F := ⟨_, rfl⟩
            have HF := Lib.hid hF
            rw [hF] at r1 hl
            have lc := hc_len F
            clear hx hne hF
            by_cases he : F = zero32
            · have dz : (F == zero32) = true := by rw [he]; exact beq_self_eq_true _
              have HO := Lib.hid (okS_zero (M := M) hlt (by rw [HF.out]; exact he))
              have BE := Lib.hid hS.out.below
              clear he
              go_wp2_with fail
              go_ret
              exact ⟨by rw [HO.out]; rfl, BE.out⟩
            · have dz : (F == zero32) = false := by simpa using he
              have hz2 : Hid (∀ m, m < i + 1 → ¬ Ss.getD m [] = zero32) := fun m hm => by
                by_cases e : m = i
                · subst e; rw [HF.out]; exact he
                · exact hz.out m (by omega)
              clear he
              go_wp2_with fail
              go_roundw
              case rel => exact ⟨i + 1, by go_num, by omega, hz2, hS⟩
              case measure => simp [intOf]; omega
          · obtain rfl : i = Ss.length := by omega
            have HO := Lib.hid (okS_yes (M := M) HC.out hz.out)
            have BE := Lib.hid hS.out.below
            clear hS
            go_wp2_with fail
            go_ret
            exact ⟨by rw [HO.out]; rfl, BE.out⟩
      · have HO := Lib.hid (okS_cnt (M := M) (Ss := Ss) (by rw [← hc.out]; exact hcn))
        have BE := Lib.hid hS.out.below
        have hd : ((c : Int) == (Ss.length : Int)) = false := by simp; omega
        clear hS
        go_wp2_with fail
        go_ret
        exact ⟨by rw [HO.out]; rfl, BE.out⟩
end Go.Proofs.YtjlodnecdngdfaaDoor
namespace Go.Proofs.YtjlodnecdngdfaaDoor
set_option maxRecDepth 100000
open Go.RowKit

/-- What stands beside the way at a level. -/
def sdI (M : List Int) (Ss : List (List Int)) (l : Nat) : List Int := if bitI M l = 1 then Ss.getD (cntI M l) [] else zero32
def stpS (K M : List Int) (Ss : List (List Int)) (l : Nat) (h : List Int) : List Int := if bitI K l = 0 then abH h (sdI M Ss l) else abH (sdI M Ss l) h
def upS (K M : List Int) (Ss : List (List Int)) (h : List Int) : Nat → List Int
  | 0 => h
  | k + 1 => stpS K M Ss (255 - k) (upS K M Ss h k)
def rootH (K V M : List Int) (Ss : List (List Int)) : List Int := if okS M Ss = true then upS K M Ss (lfH K V) 256 else zero32
def rootPE (M : List Int) (Ss : List (List Int)) : Int := if okS M Ss = true then 0 else 21
theorem stpS_len (K M : List Int) (Ss : List (List Int)) (l : Nat) (h : List Int) : (stpS K M Ss l h).length = 32 := by unfold stpS; split <;> exact abH_len _ _
theorem stpS_bytes (K M : List Int) (Ss : List (List Int)) (l : Nat) (h : List Int) : Bytes (stpS K M Ss l h) := by unfold stpS; split <;> exact abH_bytes _ _
theorem upS_len (K M : List Int) (Ss : List (List Int)) {h : List Int} (hh : h.length = 32) : ∀ k, (upS K M Ss h k).length = 32
  | 0 => hh
  | _ + 1 => stpS_len _ _ _ _ _
theorem upS_bytes (K M : List Int) (Ss : List (List Int)) {h : List Int} (hh : Bytes h) : ∀ k, Bytes (upS K M Ss h k)
  | 0 => hh
  | _ + 1 => stpS_bytes _ _ _ _ _
theorem rootH_len (K V M : List Int) (Ss : List (List Int)) : (rootH K V M Ss).length = 32 := by unfold rootH; split; exact upS_len _ _ _ (lfH_len _ _) _; exact zero32_len
theorem rootH_bytes (K V M : List Int) (Ss : List (List Int)) : Bytes (rootH K V M Ss) := by unfold rootH; split; exact upS_bytes _ _ _ (lfH_bytes _ _) _; exact zero32_bytes

/-- What stands in memory within Root: key, value, proof, answer. -/
structure RtS (t : TypeId) (w wr : World) (K V M : List Int) (v : Value) : Prop where
  below : Below w.heap.size w wr
  hK : HashAt wr w.heap.size K
  hV : HashAt wr (w.heap.size + 1) V
  pf : PfB t wr (w.heap.size + 2) M v
  hR : HashAt wr (w.heap.size + 3) zero32
section
variable {t : TypeId} {w W W' : World} {K V M : List Int} {v : Value}
theorem RtS.on (h : RtS t w W K V M v) (hb : Below W.heap.size W W') : RtS t w W' K V M v := ⟨h.below.trans (hb.mono h.below.size), h.hK.on hb, h.hV.on hb, h.pf.on hb, h.hR.on hb⟩
theorem RtS.put (h : RtS t w W K V M v) {b : Nat} (hb : w.heap.size + 3 < b) (o : Nat) (vs : List Value) : RtS t w (W.setCells b o vs) K V M v :=
  ⟨below_setCells' b (by omega) vs o h.below, h.hK.others (by omega) o vs, h.hV.others (by omega) o vs, h.pf.others (by omega) o vs, h.hR.others (by omega) o vs⟩
theorem RtS.start (t : TypeId) (w : World) (K V M : List Int) (v : Value) : RtS t w ((((w.alloc (.cells (hc K).toArray 24)).alloc (.cells (hc V).toArray 24)).alloc (.cells (pfRow M v).toArray t)).alloc (.cells (hc zero32).toArray 24)) K V M v := by
  have h1 := HashAt.new (w.alloc (.cells (hc K).toArray 24)) V
  have h2 := PfB.new (t := t) ((w.alloc (.cells (hc K).toArray 24)).alloc (.cells (hc V).toArray 24)) M v
  have h3 := HashAt.new (((w.alloc (.cells (hc K).toArray 24)).alloc (.cells (hc V).toArray 24)).alloc (.cells (pfRow M v).toArray t)) zero32
  simp only [World.size_alloc] at h1 h2 h3
  exact ⟨((((Below.refl w.heap.size w).alloc (Nat.le_refl _) _).alloc (by simp) _).alloc (by simp; omega) _).alloc (by simp; omega) _, (((HashAt.new w K).alloc _).alloc _).alloc _, (h1.alloc _).alloc _, h2.alloc _, h3⟩
end
theorem sdI_len {M : List Int} {Ss : List (List Int)} (ok : HsOk Ss) {l : Nat} (h : bitI M l = 1 → cntI M l < Ss.length) : (sdI M Ss l).length = 32 ∧ Bytes (sdI M Ss l) := by
  unfold sdI
  split
  · rename_i e; exact ok.get _ (h e)
  · exact ⟨zero32_len, zero32_bytes⟩


set_option maxHeartbeats 16000000 in
theorem pRoot_any {w : World} {K V M : List Int} {q : Option Addr} {k : Nat} {Ss : List (List Int)} (hT : Tbl w) (hK : K.length = 32) (hV : V.length = 32) (hM : M.length = 32) (bK : Bytes K) (bV : Bytes V) (bM : Bytes M) (hs : RdHs w q Ss) (ok : HsOk Ss) (hn : Ss.length ≤ 140737488355328) :
    Calls Tryd.prog 49 #[.agg (hc K).toArray, .agg (hc V).toArray, .agg (pfRow M (.slice q Ss.length k)).toArray] w fun e w' => e = .returned (.tuple #[.agg (hc (rootH K V M Ss)).toArray, .int .i64 (rootPE M Ss)]) ∧ Below w.heap.size w w' := by
  have S0 := Lib.hid (RtS.start 48 w K V M (.slice q Ss.length k))
  have BK := Lib.hid bK
  have BV := Lib.hid bV
  have BM := Lib.hid bM
  have OK := Lib.hid ok
  have HS : Hid (∀ W, Below w.heap.size w W → RdHs W q Ss) := fun W hb => hs.on (fun i hi => (ok.get i hi).1) hb
  have HT := Lib.hid hT
  have hlK := hc_len K
  have hlV := hc_len V
  have hlM := hc_len M
  have hlp := pfRow_len hM (.slice q Ss.length k)
  have z32 := zero32_len
  have r0 := S0.out.pf.whole hM
  clear bK bV bM hs ok hT
  go_enter Tryd.func49, Tryd.ntmps49
  go_wp2_with fail
  go_step3
  go_wp2_with fail
  clear r0
  generalize (((w.alloc (.cells (hc K).toArray 24)).alloc (.cells (hc V).toArray 24)).alloc (.cells (pfRow M (.slice q Ss.length k)).toArray 48)).alloc (.cells (hc zero32).toArray 24) = w1 at *
  refine (Right_any hM BM.out (HS.out _ S0.out.below) OK.out hn).mono ?_
  rintro e w2 ⟨rfl, hb2⟩
  have S2 := Lib.hid (S0.out.on hb2)
  clear hb2 S0
  by_cases hok : okS M Ss = true
  · have EH := Lib.hid (show rootH K V M Ss = upS K M Ss (lfH K V) 256 by unfold rootH; rw [if_pos hok])
    have EE := Lib.hid (show rootPE M Ss = 0 by unfold rootPE; rw [if_pos hok])
    have HC := Lib.hid (of_decide_eq_true hok).1
    rw [hok]
    clear hok
    have rK := S2.out.hK.row hK
    have rV := S2.out.hV.row hV
    go_wp2_with fail
    refine (Leaf_any (HT.out.on S2.out.below HT.out.pos) hK hV BK.out BV.out).mono ?_
    rintro e w3 ⟨rfl, hb3⟩
    have S3 := S2.out.on hb3
    have lL := lfH_len K V
    have bL := Lib.hid (lfH_bytes K V)
    obtain ⟨F, hF⟩ : ∃ F, lfH K V = F := ⟨_, rfl⟩
    rw [hF] at lL bL EH ⊢
    have H3 := HashAt.new w3 zero32
    have th3 := H3.there zero32_len
    have lr3 := S3.hR.lt
    have S4 := Lib.hid ((S3.on ((Below.refl _ _).alloc (Nat.le_refl _) (.cells (hc zero32).toArray 24))).put (b := w3.heap.size) (by omega) 0 (hc F))
    have H4 := Lib.hid (H3.put zero32_len lL)
    have hhb : w.heap.size + 3 < w3.heap.size := by omega
    have sd4 := S4.out.pf.sides hM
    have lF := hc_len F
    clear hF hb3 S3 H3 S2 rK rV lr3
    go_wp2_with fail
    clear th3 sd4
    obtain ⟨hb, hhe⟩ : ∃ hb, hb = w3.heap.size := ⟨_, rfl⟩
    rw [← hhe] at S4 H4 hhb ⊢
    generalize (w3.alloc (.cells (hc zero32).toArray 24)).setCells hb 0 (hc F) = w4 at *
    clear hhe
    go_step3
    go_wp2_with fail
    go_loopw [9, 10] (fun nv iv wr => ∃ k' c : Nat, iv = .int .i64 (255 - (k' : Int)) ∧ k' ≤ 256 ∧ nv = .int .i64 (c : Int) ∧ Hid (c = cntI M (256 - k')) ∧ Hid (RtS 48 w wr K V M (.slice q Ss.length k)) ∧ Hid (HashAt wr hb (upS K M Ss F k'))) (fun _ iv _ => (intOf iv + 1).toNat)
    case atStart => exact ⟨0, Ss.length, rfl, by omega, rfl, by show _ = _; rw [HC.out], S4, H4⟩
    case round =>
      clear S4 H4
      obtain ⟨k', c, rfl, hk', rfl, hcq, hS, hH⟩ := hrel
      have lX := upS_len K M Ss lL k'
      by_cases hlt : k' < 256
      · obtain ⟨i, hi⟩ : ∃ i : Nat, 255 - (k' : Int) = i := ⟨255 - k', by omega⟩
        have hi2 : i < 256 := by omega
        have HI := Lib.hid (show 255 - k' = i by omega)
        have hc1 : c = cntI M i + (bitI M i).toNat := by
          rw [hcq.out, show 256 - k' = i + 1 by omega]; rfl
        have hcle : cntI M (i + 1) ≤ Ss.length := by rw [← HC.out]; exact cntI_mono M (by omega)
        have hside : bitI M i = 1 → cntI M i < Ss.length := fun e => by
          have : cntI M (i + 1) = cntI M i + (bitI M i).toNat := rfl
          rw [e] at this; simp at this; omega
        obtain ⟨lD, bD0⟩ := sdI_len OK.out hside
        have bD := Lib.hid bD0
        rw [hi]
        have bX := Lib.hid (upS_bytes K M Ss bL.out k')
        have HU := Lib.hid (show upS K M Ss F (k' + 1) = stpS K M Ss i (upS K M Ss F k') by rw [upS, HI.out])
        obtain ⟨X, hX⟩ : ∃ X, upS K M Ss F k' = X := ⟨_, rfl⟩
        rw [hX] at lX bX hH HU
        have A1 := HashAt.new wr zero32
        have SD : Hid (sdI M Ss i = sdI M Ss i) := rfl
        have HC1 := Lib.hid hc1
        clear hX bD0 hcq hc1
        have S1 := Lib.hid (hS.out.on ((Below.refl _ _).alloc (Nat.le_refl _) (.cells (hc zero32).toArray 24)))
        have H1 := Lib.hid (hH.out.alloc (.cells (hc zero32).toArray 24))
        have lth := hH.out.lt
        have rmk := S1.out.pf.mask hM
        have D1 := Lib.hid A1
        clear A1
        go_wp2_with fail
        obtain ⟨sb0, hsb0⟩ : ∃ sb0, sb0 = wr.heap.size := ⟨_, rfl⟩
        have hsb : w.heap.size + 3 < sb0 := by omega
        rw [← hsb0] at D1 lth ⊢
        generalize wr.alloc (.cells (hc zero32).toArray 24) = w1' at *
        clear hsb0
        clear rmk
        refine (pbit_any hM BM.out hi2).mono ?_
        rintro e w5 ⟨rfl, hb5⟩
        have S5' := S1.out.on hb5
        have H5' := H1.out.on hb5
        have D5' := D1.out.on hb5
        have HQ := HS.out _ S5'.below
        have sb := hsb
        clear hb5 S1 H1 D1 hS hH
        rcases bitI_two (M := M) i with eb | eb
        · have HDz : Hid (sdI M Ss i = zero32) := by show _ = _; unfold sdI; rw [if_neg (by rw [eb]; decide)]
          have hcc : c = cntI M i := by rw [HC1.out, eb]; simp
          rw [HDz.out] at lD bD
          obtain ⟨D, hD⟩ : ∃ D, zero32 = D := ⟨_, rfl⟩
          have dbit : (bitI M i == 1) = false := by rw [eb]; rfl
          obtain ⟨y, hy⟩ : ∃ y, bitI M i = y := ⟨_, rfl⟩
          rw [hy] at dbit ⊢
          have S5 := Lib.hid S5'
          have H5 := Lib.hid H5'
          rw [hD] at D5' HDz lD bD
          have D5 := Lib.hid D5'
          have rk := S5.out.hK.row hK
          subst hcc
          clear S5' H5' D5' HQ HC1 hcle hside eb hy hD
          go_wp2_with fail
          refine (pbit_any hK BK.out hi2).mono ?_
          rintro e w6 ⟨rfl, hb6⟩
          have S6 := Lib.hid (S5.out.on hb6)
          have H6 := Lib.hid (H5.out.on hb6)
          have D6 := D5.out.on hb6
          have rx := H6.out.row lX
          have rd := D6.row lD
          have T6 := HT.out.on S6.out.below HT.out.pos
          have lxx := hc_len X
          have ldd := hc_len D
          clear hb6 S5 H5 D5 D6 rk
          obtain ⟨z, hz0⟩ : ∃ z, bitI K i = z := ⟨_, rfl⟩
          have HKz := Lib.hid hz0
          rw [hz0]
          clear hz0
          by_cases hz : z = 0
          · have dz : (z == 0) = true := by rw [hz]; rfl
            have HU2 := Lib.hid (show stpS K M Ss i X = abH X D by unfold stpS; rw [HDz.out, if_pos (by rw [HKz.out]; exact hz)])
            clear hz
            go_wp2_with fail
            refine (Above_any T6 lX lD bX.out bD.out).mono ?_
            rintro e w7 ⟨rfl, hb7⟩
            have S7 := S6.out.on hb7
            have H7 := H6.out.on hb7
            have lY := abH_len X D
            rw [HU2.out] at HU
            obtain ⟨Y, hY⟩ : ∃ Y, abH X D = Y := ⟨_, rfl⟩
            rw [hY] at lY HU ⊢
            have th7 := H7.there lX
            have S8 := Lib.hid (S7.put hhb 0 (hc Y))
            have H8 := Lib.hid (H7.put lX lY)
            have ly := hc_len Y
            clear hY hb7 S7 H7 S6 H6 rx rd HU2 T6
            go_wp2_with fail
            go_roundw
            case rel => exact ⟨k' + 1, cntI M i, by congr 1; omega, by omega, rfl, by show _ = _; congr 1; omega, S8, by rw [HU.out]; exact H8⟩
            case measure => simp [intOf] <;> omega
          · have dz : (z == 0) = false := by simpa using hz
            have HU2 := Lib.hid (show stpS K M Ss i X = abH D X by unfold stpS; rw [HDz.out, if_neg (by rw [HKz.out]; exact hz)])
            clear hz
            go_wp2_with fail
            refine (Above_any T6 lD lX bD.out bX.out).mono ?_
            rintro e w7 ⟨rfl, hb7⟩
            have S7 := S6.out.on hb7
            have H7 := H6.out.on hb7
            have lY := abH_len D X
            rw [HU2.out] at HU
            obtain ⟨Y, hY⟩ : ∃ Y, abH D X = Y := ⟨_, rfl⟩
            rw [hY] at lY HU ⊢
            have th7 := H7.there lX
            have S8 := Lib.hid (S7.put hhb 0 (hc Y))
            have H8 := Lib.hid (H7.put lX lY)
            have ly := hc_len Y
            clear hY hb7 S7 H7 S6 H6 rx rd HU2 T6
            go_wp2_with fail
            go_roundw
            case rel => exact ⟨k' + 1, cntI M i, by congr 1; omega, by omega, rfl, by show _ = _; congr 1; omega, S8, by rw [HU.out]; exact H8⟩
            case measure => simp [intOf] <;> omega
          
        · have hcl := hside eb
          have HDz : Hid (sdI M Ss i = Ss.getD (cntI M i) []) := by show _ = _; unfold sdI; rw [if_pos eb]
          have hcc : c = cntI M i + 1 := by rw [HC1.out, eb]; rfl
          rw [HDz.out] at lD bD
          have hne : Ss ≠ [] := fun e => by rw [e] at hcl; simp at hcl
          obtain ⟨b, off, rfl, hx⟩ := HQ.resolve_left hne
          have rs := hx _ hcl
          have dbit : (bitI M i == 1) = true := by rw [eb]; rfl
          obtain ⟨D, hD⟩ : ∃ D, Ss.getD (cntI M i) [] = D := ⟨_, rfl⟩
          rw [hD] at lD bD HDz rs
          obtain ⟨y, hy⟩ : ∃ y, bitI M i = y := ⟨_, rfl⟩
          rw [hy] at dbit ⊢
          obtain ⟨u, hu⟩ : ∃ u, cntI M i = u := ⟨_, rfl⟩
          have HUU := Lib.hid hu
          rw [hu] at hcl hcc rs
          have sds := S5'.pf.sides hM
          have th5 := D5'.there zero32_len
          have lDD := hc_len D
          have S5 := Lib.hid (S5'.put (b := sb0) (by omega) 0 (hc D))
          have H5 := Lib.hid (H5'.others (k := sb0) (by omega) 0 (hc D))
          have D5 := Lib.hid (D5'.put zero32_len lD)
          have rk := S5.out.hK.row hK
          have hw : wrap64 (((u + 1 : Nat) : Int) - 1) = (u : Int) := by unfold wrap64; omega
          have hw2 : ((u : Int) + 1 - 1) = (u : Int) := by omega
          subst hcc
          clear S5' H5' D5' HC1 hcle hside eb hy hD hx hne hu
          go_wp2_with fail
          refine (pbit_any hK BK.out hi2).mono ?_
          rintro e w6 ⟨rfl, hb6⟩
          have S6 := Lib.hid (S5.out.on hb6)
          have H6 := Lib.hid (H5.out.on hb6)
          have D6 := D5.out.on hb6
          have rx := H6.out.row lX
          have rd := D6.row lD
          have T6 := HT.out.on S6.out.below HT.out.pos
          have lxx := hc_len X
          have ldd := hc_len D
          clear hb6 S5 H5 D5 D6 rk
          obtain ⟨z, hz0⟩ : ∃ z, bitI K i = z := ⟨_, rfl⟩
          have HKz := Lib.hid hz0
          rw [hz0]
          clear hz0
          by_cases hz : z = 0
          · have dz : (z == 0) = true := by rw [hz]; rfl
            have HU2 := Lib.hid (show stpS K M Ss i X = abH X D by unfold stpS; rw [HDz.out, if_pos (by rw [HKz.out]; exact hz)])
            clear hz
            go_wp2_with fail
            refine (Above_any T6 lX lD bX.out bD.out).mono ?_
            rintro e w7 ⟨rfl, hb7⟩
            have S7 := S6.out.on hb7
            have H7 := H6.out.on hb7
            have lY := abH_len X D
            rw [HU2.out] at HU
            obtain ⟨Y, hY⟩ : ∃ Y, abH X D = Y := ⟨_, rfl⟩
            rw [hY] at lY HU ⊢
            have th7 := H7.there lX
            have S8 := Lib.hid (S7.put hhb 0 (hc Y))
            have H8 := Lib.hid (H7.put lX lY)
            have ly := hc_len Y
            clear hY hb7 S7 H7 S6 H6 rx rd HU2 T6
            go_wp2_with fail
            go_roundw
            case rel => exact ⟨k' + 1, _, by congr 1; omega, by omega, rfl, by show _ = _; rw [← HUU.out]; congr 1; omega, S8, by rw [HU.out]; exact H8⟩
            case measure => simp [intOf] <;> omega
          · have dz : (z == 0) = false := by simpa using hz
            have HU2 := Lib.hid (show stpS K M Ss i X = abH D X by unfold stpS; rw [HDz.out, if_neg (by rw [HKz.out]; exact hz)])
            clear hz
            go_wp2_with fail
            refine (Above_any T6 lD lX bD.out bX.out).mono ?_
            rintro e w7 ⟨rfl, hb7⟩
            have S7 := S6.out.on hb7
            have H7 := H6.out.on hb7
            have lY := abH_len D X
            rw [HU2.out] at HU
            obtain ⟨Y, hY⟩ : ∃ Y, abH D X = Y := ⟨_, rfl⟩
            rw [hY] at lY HU ⊢
            have th7 := H7.there lX
            have S8 := Lib.hid (S7.put hhb 0 (hc Y))
            have H8 := Lib.hid (H7.put lX lY)
            have ly := hc_len Y
            clear hY hb7 S7 H7 S6 H6 rx rd HU2 T6
            go_wp2_with fail
            go_roundw
            case rel => exact ⟨k' + 1, _, by congr 1; omega, by omega, rfl, by show _ = _; rw [← HUU.out]; congr 1; omega, S8, by rw [HU.out]; exact H8⟩
            case measure => simp [intOf] <;> omega
          
      · obtain rfl : k' = 256 := by omega
        obtain ⟨X, hX⟩ : ∃ X, upS K M Ss F 256 = X := ⟨_, rfl⟩
        have HX := Lib.hid hX
        rw [hX] at hH lX
        have rx := hH.out.row lX
        have thR := hS.out.hR.there zero32_len
        have hput := (hS.out.hR.put zero32_len lX).row lX
        have BE := Lib.hid (below_setCells' (B := w.heap.size) (w.heap.size + 3) (by omega) (hc X) 0 hS.out.below)
        have lxx := hc_len X
        clear hX hS hH hcq
        go_wp2_with fail
        rw [Exit.noGoto_ret]
        refine bodyPost_ret (v := .tuple #[.agg (hc X).toArray, .int .i64 0]) (by simp [results, Tryd.results49, go_sem, hput, lX]) rfl ⟨by rw [EH.out, EE.out, HX.out], BE.out⟩
  · have hok' : okS M Ss = false := by simpa using hok
    have EH := Lib.hid (show rootH K V M Ss = zero32 by unfold rootH; rw [if_neg hok])
    have EE := Lib.hid (show rootPE M Ss = 21 by unfold rootPE; rw [if_neg hok])
    rw [hok']
    have thR := S2.out.hR.there zero32_len
    have hput := (S2.out.hR.put zero32_len zero32_len).row zero32_len
    have BE := Lib.hid (below_setCells' (B := w.heap.size) (w.heap.size + 3) (by omega) (hc zero32) 0 S2.out.below)
    clear hok hok' S2
    go_wp2_with fail
    rw [Exit.noGoto_ret]
    refine bodyPost_ret (v := .tuple #[.agg (hc zero32).toArray, .int .i64 21]) (by simp [results, Tryd.results49, go_sem, hput, z32]) rfl ⟨by rw [EH.out, EE.out], BE.out⟩
end Go.Proofs.YtjlodnecdngdfaaDoor
