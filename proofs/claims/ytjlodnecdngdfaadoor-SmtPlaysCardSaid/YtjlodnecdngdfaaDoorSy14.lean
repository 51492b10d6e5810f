/-
  A hash as a law's argument.; A struct's fields, as a law's argument holds them.; Cells that make a row.; Slices of hashes; rows of hashes of the call's own.; A proof of a key, as a law's argument.; Slices of whatever rows, and of pairs, as a law's argument.; A map of the call's own, from call to call; a pair's two halves.; A row of pairs as it reads in memory.; Package smt: New of any row of pairs under unlike keys.; Package smt: New of any row of pairs, alike keys too.
-/
import Derived.Deep.Slices
import Derived.RangeFuncOwn
import Derived.SizedLaws
import Derived.Test.YtjlodnecdngdfaaDoorSy2
import Derived.Test.YtjlodnecdngdfaaDoorSy6
import Derived.Test.YtjlodnecdngdfaaDoorSy12
import Derived.Test.YtjlodnecdngdfaaDoorSy13
namespace Go.Proofs.YtjlodnecdngdfaaDoor
set_option maxRecDepth 100000
open Go.ChangeShapes Go.WideShapes Go.ChangeAt Go.RowKit

theorem mapM_mem {α β : Type} {f : α → Option β} : ∀ {L : List α} {xs : List β}, L.mapM f = some xs → ∀ i ∈ L, ∃ y, f i = some y
  | [], _, _, i, hi => by simp at hi
  | a :: L, xs, h, i, hi => by
    rw [List.mapM_cons] at h
    simp only [bind, Option.bind_eq_some_iff, pure, Option.some.injEq] at h
    obtain ⟨y, hy, ys, hys, _⟩ := h
    rcases List.mem_cons.1 hi with rfl | hi
    · exact ⟨y, hy⟩
    · exact mapM_mem hys i hi

section
variable {H : Type} {enc : TypeId × Value → H} {P : Program} {w : World} {base : Nat} {spare : Nat → Bool} {held : Bool}

end
end Go.Proofs.YtjlodnecdngdfaaDoor
namespace Go.Proofs.YtjlodnecdngdfaaDoor
set_option maxRecDepth 100000
open Go.ChangeShapes Go.WideShapes Go.ChangeAt Go.RowKit

section
variable {H : Type} {enc : TypeId × Value → H} {P : Program} {w : World} {base : Nat} {spare : Nat → Bool} {held : Bool}

end
end Go.Proofs.YtjlodnecdngdfaaDoor
namespace Go.Proofs.YtjlodnecdngdfaaDoor
end Go.Proofs.YtjlodnecdngdfaaDoor
namespace Go.Proofs.YtjlodnecdngdfaaDoor
set_option maxRecDepth 100000
open Go.RowKit

/-- A slice of hashes. -/
def RdHs (w : World) (q : Option Addr) (Ss : List (List Int)) : Prop := Ss = [] ∨ ∃ b off, q = some ⟨b, off, none⟩ ∧ ∀ i, i < Ss.length → rowOf w b (off + i * 32) 32 = hc (Ss.getD i [])
theorem blk_onB2 {w w' : World} {b : Nat} {x : Obj} (h : w.heap[b]? = some x) (hb : Below w.heap.size w w') : w'.heap[b]? = some x := by
  rw [hb.block b (Array.getElem?_eq_some_iff.1 h).1]; exact h
theorem rowOf_on {w w' : World} {b o n : Nat} (h : 0 < (rowOf w b o n).length) (hb : Below w.heap.size w w') : rowOf w' b o n = rowOf w b o n := by
  unfold rowOf at *
  cases e : w.heap[b]? with
  | none => rw [e] at h; simp at h
  | some x => rw [blk_onB2 e hb]
theorem RdHs.on {w w' : World} {q : Option Addr} {Ss : List (List Int)} (h : RdHs w q Ss) (hS : ∀ i, i < Ss.length → (Ss.getD i []).length = 32) (hb : Below w.heap.size w w') : RdHs w' q Ss := by
  rcases h with h | ⟨b, off, e, hx⟩
  · exact .inl h
  · refine .inr ⟨b, off, e, fun i hi => ?_⟩
    rw [rowOf_on (by rw [hx i hi, hc_len, hS i hi]; omega) hb]
    exact hx i hi
/-- The cells of a row of hashes. -/
def hcs (Ss : List (List Int)) : List Value := Ss.flatMap hc
theorem hcs_append (A B : List (List Int)) : hcs (A ++ B) = hcs A ++ hcs B := by simp [hcs]
theorem hcs_one (F : List Int) : hcs [F] = hc F := by simp [hcs]
/-- Hashes: 32 bytes each. -/
def HsOk (Ss : List (List Int)) : Prop := ∀ F ∈ Ss, F.length = 32 ∧ Bytes F
theorem HsOk.get {Ss : List (List Int)} (h : HsOk Ss) (i : Nat) (hi : i < Ss.length) : (Ss.getD i []).length = 32 ∧ Bytes (Ss.getD i []) := by
  have e : Ss.getD i [] = Ss[i] := by simp [List.getD, hi]
  rw [e]
  exact h _ (List.getElem_mem hi)
theorem HsOk.nil : HsOk [] := fun _ h => by cases h
theorem HsOk.append {A B : List (List Int)} (hA : HsOk A) (hB : HsOk B) : HsOk (A ++ B) := fun F h => (List.mem_append.1 h).elim (hA F) (hB F)
theorem HsOk.one {F : List Int} (h : F.length = 32) (b : Bytes F) : HsOk [F] := fun G hG => by
  obtain rfl := List.mem_singleton.1 hG
  exact ⟨h, b⟩
theorem hcs_len : ∀ {Ss : List (List Int)}, HsOk Ss → (hcs Ss).length = Ss.length * 32
  | [], _ => rfl
  | F :: Ss, h => by
    have h1 := hcs_len (Ss := Ss) (fun G hG => h G (List.mem_cons_of_mem _ hG))
    have h2 := (h F (List.mem_cons_self ..)).1
    have e : hcs (F :: Ss) = hc F ++ hcs Ss := rfl
    rw [e, List.length_append, h1, hc_len, h2, List.length_cons]
    omega
theorem hcs_mid (tail : List Value) : ∀ {Ss : List (List Int)}, HsOk Ss → ∀ i, i < Ss.length → ((hcs Ss ++ tail).drop (i * 32)).take 32 = hc (Ss.getD i [])
  | [], _, i, hi => by simp at hi
  | F :: Ss, h, i, hi => by
    have h2 := (h F (List.mem_cons_self ..)).1
    have e : hcs (F :: Ss) ++ tail = hc F ++ (hcs Ss ++ tail) := by rw [← List.append_assoc]; rfl
    have hl : (hc F).length = 32 := by rw [hc_len, h2]
    rw [e]
    cases i with
    | zero => rw [Nat.zero_mul, List.drop_zero]; exact List.take_left' hl
    | succ i =>
      rw [List.drop_append, hl, List.drop_eq_nil_of_le (by omega), List.nil_append, show (i + 1) * 32 - 32 = i * 32 by omega]
      exact hcs_mid tail (fun G hG => h G (List.mem_cons_of_mem _ hG)) i (by simpa using hi)
theorem hcs_cell : ∀ {Ss : List (List Int)}, HsOk Ss → ∀ {j : Nat} {u : Value}, (hcs Ss)[j]? = some u → j / 32 < Ss.length ∧ (hc (Ss.getD (j / 32) []))[j % 32]? = some u
  | [], _, j, u, hj => by simp [hcs] at hj
  | F :: Ss, h, j, u, hj => by
    have h2 := (h F (List.mem_cons_self ..)).1
    have hl : (hc F).length = 32 := by rw [hc_len, h2]
    have e : hcs (F :: Ss) = hc F ++ hcs Ss := rfl
    rw [e] at hj
    by_cases hlt : j < 32
    · rw [List.getElem?_append_left (by omega)] at hj
      rw [show j / 32 = 0 by omega, show j % 32 = j by omega]
      exact ⟨by simp, hj⟩
    · rw [List.getElem?_append_right (by omega), hl] at hj
      obtain ⟨h3, h4⟩ := hcs_cell (fun G hG => h G (List.mem_cons_of_mem _ hG)) hj
      have e1 : j / 32 = (j - 32) / 32 + 1 := by omega
      have e2 : j % 32 = (j - 32) % 32 := by omega
      rw [e1, e2]
      exact ⟨by simp; omega, h4⟩
theorem hcs_cells_one (Ss : List (List Int)) : ∀ u ∈ hcs Ss, u.oneCell' = true := by
  intro u hu
  obtain ⟨F, _, hF⟩ := List.mem_flatMap.1 hu
  exact (Array.all_eq_true_iff_forall_mem.1 (hc_one F)) u (by simpa using hF)

/-! ### A row that reads as hashes -/
theorem RdHs.cell {w : World} {b off : Nat} {Ss : List (List Int)} (hx : ∀ i, i < Ss.length → rowOf w b (off + i * 32) 32 = hc (Ss.getD i [])) (ok : HsOk Ss) {j : Nat} {u : Value} (hj : (hcs Ss)[j]? = some u) : w.cell? ⟨b, off + j, none⟩ = some u := by
  obtain ⟨h1, h2⟩ := hcs_cell ok hj
  have := range_rowOf w b (off + j / 32 * 32) 32 (j % 32) u (by rw [hx _ h1]; exact h2)
  rw [show off + j / 32 * 32 + j % 32 = off + j by omega] at this
  exact this
theorem RdHs.src {P : Program} {w : World} {tx e' : TypeId} {q : Option Addr} {c : Nat} {Ss : List (List Int)} (h : RdHs w q Ss) (ok : HsOk Ss) (hk : P.underlying tx = some (.slice e')) : Src P 32 tx (.slice q Ss.length c) Ss.length (hcs Ss) w := by
  rcases h with rfl | ⟨b, off, rfl, hx⟩
  · cases q with
    | none => exact Src.ofNil w hk c
    | some a => exact Src.ofSlice w hk a 0 c [] (by simp) (fun j u hu => by simp at hu) (by simp)
  · refine Src.ofSlice w hk _ _ _ _ (hcs_len ok) (fun j u hu => ?_) (hcs_cells_one Ss)
    rw [addr_add]
    exact RdHs.cell hx ok hu
theorem rdHs_block {w : World} {b : Nat} {T : TypeId} {fr : Nat × Nat} {tail : List Value} {Ss : List (List Int)} (h : w.heap[b]? = some (.cells (hcs Ss ++ tail).toArray T fr)) (ok : HsOk Ss) : RdHs w (some ⟨b, 0, none⟩) Ss := by
  refine .inr ⟨b, 0, rfl, fun i hi => ?_⟩
  rw [rowOf_block h, Nat.zero_add, ← hcs_mid tail ok i hi]
  simp [List.take_drop]
theorem RdHs.nil (w : World) (q : Option Addr) : RdHs w q [] := .inl rfl

/-- A row of hashes that the call lays. -/
structure HsS (w wr : World) (v : Value) (Ss : List (List Int)) : Prop where
  own : wr.ownsRow 0 24 32 v Ss.length (hcs Ss)
  ok : HsOk Ss
  fresh : ∀ g, v.ownBlock = some g → w.heap.size ≤ g
  below : Below w.heap.size w wr
theorem HsS.start (w : World) : HsS w w (.slice none 0 0) [] := ⟨World.ownsRow_nil w 0 _ 32, HsOk.nil, by simp [Value.ownBlock], Below.refl _ _⟩
theorem HsS.on {w wr w1 : World} {v : Value} {Ss : List (List Int)} (h : HsS w wr v Ss) (hb : Below wr.heap.size wr w1) : HsS w w1 v Ss :=
  ⟨own_on h.own hb, h.ok, h.fresh, h.below.trans (hb.mono h.below.size)⟩
theorem HsS.grow {w wr w2 : World} {v v' : Value} {Ss Ts : List (List Int)} {m : Nat} (h : HsS w wr v Ss) (ok : HsOk Ts) (hm : Ts.length = m) (own : w2.ownsRow 0 24 32 v' (Ss.length + m) (hcs Ss ++ hcs Ts)) (grow : wr.grownBy w2 v.ownBlock) (fr : v'.ownBlock = v.ownBlock ∨ v'.ownBlock = some wr.heap.size) : HsS w w2 v' (Ss ++ Ts) := by
  subst hm
  refine ⟨by rw [List.length_append, hcs_append]; exact own, h.ok.append ok, fun g hg => ?_, h.below.grown grow h.below.size (fun k hk => h.fresh k hk)⟩
  rcases fr with e | e
  · rw [e] at hg; exact h.fresh g hg
  · rw [e] at hg; have := h.below.size; simp at hg; omega
theorem HsS.rd {w wr : World} {q : Option Addr} {n c : Nat} {Ss : List (List Int)} (h : HsS w wr (.slice q n c) Ss) : n = Ss.length ∧ RdHs wr q Ss ∧ n ≤ c ∧ c ≤ maxLen := by
  rcases h.own.2 with ⟨e, h0⟩ | ⟨g, cap, cur, e, _, hg, hnc, hcm, hcs', htake⟩
  · simp only [Value.slice.injEq] at e
    obtain ⟨rfl, rfl, rfl⟩ := e
    have h1 : Ss = [] := List.eq_nil_of_length_eq_zero h0
    subst h1
    exact ⟨rfl, .inl rfl, Nat.le_refl _, by unfold maxLen; omega⟩
  · simp only [Value.slice.injEq] at e
    obtain ⟨rfl, rfl, rfl⟩ := e
    refine ⟨rfl, ?_, hnc, hcm⟩
    have hc2 : cur = (hcs Ss ++ cur.toList.drop (Ss.length * 32)).toArray := by
      apply Array.ext'
      show cur.toList = hcs Ss ++ cur.toList.drop (Ss.length * 32)
      rw [← htake, List.take_append_drop]
    rw [hc2] at hg
    exact rdHs_block hg h.ok
theorem one_hs {w : World} {F : List Int} (h : F.length = 32) (b : Bytes F) : RdHs (w.alloc (.cells (hc F).toArray 24)) (some ⟨w.heap.size, 0, none⟩) [F] := by
  refine rdHs_block (tail := []) (T := 24) (fr := (0, 0)) ?_ (HsOk.one h b)
  rw [List.append_nil, hcs_one]
  exact heap_alloc_new w _
theorem Tryd.infoHs : (Tryd.prog.info? 24).map (fun i => (i.zero, i.size, i.bytes)) = some (some (.agg (hc zero32).toArray), 32, 32) := by kernel_rfl
theorem zero_cells : (Value.agg (hc zero32).toArray).cells.size = 32 := by rfl

end Go.Proofs.YtjlodnecdngdfaaDoor
namespace Go.Proofs.YtjlodnecdngdfaaDoor
set_option maxRecDepth 100000
open Go.ChangeShapes Go.WideShapes Go.ChangeAt Go.RowKit Go.Deep

section
variable {H : Type} {enc : TypeId × Value → H} {P : Program} {w : World} {base : Nat} {held : Bool}

theorem trod_struct {t : TypeId} {fs : Array Field} {fuel n : Nat} {cs : List Value} {x : DataW H × List MemPlace} (ht : P.underlying t = some (.struct fs)) (hC : P.cellsOf t = n) (h : DataW.trod enc P w base (fun _ => true) held fuel t cs = some x) :
    cs.length = n ∧ ∃ m, ∃ ys : List (DataW H × List MemPlace), x.1 = .agg (ys.map (·.1)) ∧
      ∀ (i : Nat) f, fs.toList[i]? = some f → ∃ y, ys[i]? = some y ∧ DataW.trod enc P w base (fun _ => true) held m f.type ((cs.drop f.offset).take (P.cellsOf f.type)) = some y := by
  cases fuel with
  | zero => simp [DataW.trod] at h
  | succ m =>
    rw [DataW.trod_step] at h
    unfold DataW.trodStep at h
    simp only [ht, hC] at h
    split at h
    · rename_i hl
      simp only [Option.map_eq_some_iff] at h
      obtain ⟨ys, hy, hx⟩ := h
      refine ⟨hl, m, ys, by rw [← hx], fun i f hf => ?_⟩
      have h1 := mapM_some_get hy i f hf
      obtain ⟨y, hyy⟩ := mapM_mem hy f (List.mem_of_getElem? hf)
      exact ⟨y, by rw [← h1]; exact hyy, hyy⟩
    · simp at h
theorem weights_mem_all {e : TypeId} : ∀ {el : List (DataW H)} {d : DataW H}, d ∈ el → ∀ n ∈ d.weights P e, n ∈ DataW.weightsAll P e el
  | [], d, hd, _, _ => by cases hd
  | c :: el, d, hd, n, hn => by
    rw [DataW.weightsAll]
    rcases List.mem_cons.1 hd with rfl | hd
    · exact List.mem_append.2 (.inl hn)
    · exact List.mem_append.2 (.inr (weights_mem_all hd n hn))
theorem weights_slice {t e : TypeId} (ht : P.underlying t = some (.slice e)) {el sp : List (DataW H)} (h : ∀ n ∈ (DataW.slice el sp).weights P t, n ≤ reachBytes) : el.length * P.bytesOf e ≤ reachBytes ∧ ∀ d ∈ el, ∀ n ∈ d.weights P e, n ≤ reachBytes := by
  rw [DataW.weights, ht] at h
  simp only at h
  refine ⟨Nat.le_trans (Nat.mul_le_mul_right _ (Nat.le_add_right _ sp.length)) (h _ (List.mem_cons_self ..)), fun d hd n hn => h n ?_⟩
  exact List.mem_cons.2 (.inr (List.mem_append.2 (.inl (weights_mem_all hd n hn))))
end

section
variable {H : Type} {enc : TypeId × Value → H} {w : World} {base : Nat} {held : Bool}
end
end Go.Proofs.YtjlodnecdngdfaaDoor
namespace Go.Proofs.YtjlodnecdngdfaaDoor
set_option maxRecDepth 100000
open Go.ChangeShapes Go.WideShapes Go.ChangeAt Go.RowKit Go.Deep

theorem rowOf_vals {w : World} {b o n : Nat} {cs : List Value} (hn : cs.length = n) (h0 : 0 < n) (h : ∀ j v, cs[j]? = some v → w.cell? ⟨b, o + j, none⟩ = some v) : rowOf w b o n = cs := by
  subst hn
  have hf := h 0 cs[0] (by simp [h0])
  unfold World.cell? at hf
  split at hf
  · rename_i C t fr hb
    rw [rowOf_block hb]
    apply List.ext_getElem?
    intro j
    by_cases hj : j < cs.length
    · have := h j cs[j] (by simp [hj])
      rw [Joins.cell_of_block hb] at this
      have hlt := (Array.getElem?_eq_some_iff.1 this).1
      rw [Array.getElem?_toList, Array.getElem?_extract, if_pos (by omega), this, List.getElem?_eq_getElem hj]
    · rw [List.getElem?_eq_none (by rw [Array.length_toList, Array.size_extract]; omega), List.getElem?_eq_none (by omega)]
  · simp at hf

section
variable {H : Type} {enc : TypeId × Value → H} {P : Program} {w : World} {base : Nat} {held : Bool}
/-- A slice's cell, element by element. -/
theorem trod_rows {α : Type} {R : World → Fp → α → List Value → Prop} {okx : α → Prop} {d0 : α} {n by_ : Nat} {t e : TypeId} (k : FpOk R) (hn : 0 < n) (ht : P.underlying t = some (.slice e)) (hC : P.cellsOf e = n) (hB : P.bytesOf e = by_)
    (elem : ∀ (fuel : Nat) (cs : List Value) (y : DataW H × List MemPlace), DataW.trod enc P w base (fun _ => true) held fuel e cs = some y → (∀ n ∈ y.1.weights P e, n ≤ reachBytes) → ∃ x, cs.length = n ∧ R w (fun g => g < w.heap.size) x cs ∧ okx x)
    {fuel : Nat} {cs : List Value} {y : DataW H × List MemPlace} (hf : DataW.trod enc P w base (fun _ => true) held fuel t cs = some y) (hs : ∀ n ∈ y.1.weights P t, n ≤ reachBytes) :
    ∃ q c L, cs = [.slice q L.length c] ∧ RwF n d0 R w (fun g => g < w.heap.size) q L ∧ (∀ x ∈ L, okx x) ∧ L.length * by_ ≤ reachBytes := by
  have _ := k
  rcases Deep.open_slice ht hf with ⟨h0, _⟩ | ⟨a, len, cap, m, nn, D, Pl, hcs, hb, hl, hm, hmm, hy, hx⟩
  · exact ⟨none, 0, [], h0, .inl rfl, fun s h => by simp at h, by simp⟩
  · simp only [if_true] at hmm
    subst hmm
    rw [hy] at hs
    obtain ⟨w1, w2⟩ := weights_slice ht hs
    rw [hB] at w1
    have key : ∀ i, ∃ x : α × List Value, i < len → okx x.1 ∧ x.2.length = n ∧ R w (fun g => g < w.heap.size) x.1 x.2 ∧ ∀ j u, x.2[j]? = some u → w.cell? (a.add (i * n + j)) = some u := by
      intro i
      by_cases hi : i < len
      · obtain ⟨cs', hc1, hte⟩ := hx i (by omega)
        rw [hC] at hc1
        obtain ⟨x, l9, hr, ok⟩ := elem _ _ _ hte (w2 (D i) (List.mem_map.2 ⟨i, by simpa using hi, rfl⟩))
        refine ⟨(x, cs'), fun _ => ⟨ok, l9, hr, fun j u hu => ?_⟩⟩
        have hj2 : j < cs'.length := (List.getElem?_eq_some_iff.1 hu).1
        have hj : j < n := by omega
        have := (World.cells?_some hc1).2.2 j hj
        rw [Addr.add_add] at this
        rw [this]
        exact hu
      · exact ⟨(d0, []), fun h => absurd h hi⟩
    obtain ⟨f, hf⟩ := Classical.axiomOfChoice key
    have hlen : ((List.range len).map fun i => (f i).1).length = len := by simp
    have hg : ∀ i, i < len → ((List.range len).map fun i => (f i).1).getD i d0 = (f i).1 := fun i hi => by simp [List.getD, hi]
    refine ⟨some a, m, (List.range len).map fun i => (f i).1, by rw [hlen]; exact hcs, ?_, ?_, by rw [hlen]; simpa using w1⟩
    · by_cases h0 : len = 0
      · exact .inl (by simp [h0])
      · obtain ⟨b, o, sp⟩ := a
        have hsp : sp = none := by
          obtain ⟨_, l9, _, h3⟩ := hf 0 (by omega)
          have := h3 0 _ (List.getElem?_eq_getElem (by omega))
          simpa [Addr.add] using World.cell?_spot this
        subst hsp
        refine .inr ⟨b, o, rfl, ?_, fun i hi => ?_⟩
        · obtain ⟨_, l9, _, h3⟩ := hf 0 (by omega)
          have := lt_of_cell (h3 0 _ (List.getElem?_eq_getElem (by omega)))
          rw [addr_add] at this
          exact this
        · rw [hlen] at hi
          obtain ⟨ok, l9, h2, h3⟩ := hf i hi
          rw [hg i hi]
          refine ⟨(f i).2, l9, rowOf_vals l9 hn (fun j u hu => ?_), h2⟩
          have := h3 j u hu
          rw [addr_add] at this
          rw [← this]
          congr 2
          omega
    · intro s hS
      obtain ⟨i, hi, rfl⟩ := List.mem_map.1 hS
      exact (hf i (List.mem_range.1 hi)).1
end

/-- A pair's cells. -/
def PPr (_ : World) (_ : Fp) (x : List Int × List Int) (r : List Value) : Prop := r = prRow x.1 x.2
theorem PPr_ok : FpOk PPr where
  mono := fun h _ => h
  agr := fun h _ => h
  lt := fun h => h
def pr0 : List Int × List Int := (zero32, zero32)
structure PrOk (x : List Int × List Int) : Prop where
  k : KyOk x.1
  l : x.2.length = 32
  b : Bytes x.2
section
variable {H : Type} {enc : TypeId × Value → H} {w : World} {base : Nat} {held : Bool}
theorem elem_pr (fuel : Nat) (cs : List Value) (y : DataW H × List MemPlace) (hf : DataW.trod enc Tryd.prog w base (fun _ => true) held fuel 37 cs = some y) (_ : ∀ n ∈ y.1.weights Tryd.prog 37, n ≤ reachBytes) :
    ∃ x, cs.length = 64 ∧ PPr w (fun g => g < w.heap.size) x cs ∧ PrOk x := by
  obtain ⟨hl, mm, ys, hx, hfld⟩ := trod_struct Tryd.underlying37 (n := 64) (by kernel_rfl) hf
  have c1 : Tryd.prog.cellsOf 24 = 32 := by kernel_rfl
  have c2 : Tryd.prog.cellsOf 5 = 1 := by kernel_rfl
  obtain ⟨y0, g0, t0⟩ := hfld 0 _ rfl
  obtain ⟨y1, g1, t1⟩ := hfld 1 _ rfl
  dsimp only at t0 t1
  rw [c1] at t0 t1
  obtain ⟨F, lF, eF, bF⟩ := trod_hashB Tryd.underlying24 Tryd.underlying5 c1 c2 t0
  obtain ⟨G, lG, eG, bG⟩ := trod_hashB Tryd.underlying24 Tryd.underlying5 c1 c2 t1
  refine ⟨(F, G), hl, ?_, ⟨⟨lF, bF⟩, lG, bG⟩⟩
  show cs = prRow F G
  rw [List.drop_zero] at eF
  have e2 : (cs.drop 32).take 32 = cs.drop 32 := List.take_of_length_le (by simp [hl])
  rw [e2] at eG
  rw [← List.take_append_drop 32 cs, eF, eG]
  simp [prRow]
theorem open_prs {r : Reach} {b0 : Nat} {v : Value} {d : DataW H} {p : List MemPlace} (hv : Value.okWide Tryd.prog w r b0 22 v) (h : DataW.Trod enc Tryd.prog w base (fun _ => true) held 22 v d p)
    (hs : ∀ n ∈ d.weights Tryd.prog 22, n ≤ reachBytes) : ∃ q c L, v = .slice q L.length c ∧ RwF 64 pr0 PPr w (fun g => g < w.heap.size) q L ∧ (∀ x ∈ L, PrOk x) ∧ L.length ≤ 3000000000000 := by
  obtain ⟨a0, len0, cap0, rfl⟩ := okWide_slice Tryd.underlying22 hv
  obtain ⟨fuel, hf⟩ := h
  obtain ⟨q, c, L, e, rr, ok, l⟩ := trod_rows (d0 := pr0) PPr_ok (by decide) Tryd.underlying22 (n := 64) (by kernel_rfl) (by_ := 64) (by kernel_rfl) elem_pr hf hs
  refine ⟨q, c, L, ?_, rr, ok, by unfold reachBytes at l; omega⟩
  simpa [Value.cells] using e
end
end Go.Proofs.YtjlodnecdngdfaaDoor
namespace Go.Proofs.YtjlodnecdngdfaaDoor
open Go.RowKit
set_option maxRecDepth 100000

theorem rowOf_half {w : World} {b o : Nat} {K V : List Int} (lK : K.length = 32) (lV : V.length = 32) (h : rowOf w b o 64 = prRow K V) : rowOf w b o 32 = hc K ∧ rowOf w b (o + 32) 32 = hc V := by
  have hl := prRow_len lK lV
  unfold rowOf at *
  cases hb : w.heap[b]? with
  | none => rw [hb] at h; simp at h; rw [h] at hl; simp at hl
  | some x =>
    rw [hb] at h
    cases x with
    | cells cs t fr =>
      simp only [Array.toList_extract, List.extract_eq_take_drop] at h ⊢
      rw [show o + 64 - o = 64 by omega] at h
      rw [show o + 32 - o = 32 by omega, show o + 32 + 32 - (o + 32) = 32 by omega]
      have e1 : (cs.toList.drop o).take 32 = ((cs.toList.drop o).take 64).take 32 := by rw [List.take_take]; rfl
      have e2 : (cs.toList.drop (o + 32)).take 32 = ((cs.toList.drop o).take 64).drop 32 := by
        rw [List.drop_take, List.drop_drop]
      rw [e1, e2, h]
      constructor
      · simp [prRow, hc_len, lK]
      · have := hc_len K
        have := hc_len V
        simp only [prRow, List.append_nil]
        rw [List.drop_append_of_le_length (by omega), List.drop_of_length_le (by omega)]
        rfl
    | _ => simp at h; rw [h] at hl; simp at hl
/-- A map that the call made, as it stands now. -/
structure MpW (w wr : World) (p m : Nat) (E : List En) (c : Nat) (top : Option Addr) (bl : List Nat) : Prop where
  map : MapS wr p m E c top bl
  below : Below w.heap.size w wr
  pg : w.heap.size ≤ p
  mg : w.heap.size ≤ m
  bg : ∀ g ∈ bl, w.heap.size ≤ g
section
variable {w wr w' : World} {p m c : Nat} {E : List En} {top : Option Addr} {bl : List Nat}
theorem MpW.on (h : MpW w wr p m E c top bl) (hb : Below wr.heap.size wr w') : MpW w w' p m E c top bl := ⟨h.map.on hb, h.below.trans (hb.mono h.below.size), h.pg, h.mg, h.bg⟩
theorem MpW.chg (h : MpW w wr p m E c top bl) (hc : Chg wr w' bl) (hm : MapS w' p m E c top bl) : MpW w w' p m E c top bl :=
  ⟨hm, h.below.trans (hc.toBelow h.below.size (fun k hk => h.bg k hk)), h.pg, h.mg, h.bg⟩
theorem MpW.put {K V : List Int} {e : Ending} (h : MpW w wr p m E c top bl) (hq : PutQ wr p m E bl K V e w') :
    e = .returned (.int .i64 0) ∧ ∃ E' c' top' bl', MpW w w' p m E' c' top' bl' ∧ (∀ k, vOf E' k = if k = K then V else vOf E k) ∧ E'.length ≤ E.length + 1 ∧ E.length ≤ E'.length + 1 := by
  obtain ⟨he, hc, E', c', top', bl', hm, hin, hv, h1, h2⟩ := hq
  refine ⟨he, E', c', top', bl', ⟨hm, h.below.trans (hc.toBelow h.below.size (fun k hk => ?_)), h.pg, h.mg, fun g hg => ?_⟩, hv, h1, h2⟩
  · rcases List.mem_cons.1 hk with rfl | hk
    · exact h.pg
    · rcases List.mem_cons.1 hk with rfl | hk
      · exact h.mg
      · exact h.bg k hk
  · rcases hin g hg with hg | hg
    · exact h.bg g hg
    · have := h.below.size; omega
end
/-- A new map of no pairs. -/
theorem MpW_new {w w' : World} {p m : Nat} (hb : Below w.heap.size w w') (hp : w.heap.size ≤ p) (hm : w.heap.size ≤ m) (h : MpS w' p m #[] 0 none) : MpW w w' p m [] 0 none [] :=
  ⟨⟨h, .inl ⟨rfl, rfl, rfl⟩, EnW.nil, EnC.nil 0, by simp, by simp⟩, hb, hp, hm, fun g hg => (by cases hg)⟩
end Go.Proofs.YtjlodnecdngdfaaDoor
namespace Go.Proofs.YtjlodnecdngdfaaDoor
open Go.RowKit
set_option maxRecDepth 100000

def e0 : En := ⟨zero32, zero32, 0⟩
/-- A slice reads as pairs. -/
def RdP (w : World) (q : Option Addr) (L : List En) : Prop := L = [] ∨ ∃ b off, q = some ⟨b, off, none⟩ ∧ b < w.heap.size ∧ ∀ i, i < L.length → rowOf w b (off + i * 64) 64 = prRow (L.getD i e0).k (L.getD i e0).v
theorem getD_memE {L : List En} {i : Nat} (hi : i < L.length) : L.getD i e0 ∈ L := by
  have e : L.getD i e0 = L[i] := by simp [List.getD, hi]
  rw [e]; exact List.getElem_mem hi
theorem prL_mid (tail : List Value) : ∀ {L : List En}, EnOk L → ∀ i, i < L.length → ((prL L ++ tail).drop (i * 64)).take 64 = prRow (L.getD i e0).k (L.getD i e0).v
  | [], _, i, hi => by simp at hi
  | x :: L, h, i, hi => by
    have h2 := h x (List.mem_cons_self ..)
    have e : prL (x :: L) ++ tail = prRow x.k x.v ++ (prL L ++ tail) := by rw [← List.append_assoc]; rfl
    have hl : (prRow x.k x.v).length = 64 := prRow_len h2.1 h2.2
    rw [e]
    cases i with
    | zero => rw [Nat.zero_mul, List.drop_zero]; exact List.take_left' hl
    | succ i =>
      rw [List.drop_append, hl, List.drop_eq_nil_of_le (by omega), List.nil_append, show (i + 1) * 64 - 64 = i * 64 by omega]
      exact prL_mid tail (fun G hG => h G (List.mem_cons_of_mem _ hG)) i (by simpa using hi)
theorem RdP.on {w w' : World} {q : Option Addr} {L : List En} (h : RdP w q L) (hb : Below w.heap.size w w') : RdP w' q L := by
  rcases h with h | ⟨b, off, e, hl, hx⟩
  · exact .inl h
  · refine .inr ⟨b, off, e, Nat.lt_of_lt_of_le hl hb.size, fun i hi => ?_⟩
    rw [← hx i hi]
    unfold rowOf
    rw [hb.block b hl]
theorem RdP.chg {w w' : World} {q : Option Addr} {L : List En} {S : List Nat} (h : RdP w q L) (hc : Chg w w' S) (hs : ∀ g, q.map (·.block) = some g → g ∉ S) : RdP w' q L := by
  rcases h with h | ⟨b, off, rfl, hl, hx⟩
  · exact .inl h
  · refine .inr ⟨b, off, rfl, Nat.lt_of_lt_of_le hl hc.size, fun i hi => ?_⟩
    rw [← hx i hi]
    unfold rowOf
    rw [hc.block b hl (hs b rfl)]
/-- A row of the call's own reads so. -/
theorem rdP_own {w : World} {v : Value} {L : List En} (ok : EnOk L) (h : w.ownsRow 0 72 64 v L.length (prL L)) : ∃ q c, v = .slice q L.length c ∧ RdP w q L ∧ L.length ≤ c ∧ c ≤ maxLen ∧ (∀ g, q.map (·.block) = some g → v.ownBlock = some g) ∧ ∀ g, q.map (·.block) = some g → g < w.heap.size := by
  rcases h.2 with ⟨e, hn⟩ | ⟨g, cap, cur, e, _, hg, hnc, hcm, hcs', htake⟩
  · have h1 : L = [] := List.eq_nil_of_length_eq_zero hn
    subst h1
    exact ⟨none, 0, e, .inl rfl, Nat.le_refl _, by unfold maxLen; omega, fun g hg => by simp at hg, fun g hg => by simp at hg⟩
  · refine ⟨some ⟨g, 0, none⟩, cap, e, .inr ⟨g, 0, rfl, (Array.getElem?_eq_some_iff.1 hg).1, fun i hi => ?_⟩, hnc, hcm, fun g' hg' => ?_, fun g' hg' => ?_⟩
    · have hc2 : cur = (prL L ++ cur.toList.drop (L.length * 64)).toArray := by
        apply Array.ext'
        show cur.toList = prL L ++ cur.toList.drop (L.length * 64)
        rw [← htake, List.take_append_drop]
      rw [hc2] at hg
      rw [rowOf_block hg, Nat.zero_add, ← prL_mid (cur.toList.drop (L.length * 64)) ok i hi]
      simp [List.take_drop]
    · rw [e]
      simp at hg'
      simp [Value.ownBlock, hg']
    · simp at hg'
      rw [← hg']
      exact (Array.getElem?_eq_some_iff.1 hg).1
theorem nodup_inj : ∀ {E : List En} {x y : En}, (E.map (·.k)).Nodup → x ∈ E → y ∈ E → x.k = y.k → x = y
  | a :: E, x, y, h, hx, hy, e => by
    rw [List.map_cons, List.nodup_cons] at h
    rcases List.mem_cons.1 hx with rfl | hx2 <;> rcases List.mem_cons.1 hy with rfl | hy2
    · rfl
    · exact (h.1 (List.mem_map.2 ⟨y, hy2, e.symm⟩)).elim
    · exact (h.1 (List.mem_map.2 ⟨x, hx2, e⟩)).elim
    · exact nodup_inj h.2 hx2 hy2 e
theorem vR_perm {L E : List En} (hp : L.Perm E) (hE : EnW E) (k : List Int) : vR L k = vOf E k := by
  by_cases h : ∃ x ∈ L, x.k = k
  · obtain ⟨x, hx, hxk, hv⟩ := vR_mem h
    have hxE := hp.mem_iff.1 hx
    obtain ⟨y, hy, h1, h2⟩ := vR_mem (E := E) (K := k) ⟨x, hxE, hxk⟩
    have : y = x := nodup_inj hE.nd hy hxE (h1.trans hxk.symm)
    rw [hv, vOf_vR, h2, this]
  · rw [vR_none (fun x hx hk => h ⟨x, hx, hk⟩), vOf_vR, vR_none (fun x hx hk => h ⟨x, hp.mem_iff.2 hx, hk⟩)]
end Go.Proofs.YtjlodnecdngdfaaDoor
namespace Go.Proofs.YtjlodnecdngdfaaDoor
open Go.RowKit
set_option maxRecDepth 100000

theorem zero_unitN (w : World) : (zeroValue 73).run Tryd.prog w = .ok (.agg #[]) w := by kernel_rfl
/-- Keys that were seen, each at its time. -/
def sEn (x : En × Nat) : MapEntry := { key := .agg (hc x.1.k).toArray, val := .agg #[], born := x.2 }
def sme (L : List En) : Array MapEntry := (L.zipIdx.map sEn).toArray
theorem sme_more (L : List En) (x : En) : sme (L ++ [x]) = (sme L).push (sEn (x, L.length)) := by
  unfold sme
  rw [List.zipIdx_append]
  simp
theorem askS_no {K : List Int} (hK : K.length = 32) (w : World) : ∀ (S : List (En × Nat)) (i : Nat), (∀ x ∈ S, x.1.k.length = 32) → (∀ x ∈ S, K ≠ x.1.k) → (Instr.findAsking 24 (.agg (hc K).toArray) (S.map sEn) i).run Tryd.prog w = .ok none w
  | [], _, _, _ => rfl
  | e :: S, i, h, hn => by
    have he := h e (by simp)
    have hq : (Op.equal 24 (.agg (hc K).toArray) (.agg (hc e.1.k).toArray)).run Tryd.prog w = .ok (K == e.1.k) w := Tryd.eq_hash w K e.1.k hK he
    rw [List.map_cons, Instr.findAsking]
    simp only [Sem.run_bind, sEn, hq, Result.andThen_ok]
    rw [beq_eq_false_iff_ne.2 (hn e (by simp))]
    exact askS_no hK w S (i + 1) (fun x hx => h x (by simp [hx])) (fun x hx => hn x (by simp [hx]))
theorem mem_zipIdx_fst {L : List En} {x : En × Nat} (h : x ∈ L.zipIdx) : x.1 ∈ L := by
  have := List.mem_map_of_mem (f := Prod.fst) h
  simpa using this
theorem findS_no {K : List Int} (hK : K.length = 32) (w : World) {L : List En} (h : ∀ x ∈ L, x.k.length = 32) (hn : ∀ x ∈ L, K ≠ x.k) : (Instr.findKey 24 (.agg (hc K).toArray) (sme L).toList).run Tryd.prog w = .ok none w := by
  unfold Instr.findKey
  simp only [Sem.run_bind, run_underlying Tryd.underlying24, Result.andThen_ok]
  cases L with
  | nil => rfl
  | cons e L =>
    have := askS_no hK w ((e :: L).zipIdx) 0 (fun x hx => h _ (mem_zipIdx_fst hx)) (fun x hx => hn _ (mem_zipIdx_fst hx))
    exact this
section
variable {w : World} {b c : Nat} {L : List En} {K : List Int}
theorem look_seen (hb : w.heap[b]? = some (.map (sme L) c)) (hK : K.length = 32) (h : ∀ x ∈ L, x.k.length = 32) (hn : ∀ x ∈ L, K ≠ x.k) : (Instr.lookup 71 (.map (some b)) (.agg (hc K).toArray) true).run Tryd.prog w = .ok (.tuple #[.agg #[], .bool false]) w :=
  run_lookup_at (r := none) true Tryd.underlying71 hb (ck_any hK _ w) (findS_no hK w h hn) (zero_unitN w)
theorem upd_seen {x : En} (hb : w.heap[b]? = some (.map (sme L) L.length)) (hK : x.k.length = 32) (h : ∀ y ∈ L, y.k.length = 32) (hn : ∀ y ∈ L, x.k ≠ y.k) : (Instr.mapUpdate 71 (.map (some b)) (.agg (hc x.k).toArray) (.agg #[])).run Tryd.prog w = .ok () (putMap w b (sme (L ++ [x])) (L.length + 1)) := by
  rw [run_mapUpdate_new (v := .agg #[]) Tryd.underlying71 hb (ck_any hK _ w) (findS_no hK w h hn), sme_more]
  rfl
end
section
variable {w wr w' : World} {p m c : Nat} {E : List En} {top : Option Addr} {bl : List Nat}
theorem MpW.put2 {K V : List Int} {e : Ending} (h : MpW w wr p m E c top bl) (hq : PutQ wr p m E bl K V e w') :
    e = .returned (.int .i64 0) ∧ Chg wr w' (p :: m :: bl) ∧ ∃ E' c' top' bl', MpW w w' p m E' c' top' bl' ∧ (∀ g ∈ bl', g ∈ bl ∨ wr.heap.size ≤ g) ∧ (∀ k, vOf E' k = if k = K then V else vOf E k) ∧ E'.length ≤ E.length + 1 ∧ E.length ≤ E'.length + 1 := by
  obtain ⟨he, hc, E', c', top', bl', hm, hin, hv, h1, h2⟩ := hq
  refine ⟨he, hc, E', c', top', bl', ⟨hm, h.below.trans (hc.toBelow h.below.size (fun k hk => ?_)), h.pg, h.mg, fun g hg => ?_⟩, hin, hv, h1, h2⟩
  · rcases List.mem_cons.1 hk with rfl | hk
    · exact h.pg
    · rcases List.mem_cons.1 hk with rfl | hk
      · exact h.mg
      · exact h.bg k hk
  · rcases hin g hg with hg | hg
    · exact h.bg g hg
    · have := h.below.size; omega
theorem MpW.side {S : Nat} (h : MpW w wr p m E c top bl) (hp : p ≠ S) (hm : m ≠ S) (hb : S ∉ bl) (hS : w.heap.size ≤ S) (es : Array MapEntry) (d : Nat) : MpW w (putMap wr S es d) p m E c top bl :=
  ⟨h.map.chg (putMap_chg wr S es d) (by simpa using hp) (by simpa using hm) (fun g hg => by
    intro hx
    obtain rfl := List.mem_singleton.1 hx
    exact hb hg), h.below.trans ((putMap_chg wr S es d).toBelow h.below.size (fun k hk => by obtain rfl := List.mem_singleton.1 hk; exact hS)), h.pg, h.mg, h.bg⟩
end
theorem vR_take {L : List En} {i : Nat} (hi : i < L.length) (nd : (L.map (·.k)).Nodup) (k : List Int) : vR (L.take (i + 1)) k = if k = (L.getD i e0).k then (L.getD i e0).v else vR (L.take i) k := by
  have e : L.take (i + 1) = L.take i ++ [L.getD i e0] := by
    rw [List.take_add_one]
    simp [List.getD, hi]
  rw [e]
  have hno : ∀ x ∈ L.take i, x.k ≠ (L.getD i e0).k := fun x hx hk => by
    have h2 : L = L.take i ++ L.getD i e0 :: L.drop (i + 1) := by
      rw [← List.take_append_drop i L]
      congr 1
      · simp
      · rw [List.take_append_drop, List.drop_eq_getElem_cons hi]
        simp [List.getD, hi]
    rw [h2, List.map_append, List.map_cons, List.nodup_append] at nd
    exact nd.2.2 _ (List.mem_map_of_mem (f := (·.k)) hx) _ (by simp) hk
  by_cases hk : k = (L.getD i e0).k
  · rw [if_pos hk, hk, vR_app hno]
    unfold vR
    rw [if_pos rfl]
  · rw [if_neg hk, vR_left (fun x hx => by obtain rfl := List.mem_singleton.1 hx; exact fun e => hk e.symm)]
theorem take_noK {L : List En} {i : Nat} (hi : i < L.length) (nd : (L.map (·.k)).Nodup) : ∀ x ∈ L.take i, (L.getD i e0).k ≠ x.k := fun x hx hk => by
  have h2 : L = L.take i ++ L.getD i e0 :: L.drop (i + 1) := by
    rw [← List.take_append_drop i L]
    congr 1
    · simp
    · rw [List.take_append_drop, List.drop_eq_getElem_cons hi]
      simp [List.getD, hi]
  rw [h2, List.map_append, List.map_cons, List.nodup_append] at nd
  exact nd.2.2 _ (List.mem_map_of_mem (f := (·.k)) hx) _ (by simp) hk.symm

end Go.Proofs.YtjlodnecdngdfaaDoor
namespace Go.Proofs.YtjlodnecdngdfaaDoor
open Go.RowKit
set_option maxRecDepth 100000

theorem askS_yes {K : List Int} (hK : K.length = 32) (w : World) : ∀ (S : List (En × Nat)) (i : Nat), (∀ x ∈ S, x.1.k.length = 32) → (∃ x ∈ S, K = x.1.k) → ∃ j, (Instr.findAsking 24 (.agg (hc K).toArray) (S.map sEn) i).run Tryd.prog w = .ok (some (j, .agg #[])) w
  | [], _, _, h => by obtain ⟨x, hx, _⟩ := h; simp at hx
  | e :: S, i, h, hy => by
    have he := h e (by simp)
    have hq : (Op.equal 24 (.agg (hc K).toArray) (.agg (hc e.1.k).toArray)).run Tryd.prog w = .ok (K == e.1.k) w := Tryd.eq_hash w K e.1.k hK he
    rw [List.map_cons, Instr.findAsking]
    simp only [Sem.run_bind, sEn, hq, Result.andThen_ok]
    by_cases hk : K = e.1.k
    · rw [beq_iff_eq.2 hk]
      exact ⟨_, rfl⟩
    · rw [beq_eq_false_iff_ne.2 hk]
      obtain ⟨x, hx, ex⟩ := hy
      refine askS_yes hK w S (i + 1) (fun x hx => h x (by simp [hx])) ⟨x, ?_, ex⟩
      rcases List.mem_cons.1 hx with rfl | hx
      · exact absurd ex hk
      · exact hx
theorem findS_yes {K : List Int} (hK : K.length = 32) (w : World) {L : List En} (h : ∀ x ∈ L, x.k.length = 32) (hy : ∃ x ∈ L, K = x.k) : ∃ j, (Instr.findKey 24 (.agg (hc K).toArray) (sme L).toList).run Tryd.prog w = .ok (some (j, .agg #[])) w := by
  unfold Instr.findKey
  simp only [Sem.run_bind, run_underlying Tryd.underlying24, Result.andThen_ok]
  cases L with
  | nil => obtain ⟨x, hx, _⟩ := hy; simp at hx
  | cons e L =>
    refine askS_yes hK w ((e :: L).zipIdx) 0 (fun x hx => h _ (mem_zipIdx_fst hx)) ?_
    obtain ⟨x, hx, ex⟩ := hy
    obtain ⟨n, hn, en⟩ := List.getElem_of_mem hx
    exact ⟨((e :: L)[n], n), List.mem_zipIdx_iff_getElem?.2 (by simp), by rw [ex, ← en]⟩
section
variable {w : World} {b c : Nat} {L : List En} {K : List Int}
theorem look_seen_yes (hb : w.heap[b]? = some (.map (sme L) c)) (hK : K.length = 32) (h : ∀ x ∈ L, x.k.length = 32) (hy : ∃ x ∈ L, K = x.k) : (Instr.lookup 71 (.map (some b)) (.agg (hc K).toArray) true).run Tryd.prog w = .ok (.tuple #[.agg #[], .bool true]) w := by
  obtain ⟨j, hj⟩ := findS_yes hK w h hy
  exact run_lookup_at (r := some (j, .agg #[])) true Tryd.underlying71 hb (ck_any hK _ w) hj (zero_unitN w)
end
theorem vR_take2 {L : List En} {i : Nat} (hi : i < L.length) (hd : ¬ ∃ y ∈ L.take i, (L.getD i e0).k = y.k) (k : List Int) : vR (L.take (i + 1)) k = if k = (L.getD i e0).k then (L.getD i e0).v else vR (L.take i) k := by
  have e : L.take (i + 1) = L.take i ++ [L.getD i e0] := by
    rw [List.take_add_one]
    simp [List.getD, hi]
  rw [e]
  have hno : ∀ x ∈ L.take i, x.k ≠ (L.getD i e0).k := fun x hx hk => hd ⟨x, hx, hk.symm⟩
  by_cases hk : k = (L.getD i e0).k
  · rw [if_pos hk, hk, vR_app hno]
    unfold vR
    rw [if_pos rfl]
  · rw [if_neg hk, vR_left (fun x hx => by obtain rfl := List.mem_singleton.1 hx; exact fun e => hk e.symm)]
theorem nd_dupE {L : List En} {i : Nat} (hi : i < L.length) (hd : ∃ y ∈ L.take i, (L.getD i e0).k = y.k) : ¬ (L.map (·.k)).Nodup := fun nd => by
  obtain ⟨y, hy, e⟩ := hd
  exact take_noK hi nd y hy e
theorem nd_moreE {L : List En} {i : Nat} (hi : i < L.length) (hn : ((L.take i).map (·.k)).Nodup) (hd : ¬ ∃ y ∈ L.take i, (L.getD i e0).k = y.k) : ((L.take (i + 1)).map (·.k)).Nodup := by
  have e : L.take (i + 1) = L.take i ++ [L.getD i e0] := by
    rw [List.take_add_one]
    simp [List.getD, hi]
  rw [e, List.map_append, List.nodup_append]
  refine ⟨hn, by simp, fun a ha b hb => ?_⟩
  obtain ⟨x, hx, rfl⟩ := List.mem_map.1 ha
  simp at hb
  rw [hb]
  exact fun h => hd ⟨x, hx, by simpa [List.getD] using h.symm⟩
def New2Q (w : World) (L : List En) (e : Ending) (w' : World) : Prop :=
  ((L.map (·.k)).Nodup ∧ ∃ p m E c top bl, e = .returned (.tuple #[.pointer (some ⟨p, 0, none⟩), .int .i64 0]) ∧ MpW w w' p m E c top bl ∧ (∀ k, vOf E k = vR L k) ∧ E.length ≤ L.length) ∨ (¬ (L.map (·.k)).Nodup ∧ e = .returned (.tuple #[.pointer none, .int .i64 1]) ∧ Below w.heap.size w w')
set_option maxHeartbeats 16000000 in
theorem New_both {w : World} {L : List En} {q : Option Addr} {cp : Nat} (hr : RdP w q L) (ok : EnOk L) (kb : ∀ x ∈ L, Bytes x.k) (vb : ∀ x ∈ L, Bytes x.v) (hl : L.length ≤ 4096) :
    Calls Tryd.prog 9 #[.slice q L.length cp] w (New2Q w L) := by
  have hmm := @run_makeMap Tryd.prog
  have B3 := Lib.hid ((((Below.refl w.heap.size w).alloc (Nat.le_refl _) (.map #[] 0)).alloc (by simp) (.cells #[.map (some w.heap.size), .pointer none] 56)).alloc (by simp; omega) (.map #[] 0))
  have M3 : MpS (((w.alloc (.map #[] 0)).alloc (.cells #[.map (some w.heap.size), .pointer none] 56)).alloc (.map #[] 0)) (w.heap.size + 1) w.heap.size #[] 0 none := by
    refine ⟨?_, ?_⟩
    · rw [Below.heap_alloc _ _ _ (by simp)]
      have := heap_alloc_new (w.alloc (.map #[] 0)) (.cells #[.map (some w.heap.size), .pointer none] 56)
      simpa using this
    · rw [Below.heap_alloc _ _ _ (by simp; omega), Below.heap_alloc _ _ _ (by simp)]
      exact heap_alloc_new w _
  have MW3 := Lib.hid (MpW_new B3.out (by omega) (Nat.le_refl _) M3)
  have E3 : Hid ((((w.alloc (.map #[] 0)).alloc (.cells #[.map (some w.heap.size), .pointer none] 56)).alloc (.map #[] 0)).heap[w.heap.size + 1 + 1]? = some (.map (sme (L.take 0)) 0)) := by
    have := heap_alloc_last ((w.alloc (.map #[] 0)).alloc (.cells #[.map (some w.heap.size), .pointer none] 56)) (.map #[] 0)
    show _ = _
    rw [List.take_zero, show sme [] = #[] from rfl]
    simpa using this
  have HR := Lib.hid hr
  have OK := Lib.hid ok
  have KB := Lib.hid kb
  have VB := Lib.hid vb
  have hs3 : Hid ((((w.alloc (.map #[] 0)).alloc (.cells #[.map (some w.heap.size), .pointer none] 56)).alloc (.map #[] 0)).heap.size = w.heap.size + 3) := by show _ = _; simp
  have z32 := zero32_len
  have d1 : decide ((L.length : Int) > 4096) = false := decide_eq_false (by omega)
  have d2 : ¬ (4096 : Int) < (L.length : Int) := by omega
  clear hr ok kb vb M3
  go_enter Tryd.func9, Tryd.ntmps9
  go_wp2_with fail
  clear hmm d1 d2
  generalize ((w.alloc (.map #[] 0)).alloc (.cells #[.map (some w.heap.size), .pointer none] 56)).alloc (.map #[] 0) = w3 at *
  go_loopw [7, 8, 9, 19] (fun _ _ _ iv wr => ∃ i : Nat, iv = .int .i64 (i : Int) ∧ i ≤ L.length ∧ ∃ E c top bl, E.length ≤ i ∧ Hid (∀ k, vOf E k = vR (L.take i) k) ∧ Hid (MpW w wr (w.heap.size + 1) w.heap.size E c top bl) ∧ Hid (wr.heap[w.heap.size + 1 + 1]? = some (.map (sme (L.take i)) i)) ∧ Hid (w.heap.size + 1 + 1 ∉ bl) ∧ Hid (w.heap.size + 3 ≤ wr.heap.size) ∧ Hid (((L.take i).map (·.k)).Nodup)) (fun _ _ _ iv _ => L.length - (intOf iv).toNat)
  case atStart => exact ⟨0, rfl, by omega, [], 0, none, [], by simp, fun k => rfl, MW3, E3, (by simp : w.heap.size + 1 + 1 ∉ ([] : List Nat)), Nat.le_of_eq hs3.out.symm, (by simp : ((L.take 0).map (·.k)).Nodup)⟩
  case round =>
    clear MW3 E3 hs3 B3
    obtain ⟨i, rfl, hil, E, c, top, bl, hle, hV, hM, hE, hS, hZ, NDT⟩ := hrel
    by_cases hlt : i < L.length
    · have hltI : (i : Int) < (L.length : Int) := by omega
      obtain ⟨b, off, rfl, hb, hx⟩ := HR.out.resolve_left (fun h => by rw [h] at hlt; simp at hlt)
      have hrow := hx i hlt
      have okx := OK.out _ (getD_memE hlt)
      have PK : Hid (KyOk (L.getD i e0).k) := ⟨okx.1, KB.out _ (getD_memE hlt)⟩
      have PB := Lib.hid (VB.out _ (getD_memE hlt))
      by_cases hdup : ∃ y ∈ L.take i, (L.getD i e0).k = y.k
      · have HDUP : Hid (¬ (L.map (·.k)).Nodup) := nd_dupE hlt hdup
        clear NDT
        have TK : Hid (L.take (i + 1) = L.take i ++ [L.getD i e0]) := by
          show _ = _
          rw [List.take_add_one]
          simp [List.getD, hlt]
        have TL : Hid ((L.take i).length = i) := by show _ = _; rw [List.length_take]; omega
        have r3 : rowOf wr b (off + i * 64) 64 = prRow (L.getD i e0).k (L.getD i e0).v := by
          rw [← hrow]
          unfold rowOf
          rw [hM.out.below.block b hb]
        clear hx hb hrow
        have E3 : wr.heap[w.heap.size + 1 + 1]? = some (.map (sme (L.take i)) (L.take i).length) := by rw [TL.out]; exact hE.out
        have hkl : ∀ y ∈ L.take i, y.k.length = 32 := fun y hy => (OK.out y (List.mem_of_mem_take hy)).1
        obtain ⟨x, hxd⟩ : ∃ x, L.getD i e0 = x := ⟨_, rfl⟩
        rw [hxd] at okx PK PB TK r3 hdup
        clear hxd
        have k32 := okx.1
        have v32 := okx.2
        have hlk := hc_len x.k
        have hlv := hc_len x.v
        have g0 : (0 : Int) ≤ (i : Int) := by omega
        have A4 := PrB.new wr zero32 zero32
        have th4 := A4.there zero32_len zero32_len
        have P4 := A4.put zero32_len zero32_len k32 v32
        have k4 := P4.key k32
        have B4 : Below wr.heap.size wr ((wr.alloc (.cells (prRow zero32 zero32).toArray 72)).setCells wr.heap.size 0 (prRow x.k x.v)) := below_setCells' _ (Nat.le_refl _) _ _ ((Below.refl _ _).alloc (Nat.le_refl _) _)
        have hle3 : w.heap.size + 1 + 1 < wr.heap.size := by have := hZ.out; omega
        have E4 : ((wr.alloc (.cells (prRow zero32 zero32).toArray 72)).setCells wr.heap.size 0 (prRow x.k x.v)).heap[w.heap.size + 1 + 1]? = some (.map (sme (L.take i)) (L.take i).length) := by rw [B4.block _ hle3]; exact E3
        have hl4 := look_seen_yes E4 k32 hkl hdup
        have hst := run_storeCells_pr (P := Tryd.prog) _ wr.heap.size x.k x.v k32 v32 th4
        have hsz4 : ((wr.alloc (.cells (prRow zero32 zero32).toArray 72)).setCells wr.heap.size 0 (prRow x.k x.v)).heap.size = wr.heap.size + 1 := by rw [size_setCells]; simp
        have hpl := prRow_len k32 v32
        have M4 := Lib.hid (hM.out.below.trans (B4.mono hM.out.below.size))
        clear A4 P4 E4 B4 th4 E3 hM hE hZ
        obtain ⟨R, hR⟩ : ∃ R, prRow x.k x.v = R := ⟨_, rfl⟩
        rw [hR] at r3 hst k4 hl4 hsz4 hpl M4
        clear hR
        go_wp2_with fail
        refine bodyPost_ret (v := .tuple #[.pointer none, .int .i64 1]) (by simp [results, Tryd.results9, go_sem]) rfl ?_
        exact .inr ⟨HDUP.out, rfl, M4.out.alloc M4.out.size _⟩
      · skip
        have VT := Lib.hid (vR_take2 hlt hdup)
        have NT : Hid (∀ y ∈ L.take i, (L.getD i e0).k ≠ y.k) := fun y hy e => hdup ⟨y, hy, e⟩
        have NDN : Hid (((L.take (i + 1)).map (·.k)).Nodup) := nd_moreE hlt NDT.out hdup
        clear hdup NDT
        have TK : Hid (L.take (i + 1) = L.take i ++ [L.getD i e0]) := by
          show _ = _
          rw [List.take_add_one]
          simp [List.getD, hlt]
        have TL : Hid ((L.take i).length = i) := by show _ = _; rw [List.length_take]; omega
        have r3 : rowOf wr b (off + i * 64) 64 = prRow (L.getD i e0).k (L.getD i e0).v := by
          rw [← hrow]
          unfold rowOf
          rw [hM.out.below.block b hb]
        clear hx hb hrow
        have E3 : wr.heap[w.heap.size + 1 + 1]? = some (.map (sme (L.take i)) (L.take i).length) := by rw [TL.out]; exact hE.out
        have hkl : ∀ y ∈ L.take i, y.k.length = 32 := fun y hy => (OK.out y (List.mem_of_mem_take hy)).1
        obtain ⟨x, hxd⟩ : ∃ x, L.getD i e0 = x := ⟨_, rfl⟩
        rw [hxd] at okx PK PB VT NT TK r3
        clear hxd
        have k32 := okx.1
        have v32 := okx.2
        have hlk := hc_len x.k
        have hlv := hc_len x.v
        have g0 : (0 : Int) ≤ (i : Int) := by omega
        have A4 := PrB.new wr zero32 zero32
        have th4 := A4.there zero32_len zero32_len
        have P4 := A4.put zero32_len zero32_len k32 v32
        have k4 := P4.key k32
        have B4 : Below wr.heap.size wr ((wr.alloc (.cells (prRow zero32 zero32).toArray 72)).setCells wr.heap.size 0 (prRow x.k x.v)) := below_setCells' _ (Nat.le_refl _) _ _ ((Below.refl _ _).alloc (Nat.le_refl _) _)
        have hle3 : w.heap.size + 1 + 1 < wr.heap.size := by have := hZ.out; omega
        have E4 : ((wr.alloc (.cells (prRow zero32 zero32).toArray 72)).setCells wr.heap.size 0 (prRow x.k x.v)).heap[w.heap.size + 1 + 1]? = some (.map (sme (L.take i)) (L.take i).length) := by rw [B4.block _ hle3]; exact E3
        have hl4 := look_seen E4 k32 hkl NT.out
        have hst := run_storeCells_pr (P := Tryd.prog) _ wr.heap.size x.k x.v k32 v32 th4
        have hsz4 : ((wr.alloc (.cells (prRow zero32 zero32).toArray 72)).setCells wr.heap.size 0 (prRow x.k x.v)).heap.size = wr.heap.size + 1 := by rw [size_setCells]; simp
        have hpl := prRow_len k32 v32
        have hb5 : Below ((wr.alloc (.cells (prRow zero32 zero32).toArray 72)).setCells wr.heap.size 0 (prRow x.k x.v)).heap.size ((wr.alloc (.cells (prRow zero32 zero32).toArray 72)).setCells wr.heap.size 0 (prRow x.k x.v)) (((wr.alloc (.cells (prRow zero32 zero32).toArray 72)).setCells wr.heap.size 0 (prRow x.k x.v)).alloc (.cells #[] 73)) := (Below.refl _ _).alloc (Nat.le_refl _) _
        have P5 := P4.on hb5
        have k5 := P5.key k32
        have E5 : (((wr.alloc (.cells (prRow zero32 zero32).toArray 72)).setCells wr.heap.size 0 (prRow x.k x.v)).alloc (.cells #[] 73)).heap[w.heap.size + 1 + 1]? = some (.map (sme (L.take i)) (L.take i).length) := by rw [hb5.block _ (by rw [hsz4]; omega)]; exact E4
        have hu5 := upd_seen E5 k32 hkl NT.out
        rw [← TK.out, TL.out] at hu5
        have M5 := Lib.hid (hM.out.on (B4.trans (hb5.mono B4.size)))
        have Q5 := Lib.hid P5
        have Q4 := Lib.hid E5
        have sz5 : Hid (w.heap.size + 1 + 1 < (((wr.alloc (.cells (prRow zero32 zero32).toArray 72)).setCells wr.heap.size 0 (prRow x.k x.v)).alloc (.cells #[] 73)).heap.size ∧ wr.heap.size < (((wr.alloc (.cells (prRow zero32 zero32).toArray 72)).setCells wr.heap.size 0 (prRow x.k x.v)).alloc (.cells #[] 73)).heap.size ∧ w.heap.size + 3 ≤ wr.heap.size) := by
          refine ⟨?_, ?_, hZ.out⟩ <;> simp [hsz4] <;> omega
        clear A4 P4 E4 hb5 P5 E5 B4 th4 E3 hM hE hZ
        have HX := Lib.hid (show prRow x.k x.v = prRow x.k x.v from rfl)
        obtain ⟨R, hR⟩ : ∃ R, prRow x.k x.v = R := ⟨_, rfl⟩
        rw [hR] at r3 hst k4 hl4 hsz4 hpl k5 hu5 M5 Q5 Q4 sz5
        clear hR HX
        go_wp2_with fail
        have Q6 : Hid (PrB (putMap (((wr.alloc (.cells (prRow zero32 zero32).toArray 72)).setCells wr.heap.size 0 R).alloc (.cells #[] 73)) (w.heap.size + 1 + 1) (sme (L.take (i + 1))) (i + 1)) wr.heap.size x.k x.v) := by
          show _ = _
          rw [putMap_other (by have := sz5.out.2.2; omega)]; exact Q5.out
        have E6 : Hid ((putMap (((wr.alloc (.cells (prRow zero32 zero32).toArray 72)).setCells wr.heap.size 0 R).alloc (.cells #[] 73)) (w.heap.size + 1 + 1) (sme (L.take (i + 1))) (i + 1)).heap[w.heap.size + 1 + 1]? = some (.map (sme (L.take (i + 1))) (i + 1))) := putMap_there sz5.out.1
        have M6 := Lib.hid (M5.out.side (by omega) (by omega) hS.out (by omega) (sme (L.take (i + 1))) (i + 1))
        have sz6 : Hid (w.heap.size + 1 + 1 < (putMap (((wr.alloc (.cells (prRow zero32 zero32).toArray 72)).setCells wr.heap.size 0 R).alloc (.cells #[] 73)) (w.heap.size + 1 + 1) (sme (L.take (i + 1))) (i + 1)).heap.size ∧ w.heap.size + 3 ≤ (putMap (((wr.alloc (.cells (prRow zero32 zero32).toArray 72)).setCells wr.heap.size 0 R).alloc (.cells #[] 73)) (w.heap.size + 1 + 1) (sme (L.take (i + 1))) (i + 1)).heap.size) := by
          have h := sz5.out
          refine ⟨?_, ?_⟩ <;> rw [putMap_size] <;> omega
        have k6 := Q6.out.key k32
        have v6 := Q6.out.val k32 v32
        clear Q5 M5 hu5 k5 hst k4 hl4 hsz4 r3 Q4 sz5
        generalize putMap (((wr.alloc (.cells (prRow zero32 zero32).toArray 72)).setCells wr.heap.size 0 R).alloc (.cells #[] 73)) (w.heap.size + 1 + 1) (sme (L.take (i + 1))) (i + 1) = w6 at *
        have e1 := run_rowLoad (P := Tryd.prog) w6 wr.heap.size 0 32 (by rw [k6]; simp [hc_len, k32])
        rw [k6] at e1
        rw [e1]
        simp only [Result.andThen_ok]
        clear e1
        go_wp2_with fail
        refine (Put_all PK.out v32 PB.out M6.out.map (by omega)).mono ?_
        rintro e w7 hq7
        obtain ⟨rfl, hc7, E', c', top', bl', hm7, hin, hv7, hn7, -⟩ := M6.out.put2 hq7
        have S7 : Hid (w.heap.size + 1 + 1 ∉ bl') := fun h => by
          rcases hin _ h with h | h
          · exact hS.out h
          · have := sz6.out.1; omega
        have E7 : Hid (w7.heap[w.heap.size + 1 + 1]? = some (.map (sme (L.take (i + 1))) (i + 1))) := by
          show _ = _
          rw [hc7.block _ sz6.out.1 (fun h => by
            rcases List.mem_cons.1 h with h | h
            · omega
            · rcases List.mem_cons.1 h with h | h
              · omega
              · exact hS.out h)]
          exact E6.out
        have M7 := Lib.hid hm7
        have V7 : Hid (∀ k, vOf E' k = vR (L.take (i + 1)) k) := fun k => by rw [hv7 k, hV.out k, VT.out k]
        have Z7 : Hid (w.heap.size + 3 ≤ w7.heap.size) := by
          show _ ≤ _
          have := sz6.out.2
          have := hc7.size
          omega
        clear hc7 hm7 hin hv7 k6 v6 Q6 M6 E6 sz6 hq7
        go_wp2_with fail
        go_roundw
        case rel => exact ⟨i + 1, by go_num, by omega, E', c', top', bl', by omega, V7, M7, E7, S7, Z7, NDN⟩
        case measure => simp [intOf]; omega
    · have hnl : ¬ (i : Int) < (L.length : Int) := by omega
      have e : L.take i = L := List.take_of_length_le (by omega)
      rw [e] at hV NDT
      go_wp2_with fail
      refine bodyPost_ret (v := .tuple #[.pointer (some ⟨w.heap.size + 1, 0, none⟩), .int .i64 0]) (by simp [results, Tryd.results9, go_sem]) rfl (.inl ⟨NDT.out, _, _, E, c, top, bl, rfl, hM.out, hV.out, by omega⟩)
end Go.Proofs.YtjlodnecdngdfaaDoor
