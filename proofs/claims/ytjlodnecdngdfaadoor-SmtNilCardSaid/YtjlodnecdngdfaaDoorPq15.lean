/-
  A proof of a key, as a law's argument.; Slices of whatever rows, and of pairs, as a law's argument.; A map of the call's own, from call to call; a pair's two halves.; Within smt's Prove: what stands, and how it goes on.
-/
import Derived.SizedLaws
import Derived.Test.YtjlodnecdngdfaaDoorPq8
import Derived.Test.YtjlodnecdngdfaaDoorPq12
import Derived.Test.YtjlodnecdngdfaaDoorPq13
import Derived.Test.YtjlodnecdngdfaaDoorPq14
namespace Go.Proofs.YtjlodnecdngdfaaDoor
set_option maxRecDepth 100000
open Go.ChangeShapes Go.WideShapes Go.ChangeAt Go.RowKit Go.Deep

section
variable {H : Type} {enc : TypeId × Value → H} {P : Program} {w : World} {base : Nat} {held : Bool}

theorem trod_struct {t : TypeId} {fs : Array Field} {fuel n : Nat} {cs : List Value} {x : DataW H × List MemPlace} (ht : P.underlying t = some (.struct fs)) (hC : P.cellsOf t = n) (h : DataW.trod enc P w base (fun _ => true) held fuel t cs = some x) :
    cs.length = n ∧ ∃ m, ∃ ys : List (DataW H × List MemPlace), x.1 = .agg (ys.map (·.1)) ∧
      ∀ (i : Nat) f, fs.toList[i]? = some f → ∃ y, ys[i]? = some y ∧ DataW.trod enc P w base (fun _ => true) held m f.type ((cs.drop f.offset).take (P.cellsOf f.type)) = some y := by
  cases fuel with
  | zero => simp [DataW.trod] at h
  | succ m =>
    rw [DataW.trod_step] at h
    unfold DataW.trodStep at h
    simp only [ht, hC] at h
    split at h
    · rename_i hl
      simp only [Option.map_eq_some_iff] at h
      obtain ⟨ys, hy, hx⟩ := h
      refine ⟨hl, m, ys, by rw [← hx], fun i f hf => ?_⟩
      have h1 := mapM_some_get hy i f hf
      obtain ⟨y, hyy⟩ := mapM_mem hy f (List.mem_of_getElem? hf)
      exact ⟨y, by rw [← h1]; exact hyy, hyy⟩
    · simp at h
theorem weights_mem_all {e : TypeId} : ∀ {el : List (DataW H)} {d : DataW H}, d ∈ el → ∀ n ∈ d.weights P e, n ∈ DataW.weightsAll P e el
  | [], d, hd, _, _ => by cases hd
  | c :: el, d, hd, n, hn => by
    rw [DataW.weightsAll]
    rcases List.mem_cons.1 hd with rfl | hd
    · exact List.mem_append.2 (.inl hn)
    · exact List.mem_append.2 (.inr (weights_mem_all hd n hn))
theorem weights_struct {t : TypeId} {fs : Array Field} (ht : P.underlying t = some (.struct fs)) {parts : List (DataW H)} (h : ∀ n ∈ (DataW.agg parts).weights P t, n ≤ reachBytes) {j : Nat} {f : Field} {d : DataW H} (hf : fs.toList[j]? = some f) (hd : parts[j]? = some d) :
    ∀ n ∈ d.weights P f.type, n ≤ reachBytes := by
  intro n hn
  refine h n ?_
  rw [DataW.weights, ht]
  exact DataW.weights_mem_each (by rw [List.getElem?_map, hf]; rfl) hd n hn
theorem weights_slice {t e : TypeId} (ht : P.underlying t = some (.slice e)) {el sp : List (DataW H)} (h : ∀ n ∈ (DataW.slice el sp).weights P t, n ≤ reachBytes) : el.length * P.bytesOf e ≤ reachBytes ∧ ∀ d ∈ el, ∀ n ∈ d.weights P e, n ≤ reachBytes := by
  rw [DataW.weights, ht] at h
  simp only at h
  refine ⟨Nat.le_trans (Nat.mul_le_mul_right _ (Nat.le_add_right _ sp.length)) (h _ (List.mem_cons_self ..)), fun d hd n hn => h n ?_⟩
  exact List.mem_cons.2 (.inr (List.mem_append.2 (.inl (weights_mem_all hd n hn))))
end

section
variable {H : Type} {enc : TypeId × Value → H} {w : World} {base : Nat} {held : Bool}
theorem reach47 : reachBytes ≤ 140737488355328 := by decide
theorem trod_hs {fuel : Nat} {cs : List Value} {y : DataW H × List MemPlace} (h : DataW.trod enc Tryd.prog w base (fun _ => true) held fuel 46 cs = some y) :
    ∃ q k Ss, cs = [.slice q Ss.length k] ∧ RdHs w q Ss ∧ HsOk Ss ∧ (Ss.length = 0 ∨ ∃ el sp, y.1 = .slice el sp ∧ el.length = Ss.length) := by
  rcases Deep.open_slice Tryd.underlying46 h with ⟨rfl, _⟩ | ⟨a, len, cap, m, n, D, Pl, rfl, hb, hl, hm, hmm, hy, hx⟩
  · exact ⟨none, 0, [], rfl, .inl rfl, HsOk.nil, .inl rfl⟩
  · simp only [if_true] at hmm
    subst hmm
    rw [show Tryd.prog.cellsOf 24 = 32 by kernel_rfl] at hx
    have key : ∀ i, ∃ F : List Int, i < len → F.length = 32 ∧ Bytes F ∧ ∀ j, j < 32 → w.cell? (a.add (i * 32 + j)) = some (.int .u8 (F.getD j 0)) := by
      intro i
      by_cases hi : i < len
      · obtain ⟨cs', hc1, ht⟩ := hx i (by omega)
        obtain ⟨F, hF, rfl, bF⟩ := trod_hashB Tryd.underlying24 Tryd.underlying5 (by kernel_rfl) (by kernel_rfl) ht
        refine ⟨F, fun _ => ⟨hF, bF, fun j hj => ?_⟩⟩
        have := (World.cells?_some hc1).2.2 j hj
        rw [Addr.add_add] at this
        rw [this]
        simp [hc, List.getD, hF, hj]
      · exact ⟨[], fun h => absurd h hi⟩
    obtain ⟨f, hf⟩ := Classical.axiomOfChoice key
    have hlen : ((List.range len).map f).length = len := by simp
    have hg : ∀ i, i < len → ((List.range len).map f).getD i [] = f i := fun i hi => by simp [List.getD, hi]
    refine ⟨some a, _, (List.range len).map f, by rw [hlen], ?_, ?_, .inr ⟨_, _, by rw [hy], by simp⟩⟩
    · by_cases h0 : len = 0
      · exact .inl (by simp [h0])
      · obtain ⟨b, o, sp⟩ := a
        have hsp : sp = none := by
          have := (hf 0 (by omega)).2.2 0 (by omega)
          simpa [Addr.add] using World.cell?_spot this
        subst hsp
        refine .inr ⟨b, o, rfl, fun i hi => ?_⟩
        rw [hlen] at hi
        obtain ⟨h1, h2, h3⟩ := hf i hi
        rw [hg i hi]
        have := rowOf_cells (w := w) (b := b) (o := o + i * 32) (F := f i) (fun j hj => by
          have := h3 j (by omega)
          rw [addr_add] at this
          rw [← this]
          congr 2
          omega)
        rw [h1] at this
        exact this
    · intro F hF
      obtain ⟨i, hi, rfl⟩ := List.mem_map.1 hF
      obtain ⟨h1, h2, _⟩ := hf i (List.mem_range.1 hi)
      exact ⟨h1, h2⟩
theorem open_pf5 {r : Reach} {b0 : Nat} {v : Value} {d : DataW H} {p : List MemPlace} (hv : Value.okWide Tryd.prog w r b0 50 v) (h : DataW.Trod enc Tryd.prog w base (fun _ => true) held 50 v d p)
    (hs : ∀ n ∈ d.weights Tryd.prog 50, n ≤ reachBytes) : ∃ M q k Ss, v = .agg (pfRow M (.slice q Ss.length k)).toArray ∧ M.length = 32 ∧ Bytes M ∧ RdHs w q Ss ∧ HsOk Ss ∧ Ss.length * 32 ≤ 140737488355328 := by
  have hr := reach47
  obtain ⟨arr, rfl, _, _⟩ : ∃ cs, v = .agg cs ∧ cs.size = Tryd.prog.cellsOf 50 ∧ Row.okWide Tryd.prog w r b0 50 cs := by
    simpa [Value.okWide, Tryd.underlying50] using hv
  obtain ⟨fuel, hf⟩ := h
  obtain ⟨hl, m, ys, hx, hfld⟩ := trod_struct Tryd.underlying50 (n := 33) (by kernel_rfl) hf
  simp only at hx
  subst hx
  obtain ⟨y0, g0, t0⟩ := hfld 0 _ rfl
  dsimp only at t0
  rw [show Tryd.prog.cellsOf 24 = 32 by kernel_rfl] at t0
  obtain ⟨M, hM, e0, bM⟩ := trod_hashB Tryd.underlying24 Tryd.underlying5 (by kernel_rfl) (by kernel_rfl) t0
  obtain ⟨y2, g2, t2⟩ := hfld 1 _ rfl
  dsimp only at t2
  rw [show Tryd.prog.cellsOf 46 = 1 by kernel_rfl] at t2
  have m2 := weights_struct Tryd.underlying50 hs (j := 1) rfl (show (ys.map (·.1))[1]? = some y2.1 by rw [List.getElem?_map, g2]; rfl)
  dsimp only at m2
  obtain ⟨q, k, Ss, e2, r2, ok, z2⟩ := trod_hs t2
  have s2 : Ss.length * 32 ≤ 140737488355328 := by
    rcases z2 with z | ⟨el, sp, z1, z2⟩
    · omega
    · rw [z1] at m2
      have := (weights_slice Tryd.underlying46 m2).1
      rw [show Tryd.prog.bytesOf 24 = 32 by kernel_rfl, z2] at this
      omega
  refine ⟨M, q, k, Ss, ?_, hM, bM, r2, ok, s2⟩
  obtain ⟨cs, hcs⟩ : ∃ cs, (Value.agg arr).cells.toList = cs := ⟨_, rfl⟩
  have ha : arr = cs.toArray := by rw [← hcs]; simp [Value.cells]
  rw [hcs] at hl e0 e2
  rw [ha]
  congr 1
  apply Array.ext'
  simp only [pfRow]
  rw [← e2, ← e0]
  simp only [List.drop_zero]
  have h1 : (cs.drop 32).take 1 = cs.drop 32 := List.take_of_length_le (by simp; omega)
  rw [h1, List.take_append_drop]
end
end Go.Proofs.YtjlodnecdngdfaaDoor
namespace Go.Proofs.YtjlodnecdngdfaaDoor
set_option maxRecDepth 100000
open Go.ChangeShapes Go.WideShapes Go.ChangeAt Go.RowKit Go.Deep

theorem rowOf_vals {w : World} {b o n : Nat} {cs : List Value} (hn : cs.length = n) (h0 : 0 < n) (h : ∀ j v, cs[j]? = some v → w.cell? ⟨b, o + j, none⟩ = some v) : rowOf w b o n = cs := by
  subst hn
  have hf := h 0 cs[0] (by simp [h0])
  unfold World.cell? at hf
  split at hf
  · rename_i C t fr hb
    rw [rowOf_block hb]
    apply List.ext_getElem?
    intro j
    by_cases hj : j < cs.length
    · have := h j cs[j] (by simp [hj])
      rw [Joins.cell_of_block hb] at this
      have hlt := (Array.getElem?_eq_some_iff.1 this).1
      rw [Array.getElem?_toList, Array.getElem?_extract, if_pos (by omega), this, List.getElem?_eq_getElem hj]
    · rw [List.getElem?_eq_none (by rw [Array.length_toList, Array.size_extract]; omega), List.getElem?_eq_none (by omega)]
  · simp at hf

section
variable {H : Type} {enc : TypeId × Value → H} {P : Program} {w : World} {base : Nat} {held : Bool}
/-- A slice's cell, element by element. -/
theorem trod_rows {α : Type} {R : World → Fp → α → List Value → Prop} {okx : α → Prop} {d0 : α} {n by_ : Nat} {t e : TypeId} (k : FpOk R) (hn : 0 < n) (ht : P.underlying t = some (.slice e)) (hC : P.cellsOf e = n) (hB : P.bytesOf e = by_)
    (elem : ∀ (fuel : Nat) (cs : List Value) (y : DataW H × List MemPlace), DataW.trod enc P w base (fun _ => true) held fuel e cs = some y → (∀ n ∈ y.1.weights P e, n ≤ reachBytes) → ∃ x, cs.length = n ∧ R w (fun g => g < w.heap.size) x cs ∧ okx x)
    {fuel : Nat} {cs : List Value} {y : DataW H × List MemPlace} (hf : DataW.trod enc P w base (fun _ => true) held fuel t cs = some y) (hs : ∀ n ∈ y.1.weights P t, n ≤ reachBytes) :
    ∃ q c L, cs = [.slice q L.length c] ∧ RwF n d0 R w (fun g => g < w.heap.size) q L ∧ (∀ x ∈ L, okx x) ∧ L.length * by_ ≤ reachBytes := by
  have _ := k
  rcases Deep.open_slice ht hf with ⟨h0, _⟩ | ⟨a, len, cap, m, nn, D, Pl, hcs, hb, hl, hm, hmm, hy, hx⟩
  · exact ⟨none, 0, [], h0, .inl rfl, fun s h => by simp at h, by simp⟩
  · simp only [if_true] at hmm
    subst hmm
    rw [hy] at hs
    obtain ⟨w1, w2⟩ := weights_slice ht hs
    rw [hB] at w1
    have key : ∀ i, ∃ x : α × List Value, i < len → okx x.1 ∧ x.2.length = n ∧ R w (fun g => g < w.heap.size) x.1 x.2 ∧ ∀ j u, x.2[j]? = some u → w.cell? (a.add (i * n + j)) = some u := by
      intro i
      by_cases hi : i < len
      · obtain ⟨cs', hc1, hte⟩ := hx i (by omega)
        rw [hC] at hc1
        obtain ⟨x, l9, hr, ok⟩ := elem _ _ _ hte (w2 (D i) (List.mem_map.2 ⟨i, by simpa using hi, rfl⟩))
        refine ⟨(x, cs'), fun _ => ⟨ok, l9, hr, fun j u hu => ?_⟩⟩
        have hj2 : j < cs'.length := (List.getElem?_eq_some_iff.1 hu).1
        have hj : j < n := by omega
        have := (World.cells?_some hc1).2.2 j hj
        rw [Addr.add_add] at this
        rw [this]
        exact hu
      · exact ⟨(d0, []), fun h => absurd h hi⟩
    obtain ⟨f, hf⟩ := Classical.axiomOfChoice key
    have hlen : ((List.range len).map fun i => (f i).1).length = len := by simp
    have hg : ∀ i, i < len → ((List.range len).map fun i => (f i).1).getD i d0 = (f i).1 := fun i hi => by simp [List.getD, hi]
    refine ⟨some a, m, (List.range len).map fun i => (f i).1, by rw [hlen]; exact hcs, ?_, ?_, by rw [hlen]; simpa using w1⟩
    · by_cases h0 : len = 0
      · exact .inl (by simp [h0])
      · obtain ⟨b, o, sp⟩ := a
        have hsp : sp = none := by
          obtain ⟨_, l9, _, h3⟩ := hf 0 (by omega)
          have := h3 0 _ (List.getElem?_eq_getElem (by omega))
          simpa [Addr.add] using World.cell?_spot this
        subst hsp
        refine .inr ⟨b, o, rfl, ?_, fun i hi => ?_⟩
        · obtain ⟨_, l9, _, h3⟩ := hf 0 (by omega)
          have := lt_of_cell (h3 0 _ (List.getElem?_eq_getElem (by omega)))
          rw [addr_add] at this
          exact this
        · rw [hlen] at hi
          obtain ⟨ok, l9, h2, h3⟩ := hf i hi
          rw [hg i hi]
          refine ⟨(f i).2, l9, rowOf_vals l9 hn (fun j u hu => ?_), h2⟩
          have := h3 j u hu
          rw [addr_add] at this
          rw [← this]
          congr 2
          omega
    · intro s hS
      obtain ⟨i, hi, rfl⟩ := List.mem_map.1 hS
      exact (hf i (List.mem_range.1 hi)).1
end

/-- A pair's cells. -/
def PPr (_ : World) (_ : Fp) (x : List Int × List Int) (r : List Value) : Prop := r = prRow x.1 x.2
theorem PPr_ok : FpOk PPr where
  mono := fun h _ => h
  agr := fun h _ => h
  lt := fun h => h
def pr0 : List Int × List Int := (zero32, zero32)
structure PrOk (x : List Int × List Int) : Prop where
  k : KyOk x.1
  l : x.2.length = 32
  b : Bytes x.2
section
variable {H : Type} {enc : TypeId × Value → H} {w : World} {base : Nat} {held : Bool}
theorem elem_pr (fuel : Nat) (cs : List Value) (y : DataW H × List MemPlace) (hf : DataW.trod enc Tryd.prog w base (fun _ => true) held fuel 37 cs = some y) (_ : ∀ n ∈ y.1.weights Tryd.prog 37, n ≤ reachBytes) :
    ∃ x, cs.length = 64 ∧ PPr w (fun g => g < w.heap.size) x cs ∧ PrOk x := by
  obtain ⟨hl, mm, ys, hx, hfld⟩ := trod_struct Tryd.underlying37 (n := 64) (by kernel_rfl) hf
  have c1 : Tryd.prog.cellsOf 24 = 32 := by kernel_rfl
  have c2 : Tryd.prog.cellsOf 5 = 1 := by kernel_rfl
  obtain ⟨y0, g0, t0⟩ := hfld 0 _ rfl
  obtain ⟨y1, g1, t1⟩ := hfld 1 _ rfl
  dsimp only at t0 t1
  rw [c1] at t0 t1
  obtain ⟨F, lF, eF, bF⟩ := trod_hashB Tryd.underlying24 Tryd.underlying5 c1 c2 t0
  obtain ⟨G, lG, eG, bG⟩ := trod_hashB Tryd.underlying24 Tryd.underlying5 c1 c2 t1
  refine ⟨(F, G), hl, ?_, ⟨⟨lF, bF⟩, lG, bG⟩⟩
  show cs = prRow F G
  rw [List.drop_zero] at eF
  have e2 : (cs.drop 32).take 32 = cs.drop 32 := List.take_of_length_le (by simp [hl])
  rw [e2] at eG
  rw [← List.take_append_drop 32 cs, eF, eG]
  simp [prRow]
theorem open_prs {r : Reach} {b0 : Nat} {v : Value} {d : DataW H} {p : List MemPlace} (hv : Value.okWide Tryd.prog w r b0 22 v) (h : DataW.Trod enc Tryd.prog w base (fun _ => true) held 22 v d p)
    (hs : ∀ n ∈ d.weights Tryd.prog 22, n ≤ reachBytes) : ∃ q c L, v = .slice q L.length c ∧ RwF 64 pr0 PPr w (fun g => g < w.heap.size) q L ∧ (∀ x ∈ L, PrOk x) ∧ L.length ≤ 3000000000000 := by
  obtain ⟨a0, len0, cap0, rfl⟩ := okWide_slice Tryd.underlying22 hv
  obtain ⟨fuel, hf⟩ := h
  obtain ⟨q, c, L, e, rr, ok, l⟩ := trod_rows (d0 := pr0) PPr_ok (by decide) Tryd.underlying22 (n := 64) (by kernel_rfl) (by_ := 64) (by kernel_rfl) elem_pr hf hs
  refine ⟨q, c, L, ?_, rr, ok, by unfold reachBytes at l; omega⟩
  simpa [Value.cells] using e
end
end Go.Proofs.YtjlodnecdngdfaaDoor
namespace Go.Proofs.YtjlodnecdngdfaaDoor
open Go.RowKit
set_option maxRecDepth 100000

theorem rowOf_half {w : World} {b o : Nat} {K V : List Int} (lK : K.length = 32) (lV : V.length = 32) (h : rowOf w b o 64 = prRow K V) : rowOf w b o 32 = hc K ∧ rowOf w b (o + 32) 32 = hc V := by
  have hl := prRow_len lK lV
  unfold rowOf at *
  cases hb : w.heap[b]? with
  | none => rw [hb] at h; simp at h; rw [h] at hl; simp at hl
  | some x =>
    rw [hb] at h
    cases x with
    | cells cs t fr =>
      simp only [Array.toList_extract, List.extract_eq_take_drop] at h ⊢
      rw [show o + 64 - o = 64 by omega] at h
      rw [show o + 32 - o = 32 by omega, show o + 32 + 32 - (o + 32) = 32 by omega]
      have e1 : (cs.toList.drop o).take 32 = ((cs.toList.drop o).take 64).take 32 := by rw [List.take_take]; rfl
      have e2 : (cs.toList.drop (o + 32)).take 32 = ((cs.toList.drop o).take 64).drop 32 := by
        rw [List.drop_take, List.drop_drop]
      rw [e1, e2, h]
      constructor
      · simp [prRow, hc_len, lK]
      · have := hc_len K
        have := hc_len V
        simp only [prRow, List.append_nil]
        rw [List.drop_append_of_le_length (by omega), List.drop_of_length_le (by omega)]
        rfl
    | _ => simp at h; rw [h] at hl; simp at hl
/-- A map that the call made, as it stands now. -/
structure MpW (w wr : World) (p m : Nat) (E : List En) (c : Nat) (top : Option Addr) (bl : List Nat) : Prop where
  map : MapS wr p m E c top bl
  below : Below w.heap.size w wr
  pg : w.heap.size ≤ p
  mg : w.heap.size ≤ m
  bg : ∀ g ∈ bl, w.heap.size ≤ g
section
variable {w wr w' : World} {p m c : Nat} {E : List En} {top : Option Addr} {bl : List Nat}
theorem MpW.on (h : MpW w wr p m E c top bl) (hb : Below wr.heap.size wr w') : MpW w w' p m E c top bl := ⟨h.map.on hb, h.below.trans (hb.mono h.below.size), h.pg, h.mg, h.bg⟩
theorem MpW.chg (h : MpW w wr p m E c top bl) (hc : Chg wr w' bl) (hm : MapS w' p m E c top bl) : MpW w w' p m E c top bl :=
  ⟨hm, h.below.trans (hc.toBelow h.below.size (fun k hk => h.bg k hk)), h.pg, h.mg, h.bg⟩
theorem MpW.put {K V : List Int} {e : Ending} (h : MpW w wr p m E c top bl) (hq : PutQ wr p m E bl K V e w') :
    e = .returned (.int .i64 0) ∧ ∃ E' c' top' bl', MpW w w' p m E' c' top' bl' ∧ (∀ k, vOf E' k = if k = K then V else vOf E k) ∧ E'.length ≤ E.length + 1 ∧ E.length ≤ E'.length + 1 := by
  obtain ⟨he, hc, E', c', top', bl', hm, hin, hv, h1, h2⟩ := hq
  refine ⟨he, E', c', top', bl', ⟨hm, h.below.trans (hc.toBelow h.below.size (fun k hk => ?_)), h.pg, h.mg, fun g hg => ?_⟩, hv, h1, h2⟩
  · rcases List.mem_cons.1 hk with rfl | hk
    · exact h.pg
    · rcases List.mem_cons.1 hk with rfl | hk
      · exact h.mg
      · exact h.bg k hk
  · rcases hin g hg with hg | hg
    · exact h.bg g hg
    · have := h.below.size; omega
end
/-- A new map of no pairs. -/
theorem MpW_new {w w' : World} {p m : Nat} (hb : Below w.heap.size w w') (hp : w.heap.size ≤ p) (hm : w.heap.size ≤ m) (h : MpS w' p m #[] 0 none) : MpW w w' p m [] 0 none [] :=
  ⟨⟨h, .inl ⟨rfl, rfl, rfl⟩, EnW.nil, EnC.nil 0, by simp, by simp⟩, hb, hp, hm, fun g hg => (by cases hg)⟩
end Go.Proofs.YtjlodnecdngdfaaDoor
namespace Go.Proofs.YtjlodnecdngdfaaDoor
open Go.RowKit
set_option maxRecDepth 100000

/-- What stays throughout. -/
structure PlF (w0 w : World) (p m : Nat) (bl : List Nat) (kb : Nat) : Prop where
  hkb : w.heap.size = kb
  lp : p < kb
  lm : m < kb
  lbl : ∀ g ∈ bl, g < kb
  lw0 : w0.heap.size ≤ kb
  lbg : ∀ g ∈ bl, w0.heap.size ≤ g
  pn : p ∉ bl
  mn : m ∉ bl
  nd : bl.Nodup
  ng : 1 ∉ bl
structure PlS (w0 w wr : World) (p m c : Nat) (E : List En) (top : Option Addr) (bl : List Nat) (kb : Nat) (K M : List Int) (v : Value) (Ss : List (List Int)) : Prop where
  s : MpS wr p m (mes E) c top
  chg : Chg w wr bl
  hK : HashAt wr kb K
  hR : PfB 48 wr (kb + 1) zero32 (.slice none 0 0)
  hP : PfB 48 wr (kb + 2) M v
  hs : HsS w0 wr v Ss
  nw : ∀ g, v.ownBlock = some g → kb + 3 ≤ g
section
variable {w0 w wr w' : World} {p m c : Nat} {E : List En} {top : Option Addr} {bl : List Nat} {kb : Nat} {K M M' : List Int} {v v' : Value} {Ss Ts : List (List Int)}
theorem HsS.chg {S : List Nat} (h : HsS w0 wr v Ss) (hc : Chg wr w' S) (hS : ∀ k ∈ S, w0.heap.size ≤ k) (hv : ∀ k, v.ownBlock = some k → k ∉ S) : HsS w0 w' v Ss :=
  ⟨own_chg2 h.own hc hv, h.ok, h.fresh, h.below.trans (hc.toBelow h.below.size hS)⟩
theorem PlS.size (_ : PlF w0 w p m bl kb) (h : PlS w0 w wr p m c E top bl kb K M v Ss) : kb + 2 < wr.heap.size := h.hP.lt
theorem PlS.tree {S : List Nat} (F : PlF w0 w p m bl kb) (h : PlS w0 w wr p m c E top bl kb K M v Ss) (hc : Chg wr w' S) (hS : ∀ g ∈ S, g ∈ bl) : PlS w0 w w' p m c E top bl kb K M v Ss := by
  have hl : ∀ g, kb ≤ g → g ∉ S := fun g hg hm => by have := F.lbl g (hS g hm); omega
  exact ⟨h.s.chg hc (fun hm => F.pn (hS _ hm)) (fun hm => F.mn (hS _ hm)), h.chg.trans hc (fun g hg _ => hS g hg), h.hK.chg' hc (hl _ (by omega)), h.hR.chg hc (hl _ (by omega)), h.hP.chg hc (hl _ (by omega)),
    h.hs.chg hc (fun k hk => F.lbg k (hS k hk)) (fun k hk => hl k (by have := h.nw k hk; omega)), h.nw⟩
theorem PlS.on (F : PlF w0 w p m bl kb) (h : PlS w0 w wr p m c E top bl kb K M v Ss) (hb : Below wr.heap.size wr w') : PlS w0 w w' p m c E top bl kb K M v Ss :=
  h.tree F (Chg.below hb (Nat.le_refl _) []) (by simp)
/-- A side noted. -/
theorem PlS.add {l : Nat} {G : List Int} {e : Ending} (F : PlF w0 w p m bl kb) (h : PlS w0 w wr p m c E top bl kb K M v Ss) (hq : AdQ w0 wr (kb + 2) l M v Ss G e w') :
    e = .returned (.tuple #[]) ∧ ∃ M' v', PlS w0 w w' p m c E top bl kb K M' v' (if G = zero32 then Ss else Ss ++ [G]) ∧ KyOk M' ∧ (∀ i, i < 256 → bitI M' i = if G = zero32 then bitI M i else if i = l then 1 else bitI M i) ∧ Chg wr w' ((kb + 2) :: v.ownBlock.toList) := by
  obtain ⟨he, M', v', h1, h2, h3, h4, h5, h6⟩ := hq
  have hl : ∀ g, g < kb + 2 → g ∉ (kb + 2) :: v.ownBlock.toList := fun g hg hm => by
    rcases List.mem_cons.1 hm with rfl | hm
    · omega
    · have := h.nw g (by simpa using hm); omega
  have hF := F.hkb
  refine ⟨he, M', v', ⟨h.s.chg h5 (hl _ (by have := F.lp; omega)) (hl _ (by have := F.lm; omega)), h.chg.trans h5 (fun g hg hlt => ?_), h.hK.chg' h5 (hl _ (by omega)), h.hR.chg h5 (hl _ (by omega)), h1, h2, fun g hg => ?_⟩, h3, h4, h5⟩
  · exact absurd hg (hl g (by omega))
  · rcases h6 with e | e
    · rw [e] at hg; exact h.nw g hg
    · have := e g hg; have := h.size F; omega
/-- The part of the tree that is still to be walked, and how the whole stands once it is. -/
structure TlS (wr : World) (E : List En) (top : Option Addr) (bl : List Nat) (t : Tr) (b : Nat) (bs : List Nat) : Prop where
  tr : TrA wr (vOf E) t b bs
  nd : bs.Nodup
  ins : ∀ g ∈ bs, g ∈ bl
  cont : ∀ W S, Chg wr W S → (∀ g ∈ bl, g ∈ S → g ∈ bs) → TrA W (vOf E) t b bs → TopS W E top bl
theorem TlS.chg {t : Tr} {b : Nat} {bs S : List Nat} (h : TlS wr E top bl t b bs) (hc : Chg wr w' S) (hS : ∀ g ∈ bl, g ∉ S) : TlS w' E top bl t b bs :=
  ⟨h.tr.chg hc (fun g hg => hS g (h.ins g hg)), h.nd, h.ins, fun W T hT hx ht => h.cont W (S ++ T) ((Chg.refl wr _).trans hc (fun _ hg _ => List.mem_append.2 (.inl hg)) |>.trans hT (fun _ hg _ => List.mem_append.2 (.inr hg)))
    (fun g hg hm => (List.mem_append.1 hm).elim (fun h2 => absurd h2 (hS g hg)) (hx g hg)) ht⟩
theorem TlS.on {t : Tr} {b : Nat} {bs : List Nat} (h : TlS wr E top bl t b bs) (hb : Below wr.heap.size wr w') : TlS w' E top bl t b bs := h.chg (Chg.below hb (Nat.le_refl _) []) (by simp)
/-- The tree itself reckoned anew. -/
theorem TlS.self {t : Tr} {b : Nat} {bs : List Nat} (h : TlS wr E top bl t b bs) (hc : Chg wr w' bs) (ht : TrA w' (vOf E) t b bs) : TlS w' E top bl t b bs :=
  ⟨ht, h.nd, h.ins, fun W T hT hx ht => h.cont W (bs ++ T) ((Chg.refl wr _).trans hc (fun _ hg _ => List.mem_append.2 (.inl hg)) |>.trans hT (fun _ hg _ => List.mem_append.2 (.inr hg)))
    (fun g hg hm => (List.mem_append.1 hm).elim id (hx g hg)) ht⟩
theorem TlS.topS {t : Tr} {b : Nat} {bs : List Nat} (h : TlS wr E top bl t b bs) : TopS wr E top bl := h.cont wr [] (Chg.refl _ _) (by simp) h.tr
/-- Down a branch: the other branch may be reckoned meanwhile. -/
theorem TlS.down {k : List Int} {f : Nat} {l r : Tr} {b : Nat} {bs : List Nat} (h : TlS wr E top bl (.nd k f l r) b bs) :
    ∃ x y bl1 bl2, (∃ n : Nd, NdB wr b n ∧ n.ok ∧ n.key = k ∧ n.fork = (f : Int) ∧ n.lo = some ⟨x, 0, none⟩ ∧ n.hi = some ⟨y, 0, none⟩) ∧ TrA wr (vOf E) l x bl1 ∧ TrA wr (vOf E) r y bl2 ∧ bl1.Nodup ∧ bl2.Nodup ∧ (∀ g ∈ bl1, g ∈ bl) ∧ (∀ g ∈ bl2, g ∈ bl) ∧ b ∉ bl1 ∧ b ∉ bl2 ∧
      (∀ W, Chg wr W bl2 → TrA W (vOf E) r y bl2 → TlS W E top bl l x bl1) ∧ (∀ W, Chg wr W bl1 → TrA W (vOf E) l x bl1 → TlS W E top bl r y bl2) := by
  obtain ⟨x, y, bl1, bl2, hbl, hnd, htl, htr⟩ := h.tr
  have hn := h.nd
  rw [hbl] at hn
  obtain ⟨nb, nd12⟩ := List.nodup_cons.1 hn
  obtain ⟨nd1, nd2, nd3⟩ := List.nodup_append.1 nd12
  have i1 : ∀ g ∈ bl1, g ∈ bl := fun g hg => h.ins g (by rw [hbl]; simp [hg])
  have i2 : ∀ g ∈ bl2, g ∈ bl := fun g hg => h.ins g (by rw [hbl]; simp [hg])
  have n1 : b ∉ bl1 := fun hm => nb (by simp [hm])
  have n2 : b ∉ bl2 := fun hm => nb (by simp [hm])
  have d12 : ∀ g ∈ bl1, g ∉ bl2 := fun g h1 h2 => nd3 g h1 g h2 rfl
  have ib : b ∈ bl := h.ins b (by rw [hbl]; simp)
  refine ⟨x, y, bl1, bl2, ?_, htl, htr, nd1, nd2, i1, i2, n1, n2, fun W hc ht => ⟨htl.chg hc d12, nd1, i1, fun U T hT hx hu => ?_⟩, fun W hc ht => ⟨htr.chg hc (fun g hg hm => d12 g hm hg), nd2, i2, fun U T hT hx hu => ?_⟩⟩
  · obtain ⟨n, q1, q2, q3, q4, q5, q6, -, -⟩ := hnd
    exact ⟨n, q1, q2, q3, q4, q5, q6⟩
  · refine h.cont U (bl2 ++ T) ((Chg.refl wr _).trans hc (fun _ hg _ => List.mem_append.2 (.inl hg)) |>.trans hT (fun _ hg _ => List.mem_append.2 (.inr hg))) (fun g hg hm => ?_) ?_
    · rw [hbl]
      rcases List.mem_append.1 hm with hm | hm
      · simp [hm]
      · have := hx g hg hm; simp [this]
    · exact ⟨x, y, bl1, bl2, hbl, (hnd.chg hc n2).chg hT (fun hm => n1 (hx b ib hm)), hu, ht.chg hT (fun g hg hm => d12 g (hx g (i2 g hg) hm) hg)⟩
  · refine h.cont U (bl1 ++ T) ((Chg.refl wr _).trans hc (fun _ hg _ => List.mem_append.2 (.inl hg)) |>.trans hT (fun _ hg _ => List.mem_append.2 (.inr hg))) (fun g hg hm => ?_) ?_
    · rw [hbl]
      rcases List.mem_append.1 hm with hm | hm
      · simp [hm]
      · have := hx g hg hm; simp [this]
    · exact ⟨x, y, bl1, bl2, hbl, (hnd.chg hc n1).chg hT (fun hm => n2 (hx b ib hm)), ht.chg hT (fun g hg hm => d12 g hg (hx g (i1 g hg) hm)), hu⟩
/-- Ahead of the walk. -/
theorem TlS.start {t : Tr} {b : Nat} (ht : TrA wr (vOf E) t b bl) (hn : bl.Nodup) (ok : t.ok) (hk : ∀ k, k ∈ t.keys ↔ ∃ x ∈ E, x.k = k) : TlS wr E (some ⟨b, 0, none⟩) bl t b bl :=
  ⟨ht, hn, fun _ h => h, fun _ _ _ _ hu => .inr ⟨b, t, rfl, ok, hk, hu, hn⟩⟩
/-- What Prove answers, and what it leaves. -/
def PvQ (w0 w : World) (p m c : Nat) (E : List En) (top : Option Addr) (bl : List Nat) (K : List Int) (e : Ending) (w' : World) : Prop :=
  ∃ M q k Ss, e = .returned (.agg (pfRow M (.slice q Ss.length k)).toArray) ∧ PvN (vOf E) (E.map (·.k)) K 256 M Ss ∧ HsS w0 w' (.slice q Ss.length k) Ss ∧ MpW w0 w' p m E c top bl ∧ Chg w w' bl ∧ (∀ g, (Value.slice q Ss.length k).ownBlock = some g → w.heap.size ≤ g)
/-- At the end. -/
theorem PlS.done (F : PlF w0 w p m bl kb) (h : PlS w0 w wr p m c E top bl kb K M v Ss) (ht : TopS wr E top bl) (hM : MpW w0 w p m E c top bl) {u : Value} (hw : w' = wr.setCells (kb + 1) 0 (pfRow M u)) : HsS w0 w' v Ss ∧ MpW w0 w' p m E c top bl ∧ Chg w w' bl := by
  subst hw
  have c1 : Chg wr (wr.setCells (kb + 1) 0 (pfRow M u)) [kb + 1] := (Chg.refl wr [kb + 1]).setCells (b := kb + 1) (.inl (by simp)) (pfRow M u) 0
  have hk := F.hkb
  refine ⟨h.hs.chg c1 (fun g hg => by have := F.lw0; have := List.mem_singleton.1 hg; omega) (fun g hg hm => by have := h.nw g hg; have := List.mem_singleton.1 hm; omega), ?_, h.chg.trans c1 (fun g hg hlt => by have := List.mem_singleton.1 hg; omega)⟩
  refine ⟨⟨h.s.chg c1 (by have := F.lp; simp; omega) (by have := F.lm; simp; omega), ht.chg c1 (fun g hg hm => by have := F.lbl g hg; have := List.mem_singleton.1 hm; omega), hM.map.e, hM.map.n, hM.map.p, hM.map.m⟩, ?_, hM.pg, hM.mg, hM.bg⟩
  exact h.hs.below.trans (c1.toBelow h.hs.below.size (fun g hg => by have := F.lw0; have := List.mem_singleton.1 hg; omega))
end
end Go.Proofs.YtjlodnecdngdfaaDoor
