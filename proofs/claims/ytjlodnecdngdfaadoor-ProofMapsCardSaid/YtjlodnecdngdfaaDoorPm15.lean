/-
  Slices of whatever rows, and of pairs, as a law's argument.; The document's map, plain: pairs by rising keys; a Put of one; the order of keys is that of their bits.; The document's order of keys, byte by byte.; slices.SortFunc at pairs.; A map of the call's own, from call to call; a pair's two halves.; A row of pairs as it reads in memory.; The document's map in memory: a block with a row of pairs of its own.; The document's map: where a key stands.
-/
import Derived.Test.YtjlodnecdngdfaaDoorPm7
import Derived.Test.YtjlodnecdngdfaaDoorPm14
namespace Go.Proofs.YtjlodnecdngdfaaDoor
set_option maxRecDepth 100000
open Go.ChangeShapes Go.WideShapes Go.ChangeAt Go.RowKit Go.Deep

theorem rowOf_vals {w : World} {b o n : Nat} {cs : List Value} (hn : cs.length = n) (h0 : 0 < n) (h : ∀ j v, cs[j]? = some v → w.cell? ⟨b, o + j, none⟩ = some v) : rowOf w b o n = cs := by
  subst hn
  have hf := h 0 cs[0] (by simp [h0])
  unfold World.cell? at hf
  split at hf
  · rename_i C t fr hb
    rw [rowOf_block hb]
    apply List.ext_getElem?
    intro j
    by_cases hj : j < cs.length
    · have := h j cs[j] (by simp [hj])
      rw [Joins.cell_of_block hb] at this
      have hlt := (Array.getElem?_eq_some_iff.1 this).1
      rw [Array.getElem?_toList, Array.getElem?_extract, if_pos (by omega), this, List.getElem?_eq_getElem hj]
    · rw [List.getElem?_eq_none (by rw [Array.length_toList, Array.size_extract]; omega), List.getElem?_eq_none (by omega)]
  · simp at hf

section
variable {H : Type} {enc : TypeId × Value → H} {P : Program} {w : World} {base : Nat} {held : Bool}
/-- A slice's cell, element by element. -/
theorem trod_rows {α : Type} {R : World → Fp → α → List Value → Prop} {okx : α → Prop} {d0 : α} {n by_ : Nat} {t e : TypeId} (k : FpOk R) (hn : 0 < n) (ht : P.underlying t = some (.slice e)) (hC : P.cellsOf e = n) (hB : P.bytesOf e = by_)
    (elem : ∀ (fuel : Nat) (cs : List Value) (y : DataW H × List MemPlace), DataW.trod enc P w base (fun _ => true) held fuel e cs = some y → (∀ n ∈ y.1.weights P e, n ≤ reachBytes) → ∃ x, cs.length = n ∧ R w (fun g => g < w.heap.size) x cs ∧ okx x)
    {fuel : Nat} {cs : List Value} {y : DataW H × List MemPlace} (hf : DataW.trod enc P w base (fun _ => true) held fuel t cs = some y) (hs : ∀ n ∈ y.1.weights P t, n ≤ reachBytes) :
    ∃ q c L, cs = [.slice q L.length c] ∧ RwF n d0 R w (fun g => g < w.heap.size) q L ∧ (∀ x ∈ L, okx x) ∧ L.length * by_ ≤ reachBytes := by
  have _ := k
  rcases Deep.open_slice ht hf with ⟨h0, _⟩ | ⟨a, len, cap, m, nn, D, Pl, hcs, hb, hl, hm, hmm, hy, hx⟩
  · exact ⟨none, 0, [], h0, .inl rfl, fun s h => by simp at h, by simp⟩
  · simp only [if_true] at hmm
    subst hmm
    rw [hy] at hs
    obtain ⟨w1, w2⟩ := weights_slice ht hs
    rw [hB] at w1
    have key : ∀ i, ∃ x : α × List Value, i < len → okx x.1 ∧ x.2.length = n ∧ R w (fun g => g < w.heap.size) x.1 x.2 ∧ ∀ j u, x.2[j]? = some u → w.cell? (a.add (i * n + j)) = some u := by
      intro i
      by_cases hi : i < len
      · obtain ⟨cs', hc1, hte⟩ := hx i (by omega)
        rw [hC] at hc1
        obtain ⟨x, l9, hr, ok⟩ := elem _ _ _ hte (w2 (D i) (List.mem_map.2 ⟨i, by simpa using hi, rfl⟩))
        refine ⟨(x, cs'), fun _ => ⟨ok, l9, hr, fun j u hu => ?_⟩⟩
        have hj2 : j < cs'.length := (List.getElem?_eq_some_iff.1 hu).1
        have hj : j < n := by omega
        have := (World.cells?_some hc1).2.2 j hj
        rw [Addr.add_add] at this
        rw [this]
        exact hu
      · exact ⟨(d0, []), fun h => absurd h hi⟩
    obtain ⟨f, hf⟩ := Classical.axiomOfChoice key
    have hlen : ((List.range len).map fun i => (f i).1).length = len := by simp
    have hg : ∀ i, i < len → ((List.range len).map fun i => (f i).1).getD i d0 = (f i).1 := fun i hi => by simp [List.getD, hi]
    refine ⟨some a, m, (List.range len).map fun i => (f i).1, by rw [hlen]; exact hcs, ?_, ?_, by rw [hlen]; simpa using w1⟩
    · by_cases h0 : len = 0
      · exact .inl (by simp [h0])
      · obtain ⟨b, o, sp⟩ := a
        have hsp : sp = none := by
          obtain ⟨_, l9, _, h3⟩ := hf 0 (by omega)
          have := h3 0 _ (List.getElem?_eq_getElem (by omega))
          simpa [Addr.add] using World.cell?_spot this
        subst hsp
        refine .inr ⟨b, o, rfl, ?_, fun i hi => ?_⟩
        · obtain ⟨_, l9, _, h3⟩ := hf 0 (by omega)
          have := lt_of_cell (h3 0 _ (List.getElem?_eq_getElem (by omega)))
          rw [addr_add] at this
          exact this
        · rw [hlen] at hi
          obtain ⟨ok, l9, h2, h3⟩ := hf i hi
          rw [hg i hi]
          refine ⟨(f i).2, l9, rowOf_vals l9 hn (fun j u hu => ?_), h2⟩
          have := h3 j u hu
          rw [addr_add] at this
          rw [← this]
          congr 2
          omega
    · intro s hS
      obtain ⟨i, hi, rfl⟩ := List.mem_map.1 hS
      exact (hf i (List.mem_range.1 hi)).1
end

/-- A pair's cells. -/
def PPr (_ : World) (_ : Fp) (x : List Int × List Int) (r : List Value) : Prop := r = prRow x.1 x.2
theorem PPr_ok : FpOk PPr where
  mono := fun h _ => h
  agr := fun h _ => h
  lt := fun h => h
def pr0 : List Int × List Int := (zero32, zero32)
structure PrOk (x : List Int × List Int) : Prop where
  k : KyOk x.1
  l : x.2.length = 32
  b : Bytes x.2
section
variable {H : Type} {enc : TypeId × Value → H} {w : World} {base : Nat} {held : Bool}
theorem elem_pr (fuel : Nat) (cs : List Value) (y : DataW H × List MemPlace) (hf : DataW.trod enc Tryd.prog w base (fun _ => true) held fuel 37 cs = some y) (_ : ∀ n ∈ y.1.weights Tryd.prog 37, n ≤ reachBytes) :
    ∃ x, cs.length = 64 ∧ PPr w (fun g => g < w.heap.size) x cs ∧ PrOk x := by
  obtain ⟨hl, mm, ys, hx, hfld⟩ := trod_struct Tryd.underlying37 (n := 64) (by kernel_rfl) hf
  have c1 : Tryd.prog.cellsOf 24 = 32 := by kernel_rfl
  have c2 : Tryd.prog.cellsOf 5 = 1 := by kernel_rfl
  obtain ⟨y0, g0, t0⟩ := hfld 0 _ rfl
  obtain ⟨y1, g1, t1⟩ := hfld 1 _ rfl
  dsimp only at t0 t1
  rw [c1] at t0 t1
  obtain ⟨F, lF, eF, bF⟩ := trod_hashB Tryd.underlying24 Tryd.underlying5 c1 c2 t0
  obtain ⟨G, lG, eG, bG⟩ := trod_hashB Tryd.underlying24 Tryd.underlying5 c1 c2 t1
  refine ⟨(F, G), hl, ?_, ⟨⟨lF, bF⟩, lG, bG⟩⟩
  show cs = prRow F G
  rw [List.drop_zero] at eF
  have e2 : (cs.drop 32).take 32 = cs.drop 32 := List.take_of_length_le (by simp [hl])
  rw [e2] at eG
  rw [← List.take_append_drop 32 cs, eF, eG]
  simp [prRow]
theorem open_prs {r : Reach} {b0 : Nat} {v : Value} {d : DataW H} {p : List MemPlace} (hv : Value.okWide Tryd.prog w r b0 22 v) (h : DataW.Trod enc Tryd.prog w base (fun _ => true) held 22 v d p)
    (hs : ∀ n ∈ d.weights Tryd.prog 22, n ≤ reachBytes) : ∃ q c L, v = .slice q L.length c ∧ RwF 64 pr0 PPr w (fun g => g < w.heap.size) q L ∧ (∀ x ∈ L, PrOk x) ∧ L.length ≤ 3000000000000 := by
  obtain ⟨a0, len0, cap0, rfl⟩ := okWide_slice Tryd.underlying22 hv
  obtain ⟨fuel, hf⟩ := h
  obtain ⟨q, c, L, e, rr, ok, l⟩ := trod_rows (d0 := pr0) PPr_ok (by decide) Tryd.underlying22 (n := 64) (by kernel_rfl) (by_ := 64) (by kernel_rfl) elem_pr hf hs
  refine ⟨q, c, L, ?_, rr, ok, by unfold reachBytes at l; omega⟩
  simpa [Value.cells] using e
end
end Go.Proofs.YtjlodnecdngdfaaDoor
namespace Go.Proofs.YtjlodnecdngdfaaDoor
open Go.RowKit
set_option maxRecDepth 100000

theorem bl_cb : ∀ x y : List UInt8, Op.bytesLess x y = decide (Lib.compareBytes x y < 0)
  | [], [] => rfl
  | [], _ :: _ => rfl
  | _ :: _, [] => rfl
  | a :: xs, b :: ys => by
    have ih := bl_cb xs ys
    simp only [Op.bytesLess, Lib.compareBytes]
    by_cases h1 : a < b
    · simp [h1]
    · by_cases h2 : b < a
      · have h3 : (a == b) = false := by
          rw [UInt8.lt_iff_toNat_lt] at h2
          simp only [beq_eq_false_iff_ne, ne_eq]
          intro e; rw [e] at h2; omega
        simp [h1, h2, h3]
      · have h3 : (a == b) = true := by
          rw [UInt8.lt_iff_toNat_lt] at h1 h2
          simp only [beq_iff_eq]
          exact UInt8.toNat_inj.1 (by omega)
        simp [h1, h2, h3, ih]
theorem less_cmp (a b : List Int) : Op.bytesLess (strOfNums a).toList (strOfNums b).toList = decide (cmpB a b < 0) := by
  rw [Lib.strOfNums_toList, Lib.strOfNums_toList, bl_cb]; rfl
theorem cmp_lt_trans {a b c : List Int} (h1 : cmpB a b < 0) (h2 : cmpB b c < 0) : cmpB a c < 0 := by
  refine Decidable.byContradiction fun h => ?_
  have n1 := cmp_neg a c
  have n2 := cmp_neg b c
  have n3 := cmp_neg a b
  have := cmp_le (a := c) (b := a) (c := b) (by omega) (by omega)
  omega
theorem cmp_self (a : List Int) : cmpB a a = 0 := by have := cmp_neg a a; omega
theorem cb_first : ∀ xs ys : List Int, xs.length = ys.length → Bytes xs → Bytes ys → Lib.compareBytes (Lib.bytesOf xs) (Lib.bytesOf ys) ≤ 0 → xs = ys ∨ ∃ j, j < xs.length ∧ (∀ i, i < j → xs.getD i 0 = ys.getD i 0) ∧ xs.getD j 0 < ys.getD j 0
  | [], [], _, _, _, _ => .inl rfl
  | [], _ :: _, h, _, _, _ => by simp at h
  | _ :: _, [], h, _, _, _ => by simp at h
  | x :: xs, y :: ys, h, bx, by_, hc => by
    have hx := bx x (by simp)
    have hy := by_ y (by simp)
    have e1 : (UInt8.ofNat x.toNat).toNat = x.toNat := by simp; omega
    have e2 : (UInt8.ofNat y.toNat).toNat = y.toNat := by simp; omega
    have hc' : (if UInt8.ofNat x.toNat < UInt8.ofNat y.toNat then (-1 : Int) else if UInt8.ofNat y.toNat < UInt8.ofNat x.toNat then 1 else Lib.compareBytes (Lib.bytesOf xs) (Lib.bytesOf ys)) ≤ 0 := hc
    simp only [UInt8.lt_iff_toNat_lt, e1, e2] at hc'
    by_cases h1 : x.toNat < y.toNat
    · exact .inr ⟨0, by simp, fun i hi => by omega, by simp; omega⟩
    · rw [if_neg h1] at hc'
      by_cases h2 : y.toNat < x.toNat
      · rw [if_pos h2] at hc'; omega
      · rw [if_neg h2] at hc'
        obtain rfl : x = y := by omega
        rcases cb_first xs ys (by simpa using h) (fun z hz => bx z (List.mem_cons_of_mem _ hz)) (fun z hz => by_ z (List.mem_cons_of_mem _ hz)) hc' with rfl | ⟨j, h3, h4, h5⟩
        · exact .inl rfl
        · refine .inr ⟨j + 1, by simp; omega, fun i hi => ?_, by simpa using h5⟩
          cases i with
          | zero => rfl
          | succ i => simpa using h4 i (by omega)
theorem cmp_eq {a b : List Int} (ha : KyOk a) (hb : KyOk b) (h : cmpB a b = 0) : a = b := by
  rcases cb_first a b (by rw [ha.len, hb.len]) ha.by_ hb.by_ (by show cmpB a b ≤ 0; omega) with h1 | ⟨j, h1, h2, h3⟩
  · exact h1
  · rcases cb_first b a (by rw [ha.len, hb.len]) hb.by_ ha.by_ (by show cmpB b a ≤ 0; have := cmp_neg a b; omega) with h4 | ⟨k, h4, h5, h6⟩
    · exact h4.symm
    · rcases Nat.lt_trichotomy j k with h | h | h
      · have := h5 j h; omega
      · subst h; omega
      · have := h2 k h; omega
theorem byte_lt {x y : Int} (hx : 0 ≤ x ∧ x < 256) (hy : 0 ≤ y ∧ y < 256) (hlt : x < y) {t : Nat} (ht : t < 8) (ha : ∀ s, s < t → x / 2 ^ (7 - s) % 2 = y / 2 ^ (7 - s) % 2) (hne : x / 2 ^ (7 - t) % 2 ≠ y / 2 ^ (7 - t) % 2) : x / 2 ^ (7 - t) % 2 = 0 := by
  have h0 := ha 0
  have h1 := ha 1
  have h2 := ha 2
  have h3 := ha 3
  have h4 := ha 4
  have h5 := ha 5
  have h6 := ha 6
  simp only [Nat.sub_zero, show 7 - 1 = 6 from rfl, show 7 - 2 = 5 from rfl, show 7 - 3 = 4 from rfl, show 7 - 4 = 3 from rfl, show 7 - 5 = 2 from rfl, show 7 - 6 = 1 from rfl, show (2 : Int) ^ 7 = 128 from rfl, show (2 : Int) ^ 6 = 64 from rfl, show (2 : Int) ^ 5 = 32 from rfl, show (2 : Int) ^ 4 = 16 from rfl, show (2 : Int) ^ 3 = 8 from rfl, show (2 : Int) ^ 2 = 4 from rfl, show (2 : Int) ^ 1 = 2 from rfl] at h0 h1 h2 h3 h4 h5 h6
  clear ha
  match t, ht with
  | 0, _ => simp only [Nat.sub_zero, show (2 : Int) ^ 7 = 128 from rfl] at hne ⊢; omega
  | 1, _ => simp only [show 7 - 1 = 6 from rfl, show (2 : Int) ^ 6 = 64 from rfl] at hne ⊢; have := h0 (by omega); omega
  | 2, _ => simp only [show 7 - 2 = 5 from rfl, show (2 : Int) ^ 5 = 32 from rfl] at hne ⊢; have := h0 (by omega); have := h1 (by omega); omega
  | 3, _ => simp only [show 7 - 3 = 4 from rfl, show (2 : Int) ^ 4 = 16 from rfl] at hne ⊢; have := h0 (by omega); have := h1 (by omega); have := h2 (by omega); omega
  | 4, _ => simp only [show 7 - 4 = 3 from rfl, show (2 : Int) ^ 3 = 8 from rfl] at hne ⊢; have := h0 (by omega); have := h1 (by omega); have := h2 (by omega); have := h3 (by omega); omega
  | 5, _ => simp only [show 7 - 5 = 2 from rfl, show (2 : Int) ^ 2 = 4 from rfl] at hne ⊢; have := h0 (by omega); have := h1 (by omega); have := h2 (by omega); have := h3 (by omega); have := h4 (by omega); omega
  | 6, _ => simp only [show 7 - 6 = 1 from rfl, show (2 : Int) ^ 1 = 2 from rfl] at hne ⊢; have := h0 (by omega); have := h1 (by omega); have := h2 (by omega); have := h3 (by omega); have := h4 (by omega); have := h5 (by omega); omega
  | 7, _ => simp only [show 7 - 7 = 0 from rfl, show (2 : Int) ^ 0 = 1 from rfl] at hne ⊢; have := h0 (by omega); have := h1 (by omega); have := h2 (by omega); have := h3 (by omega); have := h4 (by omega); have := h5 (by omega); have := h6 (by omega); omega
/-- Of two keys the smaller one has a zero where they part. -/
theorem cmp_dif {a b : List Int} (ha : KyOk a) (hb : KyOk b) (h : cmpB a b < 0) : dif a b < 256 ∧ bitI a (dif a b) = 0 ∧ bitI b (dif a b) = 1 := by
  have hne : a ≠ b := fun e => by rw [e, cmp_self] at h; omega
  have hd : dif a b < 256 := by
    rcases Nat.lt_or_ge (dif a b) 256 with h1 | h1
    · exact h1
    · exact absurd (key_eq ha hb ((dif_agree a b).mono h1)) hne
  have hdn := dif_ne hd
  have hda := dif_agree a b
  have key : bitI a (dif a b) = 0 := by
    obtain ⟨d, hde⟩ : ∃ d, dif a b = d := ⟨_, rfl⟩
    rw [hde] at hd hdn hda ⊢
    rcases cb_first a b (by rw [ha.len, hb.len]) ha.by_ hb.by_ (Int.le_of_lt h) with h1 | ⟨j, h1, h2, h3⟩
    · exact absurd h1 hne
    · have bit : ∀ x : List Int, ∀ i s, s < 8 → bitI x (8 * i + s) = x.getD i 0 / 2 ^ (7 - s) % 2 := fun x i s hs => by
        unfold bitI
        rw [show (8 * i + s) / 8 = i by omega, show (8 * i + s) % 8 = s by omega]
      have hj : j = d / 8 := by
        rcases Nat.lt_trichotomy j (d / 8) with h4 | h4 | h4
        · have : a.getD j 0 = b.getD j 0 := byte_bits (ha.by_.getD j) (hb.by_.getD j) (fun s hs => by
            rw [← bit a j s hs, ← bit b j s hs]; exact hda _ (by omega))
          omega
        · exact h4
        · have e := h2 (d / 8) h4
          refine absurd ?_ hdn
          have e1 := bit a (d / 8) (d % 8) (by omega)
          have e2 := bit b (d / 8) (d % 8) (by omega)
          rw [show 8 * (d / 8) + d % 8 = d by omega] at e1 e2
          rw [e1, e2, e]
      subst hj
      have e1 := bit a (d / 8) (d % 8) (by omega)
      have e2 := bit b (d / 8) (d % 8) (by omega)
      rw [show 8 * (d / 8) + d % 8 = d by omega] at e1 e2
      rw [e1, e2] at hdn
      rw [e1]
      refine byte_lt (ha.by_.getD _) (hb.by_.getD _) h3 (Nat.mod_lt _ (by omega)) (fun s hs => ?_) hdn
      rw [← bit a (d / 8) s (by omega), ← bit b (d / 8) s (by omega)]
      exact hda _ (by omega)
  refine ⟨hd, key, ?_⟩
  have := bit01 b (dif a b)
  omega

/-! ### Pairs by rising keys -/
abbrev PrL := List (List Int × List Int)
def SrtR (L : PrL) : Prop := L.Pairwise fun a b => cmpB a.1 b.1 < 0
def PrsOk (L : PrL) : Prop := ∀ x ∈ L, PrOk x
/-- Where a key stands, or would stand. -/
def fiR (K : List Int) : PrL → Nat
  | [] => 0
  | x :: L => if cmpB x.1 K < 0 then fiR K L + 1 else 0
def thR (K : List Int) (L : PrL) : Bool := decide (fiR K L < L.length) && ((L.getD (fiR K L) pr0).1 == K)
theorem fiR_le (K : List Int) : ∀ L : PrL, fiR K L ≤ L.length
  | [] => Nat.le_refl _
  | x :: L => by unfold fiR; split; simp; exact fiR_le K L; simp
theorem fiR_lt {K : List Int} : ∀ {L : PrL} {j : Nat}, j < fiR K L → cmpB (L.getD j pr0).1 K < 0
  | [], j, h => by simp [fiR] at h
  | x :: L, j, h => by
    unfold fiR at h
    split at h
    · rename_i hx
      cases j with
      | zero => exact hx
      | succ j => simpa using fiR_lt (L := L) (by omega)
    · omega
theorem fiR_at {K : List Int} : ∀ {L : PrL}, fiR K L < L.length → ¬ cmpB (L.getD (fiR K L) pr0).1 K < 0
  | [], h => by simp at h
  | x :: L, h => by
    unfold fiR at h ⊢
    by_cases hx : cmpB x.1 K < 0
    · rw [if_pos hx] at h ⊢
      simpa using fiR_at (L := L) (by simpa using h)
    · rw [if_neg hx]; simpa using hx
def putR (K V : List Int) (L : PrL) : PrL :=
  if V = zero32 then (if thR K L = true then L.take (fiR K L) ++ L.drop (fiR K L + 1) else L)
  else if thR K L = true then L.set (fiR K L) (K, V) else L.take (fiR K L) ++ (K, V) :: L.drop (fiR K L)
theorem srt_get {L : PrL} (h : SrtR L) {i j : Nat} (hi : i < j) (hj : j < L.length) : cmpB (L.getD i pr0).1 (L.getD j pr0).1 < 0 := by
  have := List.pairwise_iff_getElem.1 h i j (by omega) hj hi
  simpa [List.getD, show i < L.length by omega, hj] using this
theorem take_lt {K : List Int} {L : PrL} {x : List Int × List Int} (h : x ∈ L.take (fiR K L)) : cmpB x.1 K < 0 := by
  obtain ⟨i, hi, e⟩ := List.getElem_of_mem h
  have hl : i < fiR K L := by simp at hi; omega
  have := fiR_lt hl
  have hi2 : i < L.length := by have := fiR_le K L; omega
  rw [← e]
  simpa [List.getD, hi2] using this
theorem drop_gt {K : List Int} {L : PrL} (hs : SrtR L) (hK : KyOk K) (ok : PrsOk L) {n : Nat} (hn : fiR K L ≤ n) (ht : thR K L = true → fiR K L < n) {x : List Int × List Int} (h : x ∈ L.drop n) : cmpB K x.1 < 0 := by
  obtain ⟨i, hi, e⟩ := List.getElem_of_mem h
  have hi2 : n + i < L.length := by simp at hi; omega
  have hx : L.getD (n + i) pr0 = x := by rw [← e]; simp [List.getD, hi2]
  have hlt : fiR K L < L.length := by omega
  have ha := fiR_at hlt
  have okf : KyOk (L.getD (fiR K L) pr0).1 := (ok _ (by simp [List.getD, hlt])).k
  by_cases hth : thR K L = true
  · have he : (L.getD (fiR K L) pr0).1 = K := by
      unfold thR at hth
      simp only [Bool.and_eq_true, beq_iff_eq] at hth
      exact hth.2
    have := srt_get hs (i := fiR K L) (j := n + i) (by have := ht hth; omega) hi2
    rw [he, hx] at this
    exact this
  · have hne : (L.getD (fiR K L) pr0).1 ≠ K := fun e => hth (by unfold thR; rw [e]; simp [hlt])
    have h0 : cmpB (L.getD (fiR K L) pr0).1 K ≠ 0 := fun e => hne (cmp_eq okf hK e)
    have hg : cmpB K (L.getD (fiR K L) pr0).1 < 0 := by have := cmp_neg K (L.getD (fiR K L) pr0).1; omega
    by_cases e2 : n + i = fiR K L
    · rw [← hx, e2]; exact hg
    · have := srt_get hs (i := fiR K L) (j := n + i) (by omega) hi2
      rw [hx] at this
      exact cmp_lt_trans hg this
theorem thR_key {K : List Int} {L : PrL} (h : thR K L = true) : fiR K L < L.length ∧ (L.getD (fiR K L) pr0).1 = K := by
  unfold thR at h
  simpa using h
theorem putR_ok {K V : List Int} {L : PrL} (ok : PrsOk L) (hK : KyOk K) (lV : V.length = 32) (bV : Bytes V) : PrsOk (putR K V L) := by
  intro x hx
  unfold putR at hx
  split at hx
  · split at hx
    · rcases List.mem_append.1 hx with h | h
      · exact ok x (List.mem_of_mem_take h)
      · exact ok x (List.mem_of_mem_drop h)
    · exact ok x hx
  · split at hx
    · rcases List.mem_or_eq_of_mem_set hx with h | h
      · exact ok x h
      · rw [h]; exact ⟨hK, lV, bV⟩
    · rcases List.mem_append.1 hx with h | h
      · exact ok x (List.mem_of_mem_take h)
      · rcases List.mem_cons.1 h with h | h
        · rw [h]; exact ⟨hK, lV, bV⟩
        · exact ok x (List.mem_of_mem_drop h)
theorem putR_srt {K V : List Int} {L : PrL} (hs : SrtR L) (ok : PrsOk L) (hK : KyOk K) : SrtR (putR K V L) := by
  have ht : SrtR (L.take (fiR K L)) := hs.sublist (List.take_sublist _ _)
  have hd : ∀ n, SrtR (L.drop n) := fun n => hs.sublist (List.drop_sublist _ _)
  unfold putR
  split
  · split
    · rename_i hth
      exact List.pairwise_append.2 ⟨ht, hd _, fun x hx y hy => cmp_lt_trans (take_lt hx) (drop_gt hs hK ok (by omega) (fun _ => by omega) hy)⟩
    · exact hs
  · split
    · rename_i hth
      obtain ⟨h1, h2⟩ := thR_key hth
      have e : L.set (fiR K L) (K, V) = L.take (fiR K L) ++ (K, V) :: L.drop (fiR K L + 1) := by rw [List.set_eq_take_append_cons_drop, if_pos h1]
      rw [e]
      refine List.pairwise_append.2 ⟨ht, List.pairwise_cons.2 ⟨fun y hy => drop_gt hs hK ok (by omega) (fun _ => by omega) hy, hd _⟩, fun x hx y hy => ?_⟩
      rcases List.mem_cons.1 hy with rfl | hy
      · exact take_lt hx
      · exact cmp_lt_trans (take_lt hx) (drop_gt hs hK ok (by omega) (fun _ => by omega) hy)
    · rename_i hth
      refine List.pairwise_append.2 ⟨ht, List.pairwise_cons.2 ⟨fun y hy => drop_gt hs hK ok (Nat.le_refl _) (fun h => absurd h hth) hy, hd _⟩, fun x hx y hy => ?_⟩
      rcases List.mem_cons.1 hy with rfl | hy
      · exact take_lt hx
      · exact cmp_lt_trans (take_lt hx) (drop_gt hs hK ok (Nat.le_refl _) (fun h => absurd h hth) hy)
theorem putR_len (K V : List Int) (L : PrL) : (putR K V L).length ≤ L.length + 1 := by
  have := fiR_le K L
  unfold putR
  split
  · split
    · simp; omega
    · omega
  · split
    · simp
    · simp; omega
end Go.Proofs.YtjlodnecdngdfaaDoor
namespace Go.Proofs.YtjlodnecdngdfaaDoor
open Go.RowKit
set_option maxRecDepth 100000

set_option maxHeartbeats 4000000 in
theorem less_any {w : World} {A B : List Int} (hA : KyOk A) (hB : KyOk B) : Calls Tryd.prog 53 #[.agg (hc A).toArray, .agg (hc B).toArray] w fun e w' => e = .returned (.bool (decide (cmpB A B < 0))) ∧ Below w.heap.size w w' := by
  have HA := Lib.hid ((HashAt.new w A).alloc (.cells (hc B).toArray 24))
  have HB := HashAt.new (w.alloc (.cells (hc A).toArray 24)) B
  simp only [World.size_alloc] at HB
  replace HB := Lib.hid HB
  have B0 := Lib.hid (((Below.refl w.heap.size w).alloc (Nat.le_refl _) (.cells (hc A).toArray 24)).alloc (by simp) (.cells (hc B).toArray 24))
  have lA := hA.len
  have lB := hB.len
  have hlA := hc_len A
  have hlB := hc_len B
  have HL : Op.bytesLess (strOfNums A).toList (strOfNums B).toList = decide (cmpB A B < 0) := less_cmp A B
  clear hA hB
  go_enter Tryd.func53, Tryd.ntmps53
  go_wp2_with fail
  refine wp_region_held_drew (S := fun W => HashAt W w.heap.size A ∧ HashAt W (w.heap.size + 1) B) (by kernel_rfl) (⟨HA.out.on (Below.refl _ _).drew, HB.out.on (Below.refl _ _).drew⟩) (fun h0 => ?_)
  refine wpAnyH_take (i := 0) (v := ?_) (by rw [List.getElem?_toArray]; rfl) (by kernel_rfl) (by kernel_rfl) (by kernel_rfl) (by exact fun _ _ _ h => h) (Or.inl ⟨by rfl, ?_⟩) h0 ?_
  rotate_left
  · intro W hW
    go_simp
    all_goals with_reducible rfl
  try simp only [Act.put, List.setIfInBounds_toArray, List.set_cons_zero, List.set_cons_succ]
  refine wpAnyH_take (i := 1) (v := ?_) (by rw [List.getElem?_toArray]; rfl) (by kernel_rfl) (by kernel_rfl) (by kernel_rfl) (by exact fun _ _ _ h => h) (Or.inl ⟨by rfl, ?_⟩) h0 ?_
  rotate_left
  · intro W hW
    have cv := run_convert_bytes_arg (P := Tryd.prog) W 82 5 Tryd.underlying82 Tryd.underlying5 w.heap.size 0 32 32 A lA (fun i hi => by rw [Nat.zero_add]; exact hW.1.cell (by omega)) 9 Tryd.underlying9
    go_simp
    all_goals with_reducible rfl
  try simp only [Act.put, List.setIfInBounds_toArray, List.set_cons_zero, List.set_cons_succ]
  refine wpAnyH_take (i := 2) (v := ?_) (by rw [List.getElem?_toArray]; rfl) (by kernel_rfl) (by kernel_rfl) (by kernel_rfl) (by exact fun _ _ _ h => h) (Or.inl ⟨by rfl, ?_⟩) h0 ?_
  rotate_left
  · intro W hW
    go_simp
    all_goals with_reducible rfl
  try simp only [Act.put, List.setIfInBounds_toArray, List.set_cons_zero, List.set_cons_succ]
  refine wpAnyH_take (i := 3) (v := ?_) (by rw [List.getElem?_toArray]; rfl) (by kernel_rfl) (by kernel_rfl) (by kernel_rfl) (by exact fun _ _ _ h => h) (Or.inl ⟨by rfl, ?_⟩) h0 ?_
  rotate_left
  · intro W hW
    have cv := run_convert_bytes_arg (P := Tryd.prog) W 82 5 Tryd.underlying82 Tryd.underlying5 (w.heap.size + 1) 0 32 32 B lB (fun i hi => by rw [Nat.zero_add]; exact hW.2.cell (by omega)) 9 Tryd.underlying9
    go_simp
    all_goals with_reducible rfl
  try simp only [Act.put, List.setIfInBounds_toArray, List.set_cons_zero, List.set_cons_succ]
  refine wpAnyH_take (i := 4) (v := ?_) (by rw [List.getElem?_toArray]; rfl) (by kernel_rfl) (by kernel_rfl) (by kernel_rfl) (by exact fun _ _ _ h => h) (Or.inl ⟨by rfl, ?_⟩) h0 ?_
  rotate_left
  · intro W hW
    have cl := HL
    go_simp
    all_goals with_reducible rfl
  try simp only [Act.put, List.setIfInBounds_toArray, List.set_cons_zero, List.set_cons_succ]
  refine wpAnyH_take (i := 5) (v := ?_) (by rw [List.getElem?_toArray]; rfl) (by kernel_rfl) (by kernel_rfl) (by kernel_rfl) (by exact fun _ _ _ h => h) (Or.inl ⟨by rfl, ?_⟩) h0 ?_
  rotate_left
  · intro W hW
    go_simp
    all_goals with_reducible rfl
  try simp only [Act.put, List.setIfInBounds_toArray, List.set_cons_zero, List.set_cons_succ]
  refine wpAnyH_done (by kernel_rfl) ?_ _
  clear h0
  go_wp2_with fail
  go_ret
  exact ⟨rfl, B0.out.drew⟩

end Go.Proofs.YtjlodnecdngdfaaDoor
namespace Go.Proofs.YtjlodnecdngdfaaDoor
open Go.Shelf Go.RowKit Go.Lib Go.Sort
set_option maxRecDepth 100000

end Go.Proofs.YtjlodnecdngdfaaDoor
namespace Go.Proofs.YtjlodnecdngdfaaDoor
open Go.RowKit
set_option maxRecDepth 100000

theorem rowOf_half {w : World} {b o : Nat} {K V : List Int} (lK : K.length = 32) (lV : V.length = 32) (h : rowOf w b o 64 = prRow K V) : rowOf w b o 32 = hc K ∧ rowOf w b (o + 32) 32 = hc V := by
  have hl := prRow_len lK lV
  unfold rowOf at *
  cases hb : w.heap[b]? with
  | none => rw [hb] at h; simp at h; rw [h] at hl; simp at hl
  | some x =>
    rw [hb] at h
    cases x with
    | cells cs t fr =>
      simp only [Array.toList_extract, List.extract_eq_take_drop] at h ⊢
      rw [show o + 64 - o = 64 by omega] at h
      rw [show o + 32 - o = 32 by omega, show o + 32 + 32 - (o + 32) = 32 by omega]
      have e1 : (cs.toList.drop o).take 32 = ((cs.toList.drop o).take 64).take 32 := by rw [List.take_take]; rfl
      have e2 : (cs.toList.drop (o + 32)).take 32 = ((cs.toList.drop o).take 64).drop 32 := by
        rw [List.drop_take, List.drop_drop]
      rw [e1, e2, h]
      constructor
      · simp [prRow, hc_len, lK]
      · have := hc_len K
        have := hc_len V
        simp only [prRow, List.append_nil]
        rw [List.drop_append_of_le_length (by omega), List.drop_of_length_le (by omega)]
        rfl
    | _ => simp at h; rw [h] at hl; simp at hl
/-- A map that the call made, as it stands now. -/
structure MpW (w wr : World) (p m : Nat) (E : List En) (c : Nat) (top : Option Addr) (bl : List Nat) : Prop where
  map : MapS wr p m E c top bl
  below : Below w.heap.size w wr
  pg : w.heap.size ≤ p
  mg : w.heap.size ≤ m
  bg : ∀ g ∈ bl, w.heap.size ≤ g
section
variable {w wr w' : World} {p m c : Nat} {E : List En} {top : Option Addr} {bl : List Nat}
theorem MpW.on (h : MpW w wr p m E c top bl) (hb : Below wr.heap.size wr w') : MpW w w' p m E c top bl := ⟨h.map.on hb, h.below.trans (hb.mono h.below.size), h.pg, h.mg, h.bg⟩
theorem MpW.chg (h : MpW w wr p m E c top bl) (hc : Chg wr w' bl) (hm : MapS w' p m E c top bl) : MpW w w' p m E c top bl :=
  ⟨hm, h.below.trans (hc.toBelow h.below.size (fun k hk => h.bg k hk)), h.pg, h.mg, h.bg⟩
theorem MpW.put {K V : List Int} {e : Ending} (h : MpW w wr p m E c top bl) (hq : PutQ wr p m E bl K V e w') :
    e = .returned (.int .i64 0) ∧ ∃ E' c' top' bl', MpW w w' p m E' c' top' bl' ∧ (∀ k, vOf E' k = if k = K then V else vOf E k) ∧ E'.length ≤ E.length + 1 ∧ E.length ≤ E'.length + 1 := by
  obtain ⟨he, hc, E', c', top', bl', hm, hin, hv, h1, h2⟩ := hq
  refine ⟨he, E', c', top', bl', ⟨hm, h.below.trans (hc.toBelow h.below.size (fun k hk => ?_)), h.pg, h.mg, fun g hg => ?_⟩, hv, h1, h2⟩
  · rcases List.mem_cons.1 hk with rfl | hk
    · exact h.pg
    · rcases List.mem_cons.1 hk with rfl | hk
      · exact h.mg
      · exact h.bg k hk
  · rcases hin g hg with hg | hg
    · exact h.bg g hg
    · have := h.below.size; omega
end
/-- A new map of no pairs. -/
theorem MpW_new {w w' : World} {p m : Nat} (hb : Below w.heap.size w w') (hp : w.heap.size ≤ p) (hm : w.heap.size ≤ m) (h : MpS w' p m #[] 0 none) : MpW w w' p m [] 0 none [] :=
  ⟨⟨h, .inl ⟨rfl, rfl, rfl⟩, EnW.nil, EnC.nil 0, by simp, by simp⟩, hb, hp, hm, fun g hg => (by cases hg)⟩
end Go.Proofs.YtjlodnecdngdfaaDoor
namespace Go.Proofs.YtjlodnecdngdfaaDoor
open Go.RowKit
set_option maxRecDepth 100000

def e0 : En := ⟨zero32, zero32, 0⟩
/-- A slice reads as pairs. -/
def RdP (w : World) (q : Option Addr) (L : List En) : Prop := L = [] ∨ ∃ b off, q = some ⟨b, off, none⟩ ∧ b < w.heap.size ∧ ∀ i, i < L.length → rowOf w b (off + i * 64) 64 = prRow (L.getD i e0).k (L.getD i e0).v
theorem RdP.on {w w' : World} {q : Option Addr} {L : List En} (h : RdP w q L) (hb : Below w.heap.size w w') : RdP w' q L := by
  rcases h with h | ⟨b, off, e, hl, hx⟩
  · exact .inl h
  · refine .inr ⟨b, off, e, Nat.lt_of_lt_of_le hl hb.size, fun i hi => ?_⟩
    rw [← hx i hi]
    unfold rowOf
    rw [hb.block b hl]
theorem RdP.chg {w w' : World} {q : Option Addr} {L : List En} {S : List Nat} (h : RdP w q L) (hc : Chg w w' S) (hs : ∀ g, q.map (·.block) = some g → g ∉ S) : RdP w' q L := by
  rcases h with h | ⟨b, off, rfl, hl, hx⟩
  · exact .inl h
  · refine .inr ⟨b, off, rfl, Nat.lt_of_lt_of_le hl hc.size, fun i hi => ?_⟩
    rw [← hx i hi]
    unfold rowOf
    rw [hc.block b hl (hs b rfl)]
end Go.Proofs.YtjlodnecdngdfaaDoor
namespace Go.Proofs.YtjlodnecdngdfaaDoor
open Go.RowKit
set_option maxRecDepth 100000

def prs (L : PrL) : List Value := L.flatMap fun x => prRow x.1 x.2
theorem prs_append (A B : PrL) : prs (A ++ B) = prs A ++ prs B := by simp [prs]
theorem prs_cons (x : List Int × List Int) (L : PrL) : prs (x :: L) = prRow x.1 x.2 ++ prs L := rfl
theorem prs_len : ∀ {L : PrL}, PrsOk L → (prs L).length = L.length * 64
  | [], _ => rfl
  | x :: L, h => by
    have h1 := prs_len (L := L) (fun y hy => h y (List.mem_cons_of_mem _ hy))
    have h2 := h x (by simp)
    rw [prs_cons, List.length_append, h1, prRow_len h2.k.len h2.l, List.length_cons]
    omega
theorem prs_mid (tail : List Value) : ∀ {L : PrL}, PrsOk L → ∀ i, i < L.length → ((prs L ++ tail).drop (i * 64)).take 64 = prRow (L.getD i pr0).1 (L.getD i pr0).2
  | [], _, i, hi => by simp at hi
  | x :: L, h, i, hi => by
    have h2 := h x (by simp)
    have hl := prRow_len h2.k.len h2.l
    rw [prs_cons, List.append_assoc]
    cases i with
    | zero => rw [Nat.zero_mul, List.drop_zero]; exact List.take_left' hl
    | succ i =>
      rw [List.drop_append, hl, List.drop_eq_nil_of_le (by omega), List.nil_append, show (i + 1) * 64 - 64 = i * 64 by omega]
      exact prs_mid tail (fun y hy => h y (List.mem_cons_of_mem _ hy)) i (by simpa using hi)
theorem prs_one (L : PrL) : ∀ u ∈ prs L, u.oneCell' = true := by
  intro u hu
  obtain ⟨x, _, hx⟩ := List.mem_flatMap.1 hu
  exact (Array.all_eq_true_iff_forall_mem.1 (pr_one x.1 x.2)) u (by simpa using hx)
/-- Pairs that can be read at an address. -/
def RdR (w : World) (b off : Nat) (L : PrL) : Prop := ∀ i, i < L.length → rowOf w b (off + i * 64) 64 = prRow (L.getD i pr0).1 (L.getD i pr0).2
theorem RdR.on {w w' : World} {b off : Nat} {L : PrL} (h : RdR w b off L) (ok : PrsOk L) (hb : Below w.heap.size w w') : RdR w' b off L := fun i hi => by
  have hk := ok (L.getD i pr0) (by simp [List.getD, hi])
  rw [rowOf_on (by rw [h i hi, prRow_len hk.k.len hk.l]; omega) hb]; exact h i hi
theorem RdR.drop {w : World} {b off : Nat} {L : PrL} (h : RdR w b off L) (n : Nat) : RdR w b (off + n * 64) (L.drop n) := fun i hi => by
  have e : (L.drop n).getD i pr0 = L.getD (n + i) pr0 := by simp [List.getD, List.getElem?_drop]
  rw [e, ← h (n + i) (by simp at hi; omega)]
  congr 1
  rw [Nat.add_mul]; omega
theorem RdR.take {w : World} {b off : Nat} {L : PrL} (h : RdR w b off L) (n : Nat) : RdR w b off (L.take n) := fun i hi => by
  have hn : i < n := by simp at hi; omega
  have e : (L.take n).getD i pr0 = L.getD i pr0 := by simp [List.getD, hn]
  rw [e]; exact h i (by simp at hi; omega)
theorem prs_cell : ∀ {L : PrL}, PrsOk L → ∀ {j : Nat} {u : Value}, (prs L)[j]? = some u → j / 64 < L.length ∧ (prRow (L.getD (j / 64) pr0).1 (L.getD (j / 64) pr0).2)[j % 64]? = some u
  | [], _, j, u, hj => by simp [prs] at hj
  | x :: L, h, j, u, hj => by
    have h2 := h x (by simp)
    have hl := prRow_len h2.k.len h2.l
    rw [prs_cons] at hj
    by_cases hlt : j < 64
    · rw [List.getElem?_append_left (by omega)] at hj
      rw [show j / 64 = 0 by omega, show j % 64 = j by omega]
      exact ⟨by simp, hj⟩
    · rw [List.getElem?_append_right (by omega), hl] at hj
      obtain ⟨h3, h4⟩ := prs_cell (fun y hy => h y (List.mem_cons_of_mem _ hy)) hj
      have e1 : j / 64 = (j - 64) / 64 + 1 := by omega
      have e2 : j % 64 = (j - 64) % 64 := by omega
      rw [e1, e2]
      exact ⟨by simp; omega, h4⟩
theorem RdR.src {P : Program} {w : World} {tx e' : TypeId} {b off c : Nat} {L : PrL} (h : RdR w b off L) (ok : PrsOk L) (hk : P.underlying tx = some (.slice e')) : Src P 64 tx (.slice (some ⟨b, off, none⟩) L.length c) L.length (prs L) w := by
  refine Src.ofSlice w hk _ _ _ _ (prs_len ok) (fun j u hu => ?_) (prs_one L)
  rw [addr_add]
  obtain ⟨h1, h2⟩ := prs_cell ok hu
  have := range_rowOf w b (off + j / 64 * 64) 64 (j % 64) u (by rw [h _ h1]; exact h2)
  rw [show off + j / 64 * 64 + j % 64 = off + j by omega] at this
  exact this
/-- A map of a call's own. -/
structure RmS (w0 wr : World) (pm : Nat) (v : Value) (L : PrL) : Prop where
  blk : wr.heap[pm]? = some (.cells #[v] 43 (0, 0))
  own : wr.ownsRow 0 37 64 v L.length (prs L)
  ok : PrsOk L
  srt : SrtR L
  lo : w0.heap.size ≤ pm
  fresh : ∀ g, v.ownBlock = some g → w0.heap.size ≤ g
  below : Below w0.heap.size w0 wr
section
variable {w0 wr w' : World} {pm : Nat} {v : Value} {L : PrL}
theorem RmS.lt (h : RmS w0 wr pm v L) : pm < wr.heap.size := (Array.getElem?_eq_some_iff.1 h.blk).1
theorem RmS.chg {S : List Nat} (h : RmS w0 wr pm v L) (hc : Chg wr w' S) (hp : pm ∉ S) (hv : ∀ g, v.ownBlock = some g → g ∉ S) (hS : ∀ g ∈ S, w0.heap.size ≤ g) : RmS w0 w' pm v L :=
  ⟨by rw [hc.block pm h.lt hp]; exact h.blk, own_chg2 h.own hc hv, h.ok, h.srt, h.lo, h.fresh, h.below.trans (hc.toBelow h.below.size hS)⟩
theorem RmS.on (h : RmS w0 wr pm v L) (hb : Below wr.heap.size wr w') : RmS w0 w' pm v L := h.chg (Chg.below hb (Nat.le_refl _) []) (by simp) (by simp) (by simp)
theorem RmS.cell (h : RmS w0 wr pm v L) : wr.cell? ⟨pm, 0, none⟩ = some v := (Joins.cell_of_block h.blk 0).trans rfl
theorem RmS.slice (h : RmS w0 wr pm v L) : ∃ q c, v = .slice q L.length c := own_slice h.own
theorem RmS.rd {q : Option Addr} {n c : Nat} (h : RmS w0 wr pm (.slice q n c) L) : L = [] ∨ ∃ b, q = some ⟨b, 0, none⟩ ∧ (Value.slice q n c).ownBlock = some b ∧ b < wr.heap.size ∧ RdR wr b 0 L ∧ L.length ≤ c := by
  rcases h.own.2 with ⟨e, h0⟩ | ⟨g, cap, cur, e, _, hg, hnc, hcm, hcs', htake⟩
  · exact .inl (List.eq_nil_of_length_eq_zero h0)
  · simp only [Value.slice.injEq] at e
    obtain ⟨rfl, rfl, rfl⟩ := e
    refine .inr ⟨g, rfl, rfl, (Array.getElem?_eq_some_iff.1 hg).1, fun i hi => ?_, hnc⟩
    have hc2 : cur = (prs L ++ cur.toList.drop (L.length * 64)).toArray := by
      apply Array.ext'
      show cur.toList = prs L ++ cur.toList.drop (L.length * 64)
      rw [← htake, List.take_append_drop]
    rw [hc2] at hg
    rw [rowOf_block hg, Nat.zero_add, ← prs_mid (cur.toList.drop (L.length * 64)) h.ok i hi]
    simp [List.take_drop]
theorem RmS.np (h : RmS w0 wr pm v L) : v.ownBlock ≠ some pm := own_ne h.own h.blk (by decide)
end
theorem prOk_get {L : PrL} (ok : PrsOk L) {i : Nat} (hi : i < L.length) : PrOk (L.getD i pr0) := ok _ (by simp [List.getD, hi])
end Go.Proofs.YtjlodnecdngdfaaDoor
namespace Go.Proofs.YtjlodnecdngdfaaDoor
open Go.RowKit
set_option maxRecDepth 100000

set_option maxHeartbeats 8000000 in
theorem find5_any {w0 w : World} {pm : Nat} {v : Value} {L : PrL} {K : List Int} (hw0 : RmS w0 w pm v L) (hK : KyOk K) (hl : L.length ≤ 1000000) :
    Calls Tryd.prog 36 #[.pointer (some ⟨pm, 0, none⟩), .agg (hc K).toArray] w fun e w' => e = .returned (.tuple #[.int .i64 (fiR K L : Int), .bool (thR K L)]) ∧ Below w.heap.size w w' := by
  obtain ⟨q, c, rfl⟩ := hw0.slice
  have b1 : Below w.heap.size w (w.alloc (.cells (hc K).toArray 24)) := (Below.refl _ _).alloc (Nat.le_refl _) _
  have HK0 := Lib.hid (HashAt.new w K)
  have M0 := Lib.hid (hw0.on b1)
  have HKY := Lib.hid hK
  have lK := hK.len
  have hlK := hc_len K
  have OK := Lib.hid hw0.ok
  have B0 := Lib.hid b1
  clear hw0 b1 hK
  go_enter Tryd.func36, Tryd.ntmps36
  go_wp2_with fail
  go_loopw [6] (fun iv wr => ∃ i : Nat, iv = .int .i64 (i : Int) ∧ i ≤ L.length ∧ i ≤ fiR K L ∧ Hid (RmS w0 wr pm (.slice q L.length c) L) ∧ Hid (HashAt wr w.heap.size K) ∧ Hid (Below w.heap.size w wr)) (fun iv _ => L.length - (intOf iv).toNat)
  case atStart => exact ⟨0, rfl, by omega, by omega, M0, HK0, B0⟩
  case round =>
    clear M0 HK0 B0
    obtain ⟨i, rfl, hil, hif, MS, HK1, BW⟩ := hrel
    have c0 := MS.out.cell
    by_cases hlt : i < L.length
    · have hltI : (i : Int) < (L.length : Int) := by omega
      obtain ⟨b, rfl, -, -, rd, -⟩ := MS.out.rd.resolve_left (fun e => by rw [e] at hlt; simp at hlt)
      have OKX := Lib.hid (prOk_get OK.out hlt)
      have RK : Hid (∀ W, Below wr.heap.size wr W → rowOf W b (i * 64) 32 = hc (L.getD i pr0).1 ∧ True) := fun W hW => by
        have := (rowOf_half OKX.out.k.len OKX.out.l ((rd.on OK.out hW) i hlt)).1
        rw [Nat.zero_add] at this
        exact ⟨this, trivial⟩
      have HIL : Hid (cmpB (L.getD i pr0).1 K < 0 → i + 1 ≤ fiR K L) := fun h => by
        rcases Nat.lt_or_ge i (fiR K L) with h1 | h1
        · exact h1
        · obtain rfl : i = fiR K L := by omega
          exact absurd h (fiR_at hlt)
      have HIG : Hid (¬ cmpB (L.getD i pr0).1 K < 0 → i = fiR K L ∧ thR K L = ((L.getD i pr0).1 == K)) := fun h => by
        have e : i = fiR K L := by
          rcases Nat.lt_or_ge i (fiR K L) with h1 | h1
          · exact absurd (fiR_lt h1) h
          · omega
        refine ⟨e, ?_⟩
        unfold thR
        rw [← e, decide_eq_true hlt, Bool.true_and]
      have lG := OKX.out.k.len
      have hlG := hc_len (L.getD i pr0).1
      obtain ⟨G, hG⟩ : ∃ G, (L.getD i pr0).1 = G := ⟨_, rfl⟩
      have OKG : Hid (KyOk G) := by show KyOk G; rw [← hG]; exact OKX.out.k
      rw [hG] at RK HIL HIG lG hlG
      have g0 : (0 : Int) ≤ (i : Int) := by omega
      clear rd OKX hG
      by_cases hcm : cmpB G K < 0
      · have HLE : Hid (decide (cmpB G K < 0) = true) := decide_eq_true hcm
        have HI := Lib.hid (HIL.out hcm)
        clear hcm HIL HIG hif
        go_upto_region 4 with fail
        clear c0
        refine wp_region_held_drew (S := fun W => Below wr.heap.size wr W) (by kernel_rfl) ((Below.refl _ _).drew) (fun h0 => ?_)
        refine wpAnyH_take (i := 0) (v := ?_) (by rw [List.getElem?_toArray]; rfl) (by kernel_rfl) (by kernel_rfl) (by kernel_rfl) (by exact fun _ _ _ h => h) (Or.inl ⟨by rfl, ?_⟩) h0 ?_
        rotate_left
        · intro W hW
          go_simp
          all_goals with_reducible rfl
        try simp only [Act.put, List.setIfInBounds_toArray, List.set_cons_zero, List.set_cons_succ]
        refine wpAnyH_take (i := 1) (v := ?_) (by rw [List.getElem?_toArray]; rfl) (by kernel_rfl) (by kernel_rfl) (by kernel_rfl) (by exact fun _ _ _ h => h) (Or.inl ⟨by rfl, ?_⟩) h0 ?_
        rotate_left
        · intro W hW
          go_simp
          all_goals with_reducible rfl
        try simp only [Act.put, List.setIfInBounds_toArray, List.set_cons_zero, List.set_cons_succ]
        refine wpAnyH_take (i := 2) (v := ?_) (by rw [List.getElem?_toArray]; rfl) (by kernel_rfl) (by kernel_rfl) (by kernel_rfl) (by exact fun _ _ _ h => h) (Or.inl ⟨by rfl, ?_⟩) h0 ?_
        rotate_left
        · intro W hW
          go_simp
          all_goals with_reducible rfl
        try simp only [Act.put, List.setIfInBounds_toArray, List.set_cons_zero, List.set_cons_succ]
        refine wpAnyH_take (i := 3) (v := ?_) (by rw [List.getElem?_toArray]; rfl) (by kernel_rfl) (by kernel_rfl) (by kernel_rfl) (by exact fun _ _ _ h => h) (Or.inl ⟨by rfl, ?_⟩) h0 ?_
        rotate_left
        · intro W hW
          have cc := (MS.out.on hW).cell
          go_simp
          all_goals with_reducible rfl
        try simp only [Act.put, List.setIfInBounds_toArray, List.set_cons_zero, List.set_cons_succ]
        refine wpAnyH_take (i := 4) (v := ?_) (by rw [List.getElem?_toArray]; rfl) (by kernel_rfl) (by kernel_rfl) (by kernel_rfl) (by exact fun _ _ _ h => h) (Or.inl ⟨by rfl, ?_⟩) h0 ?_
        rotate_left
        · intro W hW
          go_simp
          all_goals with_reducible rfl
        try simp only [Act.put, List.setIfInBounds_toArray, List.set_cons_zero, List.set_cons_succ]
        refine wpAnyH_take (i := 5) (v := ?_) (by rw [List.getElem?_toArray]; rfl) (by kernel_rfl) (by kernel_rfl) (by kernel_rfl) (by exact fun _ _ _ h => h) (Or.inl ⟨by rfl, ?_⟩) h0 ?_
        rotate_left
        · intro W hW
          go_simp
          all_goals with_reducible rfl
        try simp only [Act.put, List.setIfInBounds_toArray, List.set_cons_zero, List.set_cons_succ]
        refine wpAnyH_take (i := 6) (v := ?_) (by rw [List.getElem?_toArray]; rfl) (by kernel_rfl) (by kernel_rfl) (by kernel_rfl) (by exact fun _ _ _ h => h) (Or.inl ⟨by rfl, ?_⟩) h0 ?_
        rotate_left
        · intro W hW
          go_simp
          all_goals with_reducible rfl
        try simp only [Act.put, List.setIfInBounds_toArray, List.set_cons_zero, List.set_cons_succ]
        refine wpAnyH_take (i := 7) (v := ?_) (by rw [List.getElem?_toArray]; rfl) (by kernel_rfl) (by kernel_rfl) (by kernel_rfl) (by exact fun _ _ _ h => h) (Or.inl ⟨by rfl, ?_⟩) h0 ?_
        rotate_left
        · intro W hW
          have cc := (RK.out W hW).1
          go_simp
          all_goals with_reducible rfl
        try simp only [Act.put, List.setIfInBounds_toArray, List.set_cons_zero, List.set_cons_succ]
        refine wpAnyH_take (i := 8) (v := ?_) (by rw [List.getElem?_toArray]; rfl) (by kernel_rfl) (by kernel_rfl) (by kernel_rfl) (by exact fun _ _ _ h => h) (Or.inl ⟨by rfl, ?_⟩) h0 ?_
        rotate_left
        · intro W hW
          have cc := (HK1.out.on hW).row lK
          go_simp
          all_goals with_reducible rfl
        try simp only [Act.put, List.setIfInBounds_toArray, List.set_cons_zero, List.set_cons_succ]
        refine wpAnyH_ready (rs := [9]) (by kernel_rfl) (by simp) ?_
        refine AllReadyH.cons (by rw [List.getElem?_toArray]; rfl) (fun KX hKK => ?_) AllReadyH.nil
        first | rw [if_pos (by rfl)] | skip
        go_wp2_with fail
        refine (less_any OKG.out HKY.out).mono ?_
        rintro e w5 ⟨rfl, b5⟩
        have hS : Below wr.heap.size wr w5 := h0.trans (b5.mono h0.size)
        have B5 := Lib.hid hS
        rw [HLE.out]
        clear b5
        go_wp2_with fail
        refine hKK.out _ _ (hS) (fun h0 => ?_)
        clear hKK KX
        try simp only [Act.put, List.setIfInBounds_toArray, List.set_cons_zero, List.set_cons_succ]
        refine wpAnyH_take (i := 10) (v := ?_) (by rw [List.getElem?_toArray]; rfl) (by kernel_rfl) (by kernel_rfl) (by kernel_rfl) (by exact fun _ _ _ h => h) (Or.inl ⟨by rfl, ?_⟩) h0 ?_
        rotate_left
        · intro W hW
          go_simp
          all_goals with_reducible rfl
        try simp only [Act.put, List.setIfInBounds_toArray, List.set_cons_zero, List.set_cons_succ]
        refine wpAnyH_done (by kernel_rfl) ?_ _
        clear h0
        go_wp2_with fail
        go_roundw
        case rel => exact ⟨i + 1, by go_num, by omega, by have := HI.out; omega, Lib.hid (MS.out.on B5.out), Lib.hid (HK1.out.on B5.out), Lib.hid (BW.out.trans (B5.out.mono BW.out.size))⟩
        case measure => simp [intOf]; omega

      · have HLE : Hid (decide (cmpB G K < 0) = false) := decide_eq_false hcm
        have HI := Lib.hid (HIG.out hcm).1
        have HTH := Lib.hid (HIG.out hcm).2
        clear hcm HIL HIG hif
        go_upto_region 4 with fail
        clear c0
        refine wp_region_held_drew (S := fun W => Below wr.heap.size wr W) (by kernel_rfl) ((Below.refl _ _).drew) (fun h0 => ?_)
        refine wpAnyH_take (i := 0) (v := ?_) (by rw [List.getElem?_toArray]; rfl) (by kernel_rfl) (by kernel_rfl) (by kernel_rfl) (by exact fun _ _ _ h => h) (Or.inl ⟨by rfl, ?_⟩) h0 ?_
        rotate_left
        · intro W hW
          go_simp
          all_goals with_reducible rfl
        try simp only [Act.put, List.setIfInBounds_toArray, List.set_cons_zero, List.set_cons_succ]
        refine wpAnyH_take (i := 1) (v := ?_) (by rw [List.getElem?_toArray]; rfl) (by kernel_rfl) (by kernel_rfl) (by kernel_rfl) (by exact fun _ _ _ h => h) (Or.inl ⟨by rfl, ?_⟩) h0 ?_
        rotate_left
        · intro W hW
          go_simp
          all_goals with_reducible rfl
        try simp only [Act.put, List.setIfInBounds_toArray, List.set_cons_zero, List.set_cons_succ]
        refine wpAnyH_take (i := 2) (v := ?_) (by rw [List.getElem?_toArray]; rfl) (by kernel_rfl) (by kernel_rfl) (by kernel_rfl) (by exact fun _ _ _ h => h) (Or.inl ⟨by rfl, ?_⟩) h0 ?_
        rotate_left
        · intro W hW
          go_simp
          all_goals with_reducible rfl
        try simp only [Act.put, List.setIfInBounds_toArray, List.set_cons_zero, List.set_cons_succ]
        refine wpAnyH_take (i := 3) (v := ?_) (by rw [List.getElem?_toArray]; rfl) (by kernel_rfl) (by kernel_rfl) (by kernel_rfl) (by exact fun _ _ _ h => h) (Or.inl ⟨by rfl, ?_⟩) h0 ?_
        rotate_left
        · intro W hW
          have cc := (MS.out.on hW).cell
          go_simp
          all_goals with_reducible rfl
        try simp only [Act.put, List.setIfInBounds_toArray, List.set_cons_zero, List.set_cons_succ]
        refine wpAnyH_take (i := 4) (v := ?_) (by rw [List.getElem?_toArray]; rfl) (by kernel_rfl) (by kernel_rfl) (by kernel_rfl) (by exact fun _ _ _ h => h) (Or.inl ⟨by rfl, ?_⟩) h0 ?_
        rotate_left
        · intro W hW
          go_simp
          all_goals with_reducible rfl
        try simp only [Act.put, List.setIfInBounds_toArray, List.set_cons_zero, List.set_cons_succ]
        refine wpAnyH_take (i := 5) (v := ?_) (by rw [List.getElem?_toArray]; rfl) (by kernel_rfl) (by kernel_rfl) (by kernel_rfl) (by exact fun _ _ _ h => h) (Or.inl ⟨by rfl, ?_⟩) h0 ?_
        rotate_left
        · intro W hW
          go_simp
          all_goals with_reducible rfl
        try simp only [Act.put, List.setIfInBounds_toArray, List.set_cons_zero, List.set_cons_succ]
        refine wpAnyH_take (i := 6) (v := ?_) (by rw [List.getElem?_toArray]; rfl) (by kernel_rfl) (by kernel_rfl) (by kernel_rfl) (by exact fun _ _ _ h => h) (Or.inl ⟨by rfl, ?_⟩) h0 ?_
        rotate_left
        · intro W hW
          go_simp
          all_goals with_reducible rfl
        try simp only [Act.put, List.setIfInBounds_toArray, List.set_cons_zero, List.set_cons_succ]
        refine wpAnyH_take (i := 7) (v := ?_) (by rw [List.getElem?_toArray]; rfl) (by kernel_rfl) (by kernel_rfl) (by kernel_rfl) (by exact fun _ _ _ h => h) (Or.inl ⟨by rfl, ?_⟩) h0 ?_
        rotate_left
        · intro W hW
          have cc := (RK.out W hW).1
          go_simp
          all_goals with_reducible rfl
        try simp only [Act.put, List.setIfInBounds_toArray, List.set_cons_zero, List.set_cons_succ]
        refine wpAnyH_take (i := 8) (v := ?_) (by rw [List.getElem?_toArray]; rfl) (by kernel_rfl) (by kernel_rfl) (by kernel_rfl) (by exact fun _ _ _ h => h) (Or.inl ⟨by rfl, ?_⟩) h0 ?_
        rotate_left
        · intro W hW
          have cc := (HK1.out.on hW).row lK
          go_simp
          all_goals with_reducible rfl
        try simp only [Act.put, List.setIfInBounds_toArray, List.set_cons_zero, List.set_cons_succ]
        refine wpAnyH_ready (rs := [9]) (by kernel_rfl) (by simp) ?_
        refine AllReadyH.cons (by rw [List.getElem?_toArray]; rfl) (fun KX hKK => ?_) AllReadyH.nil
        first | rw [if_pos (by rfl)] | skip
        go_wp2_with fail
        refine (less_any OKG.out HKY.out).mono ?_
        rintro e w5 ⟨rfl, b5⟩
        have hS : Below wr.heap.size wr w5 := h0.trans (b5.mono h0.size)
        have B5 := Lib.hid hS
        rw [HLE.out]
        clear b5
        go_wp2_with fail
        refine hKK.out _ _ (hS) (fun h0 => ?_)
        clear hKK KX
        try simp only [Act.put, List.setIfInBounds_toArray, List.set_cons_zero, List.set_cons_succ]
        refine wpAnyH_take (i := 10) (v := ?_) (by rw [List.getElem?_toArray]; rfl) (by kernel_rfl) (by kernel_rfl) (by kernel_rfl) (by exact fun _ _ _ h => h) (Or.inl ⟨by rfl, ?_⟩) h0 ?_
        rotate_left
        · intro W hW
          go_simp
          all_goals with_reducible rfl
        try simp only [Act.put, List.setIfInBounds_toArray, List.set_cons_zero, List.set_cons_succ]
        refine wpAnyH_done (by kernel_rfl) ?_ _
        clear h0
        go_wp2_with fail
        have b6 : Below wr.heap.size wr w5.drew := B5.out.drew
        refine wp_region_held_drew (S := fun W => Below wr.heap.size wr W) (by kernel_rfl) (b6) (fun h0 => ?_)
        refine wpAnyH_take (i := 0) (v := ?_) (by rw [List.getElem?_toArray]; rfl) (by kernel_rfl) (by kernel_rfl) (by kernel_rfl) (by exact fun _ _ _ h => h) (Or.inl ⟨by rfl, ?_⟩) h0 ?_
        rotate_left
        · intro W hW
          go_simp
          all_goals with_reducible rfl
        try simp only [Act.put, List.setIfInBounds_toArray, List.set_cons_zero, List.set_cons_succ]
        refine wpAnyH_take (i := 1) (v := ?_) (by rw [List.getElem?_toArray]; rfl) (by kernel_rfl) (by kernel_rfl) (by kernel_rfl) (by exact fun _ _ _ h => h) (Or.inl ⟨by rfl, ?_⟩) h0 ?_
        rotate_left
        · intro W hW
          go_simp
          all_goals with_reducible rfl
        try simp only [Act.put, List.setIfInBounds_toArray, List.set_cons_zero, List.set_cons_succ]
        refine wpAnyH_take (i := 2) (v := ?_) (by rw [List.getElem?_toArray]; rfl) (by kernel_rfl) (by kernel_rfl) (by kernel_rfl) (by exact fun _ _ _ h => h) (Or.inl ⟨by rfl, ?_⟩) h0 ?_
        rotate_left
        · intro W hW
          go_simp
          all_goals with_reducible rfl
        try simp only [Act.put, List.setIfInBounds_toArray, List.set_cons_zero, List.set_cons_succ]
        refine wpAnyH_take (i := 3) (v := ?_) (by rw [List.getElem?_toArray]; rfl) (by kernel_rfl) (by kernel_rfl) (by kernel_rfl) (by exact fun _ _ _ h => h) (Or.inl ⟨by rfl, ?_⟩) h0 ?_
        rotate_left
        · intro W hW
          go_simp
          all_goals with_reducible rfl
        try simp only [Act.put, List.setIfInBounds_toArray, List.set_cons_zero, List.set_cons_succ]
        refine wpAnyH_take (i := 4) (v := ?_) (by rw [List.getElem?_toArray]; rfl) (by kernel_rfl) (by kernel_rfl) (by kernel_rfl) (by exact fun _ _ _ h => h) (Or.inl ⟨by rfl, ?_⟩) h0 ?_
        rotate_left
        · intro W hW
          have cc := (MS.out.on hW).cell
          go_simp
          all_goals with_reducible rfl
        try simp only [Act.put, List.setIfInBounds_toArray, List.set_cons_zero, List.set_cons_succ]
        refine wpAnyH_take (i := 5) (v := ?_) (by rw [List.getElem?_toArray]; rfl) (by kernel_rfl) (by kernel_rfl) (by kernel_rfl) (by exact fun _ _ _ h => h) (Or.inl ⟨by rfl, ?_⟩) h0 ?_
        rotate_left
        · intro W hW
          go_simp
          all_goals with_reducible rfl
        try simp only [Act.put, List.setIfInBounds_toArray, List.set_cons_zero, List.set_cons_succ]
        refine wpAnyH_take (i := 6) (v := ?_) (by rw [List.getElem?_toArray]; rfl) (by kernel_rfl) (by kernel_rfl) (by kernel_rfl) (by exact fun _ _ _ h => h) (Or.inl ⟨by rfl, ?_⟩) h0 ?_
        rotate_left
        · intro W hW
          go_simp
          all_goals with_reducible rfl
        try simp only [Act.put, List.setIfInBounds_toArray, List.set_cons_zero, List.set_cons_succ]
        refine wpAnyH_take (i := 7) (v := ?_) (by rw [List.getElem?_toArray]; rfl) (by kernel_rfl) (by kernel_rfl) (by kernel_rfl) (by exact fun _ _ _ h => h) (Or.inl ⟨by rfl, ?_⟩) h0 ?_
        rotate_left
        · intro W hW
          go_simp
          all_goals with_reducible rfl
        try simp only [Act.put, List.setIfInBounds_toArray, List.set_cons_zero, List.set_cons_succ]
        refine wpAnyH_take (i := 8) (v := ?_) (by rw [List.getElem?_toArray]; rfl) (by kernel_rfl) (by kernel_rfl) (by kernel_rfl) (by exact fun _ _ _ h => h) (Or.inl ⟨by rfl, ?_⟩) h0 ?_
        rotate_left
        · intro W hW
          have cc := (RK.out W hW).1
          go_simp
          all_goals with_reducible rfl
        try simp only [Act.put, List.setIfInBounds_toArray, List.set_cons_zero, List.set_cons_succ]
        refine wpAnyH_take (i := 9) (v := ?_) (by rw [List.getElem?_toArray]; rfl) (by kernel_rfl) (by kernel_rfl) (by kernel_rfl) (by exact fun _ _ _ h => h) (Or.inl ⟨by rfl, ?_⟩) h0 ?_
        rotate_left
        · intro W hW
          have cc := (HK1.out.on hW).row lK
          go_simp
          all_goals with_reducible rfl
        try simp only [Act.put, List.setIfInBounds_toArray, List.set_cons_zero, List.set_cons_succ]
        refine wpAnyH_take (i := 10) (v := ?_) (by rw [List.getElem?_toArray]; rfl) (by kernel_rfl) (by kernel_rfl) (by kernel_rfl) (by exact fun _ _ _ h => h) (Or.inl ⟨by rfl, ?_⟩) h0 ?_
        rotate_left
        · intro W hW
          go_simp
          all_goals with_reducible rfl
        try simp only [Act.put, List.setIfInBounds_toArray, List.set_cons_zero, List.set_cons_succ]
        refine wpAnyH_take (i := 11) (v := ?_) (by rw [List.getElem?_toArray]; rfl) (by kernel_rfl) (by kernel_rfl) (by kernel_rfl) (by exact fun _ _ _ h => h) (Or.inl ⟨by rfl, ?_⟩) h0 ?_
        rotate_left
        · intro W hW
          go_simp
          all_goals with_reducible rfl
        try simp only [Act.put, List.setIfInBounds_toArray, List.set_cons_zero, List.set_cons_succ]
        refine wpAnyH_take (i := 12) (v := ?_) (by rw [List.getElem?_toArray]; rfl) (by kernel_rfl) (by kernel_rfl) (by kernel_rfl) (by exact fun _ _ _ h => h) (Or.inl ⟨by rfl, ?_⟩) h0 ?_
        rotate_left
        · intro W hW
          go_simp
          all_goals with_reducible rfl
        try simp only [Act.put, List.setIfInBounds_toArray, List.set_cons_zero, List.set_cons_succ]
        refine wpAnyH_done (by kernel_rfl) ?_ _
        clear h0
        go_wp2_with fail
        refine bodyPost_ret (v := .tuple #[.int .i64 (i : Int), .bool (G == K)]) (by simp [results, Tryd.results36, go_sem]) rfl ?_
        exact ⟨by rw [HTH.out, HI.out], BW.out.trans (B5.out.drew.mono BW.out.size)⟩

    · have hnl : ¬ (i : Int) < (L.length : Int) := by omega
      have hfl : fiR K L = L.length := by have := fiR_le K L; omega
      have hth : thR K L = false := by unfold thR; rw [hfl]; simp
      go_wp2_with fail
      refine bodyPost_ret (v := .tuple #[.int .i64 (L.length : Int), .bool false]) (by simp [results, Tryd.results36, go_sem]) rfl ?_
      exact ⟨by first | rfl | rw [hfl, hth], BW.out⟩
end Go.Proofs.YtjlodnecdngdfaaDoor
