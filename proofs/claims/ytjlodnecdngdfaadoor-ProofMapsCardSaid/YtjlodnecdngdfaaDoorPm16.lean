/-
  The document's map: a row that is laid anew out of an older one's parts.; Bits of a hash, in package proof and in the document; how many are set.; The document's rows of pairs as arguments; how many go left.; Rows of strings of a call's own: laid, joined, appended to.
-/
import Derived.Lib.BitFns
import Derived.Laws.Bits64
import Derived.Test.YtjlodnecdngdfaaDoorPm5
import Derived.Test.YtjlodnecdngdfaaDoorPm6
import Derived.Test.YtjlodnecdngdfaaDoorPm14
import Derived.Test.YtjlodnecdngdfaaDoorPm15
namespace Go.Proofs.YtjlodnecdngdfaaDoor
open Go.RowKit
set_option maxRecDepth 100000

/-! ### Parts of a row -/
def cutR (x : Value) (lo hi : Option Value) : Sem Value := Instr.sliceAt 22 x lo hi none
def cutQ (q : Option Addr) (c i : Nat) : Option Addr := if c = i then q else q.map (·.add (i * 64))
theorem Tryd.size_pr5 (w : World) : (sizeOf 37).run Tryd.prog w = .ok 64 w := by kernel_rfl
@[go_sem] theorem run_cut_to (w : World) (q : Option Addr) (n c i : Nat) (h : i ≤ c) :
    (cutR (.slice q n c) none (some (.int .i64 (i : Int)))).run Tryd.prog w = .ok (.slice q i c) w := by
  have e : (i : Int).toNat = i := by omega
  have hsz := Tryd.size_pr5 w
  unfold cutR
  simp [Instr.sliceAt, Instr.slice, Instr.sliceBounds, Instr.sliceBound, asIntOf, run_underlying Tryd.underlying22, hsz, go_sem, h]
@[go_sem] theorem run_cut_from (w : World) (q : Option Addr) (n c i : Nat) (h : i ≤ n) :
    (cutR (.slice q n c) (some (.int .i64 (i : Int))) none).run Tryd.prog w = .ok (.slice (cutQ q c i) (n - i) (c - i)) w := by
  have e : (i : Int).toNat = i := by omega
  have hsz := Tryd.size_pr5 w
  unfold cutR
  simp [cutQ, Instr.sliceAt, Instr.slice, Instr.sliceBounds, Instr.sliceBound, asIntOf, run_underlying Tryd.underlying22, hsz, go_sem, h]
@[go_sem ↓] theorem Tryd.cut_is (x : Value) (lo hi : Option Value) : Instr.sliceAt 22 x lo hi none = cutR x lo hi := rfl
theorem RmS.cap {w0 wr : World} {pm : Nat} {q : Option Addr} {n c : Nat} {L : PrL} (h : RmS w0 wr pm (.slice q n c) L) : n = L.length ∧ L.length ≤ c := by
  obtain ⟨q', c', e⟩ := h.slice
  simp only [Value.slice.injEq] at e
  obtain ⟨rfl, rfl, rfl⟩ := e
  refine ⟨rfl, ?_⟩
  rcases h.rd with h0 | ⟨b, -, -, -, -, h6⟩
  · rw [h0]; simp
  · exact h6
theorem RmS.srcTo {w0 wr : World} {pm : Nat} {q : Option Addr} {n c : Nat} {L : PrL} (h : RmS w0 wr pm (.slice q n c) L) {i : Nat} (hi : i ≤ L.length) : Src Tryd.prog 64 22 (.slice q i c) i (prs (L.take i)) wr := by
  have hk := Tryd.underlying22
  rcases h.rd with h0 | ⟨b, rfl, -, -, h4, -⟩
  · obtain rfl : i = 0 := by rw [h0] at hi; simpa using hi
    rw [List.take_zero]
    cases q with
    | none => exact Src.ofNil wr hk c
    | some a => exact Src.ofSlice wr hk a 0 c [] (by simp) (fun j u hu => by simp at hu) (by simp)
  · have := (h4.take i).src (P := Tryd.prog) (c := c) (fun x hx => h.ok x (List.mem_of_mem_take hx)) hk
    rw [List.length_take, Nat.min_eq_left hi] at this
    exact this
theorem RmS.srcFrom {w0 wr : World} {pm : Nat} {q : Option Addr} {n c : Nat} {L : PrL} (h : RmS w0 wr pm (.slice q n c) L) {i : Nat} (hi : i ≤ L.length) : Src Tryd.prog 64 22 (.slice (cutQ q c i) (L.length - i) (c - i)) (L.length - i) (prs (L.drop i)) wr := by
  have hk := Tryd.underlying22
  have key : ∀ (q' : Option Addr) (c' : Nat), Src Tryd.prog 64 22 (.slice q' 0 c') 0 (prs []) wr := fun q' c' => by
    cases q' with
    | none => exact Src.ofNil wr hk c'
    | some a => exact Src.ofSlice wr hk a 0 c' [] (by simp) (fun j u hu => by simp at hu) (by simp)
  by_cases he : L.length = i
  · rw [← he, Nat.sub_self, List.drop_length]
    exact key _ _
  · rcases h.rd with h0 | ⟨b, rfl, -, -, h4, h6⟩
    · rw [h0] at hi he; simp at hi he; omega
    · have hn : ¬ c = i := by omega
      have e : (some (⟨b, 0, none⟩ : Addr)).map (·.add (i * 64)) = some ⟨b, i * 64, none⟩ := by simp [addr_add]
      unfold cutQ
      rw [if_neg hn, e]
      have := (h4.drop i).src (P := Tryd.prog) (c := c - i) (fun x hx => h.ok x (List.mem_of_mem_drop hx)) hk
      rw [List.length_drop, Nat.zero_add] at this
      exact this
theorem RdR.chg {w w' : World} {b off : Nat} {L : PrL} {S : List Nat} (h : RdR w b off L) (hl : b < w.heap.size) (hc : Chg w w' S) (hb : b ∉ S) : RdR w' b off L := fun i hi => by
  rw [rowOf_agr (hc.block b hl hb)]; exact h i hi
/-- What is laid anew by now. -/
structure AcS (w1 W : World) (acc : Value) (n : Nat) (xs : List Value) (lit : Option Nat) (x : List Int × List Int) : Prop where
  below : Below w1.heap.size w1 W
  own : W.ownsRow 0 37 64 acc n xs
  fresh : ∀ g, acc.ownBlock = some g → w1.heap.size ≤ g
  lit : ∀ b, lit = some b → RdR W b 0 [x] ∧ acc.ownBlock ≠ some b ∧ b < W.heap.size
section
variable {w1 W W' : World} {acc acc' : Value} {n : Nat} {xs : List Value} {lit : Option Nat} {x : List Int × List Int}
theorem AcS.start (w1 : World) (x : List Int × List Int) : AcS w1 w1 (.slice none 0 0) 0 [] none x := ⟨Below.refl _ _, World.ownsRow_nil w1 0 _ 64, by simp [Value.ownBlock], fun b h => by cases h⟩
theorem AcS.on (h : AcS w1 W acc n xs lit x) (ok : PrOk x) (hb : Below W.heap.size W W') : AcS w1 W' acc n xs lit x :=
  ⟨h.below.trans (hb.mono h.below.size), own_on h.own hb, h.fresh, fun b e => by
    obtain ⟨h1, h2, h3⟩ := h.lit b e
    exact ⟨h1.on (fun y hy => by rw [List.mem_singleton.1 hy]; exact ok) hb, h2, Nat.lt_of_lt_of_le h3 hb.size⟩⟩
theorem AcS.empty (h : AcS w1 W acc n xs lit x) (ok : PrOk x) : AcS w1 (W.alloc (.cells #[] 37)) (.slice (some ⟨W.heap.size, 0, none⟩) 0 0) 0 [] lit x := by
  have h2 := h.on ok (W' := W.alloc (.cells #[] 37)) ((Below.refl _ _).alloc (Nat.le_refl _) _)
  refine ⟨h2.below, own_empty W _ 64, fun g hg => ?_, fun b e => ?_⟩
  · obtain rfl : W.heap.size = g := by simpa [Value.ownBlock] using hg
    exact h.below.size
  · obtain ⟨h3, -, h5⟩ := h2.lit b e
    refine ⟨h3, fun hg => ?_, h5⟩
    obtain rfl : W.heap.size = b := by simpa [Value.ownBlock] using hg
    have := (h.lit _ e).2.2; omega
theorem AcS.literal (h : AcS w1 W acc n xs lit x) (ok : PrOk x) : AcS w1 (W.alloc (.cells (prRow x.1 x.2).toArray 37)) acc n xs (some W.heap.size) x := by
  have h2 := h.on ok (W' := W.alloc (.cells (prRow x.1 x.2).toArray 37)) ((Below.refl _ _).alloc (Nat.le_refl _) _)
  refine ⟨h2.below, h2.own, h2.fresh, fun b e => ?_⟩
  obtain rfl := Option.some.inj e
  refine ⟨fun i hi => ?_, fun hg => ?_, by simp⟩
  · obtain rfl : i = 0 := by simpa using hi
    rw [rowOf_block (heap_alloc_new W _)]
    have := prRow_len ok.k.len ok.l
    simp [List.take_of_length_le (Nat.le_of_eq this)]
  · have := own_lt h.own hg; omega
theorem AcS.app {q : Option Addr} {m k : Nat} {ys : List Value} (h : AcS w1 W acc n xs lit x) (own : W'.ownsRow 0 37 64 (.slice q m k) m ys) (grow : W.grownBy W' acc.ownBlock) (fr : (Value.slice q m k).ownBlock = acc.ownBlock ∨ (Value.slice q m k).ownBlock = some W.heap.size) : AcS w1 W' (.slice q m k) m ys lit x := by
  have hc : Chg W W' acc.ownBlock.toList := Chg.grown grow (fun g hg => by simp [hg])
  refine ⟨h.below.grown grow h.below.size (fun g hg => h.fresh g hg), own, fun g hg => ?_, fun b e => ?_⟩
  · rcases fr with e | e
    · rw [e] at hg; exact h.fresh g hg
    · rw [e] at hg; have := h.below.size; simp at hg; omega
  · obtain ⟨h1, h2, h3⟩ := h.lit b e
    refine ⟨h1.chg h3 hc (fun hm => h2 (by simpa using hm)), fun hg => ?_, Nat.lt_of_lt_of_le h3 hc.size⟩
    rcases fr with e2 | e2
    · rw [e2] at hg; exact h2 hg
    · rw [e2] at hg; simp at hg; omega
end
theorem Tryd.infoPr5 : (Tryd.prog.info? 37).map (fun i => (i.zero, i.size, i.bytes)) = some (some (.agg (prRow zero32 zero32).toArray), 64, 64) := by kernel_rfl
theorem zero_cellsP : (Value.agg (prRow zero32 zero32).toArray).cells.size = 64 := by rfl
@[go_sem ↓] theorem Tryd.zero_pr5 (w : World) : (zeroValue 37).run Tryd.prog w = .ok (.agg (prRow zero32 zero32).toArray) w := by kernel_rfl
theorem Tryd.built_pr5 (ps : List (Nat × Value)) : Tryd.prog.built 37 ps = Instr.fill (fun i => prPlaces.toArray[i]?) (prRow zero32 zero32).toArray ps := by kernel_rfl
@[go_sem ↓] theorem Tryd.build_pr5 (ps : Array (Nat × Value)) : Instr.build 37 ps = rowBuild 37 ps := rfl
@[go_sem] theorem Tryd.run_pr5 (w : World) (K V : List Int) (hK : K.length = 32) (hV : V.length = 32) :
    (rowBuild 37 #[(0, .agg (hc K).toArray), (1, .agg (hc V).toArray)]).run Tryd.prog w = .ok (.agg (prRow K V).toArray) w := by
  refine run_build w _ _ _ ?_
  rw [Tryd.built_pr5]
  show Instr.fill _ _ ((0, Value.agg (hc K).toArray) :: (1, Value.agg (hc V).toArray) :: []) = _
  have z1 : prRow zero32 zero32 = [] ++ (hc zero32 ++ (hc zero32 ++ [])) := rfl
  rw [z1, fill_at (i := 0) (off := 0) (size := 32) (vs := hc K) rfl rfl rfl rfl (by rw [hc_len, hK])]
  rw [List.nil_append]
  rw [fill_at (i := 1) (off := 32) (size := 32) (vs := hc V) rfl rfl (by rw [hc_len, hK]) rfl (by rw [hc_len, hV])]
  rfl
@[go_sem ↓] theorem Tryd.slice_pr5 (ps : Array (Nat × Value)) : Instr.buildSlice 22 1 ps = rowNew 22 ps := rfl
@[go_sem] theorem Tryd.run_slice_pr5 (w : World) (K V : List Int) (hK : K.length = 32) (hV : V.length = 32) :
    (rowNew 22 #[(0, .agg (prRow K V).toArray)]).run Tryd.prog w = .ok (.slice (some ⟨w.heap.size, 0, none⟩) 1 1) (w.alloc (.cells (prRow K V).toArray 37)) :=
  run_bs_one w Tryd.underlying22 (by kernel_rfl) (Tryd.zero_pr5 w) (n := 64) (by decide) (by decide) (prRow_len hK hV)
end Go.Proofs.YtjlodnecdngdfaaDoor
namespace Go.Proofs.YtjlodnecdngdfaaDoor
set_option maxRecDepth 100000
open Go.RowKit

set_option maxHeartbeats 2000000 in
theorem pbit_any {w : World} {K : List Int} {i : Nat} (hK : K.length = 32) (bK : Bytes K) (hi : i < 256) : Calls Tryd.prog 63 #[.agg (hc K).toArray, .int .i64 i] w fun e w' => e = .returned (.int .i64 (bitI K i)) ∧ Below w.heap.size w w' := by
  have H0 := HashAt.new w K
  have B0 := Lib.hid ((Below.refl w.heap.size w).alloc (Nat.le_refl _) (.cells (hc K).toArray 24))
  have hc0 := H0.cell (i := i / 8) (by omega)
  have hb := bK.getD (i / 8)
  obtain ⟨x, hx⟩ : ∃ x : Nat, K.getD (i / 8) 0 = (x : Int) := ⟨(K.getD (i / 8) 0).toNat, by omega⟩
  have hR : Hid (bitI K i = ((x / 2 ^ (7 - i % 8) : Nat) : Int) % 2) := by
    show bitI K i = _
    unfold bitI
    rw [hx, Int.natCast_ediv, Int.natCast_pow]
    rfl
  rw [hx] at hc0 hb
  clear hx bK
  have e1 : ((i : Nat) : Int).tdiv 8 = ((i / 8 : Nat) : Int) := by
    rw [Int.tdiv_eq_ediv_of_nonneg (by omega)]; omega
  have e2 : ((i : Nat) : Int).tmod 8 = ((i % 8 : Nat) : Int) := by
    rw [Int.tmod_eq_emod_of_nonneg (by omega)]; omega
  have hlK := hc_len K
  have hs : x / 2 ^ (7 - i % 8) ≤ x := Nat.div_le_self _ _
  have hd : ((x : Int) / 2 ^ (7 - i % 8)) = ((x / 2 ^ (7 - i % 8) : Nat) : Int) := by rw [Int.natCast_ediv, Int.natCast_pow]; rfl
  generalize x / 2 ^ (7 - i % 8) = y at hs hd hR
  have e3 : wrap64 ((x : Int) / 2 ^ (7 - i % 8)) = (y : Int) := by
    rw [hd]
    unfold wrap64
    omega
  have e4 := and_one (x := y) (by omega)
  clear hd
  go_enter Tryd.func63, Tryd.ntmps63
  go_wp2_with fail
  go_ret
  exact ⟨by rw [hR.out]; rfl, B0.out⟩
set_option maxHeartbeats 2000000 in
theorem rbit_any {w : World} {K : List Int} {i : Nat} (hK : K.length = 32) (bK : Bytes K) (hi : i < 256) : Calls Tryd.prog 47 #[.agg (hc K).toArray, .int .i64 i] w fun e w' => e = .returned (.int .i64 (bitI K i)) ∧ Below w.heap.size w w' := by
  have H0 := HashAt.new w K
  have B0 := Lib.hid ((Below.refl w.heap.size w).alloc (Nat.le_refl _) (.cells (hc K).toArray 24))
  have hc0 := H0.cell (i := i / 8) (by omega)
  have hb := bK.getD (i / 8)
  obtain ⟨x, hx⟩ : ∃ x : Nat, K.getD (i / 8) 0 = (x : Int) := ⟨(K.getD (i / 8) 0).toNat, by omega⟩
  have hR : Hid (bitI K i = ((x / 2 ^ (7 - i % 8) : Nat) : Int) % 2) := by
    show bitI K i = _
    unfold bitI
    rw [hx, Int.natCast_ediv, Int.natCast_pow]
    rfl
  rw [hx] at hc0 hb
  clear hx bK
  have e1 : ((i : Nat) : Int).tdiv 8 = ((i / 8 : Nat) : Int) := by
    rw [Int.tdiv_eq_ediv_of_nonneg (by omega)]; omega
  have e2 : ((i : Nat) : Int).tmod 8 = ((i % 8 : Nat) : Int) := by
    rw [Int.tmod_eq_emod_of_nonneg (by omega)]; omega
  have hlK := hc_len K
  have hs : x / 2 ^ (7 - i % 8) ≤ x := Nat.div_le_self _ _
  have hd : ((x : Int) / 2 ^ (7 - i % 8)) = ((x / 2 ^ (7 - i % 8) : Nat) : Int) := by rw [Int.natCast_ediv, Int.natCast_pow]; rfl
  generalize x / 2 ^ (7 - i % 8) = y at hs hd hR
  have e3 : wrap64 ((x : Int) / 2 ^ (7 - i % 8)) = (y : Int) := by
    rw [hd]
    unfold wrap64
    omega
  have e4 : (y : Int).tmod 2 = (y : Int) % 2 := Int.tmod_eq_emod_of_nonneg (by omega)
  have e5 : IntKind.u64.wrap (7 - (i : Int) % 8) = 7 - (i : Int) % 8 := by rw [IntKind.wrap_u64]; omega
  clear hd
  go_enter Tryd.func47, Tryd.ntmps47
  go_wp2_with fail
  go_ret
  exact ⟨by rw [hR.out]; rfl, B0.out⟩

theorem ones_any (x : Int) (w : World) (h0 : 0 ≤ x) (h1 : x ≤ 255) : Calls Tryd.prog 48 #[.int .u8 x] w fun e w' => e = .returned (.int .i64 (Lib.onesCount x.toNat)) ∧ w' = w := by
  rw [← Lib.pop8_int x h0 h1]
  go_enter Tryd.func48, Tryd.ntmps48
  go_wp2
  go_ret
  exact ⟨by kernel_rfl, rfl⟩
/-- How many of the first n bits are set. -/
def cntI (M : List Int) : Nat → Nat
  | 0 => 0
  | n + 1 => cntI M n + (bitI M n).toNat
theorem bitI_two {M : List Int} (n : Nat) : bitI M n = 0 ∨ bitI M n = 1 := by unfold bitI; omega
theorem cntI_le (M : List Int) : ∀ n, cntI M n ≤ n
  | 0 => Nat.le_refl _
  | n + 1 => by
    have := cntI_le M n
    rcases bitI_two (M := M) n with e | e <;> simp only [cntI, e] <;> simp <;> omega
theorem cntI_mono (M : List Int) {a b : Nat} (h : a ≤ b) : cntI M a ≤ cntI M b := by
  induction b with
  | zero => have : a = 0 := by omega
            subst this; exact Nat.le_refl _
  | succ b ih =>
    by_cases e : a = b + 1
    · subst e; exact Nat.le_refl _
    · have := ih (by omega)
      simp only [cntI]
      omega
def pcN (x : Nat) : Nat := x / 128 % 2 + x / 64 % 2 + x / 32 % 2 + x / 16 % 2 + x / 8 % 2 + x / 4 % 2 + x / 2 % 2 + x % 2
theorem pcN_ones : ∀ n : Fin 256, Lib.onesCount n.val = pcN n.val := by decide +kernel
theorem bitI_at (M : List Int) (k j : Nat) (hj : j < 8) : bitI M (8 * k + j) = M.getD k 0 / 2 ^ (7 - j) % 2 := by
  unfold bitI
  rw [show (8 * k + j) / 8 = k by omega, show (8 * k + j) % 8 = j by omega]
theorem cntI_byte {M : List Int} (bM : Bytes M) (k : Nat) : cntI M (8 * (k + 1)) = cntI M (8 * k) + Lib.onesCount (M.getD k 0).toNat := by
  have hb := bM.getD k
  obtain ⟨x, hx⟩ : ∃ x : Nat, M.getD k 0 = (x : Int) := ⟨(M.getD k 0).toNat, by omega⟩
  have ho := pcN_ones ⟨x, by omega⟩
  simp only at ho
  rw [hx, Int.toNat_natCast, ho]
  have e : ∀ j, j < 8 → (bitI M (8 * k + j)).toNat = x / 2 ^ (7 - j) % 2 := fun j hj => by
    rw [bitI_at M k j hj, hx]
    have : ((x : Int) / 2 ^ (7 - j) % 2) = ((x / 2 ^ (7 - j) % 2 : Nat) : Int) := by
      rw [Int.natCast_emod, Int.natCast_ediv, Int.natCast_pow]; rfl
    rw [this, Int.toNat_natCast]
  have e0 := e 0 (by omega)
  have e1 := e 1 (by omega)
  have e2 := e 2 (by omega)
  have e3 := e 3 (by omega)
  have e4 := e 4 (by omega)
  have e5 := e 5 (by omega)
  have e6 := e 6 (by omega)
  have e7 := e 7 (by omega)
  rw [show 8 * (k + 1) = 8 * k + 7 + 1 by omega]
  simp only [cntI, show 8 * k + 7 = 8 * k + 6 + 1 by omega]
  simp only [show 8 * k + 6 = 8 * k + 5 + 1 by omega]
  simp only [show 8 * k + 5 = 8 * k + 4 + 1 by omega]
  simp only [show 8 * k + 4 = 8 * k + 3 + 1 by omega]
  simp only [show 8 * k + 3 = 8 * k + 2 + 1 by omega]
  simp only [show 8 * k + 2 = 8 * k + 1 + 1 by omega]
  rw [Nat.add_zero] at e0
  simp only [Nat.add_assoc, Nat.reduceAdd]
  rw [e0, e1, e2, e3, e4, e5, e6, e7]
  simp only [pcN, Nat.reduceSub, Nat.reducePow]
  omega
/-- May a proof be? -/
def okS (M : List Int) (Ss : List (List Int)) : Bool := decide (cntI M 256 = Ss.length ∧ zero32 ∉ Ss)
end Go.Proofs.YtjlodnecdngdfaaDoor
namespace Go.Proofs.YtjlodnecdngdfaaDoor
open Go.RowKit
set_option maxRecDepth 100000

/-- A row of pairs that can be read. -/
def RdQ (w : World) (q : Option Addr) (L : PrL) : Prop := L = [] ∨ ∃ b off, q = some ⟨b, off, none⟩ ∧ RdR w b off L
theorem RdQ.on {w w' : World} {q : Option Addr} {L : PrL} (h : RdQ w q L) (ok : PrsOk L) (hb : Below w.heap.size w w') : RdQ w' q L := by
  rcases h with h | ⟨b, off, e, h⟩
  · exact .inl h
  · exact .inr ⟨b, off, e, h.on ok hb⟩
theorem RdQ.take {w : World} {q : Option Addr} {L : PrL} (h : RdQ w q L) (i : Nat) : RdQ w q (L.take i) := by
  rcases h with h | ⟨b, off, e, h⟩
  · exact .inl (by rw [h]; simp)
  · exact .inr ⟨b, off, e, h.take i⟩
theorem RdQ.drop {w : World} {q : Option Addr} {c : Nat} {L : PrL} (h : RdQ w q L) {i : Nat} (hi : i ≤ L.length) (hc : L.length ≤ c) : RdQ w (cutQ q c i) (L.drop i) := by
  rcases h with h | ⟨b, off, rfl, h⟩
  · exact .inl (by rw [h]; simp)
  · by_cases he : c = i
    · exact .inl (List.drop_eq_nil_of_le (by omega))
    · refine .inr ⟨b, off + i * 64, ?_, h.drop i⟩
      unfold cutQ
      rw [if_neg he]
      simp [addr_add]
theorem RmS.rdq {w0 wr : World} {pm : Nat} {q : Option Addr} {n c : Nat} {L : PrL} (h : RmS w0 wr pm (.slice q n c) L) : RdQ wr q L := by
  rcases h.rd with h0 | ⟨b, e, -, -, h4, -⟩
  · exact .inl h0
  · exact .inr ⟨b, 0, e, h4⟩
/-- How many of a row go left at a level. -/
def ptR (d : Nat) : PrL → Nat
  | [] => 0
  | x :: L => if bitI x.1 d = 0 then ptR d L + 1 else 0
theorem ptR_le (d : Nat) : ∀ L : PrL, ptR d L ≤ L.length
  | [] => Nat.le_refl _
  | x :: L => by unfold ptR; split; simp; exact ptR_le d L; simp
theorem ptR_lt {d : Nat} : ∀ {L : PrL} {j : Nat}, j < ptR d L → bitI (L.getD j pr0).1 d = 0
  | [], j, h => by simp [ptR] at h
  | x :: L, j, h => by
    unfold ptR at h
    split at h
    · rename_i hx
      cases j with
      | zero => exact hx
      | succ j => simpa using ptR_lt (L := L) (by omega)
    · omega
theorem ptR_at {d : Nat} : ∀ {L : PrL}, ptR d L < L.length → bitI (L.getD (ptR d L) pr0).1 d = 1
  | [], h => by simp at h
  | x :: L, h => by
    unfold ptR at h ⊢
    by_cases hx : bitI x.1 d = 0
    · rw [if_pos hx] at h ⊢
      simpa using ptR_at (L := L) (by simpa using h)
    · rw [if_neg hx]
      have := bit01 x.1 d
      simp; omega
/-- In a rising row of keys with the same first bits those with a zero come first. -/
theorem ptR_split {d : Nat} {L : PrL} (hs : SrtR L) (ok : PrsOk L) (ha : ∀ x ∈ L, ∀ y ∈ L, AgreeB d x.1 y.1) (hd : d < 256) : (∀ x ∈ L.take (ptR d L), bitI x.1 d = 0) ∧ (∀ x ∈ L.drop (ptR d L), bitI x.1 d = 1) := by
  have hle := ptR_le d L
  constructor
  · intro x hx
    obtain ⟨i, hi, e⟩ := List.getElem_of_mem hx
    have hl : i < ptR d L := by simp at hi; omega
    have := ptR_lt hl
    rw [← e]
    simpa [List.getD, show i < L.length by omega] using this
  · intro x hx
    obtain ⟨i, hi, e⟩ := List.getElem_of_mem hx
    have hi2 : ptR d L + i < L.length := by simp at hi; omega
    have hx2 : L.getD (ptR d L + i) pr0 = x := by rw [← e]; simp [List.getD, hi2]
    have h1 := ptR_at (d := d) (L := L) (by omega)
    cases i with
    | zero => rw [Nat.add_zero] at hx2; rw [← hx2]; exact h1
    | succ i =>
      have hlt := srt_get hs (i := ptR d L) (j := ptR d L + (i + 1)) (by omega) hi2
      have m1 : L.getD (ptR d L) pr0 ∈ L := by simp [List.getD, show ptR d L < L.length by omega]
      have m2 : L.getD (ptR d L + (i + 1)) pr0 ∈ L := by rw [hx2]; exact List.mem_of_mem_drop hx
      obtain ⟨c1, c2, c3⟩ := cmp_dif (ok _ m1).k (ok _ m2).k hlt
      have hge : d ≤ dif (L.getD (ptR d L) pr0).1 (L.getD (ptR d L + (i + 1)) pr0).1 := dif_of (ha _ m1 _ m2) (by omega)
      rw [← hx2]
      rcases Nat.lt_or_ge d (dif (L.getD (ptR d L) pr0).1 (L.getD (ptR d L + (i + 1)) pr0).1) with h2 | h2
      · rw [← dif_agree _ _ d h2]; exact h1
      · have e2 : dif (L.getD (ptR d L) pr0).1 (L.getD (ptR d L + (i + 1)) pr0).1 = d := by omega
        rw [e2] at c2; omega

set_option maxHeartbeats 8000000 in
theorem part_any {w : World} {q : Option Addr} {c d : Nat} {L : PrL} (hq : RdQ w q L) (ok : PrsOk L) (hd : d < 256) (hl : L.length ≤ 1000000) :
    Calls Tryd.prog 46 #[.slice q L.length c, .int .i64 (d : Int)] w fun e w' => e = .returned (.int .i64 (ptR d L : Int)) ∧ Below w.heap.size w w' := by
  have HQ := Lib.hid hq
  have OK := Lib.hid ok
  have HD := Lib.hid hd
  clear hq ok hd
  go_enter Tryd.func46, Tryd.ntmps46
  go_wp2_with fail
  go_loopw [5] (fun iv wr => ∃ i : Nat, iv = .int .i64 (i : Int) ∧ i ≤ L.length ∧ Hid (i ≤ ptR d L) ∧ Hid (Below w.heap.size w wr)) (fun iv _ => L.length - (intOf iv).toNat)
  case atStart => exact ⟨0, rfl, by omega, Nat.zero_le _, Below.refl _ _⟩
  case round =>
    obtain ⟨i, rfl, hil, hif, BW⟩ := hrel
    by_cases hlt : i < L.length
    · have hltI : (i : Int) < (L.length : Int) := by omega
      obtain ⟨b, off, rfl, rd⟩ := (HQ.out.on OK.out BW.out).resolve_left (fun e => by rw [e] at hlt; simp at hlt)
      have OKX := Lib.hid (prOk_get OK.out hlt)
      have rK := (rowOf_half OKX.out.k.len OKX.out.l (rd i hlt)).1
      have HIL : Hid (bitI (L.getD i pr0).1 d = 0 → i + 1 ≤ ptR d L) := fun h => by
        rcases Nat.lt_or_ge i (ptR d L) with h1 | h1
        · exact h1
        · have e : i = ptR d L := by have := hif.out; omega
          have := ptR_at (d := d) (L := L) (by omega)
          rw [← e, h] at this; omega
      have HIG : Hid (bitI (L.getD i pr0).1 d = 1 → i = ptR d L) := fun h => by
        rcases Nat.lt_or_ge i (ptR d L) with h1 | h1
        · have := ptR_lt h1; omega
        · have := hif.out; omega
      have lG := OKX.out.k.len
      have hlG := hc_len (L.getD i pr0).1
      obtain ⟨G, hG⟩ : ∃ G, (L.getD i pr0).1 = G := ⟨_, rfl⟩
      have OKG : Hid (KyOk G) := by show KyOk G; rw [← hG]; exact OKX.out.k
      rw [hG] at rK HIL HIG lG hlG
      have g0 : (0 : Int) ≤ (i : Int) := by omega
      have RB := Lib.hid (rbit_any (w := wr) OKG.out.len OKG.out.by_ HD.out)
      clear rd OKX hG hif
      rcases bit01 G d with hb | hb
      · rw [hb] at RB
        have HI := Lib.hid (HIL.out hb)
        clear hb HIL HIG
        go_wp2_with fail
        refine RB.out.mono ?_
        rintro e w5 ⟨rfl, b5⟩
        have B5 := Lib.hid (BW.out.trans (b5.mono BW.out.size))
        clear b5 rK
        go_wp2_with fail
        go_roundw
        case rel => exact ⟨i + 1, by go_num, by omega, HI, B5⟩
        case measure => simp [intOf]; omega
      · rw [hb] at RB
        have HI := Lib.hid (HIG.out hb)
        clear hb HIL HIG
        go_wp2_with fail
        refine RB.out.mono ?_
        rintro e w5 ⟨rfl, b5⟩
        have B5 := Lib.hid (BW.out.trans (b5.mono BW.out.size))
        clear b5 rK
        go_wp2_with fail
        go_ret
        exact ⟨by rw [← HI.out]; rfl, B5.out⟩
    · have hnl : ¬ (i : Int) < (L.length : Int) := by omega
      have HI : Hid (i = ptR d L) := by have := hif.out; have := ptR_le d L; show _ = _; omega
      clear hif
      go_wp2_with fail
      go_ret
      exact ⟨by rw [← HI.out]; rfl, BW.out⟩
end Go.Proofs.YtjlodnecdngdfaaDoor
namespace Go.Proofs.YtjlodnecdngdfaaDoor
open Go.RowKit
set_option maxRecDepth 100000

section
variable {α : Type} {P : World → Fp → α → List Value → Prop} {d : α} {n : Nat} {F G : Fp} {w W W' x : World} {T : TypeId} {v v2 : Value} {L M : List α} {done done2 : List Value}
theorem OwF.join (k : FpOk P) {q : Option Addr} {c : Nat} (h : OwF n d P F w W T v L done) (h2 : OwF n d P G x W T v2 M done2) (hG : ∀ g, G g → F g ∧ v.ownBlock ≠ some g)
    (own : W'.ownsRow 0 T n (.slice q (L.length + M.length) c) (L.length + M.length) (done ++ done2)) (grow : W.grownBy W' v.ownBlock) (fr : (Value.slice q (L.length + M.length) c).ownBlock = v.ownBlock ∨ (Value.slice q (L.length + M.length) c).ownBlock = some W.heap.size) :
    OwF n d P F w W' T (.slice q (L.length + M.length) c) (L ++ M) (done ++ done2) := by
  have hl := h.len
  have hl2 := h2.len
  have key : ∀ {y : α} {s : List Value}, P W (fun g => F g ∧ v.ownBlock ≠ some g) y s → P W' (fun g => F g ∧ (Value.slice q (L.length + M.length) c).ownBlock ≠ some g) y s := fun {y s} hy => k.grown hy grow fr
  refine ⟨?_, fun i hi => ?_, fun g hg => ?_, ?_⟩
  · rw [List.length_append]; exact own
  · rw [List.length_append] at hi
    by_cases hil : i < L.length
    · obtain ⟨s, h1, h2, h3⟩ := h.each i hil
      have eg : (L ++ M).getD i d = L.getD i d := by simp [List.getD, List.getElem?_append_left hil]
      rw [eg]
      have h5 : i * n + n ≤ L.length * n := by rw [← Nat.succ_mul]; exact Nat.mul_le_mul_right n hil
      refine ⟨s, h1, ?_, key h3⟩
      rw [List.drop_append_of_le_length (by omega), List.take_append_of_le_length (by rw [List.length_drop]; omega)]
      exact h2
    · obtain ⟨j, rfl⟩ : ∃ j, i = L.length + j := ⟨i - L.length, by omega⟩
      obtain ⟨s, h1, h3, h4⟩ := h2.each j (by omega)
      have eg : (L ++ M).getD (L.length + j) d = M.getD j d := by simp [List.getD, List.getElem?_append_right]
      rw [eg]
      refine ⟨s, h1, ?_, key (k.mono h4 (fun g hg => hG g hg.1))⟩
      rw [Nat.add_mul, ← hl, List.drop_append, List.drop_eq_nil_of_le (by omega), List.nil_append, Nat.add_sub_cancel_left]
      exact h3
  · rcases fr with e | e
    · rw [e] at hg; exact h.fresh g hg
    · rw [e] at hg
      have := h.below.size
      have : W.heap.size = g := Option.some.inj hg
      omega
  · exact h.below.grown grow h.below.size (fun g hg => h.fresh g hg)
end
/-- Strings in a row of the call's own, all of them laid behind N. -/
def TxS (N : Nat) (w wr : World) (v : Value) (Ls : List (List Int)) : Prop := ∃ done, OwF 1 [] PBs (fun g => N ≤ g) w wr 82 v Ls done
section
variable {N N' : Nat} {w w5 wr w' : World} {v : Value} {Ls : List (List Int)} {xs : List Int}
theorem TxS.nil (N : Nat) (hb : Below w.heap.size w wr) : TxS N w wr (.slice none 0 0) [] := ⟨[], OwF.start hb⟩
theorem TxS.on (h : TxS N w wr v Ls) (hb : Below wr.heap.size wr w') : TxS N w w' v Ls := by obtain ⟨d, h⟩ := h; exact ⟨d, h.on PBs_ok hb⟩
theorem TxS.below (h : TxS N w wr v Ls) : Below w.heap.size w wr := by obtain ⟨d, h⟩ := h; exact h.below
theorem TxS.slice (h : TxS N w wr v Ls) : ∃ q c, v = .slice q Ls.length c := by obtain ⟨d, h⟩ := h; exact h.slice
theorem TxS.base (h : TxS N w5 wr v Ls) (hb : Below w.heap.size w w5) (hN : N' ≤ N) : TxS N' w wr v Ls := by
  obtain ⟨d, h⟩ := h
  refine ⟨d, h.own, fun i hi => ?_, fun g hg => Nat.le_trans hb.size (h.fresh g hg), hb.trans (h.below.mono hb.size)⟩
  obtain ⟨r, h1, h2, h3⟩ := h.each i hi
  exact ⟨r, h1, h2, PBs_ok.mono h3 (fun g hg => ⟨Nat.le_trans hN hg.1, hg.2⟩)⟩
/-- A hash's block ahead of N is stored to. -/
theorem TxS.hash {b : Nat} {F : List Int} (h : TxS N w wr v Ls) (hh : HashAt wr b F) (hc : Chg wr w' [b]) (hN : b < N) (hb : w.heap.size ≤ b) : TxS N w w' v Ls := by
  obtain ⟨d, h⟩ := h
  exact ⟨d, h.chg PBs_ok hc (fun g hg hm => by rw [List.mem_singleton.1 hm] at hg; omega) (fun g hg hm => own_ne h.own hh (by decide) (by rw [hg, List.mem_singleton.1 hm])) (fun x hx => by rw [List.mem_singleton.1 hx]; exact hb)⟩
theorem own_lit1 (w : World) (e : TypeId) (u : Value) : (w.alloc (.cells #[u] e)).ownsRow 0 e 1 (.slice (some ⟨w.heap.size, 0, none⟩) 1 1) 1 [u] :=
  ⟨by simp, .inr ⟨w.heap.size, 1, #[u], rfl, Nat.zero_le _, heap_alloc_new w _, Nat.le_refl _, by unfold maxLen; omega, by simp, by simp⟩⟩
/-- A string of the call's own, as a cell. -/
theorem FrS.pbs {q : Option Addr} {n c : Nat} (h : FrS w5 wr (.slice q n c) xs n) {G : Fp} (hG : ∀ g, w5.heap.size ≤ g → g < wr.heap.size → G g) : PBs wr G xs [.slice q n c] := by
  have hl := h.len
  subst hl
  exact ⟨q, c, rfl, h.rd, fun _ g hg => hG g (h.fresh g hg) (own_lt h.own hg)⟩
/-- A literal of one string. -/
theorem TxS.lit {q : Option Addr} {n c : Nat} (h : FrS w5 wr (.slice q n c) xs n) (hb : Below w.heap.size w w5) (hN : N ≤ w5.heap.size) : TxS N w (wr.alloc (.cells #[.slice q n c] 82)) (.slice (some ⟨wr.heap.size, 0, none⟩) 1 1) [xs] := by
  have b1 : Below wr.heap.size wr (wr.alloc (.cells #[.slice q n c] 82)) := (Below.refl _ _).alloc (Nat.le_refl _) _
  refine ⟨[.slice q n c], own_lit1 wr _ _, fun i hi => ?_, fun g hg => ?_, (hb.trans (h.below.mono hb.size)).trans (b1.mono (by have := hb.size; have := h.below.size; omega))⟩
  · obtain rfl : i = 0 := by simpa using hi
    refine ⟨[.slice q n c], rfl, rfl, PBs_ok.on (h.pbs (fun g h1 h2 => ⟨Nat.le_trans hN h1, fun e => ?_⟩)) b1⟩
    obtain rfl : wr.heap.size = g := by simpa [Value.ownBlock] using e
    omega
  · obtain rfl : wr.heap.size = g := by simpa [Value.ownBlock] using hg
    have := hb.size; have := h.below.size; omega
theorem one_src {q : Option Addr} {n c : Nat} (w : World) : Src Tryd.prog 1 61 (.slice (some ⟨w.heap.size, 0, none⟩) 1 1) 1 [.slice q n c] (w.alloc (.cells #[.slice q n c] 82)) :=
  src_any (R := [.slice q n c]) Tryd.underlying61 rfl (fun u hu => by rw [List.mem_singleton.1 hu]; rfl)
/-- One string more: it was laid behind the row, and is appended as a literal. -/
theorem TxS.more {q q6 : Option Addr} {n c k6 : Nat} {done : List Value} (h : OwF 1 [] PBs (fun g => N ≤ g) w w5 82 v Ls done) (hN : N ≤ w5.heap.size) (hf : FrS w5 wr (.slice q n c) xs n)
    (own : w'.ownsRow 0 82 1 (.slice q6 (Ls.length + 1) k6) (Ls.length + 1) (done ++ [.slice q n c])) (grow : (wr.alloc (.cells #[.slice q n c] 82)).grownBy w' v.ownBlock) (fr : (Value.slice q6 (Ls.length + 1) k6).ownBlock = v.ownBlock ∨ (Value.slice q6 (Ls.length + 1) k6).ownBlock = some (wr.alloc (.cells #[.slice q n c] 82)).heap.size) :
    TxS N w w' (.slice q6 (Ls.length + 1) k6) (Ls ++ [xs]) := by
  have b1 : Below wr.heap.size wr (wr.alloc (.cells #[.slice q n c] 82)) := (Below.refl _ _).alloc (Nat.le_refl _) _
  have h2 := (h.on PBs_ok hf.below).on PBs_ok b1
  have hp := PBs_ok.on (hf.pbs (G := fun g => N ≤ g ∧ v.ownBlock ≠ some g) (fun g h3 h4 => ⟨Nat.le_trans hN h3, fun e => by have := own_lt h.own e; omega⟩)) b1
  exact ⟨_, h2.grow PBs_ok rfl hp own grow fr⟩
/-- Two rows joined: the second one's strings were all laid behind the first one's row. -/
theorem TxS.join {M : List (List Int)} {v2 : Value} {q : Option Addr} {c : Nat} {done done2 : List Value} {x : World} (h : OwF 1 [] PBs (fun g => N ≤ g) w wr 82 v Ls done) (h2 : OwF 1 [] PBs (fun g => N' ≤ g) x wr 82 v2 M done2) (hN : N ≤ N') (hv : ∀ g, v.ownBlock = some g → g < N')
    (own : w'.ownsRow 0 82 1 (.slice q (Ls.length + M.length) c) (Ls.length + M.length) (done ++ done2)) (grow : wr.grownBy w' v.ownBlock) (fr : (Value.slice q (Ls.length + M.length) c).ownBlock = v.ownBlock ∨ (Value.slice q (Ls.length + M.length) c).ownBlock = some wr.heap.size) :
    TxS N w w' (.slice q (Ls.length + M.length) c) (Ls ++ M) :=
  ⟨_, h.join PBs_ok h2 (fun g hg => ⟨Nat.le_trans hN hg, fun e => by have := hv g e; omega⟩) own grow fr⟩
/-- A row of strings, as what is appended. -/
theorem TxS.src {q : Option Addr} {n c : Nat} {done : List Value} (h : wr.ownsRow 0 82 1 (.slice q n c) n done) (h1 : ∀ u ∈ done, u.oneCell' = true) : Src Tryd.prog 1 61 (.slice q n c) n done wr := by
  have hk := Tryd.underlying61
  rcases h.2 with ⟨e, h0⟩ | ⟨g, cap, cur, e, _, hg, hnc, hcm, hcs', htake⟩
  · simp only [Value.slice.injEq] at e
    obtain ⟨rfl, -, -⟩ := e
    have hd : done = [] := List.eq_nil_of_length_eq_zero (by rw [h.1, h0])
    rw [h0, hd]
    exact Src.ofNil wr hk c
  · simp only [Value.slice.injEq] at e
    obtain ⟨rfl, -, rfl⟩ := e
    refine Src.ofSlice wr hk _ _ _ _ h.1 (fun j u hu => ?_) h1
    rw [addr_add, Joins.cell_of_block hg, Nat.zero_add]
    have hj : j < done.length := by
      rcases Nat.lt_or_ge j done.length with h5 | h5
      · exact h5
      · rw [List.getElem?_eq_none h5] at hu; cases hu
    have e2 : cur.toList[j]? = some u := by
      have := congrArg (fun l => l[j]?) htake
      rw [List.getElem?_take_of_lt (by have := h.1; omega)] at this
      rw [this]; exact hu
    simpa using e2
theorem TxS.ones {d : List Value} (h : OwF 1 [] PBs (fun g => N ≤ g) w wr 82 v Ls d) : ∀ u ∈ d, u.oneCell' = true := fun u hu => by
  obtain ⟨i, hi, e⟩ := List.getElem_of_mem hu
  have hl := h.len
  obtain ⟨r, h1, h2, q, c, h3, -⟩ := h.each i (by omega)
  rw [Nat.mul_one, h3] at h2
  have h4 : (d.drop i).take 1 = [u] := by
    rw [List.drop_eq_getElem_cons hi, e]; rfl
  rw [h4] at h2
  have : u = .slice q (Ls.getD i []).length c := by simpa using h2
  rw [this]; rfl
end
/-- Behind a start: a block for a hash may be laid. -/
structure LfS (w1 W : World) (o : Option Nat) : Prop where
  below : Below w1.heap.size w1 W
  blk : ∀ b, o = some b → HashAt W b zero32 ∧ w1.heap.size ≤ b ∧ b < W.heap.size
theorem LfS.start (w1 : World) : LfS w1 w1 none := ⟨Below.refl _ _, fun b h => by cases h⟩
theorem LfS.of {w1 W : World} (h : Below w1.heap.size w1 W) : LfS w1 W none := ⟨h, fun b e => by cases e⟩
theorem LfS.on {w1 W W' : World} {o : Option Nat} (h : LfS w1 W o) (hb : Below W.heap.size W W') : LfS w1 W' o :=
  ⟨h.below.trans (hb.mono h.below.size), fun b e => ⟨(h.blk b e).1.on hb, (h.blk b e).2.1, Nat.lt_of_lt_of_le (h.blk b e).2.2 hb.size⟩⟩
theorem LfS.lay {w1 W : World} {o : Option Nat} (h : LfS w1 W o) : LfS w1 (W.alloc (.cells (hc zero32).toArray 24)) (some W.heap.size) :=
  ⟨h.below.alloc h.below.size _, fun b e => by
    obtain rfl := Option.some.inj e
    exact ⟨HashAt.new W zero32, h.below.size, by simp⟩⟩
def TtOk (Ls : List (List Int)) : Prop := ∀ s ∈ Ls, s.length = 85 ∧ Bytes s
theorem TtOk.nil : TtOk [] := fun s h => by cases h
theorem TtOk.app {A B : List (List Int)} (ha : TtOk A) (hb : TtOk B) : TtOk (A ++ B) := fun s h => (List.mem_append.1 h).elim (ha s) (hb s)
theorem TtOk.one {s : List Int} (h : s.length = 85) (b : Bytes s) : TtOk [s] := fun t ht => by rw [List.mem_singleton.1 ht]; exact ⟨h, b⟩
/-- What texts answers. -/
def TtQ (w : World) (L : PrL) (d : Nat) (e : Ending) (w' : World) : Prop :=
  ∃ h q c Ls, e = .returned (.tuple #[.agg (hc h).toArray, .slice q Ls.length c]) ∧ h.length = 32 ∧ Bytes h ∧ TxS w.heap.size w w' (.slice q Ls.length c) Ls ∧ Ls.length ≤ L.length * (257 - d) ∧ TtOk Ls
end Go.Proofs.YtjlodnecdngdfaaDoor
