/-
  Pairs of package smt as rows; a literal slice of one.; Pairs as rows; what a range over a map hands out.; Package smt: Pairs of any map, out of what slices.SortFunc keeps.; Package smt: which of two pairs comes first.; slices.SortFunc at pairs: the shelf's contract laid.; The order of bytes is a strict weak order; rows of pairs, flat.; A slice of bytes, as a law's argument.; The walks of basculelaw02: Lent, Stays.; A list of slices of bytes, as a law's argument; what it weighs.; How many slices an argument of slices holds; a hash as an argument, and its bytes.; A hash as a law's argument.; A struct's fields, as a law's argument holds them.; Cells that make a row.; Slices of hashes; rows of hashes of the call's own.; A proof of a key, as a law's argument.
-/
import Derived.Maps.RangeRun
import Derived.Lib.BytesEntry
import Derived.Lib.Bytealg
import Derived.Shelf.SlSortCmp.WholeK
import Derived.Shelf.Small.Bits
import Derived.Shelf.Lay
import Derived.Ground.SlsfProg
import Derived.Ground.SlgcProg
import Derived.Ground.NamesProg
import Derived.Deep.Slices
import Derived.Deep.Grids
import Derived.RangeFuncOwn
import Derived.SizedLaws
import Derived.Test.YtjlodnecdngdfaaDoorPm1
import Derived.Test.YtjlodnecdngdfaaDoorPm2
import Derived.Test.YtjlodnecdngdfaaDoorPm6
import Derived.Test.YtjlodnecdngdfaaDoorPm7
import Derived.Test.YtjlodnecdngdfaaDoorPm12
import Derived.Test.YtjlodnecdngdfaaDoorPm13
namespace Go.Proofs.YtjlodnecdngdfaaDoor
open Go.RowKit
set_option maxRecDepth 100000

def prRow (K V : List Int) : List Value := hc K ++ (hc V ++ [])
theorem prRow_len {K V : List Int} (hK : K.length = 32) (hV : V.length = 32) : (prRow K V).length = 64 := by simp [prRow, hc_len, hK, hV]
def PrB (w : World) (b : Nat) (K V : List Int) : Prop := w.heap[b]? = some (.cells (prRow K V).toArray 72 (0, 0))
section
variable {w w' : World} {b : Nat} {K V : List Int}
theorem PrB.lt (h : PrB w b K V) : b < w.heap.size := (Array.getElem?_eq_some_iff.1 h).1
theorem PrB.new (w : World) (K V : List Int) : PrB (w.alloc (.cells (prRow K V).toArray 72)) w.heap.size K V := heap_alloc_new w _
theorem PrB.on (h : PrB w b K V) (hb : Below w.heap.size w w') : PrB w' b K V := by
  unfold PrB
  rw [hb.block b h.lt]; exact h
theorem PrB.whole (h : PrB w b K V) (hK : K.length = 32) (hV : V.length = 32) : rowOf w b 0 64 = prRow K V := by
  rw [rowOf_block h]
  have := prRow_len hK hV
  simp [List.take_of_length_le (Nat.le_of_eq this)]
theorem PrB.key (h : PrB w b K V) (hK : K.length = 32) : rowOf w b 0 32 = hc K := by
  rw [rowOf_block h]
  simp [prRow, hc_len, hK]
theorem PrB.val (h : PrB w b K V) (hK : K.length = 32) (hV : V.length = 32) : rowOf w b 32 32 = hc V := by
  rw [rowOf_block h]
  have := take_midd (hc K) (hc V) [] (o := 32) (n := 32) (by simp [hc_len, hK]) (by simp [hc_len, hV])
  simpa [prRow] using this
theorem PrB.there (h : PrB w b K V) (hK : K.length = 32) (hV : V.length = 32) : w.there b 0 64 := fun j hj => by
  refine ⟨?_, Joins.unfrozen_of_block h _⟩
  rw [cell_of_row _ _ _ _ _ _ h]
  have := prRow_len hK hV
  simp [this]; omega
theorem PrB.put (h : PrB w b K V) (hK : K.length = 32) (hV : V.length = 32) {K' V' : List Int} (hK' : K'.length = 32) (hV' : V'.length = 32) : PrB (w.setCells b 0 (prRow K' V')) b K' V' := by
  have := setCells_block (b := b) (t := 72) (fr := (0, 0)) (prRow K' V') (o := 0) (w := w) (pre := []) (mid := prRow K V) (post := []) (by simpa [PrB] using h) rfl (by rw [prRow_len hK hV, prRow_len hK' hV'])
  simpa [PrB] using this
end
theorem pr_one (K V : List Int) : (prRow K V).toArray.all (·.oneCell') = true := by
  refine all_oneCell_toArray fun u hu => ?_
  simp only [prRow, List.mem_append, List.not_mem_nil, or_false] at hu
  rcases hu with hu | hu
  all_goals exact (Array.all_eq_true_iff_forall_mem.1 (hc_one _)) u (by simpa using hu)
@[go_sem ↓] theorem load64p (a : Addr) : loadCellsFrom a 0 64 #[] = rowLoad a 64 := rfl
theorem run_storeCells_pr {P : Program} (w : World) (b : Nat) (K V : List Int) (hK : K.length = 32) (hV : V.length = 32) (ht : w.there b 0 64) : (storeCells ⟨b, 0, none⟩ (prRow K V) 0).run P w = .ok () (w.setCells b 0 (prRow K V)) := by
  have e := prRow_len hK hV
  have := run_storeCells_cells (P := P) b 0 (prRow K V) 0 w (fun j hj => by rw [e] at hj; simpa using (ht j hj).1) (fun j hj => by rw [e] at hj; simpa using (ht j hj).2) (fun u hu => (Array.all_eq_true_iff_forall_mem.1 (pr_one K V)) u (by simpa using hu))
  simpa using this
@[go_sem ↓] theorem Tryd.zero_pr (w : World) : (zeroValue 72).run Tryd.prog w = .ok (.agg (prRow zero32 zero32).toArray) w := by kernel_rfl
def prPlaces : List (Nat × Nat) := [(0, 32), (32, 32)]
theorem Tryd.built_pr (ps : List (Nat × Value)) : Tryd.prog.built 72 ps = Instr.fill (fun i => prPlaces.toArray[i]?) (prRow zero32 zero32).toArray ps := by kernel_rfl
@[go_sem ↓] theorem Tryd.build_pr (ps : Array (Nat × Value)) : Instr.build 72 ps = rowBuild 72 ps := rfl
@[go_sem] theorem Tryd.run_pr (w : World) (K V : List Int) (hK : K.length = 32) (hV : V.length = 32) :
    (rowBuild 72 #[(0, .agg (hc K).toArray), (1, .agg (hc V).toArray)]).run Tryd.prog w = .ok (.agg (prRow K V).toArray) w := by
  refine run_build w _ _ _ ?_
  rw [Tryd.built_pr]
  show Instr.fill _ _ ((0, Value.agg (hc K).toArray) :: (1, Value.agg (hc V).toArray) :: []) = _
  have z1 : prRow zero32 zero32 = [] ++ (hc zero32 ++ (hc zero32 ++ [])) := rfl
  rw [z1, fill_at (i := 0) (off := 0) (size := 32) (vs := hc K) rfl rfl rfl rfl (by rw [hc_len, hK])]
  rw [List.nil_append]
  rw [fill_at (i := 1) (off := 32) (size := 32) (vs := hc V) rfl rfl (by rw [hc_len, hK]) rfl (by rw [hc_len, hV])]
  rfl
/-- A new row of one element. -/
theorem run_bs_one {P : Program} {t e : TypeId} {n : Nat} {zs xs : List Value} (w : World) (ht : P.underlying t = some (.slice e)) (hs : (sizeOf e).run P w = .ok n w) (hz : (zeroValue e).run P w = .ok (.agg zs.toArray) w)
    (hn : 0 < n) (hm : n ≤ 65536) (hx : xs.length = n) :
    (Instr.buildSlice t 1 #[(0, .agg xs.toArray)]).run P w = .ok (.slice (some ⟨w.heap.size, 0, none⟩) 1 1) (w.alloc (.cells xs.toArray e)) := by
  have hf : ∀ m : List Value, m.length = n → Instr.fill (fun i => some (i * n, n)) m.toArray #[(0, Value.agg xs.toArray)].toList = some xs.toArray := by
    intro m hm
    have := fill_at (place := fun i => some (i * n, n)) (rest := []) (i := 0) (off := 0) (size := n) (v := .agg xs.toArray) (pre := []) (mid := m) (post := []) (vs := xs) (by simp) rfl rfl hm hx
    simpa [Instr.fill] using this
  have hf' := hf ((Array.range (1 * n)).map (zs.toArray[· % zs.toArray.size]!)).toList (by simp)
  rw [Array.toArray_toList] at hf'
  unfold Instr.buildSlice
  simp only [Sem.run_bind, run_underlying ht, Result.andThen_ok, hs]
  rw [if_neg (by omega)]
  rw [if_neg (by omega)]
  simp only [Sem.run_bind, Sem.run_pure, Result.andThen_ok, hz, Value.cells]
  rw [hf']
  simp [newRow]
def rowNew (t : TypeId) (ps : Array (Nat × Value)) : Sem Value := Instr.buildSlice t 1 ps
@[go_sem ↓] theorem Tryd.slice_pr (ps : Array (Nat × Value)) : Instr.buildSlice 30 1 ps = rowNew 30 ps := rfl
@[go_sem] theorem Tryd.run_slice_pr (w : World) (K V : List Int) (hK : K.length = 32) (hV : V.length = 32) :
    (rowNew 30 #[(0, .agg (prRow K V).toArray)]).run Tryd.prog w = .ok (.slice (some ⟨w.heap.size, 0, none⟩) 1 1) (w.alloc (.cells (prRow K V).toArray 72)) :=
  run_bs_one w Tryd.underlying30 (by kernel_rfl) (Tryd.zero_pr w) (n := 64) (by decide) (by decide) (prRow_len hK hV)
end Go.Proofs.YtjlodnecdngdfaaDoor
namespace Go.Proofs.YtjlodnecdngdfaaDoor
open Go.RowKit
open Go.ChangeMaps (setBlock)
set_option maxRecDepth 100000


section
variable {P : Program} {w : World} {ops : Array Oper} {rest : List Oper} {o : Oper} {a : Act} {Q : Exit → Act → World → Prop} {E : List En} {r m c : Nat} {seen : Array Nat}
end
end Go.Proofs.YtjlodnecdngdfaaDoor
namespace Go.Proofs.YtjlodnecdngdfaaDoor
open Go.RowKit
open Go.ChangeMaps (setBlock)
set_option maxRecDepth 100000

/-- The cells of pairs. -/
def prL (L : List En) : List Value := L.flatMap fun e => prRow e.k e.v
theorem prL_app (L M : List En) : prL (L ++ M) = prL L ++ prL M := by simp [prL]
/-- Within Pairs: the iterator, the row so far. -/
structure PrS (w wr : World) (r m : Nat) (E : List En) (c : Nat) (seen : Array Nat) (v : Value) (L : List En) : Prop where
  own : wr.ownsRow 0 72 64 v L.length (prL L)
  it : wr.heap[r]? = some (.mapIter (some m) c seen c)
  below : Below w.heap.size w wr
  sn : seen.toList = L.map (·.b)
  sub : ∀ e ∈ L, e ∈ E
  nd : (L.map (·.b)).Nodup
  ne : v.ownBlock ≠ some r
  fresh : ∀ g, v.ownBlock = some g → w.heap.size ≤ g
  rge : w.heap.size ≤ r
  own0 : v.ownBlock ≠ none
section
variable {w W W' : World} {r m c : Nat} {E L : List En} {seen : Array Nat} {v : Value}
theorem PrS.on (h : PrS w W r m E c seen v L) (hb : Below W.heap.size W W') : PrS w W' r m E c seen v L :=
  ⟨own_on h.own hb, by rw [hb.block r (Array.getElem?_eq_some_iff.1 h.it).1]; exact h.it, h.below.trans (hb.mono h.below.size), h.sn, h.sub, h.nd, h.ne, h.fresh, h.rge, h.own0⟩
theorem PrS.more {W0 : World} (h : PrS w W0 r m E c seen v L) (hbw : Below w.heap.size w W) {e : En} (he : e ∈ E) (hs : seen.contains e.b = false) {s : Array Nat} (hse : s = seen.push e.b) {q : Option Addr} {cp : Nat}
    (own : W'.ownsRow 0 72 64 (.slice q (L.length + 1) cp) (L.length + 1) (prL L ++ prRow e.k e.v)) (grow : W.grownBy W' v.ownBlock)
    (fr : (Value.slice q (L.length + 1) cp).ownBlock = v.ownBlock ∨ (Value.slice q (L.length + 1) cp).ownBlock = some W.heap.size)
    (it : W.heap[r]? = some (.mapIter (some m) c s c)) : PrS w W' r m E c s (.slice q (L.length + 1) cp) (L ++ [e]) := by
  have hrl := (Array.getElem?_eq_some_iff.1 it).1
  have hn : e.b ∉ L.map (·.b) := by
    rw [← h.sn]
    simpa using hs
  refine ⟨by simpa [prL_app, prL] using own, ?_, hbw.grown grow hbw.size (fun g hg => h.fresh g hg), by rw [hse]; simp [h.sn], fun x hx => ?_, ?_, ?_, ?_, h.rge, ?_⟩
  · rw [grow.block r hrl (fun e => h.ne e.symm)]; exact it
  · rcases List.mem_append.1 hx with hx | hx
    · exact h.sub x hx
    · obtain rfl := List.mem_singleton.1 hx; exact he
  · rw [List.map_append, List.nodup_append]
    refine ⟨h.nd, by simp, fun a ha b hb e' => ?_⟩
    simp at hb
    exact hn (by rw [← hb, ← e']; exact ha)
  · rcases fr with e' | e'
    · rw [e']; exact h.ne
    · rw [e']; intro e2; have := Option.some.inj e2; omega
  · intro g hg
    rcases fr with e' | e'
    · rw [e'] at hg; exact h.fresh g hg
    · rw [e'] at hg
      have := Option.some.inj hg
      have := hbw.size
      omega
  · rcases fr with e' | e'
    · rw [e']; exact h.own0
    · rw [e']; simp
end
end Go.Proofs.YtjlodnecdngdfaaDoor
namespace Go.Proofs.YtjlodnecdngdfaaDoor
open Go.RowKit
set_option maxRecDepth 100000

/-- bytes.Compare, on bytes as numbers. -/
def cmpB (a b : List Int) : Int := Lib.compareBytes (Lib.bytesOf a) (Lib.bytesOf b)
end Go.Proofs.YtjlodnecdngdfaaDoor
namespace Go.Proofs.YtjlodnecdngdfaaDoor
open Go.Shelf Go.RowKit Go.Lib Go.Sort
set_option maxRecDepth 100000
shelf_lay_g SlLaysF0.n6 Slsf 6 at Tryd 37 as Tryd.sortPr
#check @Tryd.sortPr
end Go.Proofs.YtjlodnecdngdfaaDoor
namespace Go.Proofs.YtjlodnecdngdfaaDoor
open Go.Shelf Go.RowKit Go.Lib Go.Sort
set_option maxRecDepth 100000

theorem cb_neg : ∀ a b : List UInt8, Lib.compareBytes b a = - Lib.compareBytes a b
  | [], [] => rfl
  | [], _ :: _ => rfl
  | _ :: _, [] => rfl
  | a :: xs, b :: ys => by
    have ih := cb_neg xs ys
    simp only [Lib.compareBytes, UInt8.lt_iff_toNat_lt]
    by_cases h1 : a.toNat < b.toNat
    · have h2 : ¬ b.toNat < a.toNat := by omega
      rw [if_neg h2, if_pos h1, if_pos h1]; rfl
    · by_cases h2 : b.toNat < a.toNat
      · rw [if_pos h2, if_neg h1, if_pos h2]
      · rw [if_neg h2, if_neg h1, if_neg h1, if_neg h2, ih]
theorem cb_le : ∀ a b c : List UInt8, Lib.compareBytes a b ≤ 0 → Lib.compareBytes b c ≤ 0 → Lib.compareBytes a c ≤ 0
  | [], _, [], _, _ => by simp [Lib.compareBytes]
  | [], _, _ :: _, _, _ => by simp [Lib.compareBytes]
  | _ :: _, [], _, h, _ => by simp [Lib.compareBytes] at h
  | _ :: _, _ :: _, [], _, h => by simp [Lib.compareBytes] at h
  | a :: xs, b :: ys, c :: zs, h1, h2 => by
    have ih := cb_le xs ys zs
    simp only [Lib.compareBytes, UInt8.lt_iff_toNat_lt] at h1 h2 ⊢
    repeat' split at h1
    all_goals (repeat' split at h2)
    all_goals (repeat' split)
    all_goals first | omega | exact ih h1 h2
theorem cmp_neg (a b : List Int) : cmpB b a = - cmpB a b := cb_neg _ _
theorem cmp_le {a b c : List Int} (h1 : cmpB a b ≤ 0) (h2 : cmpB b c ≤ 0) : cmpB a c ≤ 0 := cb_le _ _ _ h1 h2
/-- A pair as the sort sees it. -/
def SPr : Type := { e : En // e.k.length = 32 ∧ e.v.length = 32 }
instance : Inhabited SPr := ⟨⟨⟨zero32, zero32, 0⟩, zero32_len, zero32_len⟩⟩
end Go.Proofs.YtjlodnecdngdfaaDoor
namespace Go.Proofs.YtjlodnecdngdfaaDoor
set_option maxRecDepth 100000
open Go.ChangeShapes Go.WideShapes Go.ChangeAt Go.RowKit Go.Deep

theorem u8_bounds {x : Int} (h : (Lit.int .u8 x).wf = true) : 0 ≤ x ∧ x < 256 := by
  have : 0 ≤ x ∧ x ≤ 255 := by simpa [Lit.wf, IntKind.min, IntKind.max, IntKind.signed, IntKind.bits] using h
  omega

section
variable {H : Type} {enc : TypeId × Value → H} {w : World} {base : Nat} {held : Bool}
end
end Go.Proofs.YtjlodnecdngdfaaDoor
namespace Go.Proofs.YtjlodnecdngdfaaDoor
open Go.RowKit
set_option maxRecDepth 100000

/-- A slice of the call's own: xs, and behind them in its room 55 and 56. -/
structure LentAt (w : World) (v : Value) (xs : List Int) (B : Nat) : Prop where
  own : ∃ g c, v = .slice (some ⟨g, 0, none⟩) xs.length c ∧ xs.length + 2 ≤ c ∧ B ≤ g ∧ w.ownsRow 0 5 1 (.slice (some ⟨g, 0, none⟩) (xs.length + 2) c) (xs.length + 2) (bc (xs ++ [55, 56]))


theorem old {w W : World} (hb : Below w.heap.size w W) {p : Addr} {v : Value} (hc : w.cell? p = some v) : W.cell? p = some v := by
  rw [hb.cell (World.block_lt_of_cell? w p hc)]; exact hc
theorem LentAt.on {w w' : World} {v : Value} {xs : List Int} {B : Nat} (h : LentAt w v xs B) (hb : Below w.heap.size w w') : LentAt w' v xs B := by
  obtain ⟨g, c, e, h1, h2, h3⟩ := h.own
  exact ⟨g, c, e, h1, h2, own_on h3 hb⟩
theorem LentAt.tail {w : World} {v : Value} {xs : List Int} {B : Nat} (h : LentAt w v xs B) : ∃ g c, v = .slice (some ⟨g, 0, none⟩) xs.length c ∧ xs.length + 2 ≤ c ∧ w.cell? ⟨g, xs.length, none⟩ = some (.int .u8 55) ∧ w.cell? ⟨g, xs.length + 1, none⟩ = some (.int .u8 56) := by
  obtain ⟨g, c, rfl, h1, h2, h3⟩ := h.own
  have hr := rd_of_row (by simpa using h3 : w.ownsRow 0 5 1 (.slice (some ⟨g, 0, none⟩) (xs.length + 2) c) (xs.length + 2) (bc (xs ++ [55, 56])))
  obtain ⟨q', c', e, h0 | ⟨b, off, rfl, hc⟩⟩ := hr
  · simp at h0
  · simp only [Value.slice.injEq, Option.some.injEq, Addr.mk.injEq, and_true] at e
    obtain ⟨⟨rfl, rfl⟩, -, -⟩ := e
    have c5 := hc xs.length (by simp)
    have c6 := hc (xs.length + 1) (by simp)
    rw [Nat.zero_add] at c5 c6
    exact ⟨g, c, rfl, h1, by rw [c5]; simp [List.getD], by rw [c6]; simp [List.getD]⟩

end Go.Proofs.YtjlodnecdngdfaaDoor
namespace Go.Proofs.YtjlodnecdngdfaaDoor
set_option maxRecDepth 100000
open Go.ChangeShapes Go.WideShapes Go.ChangeAt Go.RowKit Go.Deep

section
variable {H : Type} {enc : TypeId × Value → H} {w : World} {base : Nat} {held : Bool}
end
end Go.Proofs.YtjlodnecdngdfaaDoor
namespace Go.Proofs.YtjlodnecdngdfaaDoor
set_option maxRecDepth 100000
open Go.ChangeShapes Go.WideShapes Go.ChangeAt Go.RowKit Go.Deep

section
variable {H : Type} {enc : TypeId × Value → H} {w : World} {base : Nat} {held : Bool}
theorem mapM_memB {α β : Type} {f : α → Option β} : ∀ {L : List α} {xs : List β}, L.mapM f = some xs → ∀ i ∈ L, ∃ y, f i = some y
  | [], _, _, i, hi => by simp at hi
  | a :: L, xs, h, i, hi => by
    rw [List.mapM_cons] at h
    simp only [bind, Option.bind_eq_some_iff, pure, Option.some.injEq] at h
    obtain ⟨y, hy, ys, hys, _⟩ := h
    rcases List.mem_cons.1 hi with rfl | hi
    · exact ⟨y, hy⟩
    · exact mapM_memB hys i hi
theorem trod_hashB {t e : TypeId} {P : Program} {spare : Nat → Bool} {fuel : Nat} {cs : List Value} {x : DataW H × List MemPlace} (ht : P.underlying t = some (.array 32 e)) (he : P.underlying e = some (.int .u8)) (hC : P.cellsOf t = 32) (h1 : P.cellsOf e = 1)
    (h : DataW.trod enc P w base spare held fuel t cs = some x) : ∃ F : List Int, F.length = 32 ∧ cs = hc F ∧ Bytes F := by
  cases fuel with
  | zero => simp [DataW.trod] at h
  | succ m =>
    rw [DataW.trod_step] at h
    unfold DataW.trodStep at h
    simp only [ht, h1, hC, Nat.mul_one] at h
    split at h
    · rename_i hl
      simp only [Option.map_eq_some_iff] at h
      obtain ⟨ys, hy, _⟩ := h
      have key : ∀ i, i < 32 → ∃ a, cs[i]? = some (.int .u8 a) ∧ 0 ≤ a ∧ a < 256 := by
        intro i hi
        obtain ⟨y, hy⟩ := mapM_memB hy i (by simp [hi])
        obtain ⟨a, ea, _, wa⟩ := DataW.trod_int he hy
        refine ⟨a, ?_, u8_bounds wa⟩
        have := congrArg (fun l => l[0]?) ea
        simpa [List.getElem?_take, List.getElem?_drop] using this
      refine ⟨cs.map fun v => match v with | .int _ q => q | _ => 0, by simp [hl], ?_, ?_⟩
      · apply List.ext_getElem?
        intro i
        by_cases hi : i < 32
        · obtain ⟨a, e0, _⟩ := key i hi
          simp [hc, e0]
        · rw [List.getElem?_eq_none (by omega), List.getElem?_eq_none (by simp [hc]; omega)]
      · intro z hz
        obtain ⟨v, hv, rfl⟩ := List.mem_map.1 hz
        obtain ⟨i, hi, rfl⟩ := List.getElem_of_mem hv
        obtain ⟨a, e0, ha⟩ := key i (by omega)
        rw [List.getElem?_eq_getElem hi, Option.some.injEq] at e0
        rw [e0]
        exact ha
    · simp at h
theorem open_hashB {r : Reach} {b0 : Nat} {v : Value} {d : DataW H} {p : List MemPlace} (hv : Value.okWide Tryd.prog w r b0 24 v) (h : DataW.Trod enc Tryd.prog w base (fun _ => true) held 24 v d p) :
    ∃ F : List Int, F.length = 32 ∧ v = .agg (hc F).toArray ∧ Bytes F := by
  obtain ⟨cs, rfl, _, _⟩ : ∃ cs, v = .agg cs ∧ cs.size = Tryd.prog.cellsOf 24 ∧ Row.okWide Tryd.prog w r b0 24 cs := by
    simpa [Value.okWide, Tryd.underlying24] using hv
  obtain ⟨fuel, hf⟩ := h
  obtain ⟨F, hF, e, hb⟩ := trod_hashB Tryd.underlying24 Tryd.underlying5 (by kernel_rfl) (by kernel_rfl) hf
  exact ⟨F, hF, by rw [← e]; simp [Value.cells], hb⟩
end
end Go.Proofs.YtjlodnecdngdfaaDoor
namespace Go.Proofs.YtjlodnecdngdfaaDoor
set_option maxRecDepth 100000
open Go.ChangeShapes Go.WideShapes Go.ChangeAt Go.RowKit

theorem mapM_mem {α β : Type} {f : α → Option β} : ∀ {L : List α} {xs : List β}, L.mapM f = some xs → ∀ i ∈ L, ∃ y, f i = some y
  | [], _, _, i, hi => by simp at hi
  | a :: L, xs, h, i, hi => by
    rw [List.mapM_cons] at h
    simp only [bind, Option.bind_eq_some_iff, pure, Option.some.injEq] at h
    obtain ⟨y, hy, ys, hys, _⟩ := h
    rcases List.mem_cons.1 hi with rfl | hi
    · exact ⟨y, hy⟩
    · exact mapM_mem hys i hi

section
variable {H : Type} {enc : TypeId × Value → H} {P : Program} {w : World} {base : Nat} {spare : Nat → Bool} {held : Bool}

end
end Go.Proofs.YtjlodnecdngdfaaDoor
namespace Go.Proofs.YtjlodnecdngdfaaDoor
set_option maxRecDepth 100000
open Go.ChangeShapes Go.WideShapes Go.ChangeAt Go.RowKit

section
variable {H : Type} {enc : TypeId × Value → H} {P : Program} {w : World} {base : Nat} {spare : Nat → Bool} {held : Bool}

end
end Go.Proofs.YtjlodnecdngdfaaDoor
namespace Go.Proofs.YtjlodnecdngdfaaDoor
end Go.Proofs.YtjlodnecdngdfaaDoor
namespace Go.Proofs.YtjlodnecdngdfaaDoor
set_option maxRecDepth 100000
open Go.RowKit

/-- A slice of hashes. -/
def RdHs (w : World) (q : Option Addr) (Ss : List (List Int)) : Prop := Ss = [] ∨ ∃ b off, q = some ⟨b, off, none⟩ ∧ ∀ i, i < Ss.length → rowOf w b (off + i * 32) 32 = hc (Ss.getD i [])
theorem blk_onB2 {w w' : World} {b : Nat} {x : Obj} (h : w.heap[b]? = some x) (hb : Below w.heap.size w w') : w'.heap[b]? = some x := by
  rw [hb.block b (Array.getElem?_eq_some_iff.1 h).1]; exact h
theorem rowOf_on {w w' : World} {b o n : Nat} (h : 0 < (rowOf w b o n).length) (hb : Below w.heap.size w w') : rowOf w' b o n = rowOf w b o n := by
  unfold rowOf at *
  cases e : w.heap[b]? with
  | none => rw [e] at h; simp at h
  | some x => rw [blk_onB2 e hb]
theorem RdHs.on {w w' : World} {q : Option Addr} {Ss : List (List Int)} (h : RdHs w q Ss) (hS : ∀ i, i < Ss.length → (Ss.getD i []).length = 32) (hb : Below w.heap.size w w') : RdHs w' q Ss := by
  rcases h with h | ⟨b, off, e, hx⟩
  · exact .inl h
  · refine .inr ⟨b, off, e, fun i hi => ?_⟩
    rw [rowOf_on (by rw [hx i hi, hc_len, hS i hi]; omega) hb]
    exact hx i hi
/-- The cells of a row of hashes. -/
def hcs (Ss : List (List Int)) : List Value := Ss.flatMap hc
theorem hcs_append (A B : List (List Int)) : hcs (A ++ B) = hcs A ++ hcs B := by simp [hcs]
theorem hcs_one (F : List Int) : hcs [F] = hc F := by simp [hcs]
/-- Hashes: 32 bytes each. -/
def HsOk (Ss : List (List Int)) : Prop := ∀ F ∈ Ss, F.length = 32 ∧ Bytes F
theorem HsOk.get {Ss : List (List Int)} (h : HsOk Ss) (i : Nat) (hi : i < Ss.length) : (Ss.getD i []).length = 32 ∧ Bytes (Ss.getD i []) := by
  have e : Ss.getD i [] = Ss[i] := by simp [List.getD, hi]
  rw [e]
  exact h _ (List.getElem_mem hi)
theorem HsOk.nil : HsOk [] := fun _ h => by cases h
theorem HsOk.append {A B : List (List Int)} (hA : HsOk A) (hB : HsOk B) : HsOk (A ++ B) := fun F h => (List.mem_append.1 h).elim (hA F) (hB F)
theorem HsOk.one {F : List Int} (h : F.length = 32) (b : Bytes F) : HsOk [F] := fun G hG => by
  obtain rfl := List.mem_singleton.1 hG
  exact ⟨h, b⟩
theorem hcs_len : ∀ {Ss : List (List Int)}, HsOk Ss → (hcs Ss).length = Ss.length * 32
  | [], _ => rfl
  | F :: Ss, h => by
    have h1 := hcs_len (Ss := Ss) (fun G hG => h G (List.mem_cons_of_mem _ hG))
    have h2 := (h F (List.mem_cons_self ..)).1
    have e : hcs (F :: Ss) = hc F ++ hcs Ss := rfl
    rw [e, List.length_append, h1, hc_len, h2, List.length_cons]
    omega
theorem hcs_mid (tail : List Value) : ∀ {Ss : List (List Int)}, HsOk Ss → ∀ i, i < Ss.length → ((hcs Ss ++ tail).drop (i * 32)).take 32 = hc (Ss.getD i [])
  | [], _, i, hi => by simp at hi
  | F :: Ss, h, i, hi => by
    have h2 := (h F (List.mem_cons_self ..)).1
    have e : hcs (F :: Ss) ++ tail = hc F ++ (hcs Ss ++ tail) := by rw [← List.append_assoc]; rfl
    have hl : (hc F).length = 32 := by rw [hc_len, h2]
    rw [e]
    cases i with
    | zero => rw [Nat.zero_mul, List.drop_zero]; exact List.take_left' hl
    | succ i =>
      rw [List.drop_append, hl, List.drop_eq_nil_of_le (by omega), List.nil_append, show (i + 1) * 32 - 32 = i * 32 by omega]
      exact hcs_mid tail (fun G hG => h G (List.mem_cons_of_mem _ hG)) i (by simpa using hi)
theorem hcs_cell : ∀ {Ss : List (List Int)}, HsOk Ss → ∀ {j : Nat} {u : Value}, (hcs Ss)[j]? = some u → j / 32 < Ss.length ∧ (hc (Ss.getD (j / 32) []))[j % 32]? = some u
  | [], _, j, u, hj => by simp [hcs] at hj
  | F :: Ss, h, j, u, hj => by
    have h2 := (h F (List.mem_cons_self ..)).1
    have hl : (hc F).length = 32 := by rw [hc_len, h2]
    have e : hcs (F :: Ss) = hc F ++ hcs Ss := rfl
    rw [e] at hj
    by_cases hlt : j < 32
    · rw [List.getElem?_append_left (by omega)] at hj
      rw [show j / 32 = 0 by omega, show j % 32 = j by omega]
      exact ⟨by simp, hj⟩
    · rw [List.getElem?_append_right (by omega), hl] at hj
      obtain ⟨h3, h4⟩ := hcs_cell (fun G hG => h G (List.mem_cons_of_mem _ hG)) hj
      have e1 : j / 32 = (j - 32) / 32 + 1 := by omega
      have e2 : j % 32 = (j - 32) % 32 := by omega
      rw [e1, e2]
      exact ⟨by simp; omega, h4⟩
theorem hcs_cells_one (Ss : List (List Int)) : ∀ u ∈ hcs Ss, u.oneCell' = true := by
  intro u hu
  obtain ⟨F, _, hF⟩ := List.mem_flatMap.1 hu
  exact (Array.all_eq_true_iff_forall_mem.1 (hc_one F)) u (by simpa using hF)

/-! ### A row that reads as hashes -/
theorem RdHs.cell {w : World} {b off : Nat} {Ss : List (List Int)} (hx : ∀ i, i < Ss.length → rowOf w b (off + i * 32) 32 = hc (Ss.getD i [])) (ok : HsOk Ss) {j : Nat} {u : Value} (hj : (hcs Ss)[j]? = some u) : w.cell? ⟨b, off + j, none⟩ = some u := by
  obtain ⟨h1, h2⟩ := hcs_cell ok hj
  have := range_rowOf w b (off + j / 32 * 32) 32 (j % 32) u (by rw [hx _ h1]; exact h2)
  rw [show off + j / 32 * 32 + j % 32 = off + j by omega] at this
  exact this
theorem RdHs.src {P : Program} {w : World} {tx e' : TypeId} {q : Option Addr} {c : Nat} {Ss : List (List Int)} (h : RdHs w q Ss) (ok : HsOk Ss) (hk : P.underlying tx = some (.slice e')) : Src P 32 tx (.slice q Ss.length c) Ss.length (hcs Ss) w := by
  rcases h with rfl | ⟨b, off, rfl, hx⟩
  · cases q with
    | none => exact Src.ofNil w hk c
    | some a => exact Src.ofSlice w hk a 0 c [] (by simp) (fun j u hu => by simp at hu) (by simp)
  · refine Src.ofSlice w hk _ _ _ _ (hcs_len ok) (fun j u hu => ?_) (hcs_cells_one Ss)
    rw [addr_add]
    exact RdHs.cell hx ok hu
theorem rdHs_block {w : World} {b : Nat} {T : TypeId} {fr : Nat × Nat} {tail : List Value} {Ss : List (List Int)} (h : w.heap[b]? = some (.cells (hcs Ss ++ tail).toArray T fr)) (ok : HsOk Ss) : RdHs w (some ⟨b, 0, none⟩) Ss := by
  refine .inr ⟨b, 0, rfl, fun i hi => ?_⟩
  rw [rowOf_block h, Nat.zero_add, ← hcs_mid tail ok i hi]
  simp [List.take_drop]
theorem RdHs.nil (w : World) (q : Option Addr) : RdHs w q [] := .inl rfl

/-- A row of hashes that the call lays. -/
structure HsS (w wr : World) (v : Value) (Ss : List (List Int)) : Prop where
  own : wr.ownsRow 0 24 32 v Ss.length (hcs Ss)
  ok : HsOk Ss
  fresh : ∀ g, v.ownBlock = some g → w.heap.size ≤ g
  below : Below w.heap.size w wr
theorem HsS.start (w : World) : HsS w w (.slice none 0 0) [] := ⟨World.ownsRow_nil w 0 _ 32, HsOk.nil, by simp [Value.ownBlock], Below.refl _ _⟩
theorem HsS.on {w wr w1 : World} {v : Value} {Ss : List (List Int)} (h : HsS w wr v Ss) (hb : Below wr.heap.size wr w1) : HsS w w1 v Ss :=
  ⟨own_on h.own hb, h.ok, h.fresh, h.below.trans (hb.mono h.below.size)⟩
theorem HsS.grow {w wr w2 : World} {v v' : Value} {Ss Ts : List (List Int)} {m : Nat} (h : HsS w wr v Ss) (ok : HsOk Ts) (hm : Ts.length = m) (own : w2.ownsRow 0 24 32 v' (Ss.length + m) (hcs Ss ++ hcs Ts)) (grow : wr.grownBy w2 v.ownBlock) (fr : v'.ownBlock = v.ownBlock ∨ v'.ownBlock = some wr.heap.size) : HsS w w2 v' (Ss ++ Ts) := by
  subst hm
  refine ⟨by rw [List.length_append, hcs_append]; exact own, h.ok.append ok, fun g hg => ?_, h.below.grown grow h.below.size (fun k hk => h.fresh k hk)⟩
  rcases fr with e | e
  · rw [e] at hg; exact h.fresh g hg
  · rw [e] at hg; have := h.below.size; simp at hg; omega
theorem HsS.rd {w wr : World} {q : Option Addr} {n c : Nat} {Ss : List (List Int)} (h : HsS w wr (.slice q n c) Ss) : n = Ss.length ∧ RdHs wr q Ss ∧ n ≤ c ∧ c ≤ maxLen := by
  rcases h.own.2 with ⟨e, h0⟩ | ⟨g, cap, cur, e, _, hg, hnc, hcm, hcs', htake⟩
  · simp only [Value.slice.injEq] at e
    obtain ⟨rfl, rfl, rfl⟩ := e
    have h1 : Ss = [] := List.eq_nil_of_length_eq_zero h0
    subst h1
    exact ⟨rfl, .inl rfl, Nat.le_refl _, by unfold maxLen; omega⟩
  · simp only [Value.slice.injEq] at e
    obtain ⟨rfl, rfl, rfl⟩ := e
    refine ⟨rfl, ?_, hnc, hcm⟩
    have hc2 : cur = (hcs Ss ++ cur.toList.drop (Ss.length * 32)).toArray := by
      apply Array.ext'
      show cur.toList = hcs Ss ++ cur.toList.drop (Ss.length * 32)
      rw [← htake, List.take_append_drop]
    rw [hc2] at hg
    exact rdHs_block hg h.ok
theorem one_hs {w : World} {F : List Int} (h : F.length = 32) (b : Bytes F) : RdHs (w.alloc (.cells (hc F).toArray 24)) (some ⟨w.heap.size, 0, none⟩) [F] := by
  refine rdHs_block (tail := []) (T := 24) (fr := (0, 0)) ?_ (HsOk.one h b)
  rw [List.append_nil, hcs_one]
  exact heap_alloc_new w _
theorem Tryd.infoHs : (Tryd.prog.info? 24).map (fun i => (i.zero, i.size, i.bytes)) = some (some (.agg (hc zero32).toArray), 32, 32) := by kernel_rfl
theorem zero_cells : (Value.agg (hc zero32).toArray).cells.size = 32 := by rfl

end Go.Proofs.YtjlodnecdngdfaaDoor
namespace Go.Proofs.YtjlodnecdngdfaaDoor
set_option maxRecDepth 100000
open Go.ChangeShapes Go.WideShapes Go.ChangeAt Go.RowKit Go.Deep

section
variable {H : Type} {enc : TypeId × Value → H} {P : Program} {w : World} {base : Nat} {held : Bool}

theorem trod_struct {t : TypeId} {fs : Array Field} {fuel n : Nat} {cs : List Value} {x : DataW H × List MemPlace} (ht : P.underlying t = some (.struct fs)) (hC : P.cellsOf t = n) (h : DataW.trod enc P w base (fun _ => true) held fuel t cs = some x) :
    cs.length = n ∧ ∃ m, ∃ ys : List (DataW H × List MemPlace), x.1 = .agg (ys.map (·.1)) ∧
      ∀ (i : Nat) f, fs.toList[i]? = some f → ∃ y, ys[i]? = some y ∧ DataW.trod enc P w base (fun _ => true) held m f.type ((cs.drop f.offset).take (P.cellsOf f.type)) = some y := by
  cases fuel with
  | zero => simp [DataW.trod] at h
  | succ m =>
    rw [DataW.trod_step] at h
    unfold DataW.trodStep at h
    simp only [ht, hC] at h
    split at h
    · rename_i hl
      simp only [Option.map_eq_some_iff] at h
      obtain ⟨ys, hy, hx⟩ := h
      refine ⟨hl, m, ys, by rw [← hx], fun i f hf => ?_⟩
      have h1 := mapM_some_get hy i f hf
      obtain ⟨y, hyy⟩ := mapM_mem hy f (List.mem_of_getElem? hf)
      exact ⟨y, by rw [← h1]; exact hyy, hyy⟩
    · simp at h
theorem weights_mem_all {e : TypeId} : ∀ {el : List (DataW H)} {d : DataW H}, d ∈ el → ∀ n ∈ d.weights P e, n ∈ DataW.weightsAll P e el
  | [], d, hd, _, _ => by cases hd
  | c :: el, d, hd, n, hn => by
    rw [DataW.weightsAll]
    rcases List.mem_cons.1 hd with rfl | hd
    · exact List.mem_append.2 (.inl hn)
    · exact List.mem_append.2 (.inr (weights_mem_all hd n hn))
theorem weights_slice {t e : TypeId} (ht : P.underlying t = some (.slice e)) {el sp : List (DataW H)} (h : ∀ n ∈ (DataW.slice el sp).weights P t, n ≤ reachBytes) : el.length * P.bytesOf e ≤ reachBytes ∧ ∀ d ∈ el, ∀ n ∈ d.weights P e, n ≤ reachBytes := by
  rw [DataW.weights, ht] at h
  simp only at h
  refine ⟨Nat.le_trans (Nat.mul_le_mul_right _ (Nat.le_add_right _ sp.length)) (h _ (List.mem_cons_self ..)), fun d hd n hn => h n ?_⟩
  exact List.mem_cons.2 (.inr (List.mem_append.2 (.inl (weights_mem_all hd n hn))))
end

section
variable {H : Type} {enc : TypeId × Value → H} {w : World} {base : Nat} {held : Bool}
end
end Go.Proofs.YtjlodnecdngdfaaDoor
