/-
  Package smt: a node of a tree, and a map's own cells, in memory.
-/
import Derived.Test.YtjgfjmkfcippcaaDoorSmNode
import Derived.Test.YtjgfjmkfcippcaaDoorOwnR
import Derived.MapKept
namespace Go.Proofs.YtjgfjmkfcippcaaDoor
open Go.RowKit
set_option maxRecDepth 100000

/-- A node. -/
structure Nd where
  key : List Int
  fork : Int
  lo : Option Addr
  hi : Option Addr
  own : List Int
  told : Bool
  high : List Int
  lvl : Int
  known : Bool
def Nd.row (n : Nd) : List Value := hc n.key ++ ([.int .i64 n.fork, .pointer n.lo, .pointer n.hi] ++ (hc n.own ++ ([.bool n.told] ++ (hc n.high ++ [.int .i64 n.lvl, .bool n.known]))))
structure Nd.ok (n : Nd) : Prop where
  key : n.key.length = 32
  own : n.own.length = 32
  high : n.high.length = 32
theorem Nd.ok.len {n : Nd} (h : n.ok) : n.row.length = 102 := by simp [Nd.row, hc_len, h.key, h.own, h.high]
theorem Nd.one (n : Nd) : n.row.toArray.all (·.oneCell') = true := by
  refine all_oneCell_toArray fun v hv => ?_
  simp only [Nd.row, List.mem_append, List.mem_cons, List.not_mem_nil, or_false] at hv
  rcases hv with hv | (rfl | rfl | rfl) | hv | rfl | hv | rfl | rfl
  any_goals rfl
  all_goals exact (Array.all_eq_true_iff_forall_mem.1 (hc_one _)) v (by simpa using hv)
def nd0 : Nd := ⟨zero32, 0, none, none, zero32, false, zero32, 0, false⟩
theorem take_midd (pre mid post : List Value) {o n : Nat} (hp : pre.length = o) (hm : mid.length = n) : ((pre ++ (mid ++ post)).drop o).take n = mid := by
  subst hp hm
  rw [List.drop_left, List.take_left]

/-- Block b holds the node n. -/
def NdB (w : World) (b : Nat) (n : Nd) : Prop := w.heap[b]? = some (.cells n.row.toArray 85 (0, 0))
section
variable {w w' : World} {b : Nat} {n : Nd}
theorem NdB.lt (h : NdB w b n) : b < w.heap.size := (Array.getElem?_eq_some_iff.1 h).1
theorem NdB.facts (h : NdB w b n) (ok : n.ok) : w.cell? ⟨b, 32, none⟩ = some (.int .i64 n.fork) ∧ w.cell? ⟨b, 33, none⟩ = some (.pointer n.lo) ∧ w.cell? ⟨b, 34, none⟩ = some (.pointer n.hi) ∧ w.cell? ⟨b, 67, none⟩ = some (.bool n.told) ∧
    w.cell? ⟨b, 100, none⟩ = some (.int .i64 n.lvl) ∧ w.cell? ⟨b, 101, none⟩ = some (.bool n.known) ∧ rowOf w b 0 32 = hc n.key ∧ rowOf w b 35 32 = hc n.own ∧ rowOf w b 68 32 = hc n.high := by
  refine ⟨?_, ?_, ?_, ?_, ?_, ?_, ?_, ?_, ?_⟩
  all_goals first
    | (rw [cell_of_row _ _ _ _ _ _ h]; simp [Nd.row, hc_len, ok.key, ok.own, ok.high]; done)
    | skip
  · rw [rowOf_block h]
    simp [Nd.row, hc_len, ok.key]
  · rw [rowOf_block h]
    have := take_midd (hc n.key ++ [.int .i64 n.fork, .pointer n.lo, .pointer n.hi]) (hc n.own) ([.bool n.told] ++ (hc n.high ++ [.int .i64 n.lvl, .bool n.known])) (o := 35) (n := 32) (by simp [hc_len, ok.key]) (by simp [hc_len, ok.own])
    simpa [Nd.row] using this
  · rw [rowOf_block h]
    have := take_midd (hc n.key ++ ([.int .i64 n.fork, .pointer n.lo, .pointer n.hi] ++ (hc n.own ++ [.bool n.told]))) (hc n.high) [.int .i64 n.lvl, .bool n.known] (o := 68) (n := 32) (by simp [hc_len, ok.key, ok.own]) (by simp [hc_len, ok.high])
    simpa [Nd.row] using this
theorem NdB.free (h : NdB w b n) (i : Nat) : w.frozen? ⟨b, i, none⟩ = false := Joins.unfrozen_of_block h i
theorem NdB.there (h : NdB w b n) (ok : n.ok) {i k : Nat} (hi : i + k ≤ 102) : w.there b i k := fun j hj => by
  refine ⟨?_, h.free _⟩
  rw [cell_of_row _ _ _ _ _ _ h]
  have := ok.len
  simp [this]; omega
theorem NdB.chg {S : List Nat} (h : NdB w b n) (hc : Chg w w' S) (hp : b ∉ S) : NdB w' b n := by
  unfold NdB
  rw [hc.block b h.lt hp]; exact h
theorem NdB.on (h : NdB w b n) (hb : Below w.heap.size w w') : NdB w' b n := h.chg (S := []) (Chg.below hb (Nat.le_refl _) []) (by simp)
theorem NdB.alloc (h : NdB w b n) (x : Obj) : NdB (w.alloc x) b n := h.on ((Below.refl _ _).alloc (Nat.le_refl _) x)
theorem NdB.setOwn (h : NdB w b n) (ok : n.ok) {F : List Int} (hF : F.length = 32) : NdB (w.setCells b 35 (hc F)) b { n with own := F } := by
  have := setCells_block (b := b) (t := 85) (fr := (0, 0)) (hc F) (o := 35) (w := w) (pre := hc n.key ++ [.int .i64 n.fork, .pointer n.lo, .pointer n.hi]) (mid := hc n.own) (post := [.bool n.told] ++ (hc n.high ++ [.int .i64 n.lvl, .bool n.known])) (by simpa [NdB, Nd.row] using h) (by simp [hc_len, ok.key]) (by rw [hc_len, hc_len, ok.own, hF])
  simpa [NdB, Nd.row] using this
theorem NdB.setHigh (h : NdB w b n) (ok : n.ok) {F : List Int} (hF : F.length = 32) : NdB (w.setCells b 68 (hc F)) b { n with high := F } := by
  have := setCells_block (b := b) (t := 85) (fr := (0, 0)) (hc F) (o := 68) (w := w) (pre := hc n.key ++ ([.int .i64 n.fork, .pointer n.lo, .pointer n.hi] ++ (hc n.own ++ [.bool n.told]))) (mid := hc n.high) (post := [.int .i64 n.lvl, .bool n.known]) (by simpa [NdB, Nd.row] using h) (by simp [hc_len, ok.key, ok.own]) (by rw [hc_len, hc_len, ok.high, hF])
  simpa [NdB, Nd.row] using this
theorem NdB.setTold (h : NdB w b n) (ok : n.ok) (x : Bool) : NdB (w.setCell ⟨b, 67, none⟩ (.bool x)) b { n with told := x } := by
  have := setCells_block (b := b) (t := 85) (fr := (0, 0)) [.bool x] (o := 67) (w := w) (pre := hc n.key ++ ([.int .i64 n.fork, .pointer n.lo, .pointer n.hi] ++ hc n.own)) (mid := [.bool n.told]) (post := hc n.high ++ [.int .i64 n.lvl, .bool n.known]) (by simpa [NdB, Nd.row] using h) (by simp [hc_len, ok.key, ok.own]) rfl
  simpa [NdB, Nd.row, World.setCells] using this
theorem NdB.setLvl (h : NdB w b n) (ok : n.ok) (x : Int) : NdB (w.setCell ⟨b, 100, none⟩ (.int .i64 x)) b { n with lvl := x } := by
  have := setCells_block (b := b) (t := 85) (fr := (0, 0)) [.int .i64 x] (o := 100) (w := w) (pre := hc n.key ++ ([.int .i64 n.fork, .pointer n.lo, .pointer n.hi] ++ (hc n.own ++ ([.bool n.told] ++ hc n.high)))) (mid := [.int .i64 n.lvl]) (post := [.bool n.known]) (by simpa [NdB, Nd.row] using h) (by simp [hc_len, ok.key, ok.own, ok.high]) rfl
  simpa [NdB, Nd.row, World.setCells] using this
theorem NdB.setKnown (h : NdB w b n) (ok : n.ok) (x : Bool) : NdB (w.setCell ⟨b, 101, none⟩ (.bool x)) b { n with known := x } := by
  have := setCells_block (b := b) (t := 85) (fr := (0, 0)) [.bool x] (o := 101) (w := w) (pre := hc n.key ++ ([.int .i64 n.fork, .pointer n.lo, .pointer n.hi] ++ (hc n.own ++ ([.bool n.told] ++ (hc n.high ++ [.int .i64 n.lvl]))))) (mid := [.bool n.known]) (post := []) (by simpa [NdB, Nd.row] using h) (by simp [hc_len, ok.key, ok.own, ok.high]) rfl
  simpa [NdB, Nd.row, World.setCells] using this
end

/-! ### Building a node -/
theorem fill_at {place : Nat → Option (Nat × Nat)} {rest : List (Nat × Value)} {i off size : Nat} {v : Value} {pre mid post vs : List Value} (hp : place i = some (off, size)) (hv : v.cells = vs.toArray)
    (h1 : pre.length = off) (h2 : mid.length = size) (h3 : vs.length = size) :
    Instr.fill place (pre ++ (mid ++ post)).toArray ((i, v) :: rest) = Instr.fill place (pre ++ (vs ++ post)).toArray rest := by
  rw [Instr.fill, hp]
  have e1 : v.cells.size = size := by rw [hv]; simpa using h3
  have e2 : off + size ≤ (pre ++ (mid ++ post)).toArray.size := by simp; omega
  have e3 : (decide (v.cells.size ≠ size) || decide (off + v.cells.size > (pre ++ (mid ++ post)).toArray.size)) = false := by
    rw [e1]; simp at e2 ⊢; omega
  simp only [e3]
  rw [if_neg (by simp), hv, fold_put off size vs pre mid post h1 h2 h3]
def ndPlaces : List (Nat × Nat) := [(0, 32), (32, 1), (33, 2), (35, 32), (67, 1), (68, 32), (100, 1), (101, 1)]
theorem Tryd.built_nd (ps : List (Nat × Value)) : Tryd.prog.built 85 ps = Instr.fill (fun i => ndPlaces.toArray[i]?) nd0.row.toArray ps := by kernel_rfl
@[go_sem ↓] theorem Tryd.build_nd (ps : Array (Nat × Value)) : Instr.build 85 ps = rowBuild 85 ps := rfl
@[go_sem] theorem Tryd.run_nd (w : World) (f : Int) (F : List Int) (hF : F.length = 32) :
    (rowBuild 85 #[(0, .agg (hc F).toArray), (1, .int .i64 f)]).run Tryd.prog w = .ok (.agg (Nd.row ⟨F, f, none, none, zero32, false, zero32, 0, false⟩).toArray) w := by
  refine run_build w _ _ _ ?_
  rw [Tryd.built_nd]
  show Instr.fill _ _ ((0, Value.agg (hc F).toArray) :: (1, Value.int .i64 f) :: []) = _
  have z1 : nd0.row = [] ++ (hc zero32 ++ ([.int .i64 0] ++ ([.pointer none, .pointer none] ++ (hc zero32 ++ ([.bool false] ++ (hc zero32 ++ [.int .i64 0, .bool false])))))) := rfl
  rw [z1, fill_at (i := 0) (off := 0) (size := 32) (vs := hc F) rfl rfl rfl rfl (by rw [hc_len, hF])]
  rw [List.nil_append]
  rw [fill_at (i := 1) (off := 32) (size := 1) (vs := [.int .i64 f]) rfl rfl (by rw [hc_len, hF]) rfl rfl]
  simp [Nd.row, Instr.fill]
def K1 : List Int := [1, 0, 0, 0, 0, 0, 0, 0, 0, 0, 0, 0, 0, 0, 0, 0, 0, 0, 0, 0, 0, 0, 0, 0, 0, 0, 0, 0, 0, 0, 0, 0]
def V2 : List Int := [2, 0, 0, 0, 0, 0, 0, 0, 0, 0, 0, 0, 0, 0, 0, 0, 0, 0, 0, 0, 0, 0, 0, 0, 0, 0, 0, 0, 0, 0, 0, 0]
@[go_sem] theorem K1_len : K1.length = 32 := by simp [K1]
@[go_sem] theorem V2_len : V2.length = 32 := by simp [V2]
@[go_sem] theorem Tryd.run_hash1 (w : World) : (rowBuild 23 #[(0, .int .u8 1)]).run Tryd.prog w = .ok (.agg (hc K1).toArray) w := by
  unfold rowBuild; kernel_rfl
@[go_sem] theorem Tryd.run_hash2 (w : World) : (rowBuild 23 #[(0, .int .u8 2)]).run Tryd.prog w = .ok (.agg (hc V2).toArray) w := by
  unfold rowBuild; kernel_rfl

/-! ### A map of one pair -/
/-- The world with another map in a block. -/
def putMap (w : World) (b : Nat) (es : Array MapEntry) (c : Nat) : World := { w with heap := w.heap.setIfInBounds b (.map es c) }
section
variable {P : Program} {w : World} {t k e : TypeId} {b c : Nat} {es : Array MapEntry} {key : Value}
theorem getMap (hb : w.heap[b]? = some (.map es c)) : (getObj b).run P w = .ok (.map es c) w := by simp [getObj, Sem.run, hb]
theorem setMap (o : Obj) (hb : w.heap[b]? = some (.map es c)) : (setObj b o).run P w = .ok () { w with heap := w.heap.setIfInBounds b o } := by simp [setObj, Sem.run, hb]
theorem run_lookup_at {r : Option (Nat × Value)} {z : Value} (ok : Bool) (ht : P.underlying t = some (.map k e)) (hb : w.heap[b]? = some (.map es c)) (hc : (Instr.checkKey es.isEmpty 10000 k key).run P w = .ok () w) (hf : (Instr.findKey k key es.toList).run P w = .ok r w) (hz : (zeroValue e).run P w = .ok z w) :
    (Instr.lookup t (.map (some b)) key ok).run P w = .ok (if ok then .tuple #[(r.map (·.2)).getD z, .bool r.isSome] else (r.map (·.2)).getD z) w := by
  unfold Instr.lookup
  simp only [Sem.run_bind, run_underlying ht, Result.andThen_ok, getMap hb, Sem.run_pure, hc, hf]
  cases r <;> simp [hz]
theorem run_mapUpdate_new {v : Value} (ht : P.underlying t = some (.map k e)) (hb : w.heap[b]? = some (.map es c)) (hc : (Instr.checkKey false 10000 k key).run P w = .ok () w) (hf : (Instr.findKey k key es.toList).run P w = .ok none w) :
    (Instr.mapUpdate t (.map (some b)) key v).run P w = .ok () (putMap w b (es.push { key := key, val := v, born := c }) (c + 1)) := by
  unfold Instr.mapUpdate
  simp only [Sem.run_bind, run_underlying ht, Result.andThen_ok, getMap hb, hc, hf, setMap _ hb]
  rfl
theorem run_delete_at {i : Nat} {v : Value} (ty : TypeId) (ht : P.underlying t = some (.map k e)) (hb : w.heap[b]? = some (.map es c)) (hc : (Instr.checkKey es.isEmpty 10000 k key).run P w = .ok () w) (hf : (Instr.findKey k key es.toList).run P w = .ok (some (i, v)) w) :
    (Builtin.delete_ #[t, k] ty #[.map (some b), key]).run P w = .ok (.tuple #[]) (putMap w b (es.eraseIdxIfInBounds i) c) := by
  simp [Builtin.delete_, run_underlying ht, getMap hb, hc, hf, setMap _ hb, putMap]
theorem run_len_at (ty : TypeId) (ht : P.underlying t = some (.map k e)) (hb : w.heap[b]? = some (.map es c)) :
    (Builtin.len_ #[t] ty #[.map (some b)]).run P w = .ok (.int .i64 es.size) w := by
  simp [Builtin.len_, run_underlying ht, getMap hb, goInt]
end
theorem ck_k1 (x : Bool) (w : World) : (Instr.checkKey x 10000 23 (.agg (hc K1).toArray)).run Tryd.prog w = .ok () w := by cases x <;> kernel_rfl
def M1 (v : Value) : Array MapEntry := #[{ key := .agg (hc K1).toArray, val := v, born := 0 }]
theorem find_k1 (v : Value) (w : World) : (Instr.findKey 23 (.agg (hc K1).toArray) (M1 v).toList).run Tryd.prog w = .ok (some (0, v)) w := by kernel_rfl
section
variable {w : World} {b c : Nat}
theorem look_m0 (ok : Bool) (hb : w.heap[b]? = some (.map #[] c)) : (Instr.lookup 39 (.map (some b)) (.agg (hc K1).toArray) ok).run Tryd.prog w = .ok (if ok then .tuple #[.agg (hc zero32).toArray, .bool false] else .agg (hc zero32).toArray) w :=
  run_lookup_at (r := none) ok Tryd.underlying39 hb (ck_k1 _ w) (by kernel_rfl) (Tryd.zero_hash w)
theorem look_m1 (ok : Bool) {v : Value} (hb : w.heap[b]? = some (.map (M1 v) c)) : (Instr.lookup 39 (.map (some b)) (.agg (hc K1).toArray) ok).run Tryd.prog w = .ok (if ok then .tuple #[v, .bool true] else v) w :=
  run_lookup_at (r := some (0, v)) ok Tryd.underlying39 hb (ck_k1 _ w) (find_k1 v w) (Tryd.zero_hash w)
theorem upd_m0 {v : Value} (hb : w.heap[b]? = some (.map #[] 0)) : (Instr.mapUpdate 39 (.map (some b)) (.agg (hc K1).toArray) v).run Tryd.prog w = .ok () (putMap w b (M1 v) 1) :=
  run_mapUpdate_new Tryd.underlying39 hb (ck_k1 _ w) (by kernel_rfl)
theorem del_m1 {v : Value} (ty : TypeId) (hb : w.heap[b]? = some (.map (M1 v) 1)) : (Builtin.delete_ #[39, 23] ty #[.map (some b), .agg (hc K1).toArray]).run Tryd.prog w = .ok (.tuple #[]) (putMap w b #[] 1) := by
  have h := run_delete_at ty Tryd.underlying39 hb (ck_k1 _ w) (find_k1 v w)
  rw [show (M1 v).eraseIdxIfInBounds 0 = #[] by simp [M1, Array.eraseIdxIfInBounds]] at h
  exact h
end
theorem putMap_size (w : World) (b : Nat) (es : Array MapEntry) (c : Nat) : (putMap w b es c).heap.size = w.heap.size := by simp [putMap]
theorem putMap_there {w : World} {b : Nat} {es : Array MapEntry} {c : Nat} (h : b < w.heap.size) : (putMap w b es c).heap[b]? = some (.map es c) := by simp [putMap, h]
theorem putMap_other {w : World} {b k : Nat} {es : Array MapEntry} {c : Nat} (h : k ≠ b) : (putMap w b es c).heap[k]? = w.heap[k]? := by simp [putMap, Array.getElem?_setIfInBounds_ne (Ne.symm h)]
end Go.Proofs.YtjgfjmkfcippcaaDoor
