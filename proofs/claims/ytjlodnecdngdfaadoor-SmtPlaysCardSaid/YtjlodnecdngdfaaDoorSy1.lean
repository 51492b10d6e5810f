/-
  A row of numbers of one kind in memory, by an index function.; What a call changes of memory: the blocks of a list, and nothing else of what there was. Rows of bytes; bytes and numbers, plain.; Rows behind calls that change blocks; a copy into a row; put32 and put64.; Lists of slices of bytes; the bytes of blobs. Copies out of a string.; math/bits.RotateLeft32, walked.; SHA-256, plain, as the program's walk spells it.; SHA-256, plain: the padding, the blocks, the digest.; The walk of digest.end.; The walk of digest.mix.; A law for '==' on arrays of integers, of whatever program.
-/
import Derived.Test.YtjlodnecdngdfaaDoorRows
import Derived.WalkKit
import Derived.Below
import Derived.Lib.Hide
import Derived.Lib.SmallJoins
import Derived.ProofKit
import Derived.BigQuiet
import Derived.BigRegion
import Derived.Deep.QuietTactic
import Derived.Deep.DeepAppendWide
import Derived.Laws.BytesArg
import Derived.Deep.AppendSrc
import Derived.Laws.IdiomCopy
import Derived.Laws.CopyOwn
import Derived.Lib.BufferWrite
import Derived.OwnWalk
import Derived.WalkSmall
import Derived.DeepKeys3
namespace Go.Proofs.YtjlodnecdngdfaaDoor
open Go.RowKit

/-- Block b holds n numbers. -/
def RwK (k : IntKind) (w : World) (b n : Nat) (T : TypeId) (f : Nat → Int) : Prop := ∃ cs : Array Value, w.heap[b]? = some (.cells cs T (0, 0)) ∧ cs.size = n ∧ ∀ i, i < n → cs[i]? = some (.int k (f i))
def updK (f : Nat → Int) (k : Nat) (v : Int) : Nat → Int := fun i => if i = k then v else f i
theorem updK_same (f : Nat → Int) (k : Nat) (v : Int) : updK f k v k = v := by simp [updK]
theorem updK_ne (f : Nat → Int) {k i : Nat} (v : Int) (h : i ≠ k) : updK f k v i = f i := by simp [updK, h]

section
variable {k : IntKind} {w w1 : World} {b n : Nat} {T : TypeId} {f : Nat → Int}
theorem RwK.lt (h : RwK k w b n T f) : b < w.heap.size := by
  obtain ⟨cs, hb, _⟩ := h
  exact lt_of_block hb
theorem RwK.cell (h : RwK k w b n T f) (i : Nat) (hi : i < n) : w.cell? ⟨b, i, none⟩ = some (.int k (f i)) := by
  obtain ⟨cs, hb, _, hx⟩ := h
  rw [Joins.cell_of_block hb]; exact hx i hi
theorem RwK.free (h : RwK k w b n T f) (i : Nat) : w.frozen? ⟨b, i, none⟩ = false := by
  obtain ⟨cs, hb, _, hx⟩ := h
  exact Joins.unfrozen_of_block hb i
theorem RwK.on (h : RwK k w b n T f) (hb : Below w.heap.size w w1) : RwK k w1 b n T f := by
  have := h.lt
  obtain ⟨cs, h1, h2⟩ := h
  exact ⟨cs, by rw [hb.block _ this]; exact h1, h2⟩
theorem RwK.alloc (h : RwK k w b n T f) (o : Obj) : RwK k (w.alloc o) b n T f := by
  have l := h.lt
  obtain ⟨cs, h1, h2⟩ := h
  exact ⟨cs, by rw [Below.heap_alloc _ _ _ l]; exact h1, h2⟩
theorem RwK.drew (h : RwK k w b n T f) : RwK k w.drew b n T f := h
theorem RwK.other (h : RwK k w b n T f) {a : Addr} (ha : b ≠ a.block) (v : Value) : RwK k (w.setCell a v) b n T f := by
  obtain ⟨cs, h1, h2⟩ := h
  exact ⟨cs, by rw [Below.heap_setCell _ _ _ _ ha]; exact h1, h2⟩
theorem RwK.store (h : RwK k w b n T f) {j : Nat} (hj : j < n) (v : Int) : RwK k (w.setCell ⟨b, j, none⟩ (.int k v)) b n T (updK f j v) := by
  obtain ⟨cs, h1, h2, h3⟩ := h
  refine ⟨cs.setIfInBounds j (.int k v), Joins.block_setCell h1 _, by simp [h2], fun i hi => ?_⟩
  by_cases e : j = i
  · subst e; rw [Array.getElem?_setIfInBounds_self_of_lt (by omega), updK_same]
  · rw [Array.getElem?_setIfInBounds_ne e, updK_ne _ _ (fun h => e h.symm)]; exact h3 i hi
theorem RwK.new (k : IntKind) (w : World) (n : Nat) (T : TypeId) : RwK k (w.alloc (.cells (Array.replicate n (.int k 0)) T)) w.heap.size n T fun _ => 0 :=
  ⟨_, heap_alloc_new _ _, by simp, fun i hi => by simp [hi]⟩
theorem RwK.newL (k : IntKind) (w : World) (L : List Int) (T : TypeId) : RwK k (w.alloc (.cells (L.map (Value.int k)).toArray T)) w.heap.size L.length T fun i => L.getD i 0 :=
  ⟨_, heap_alloc_new _ _, by simp, fun i hi => by simp [hi, List.getD]⟩
theorem RwK.same {g : Nat → Int} (h : RwK k w b n T f) (e : ∀ i, i < n → f i = g i) : RwK k w b n T g := by
  obtain ⟨cs, h1, h2, h3⟩ := h
  exact ⟨cs, h1, h2, fun i hi => by rw [← e i hi]; exact h3 i hi⟩
/-- The block itself. -/
theorem RwK.block (h : RwK k w b n T f) : w.heap[b]? = some (.cells ((List.range n).map fun i => Value.int k (f i)).toArray T (0, 0)) := by
  obtain ⟨cs, h1, h2, h3⟩ := h
  rw [h1]
  congr 2
  apply Array.ext_getElem?
  intro i
  by_cases hi : i < n
  · rw [h3 i hi]; simp [hi]
  · rw [Array.getElem?_eq_none (by omega), Array.getElem?_eq_none (by simp; omega)]
end
end Go.Proofs.YtjlodnecdngdfaaDoor
namespace Go.Proofs.YtjlodnecdngdfaaDoor
open Go.RowKit

/-- Of what there was in w the blocks of S alone may have changed. -/
structure Chg (w w' : World) (S : List Nat) : Prop where
  os : w'.os = w.os
  tape : w'.tape = w.tape
  output : w'.output = w.output
  size : w.heap.size ≤ w'.heap.size
  block : ∀ k, k < w.heap.size → k ∉ S → w'.heap[k]? = w.heap[k]?

theorem Chg.refl (w : World) (S : List Nat) : Chg w w S := ⟨rfl, rfl, rfl, Nat.le_refl _, fun _ _ _ => rfl⟩
theorem Chg.trans {a b c : World} {S T : List Nat} (h : Chg a b S) (k : Chg b c T) (hT : ∀ x, x ∈ T → x < a.heap.size → x ∈ S) : Chg a c S :=
  ⟨k.os.trans h.os, k.tape.trans h.tape, k.output.trans h.output, Nat.le_trans h.size k.size, fun i hi hn =>
    (k.block i (Nat.lt_of_lt_of_le hi h.size) (fun hx => hn (hT i hx hi))).trans (h.block i hi hn)⟩
theorem Chg.below {w w' : World} {B : Nat} (h : Below B w w') (hB : w.heap.size ≤ B) (S : List Nat) : Chg w w' S := ⟨h.os, h.tape, h.output, h.size, fun k hk _ => h.block k (by omega)⟩
theorem Chg.grown {w w' : World} {row : Option Nat} (h : w.grownBy w' row) {S : List Nat} (hS : ∀ k, row = some k → k ∈ S) : Chg w w' S :=
  ⟨h.os, h.tape, h.output, h.size, fun k hk hn => h.block k hk (fun e => hn (hS k e.symm))⟩
theorem Chg.alloc {a w : World} {S : List Nat} (h : Chg a w S) (o : Obj) : Chg a (w.alloc o) S :=
  h.trans (T := []) (Chg.below ((Below.refl _ _).alloc (Nat.le_refl _) o) (Nat.le_refl _) []) (fun _ h => by cases h)
theorem Chg.drew {a w : World} {S : List Nat} (h : Chg a w S) : Chg a w.drew S := ⟨h.os, h.tape, h.output, h.size, h.block⟩
theorem Chg.setCell {a w : World} {S : List Nat} (h : Chg a w S) {p : Addr} (hp : p.block ∈ S ∨ a.heap.size ≤ p.block) (u : Value) : Chg a (w.setCell p u) S := by
  refine h.trans (T := [p.block]) ⟨rfl, rfl, rfl, by simp [World.setCell], fun k hk hn => Below.heap_setCell _ _ _ _ (by simpa using hn)⟩ ?_
  intro x hx hl
  obtain rfl := List.mem_singleton.1 hx
  rcases hp with hp | hp
  · exact hp
  · omega
theorem Chg.toBelow {w w' : World} {S : List Nat} {B : Nat} (h : Chg w w' S) (hB : B ≤ w.heap.size) (hS : ∀ k, k ∈ S → B ≤ k) : Below B w w' :=
  ⟨h.os, h.tape, h.output, h.size, fun k hk => h.block k (by omega) (fun hx => by have := hS k hx; omega)⟩
theorem Chg.mono {w w' : World} {S T : List Nat} (h : Chg w w' S) (hS : ∀ k, k ∈ S → k < w.heap.size → k ∈ T) : Chg w w' T :=
  ⟨h.os, h.tape, h.output, h.size, fun k hk hn => h.block k hk (fun hx => hn (hS k hx hk))⟩

/-- Cells of bytes. -/
def bc (xs : List Int) : List Value := xs.map (Value.int .u8)
@[simp] theorem bc_len (xs : List Int) : (bc xs).length = xs.length := by simp [bc]
theorem bc_append (xs ys : List Int) : bc (xs ++ ys) = bc xs ++ bc ys := by simp [bc]
theorem bc_one (xs : List Int) : ∀ u ∈ bc xs, u.oneCell' = true := by
  intro u hu
  obtain ⟨x, _, rfl⟩ := List.mem_map.1 hu
  rfl
theorem bc_get {xs : List Int} {j : Nat} {u : Value} (h : (bc xs)[j]? = some u) : ∃ x, xs[j]? = some x ∧ u = .int .u8 x := by
  simp only [bc, List.getElem?_map, Option.map_eq_some_iff] at h
  obtain ⟨x, hx, rfl⟩ := h
  exact ⟨x, hx, rfl⟩

/-- Whether all are bytes. -/
def Bytes (xs : List Int) : Prop := ∀ x ∈ xs, 0 ≤ x ∧ x < 256

/-- A number's eight bytes, the highest first. -/
def be8 (n : Int) : List Int := [n / 72057594037927936 % 256, n / 281474976710656 % 256, n / 1099511627776 % 256, n / 4294967296 % 256, n / 16777216 % 256, n / 65536 % 256, n / 256 % 256, n % 256]
@[simp] theorem be8_len (n : Int) : (be8 n).length = 8 := rfl
theorem be8_bytes (n : Int) : Bytes (be8 n) := by
  intro x hx
  simp only [be8, List.mem_cons, List.not_mem_nil, or_false] at hx
  omega
/-! ### Slices that read as bytes -/
/-- The slice v reads as the bytes xs. -/
def Rd (w : World) (v : Value) (xs : List Int) : Prop := ∃ q c, v = .slice q xs.length c ∧ (xs = [] ∨ ∃ b off, q = some ⟨b, off, none⟩ ∧ ∀ i, i < xs.length → w.cell? ⟨b, off + i, none⟩ = some (.int .u8 (xs.getD i 0)))

section
variable {w w' : World} {v : Value} {xs : List Int}
theorem Rd.nil (w : World) : Rd w (.slice none 0 0) [] := ⟨none, 0, rfl, .inl rfl⟩
theorem lt_of_cell {a : Addr} {u : Value} (h : w.cell? a = some u) : a.block < w.heap.size := World.block_lt_of_cell? w a h
theorem Rd.chg {S : List Nat} (h : Rd w v xs) (hc : Chg w w' S) (hS : xs ≠ [] → ∀ k, v.ownBlock = some k → k < w.heap.size → k ∉ S) : Rd w' v xs := by
  obtain ⟨q, c, rfl, hq | ⟨b, off, rfl, hx⟩⟩ := h
  · exact ⟨q, c, rfl, .inl hq⟩
  · refine ⟨_, c, rfl, .inr ⟨b, off, rfl, fun i hi => ?_⟩⟩
    have hb := lt_of_cell (hx i hi)
    rw [World.cell?_of_block (w := w) (hc.block b hb (hS (by rintro rfl; simp at hi) b rfl hb))]
    exact hx i hi
theorem Rd.on (h : Rd w v xs) (hb : Below w.heap.size w w') : Rd w' v xs := h.chg (Chg.below hb (Nat.le_refl _) []) (fun _ _ _ _ h => by cases h)
theorem Rd.alloc (h : Rd w v xs) (o : Obj) : Rd (w.alloc o) v xs := h.on ((Below.refl _ _).alloc (Nat.le_refl _) o)
theorem Rd.drew (h : Rd w v xs) : Rd w.drew v xs := h
theorem Rd.setCell (h : Rd w v xs) {a : Addr} (ha : v.ownBlock ≠ some a.block) (u : Value) : Rd (w.setCell a u) v xs := by
  refine h.chg (S := [a.block]) ((Chg.refl w [a.block]).setCell (.inl (by simp)) u) ?_
  intro _ k hk _ hm
  obtain rfl := List.mem_singleton.1 hm
  exact ha hk
theorem Rd.lt (h : Rd w v xs) (hx : xs ≠ []) {k : Nat} (hk : v.ownBlock = some k) : k < w.heap.size := by
  obtain ⟨q, c, rfl, rfl | ⟨b, off, rfl, hc⟩⟩ := h
  · exact absurd rfl hx
  · have := lt_of_cell (hc 0 (List.length_pos_iff.2 hx))
    simp [Value.ownBlock] at hk
    simpa [← hk] using this
theorem Rd.len (h : Rd w v xs) : ∃ q c, v = .slice q xs.length c := by
  obtain ⟨q, c, e, _⟩ := h
  exact ⟨q, c, e⟩
theorem addr_add (b off i : Nat) : (⟨b, off, none⟩ : Addr).add i = ⟨b, off + i, none⟩ := by unfold Addr.add; split <;> simp_all
theorem getD_of {xs : List Int} {j : Nat} {x : Int} (h : xs[j]? = some x) : xs.getD j 0 = x := by simp [List.getD, h]
theorem Rd.src {P : Program} {tx e' : TypeId} (hk : P.underlying tx = some (.slice e')) (h : Rd w v xs) : Src P 1 tx v xs.length (bc xs) w := by
  obtain ⟨q, c, rfl, rfl | ⟨b, off, rfl, hx⟩⟩ := h
  · cases q with
    | none => exact Src.ofNil w hk c
    | some a => exact Src.ofSlice w hk a 0 c [] (by simp) (fun j u hu => by simp at hu) (by simp)
  · refine Src.ofSlice w hk _ _ _ _ (by simp) (fun j u hu => ?_) (bc_one xs)
    obtain ⟨x, hj, rfl⟩ := bc_get hu
    have hl : j < xs.length := (List.getElem?_eq_some_iff.1 hj).1
    rw [addr_add, hx j hl, getD_of hj]
end

/-! ### A row of the call's own, appended to -/
theorem setCells_in {b : Nat} {t : TypeId} {fr : Nat × Nat} : ∀ (vs : List Value) {o : Nat} {w : World} {pre mid post : List Value}, w.heap[b]? = some (.cells (pre ++ (mid ++ post)).toArray t fr) → pre.length = o → mid.length = vs.length →
    (w.setCells b o vs).heap[b]? = some (.cells (pre ++ (vs ++ post)).toArray t fr)
  | [], o, w, pre, mid, post, h, _, hm => by
    obtain rfl : mid = [] := by simpa using hm
    exact h
  | v :: vs, o, w, pre, [], post, h, _, hm => by simp at hm
  | v :: vs, o, w, pre, m :: mid, post, h, hp, hm => by
    have h1 : (w.setCell ⟨b, o, none⟩ v).heap[b]? = some (.cells ((pre ++ [v]) ++ (mid ++ post)).toArray t fr) := by
      rw [Joins.block_setCell h v]
      congr 2
      apply Array.ext'
      simp [hp.symm]
    have := setCells_in vs (o := o + 1) h1 (by simp [hp]) (by simpa using hm)
    rw [World.setCells, this]
    simp
theorem setCells_apart {b c : Nat} (hne : c ≠ b) : ∀ (vs : List Value) (o : Nat) (w : World), (w.setCells b o vs).heap[c]? = w.heap[c]?
  | [], _, _ => rfl
  | v :: vs, o, w => by
    rw [World.setCells, setCells_apart hne vs (o + 1) _, Below.heap_setCell _ _ _ _ hne]
theorem setCells_same (b : Nat) : ∀ (vs : List Value) (o : Nat) (w : World), (w.setCells b o vs).heap.size = w.heap.size ∧ (w.setCells b o vs).os = w.os ∧ (w.setCells b o vs).tape = w.tape ∧ (w.setCells b o vs).output = w.output
  | [], _, _ => ⟨rfl, rfl, rfl, rfl⟩
  | v :: vs, o, w => by
    obtain ⟨a, b', c, d⟩ := setCells_same b vs (o + 1) (w.setCell ⟨b, o, none⟩ v)
    rw [World.setCells]
    exact ⟨by rw [a]; simp [World.setCell], b', c, d⟩

section
variable {P : Program} {w : World}
theorem append_row {t tx ty e : TypeId} {i : TypeInfo} {z : Value} {size bytes : Nat} (ht : P.underlying t = some (.slice e)) (hi : P.info? e = some i) (hz : i.zero = some z)
    (hsize : i.size = size) (hby : i.bytes = bytes) (hzs : z.cells.size = size)
    {v : Value} {n : Nat} {xs : List Value} (hown : w.ownsRow 0 e size v n xs) {x : Value} {m : Nat} {news : List Value} (hs : Src P size tx x m news w)
    (h63 : n + m ≤ maxLen) (hbytes : (n + m) * bytes ≤ 140737488355328) :
    ∃ v' w', (Builtin.append_ #[t, tx] ty #[v, x]).run P w = .ok v' w' ∧ w'.ownsRow 0 e size v' (n + m) (xs ++ news) ∧ w.grownBy w' v.ownBlock ∧
      (v'.ownBlock = v.ownBlock ∨ v'.ownBlock = some w.heap.size) := by
  subst hsize
  subst hby
  have hsmall : n + m ≤ 9223372036854775807 := by simp only [maxLen] at h63; omega
  have hlen : (xs ++ news).length = (n + m) * i.size := by rw [List.length_append, hown.1, hs.newsLen, Nat.add_mul]
  have grown : ∀ (old : Nat), old < n + m → ∀ (row : Option Nat),
      (w.drew.alloc (.cells ((xs ++ news).toArray ++ Builtin.zeroCells z.cells (grownCap w (n + m) old e - (n + m))) e)).ownsRow 0 e i.size
        (.slice (some ⟨w.heap.size, 0, none⟩) (n + m) (grownCap w (n + m) old e)) (n + m) (xs ++ news) ∧
      w.grownBy (w.drew.alloc (.cells ((xs ++ news).toArray ++ Builtin.zeroCells z.cells (grownCap w (n + m) old e - (n + m))) e)) row := by
    intro old ho row
    have hge := grownCap_ge w (n + m) old e
    have hcm : grownCap w (n + m) old e ≤ maxLen := grownCap_le_maxLen w (n + m) old e h63
    refine ⟨⟨hlen, .inr ⟨w.heap.size, _, _, rfl, Nat.zero_le _, heap_alloc_new w.drew _, hge, hcm, ?_, ?_⟩⟩, ⟨rfl, rfl, rfl, by simp, fun k hk _ => Below.heap_alloc w.drew _ k hk⟩⟩
    · rw [Array.size_append, List.size_toArray, size_zeroCells, hzs, hlen, ← Nat.add_mul]
      congr 1
      omega
    · rw [Array.toList_append]
      exact List.take_left' hlen
  rcases hown.2 with ⟨rfl, rfl⟩ | ⟨g, cap, cur, rfl, _, hg, hnc, hcm, hcs, htake⟩
  · obtain rfl : xs = [] := List.eq_nil_of_length_eq_zero (by simpa using hown.1)
    by_cases hm : m = 0
    · subst hm
      obtain rfl : news = [] := List.eq_nil_of_length_eq_zero (by simpa using hs.newsLen)
      refine ⟨.slice none 0 0, w, ?_, World.ownsRow_nil w 0 e i.size, ⟨rfl, rfl, rfl, Nat.le_refl _, fun _ _ _ => rfl⟩, .inl rfl⟩
      have hc := hs.cells
      rcases hs.kind with ⟨e', hk⟩ | hk <;> simp [Builtin.append_, run_underlying ht, run_underlying hk, sizeOf, typeInfo, hi, hs.len, hc]
    · have hr := run_append_grow_src (P := P) w t tx ty e i z ht hi hz none 0 0 [] (run_firstCells_none w.drew i.size 0 0 0) x m news hs (by omega) (by omega) (growslice_fits (by omega) (by simpa using hbytes))
      have hgr := grown 0 (by omega) (Value.ownBlock (.slice none 0 0))
      simp only [Nat.zero_add, List.nil_append] at hgr hr ⊢
      exact ⟨_, _, hr, hgr.1, hgr.2, .inr rfl⟩
  · have hfrozen : ∀ j, w.frozen? ⟨g, j, none⟩ = false := fun j => Joins.unfrozen_of_block hg j
    by_cases hroom : n + m ≤ cap
    · have hfit : n * i.size + news.length ≤ cur.size := by rw [hs.newsLen, hcs, ← Nat.add_mul]; exact Nat.mul_le_mul_right _ hroom
      have hr := run_append_room_src (P := P) w t tx ty e i ht hi g 0 n cap x m news hs hroom
        (fun j hj => by
          rw [cell_of_row w g _ cur e (0, 0) hg]
          have : n * i.size + j < cur.size := by omega
          simp [this]) (fun j hj => hfrozen _)
      have hsplit : cur = (xs ++ ((cur.toList.drop (n * i.size)).take news.length ++ cur.toList.drop (n * i.size + news.length))).toArray := by
        apply Array.ext'
        show cur.toList = xs ++ ((cur.toList.drop (n * i.size)).take news.length ++ cur.toList.drop (n * i.size + news.length))
        rw [← List.drop_drop, List.take_append_drop, ← htake, List.take_append_drop]
      have hblk := setCells_in (w := w) (b := g) (t := e) (fr := (0, 0)) (o := 0 + n * i.size) (pre := xs) (mid := (cur.toList.drop (n * i.size)).take news.length) (post := cur.toList.drop (n * i.size + news.length)) news
        (by rw [← hsplit]; exact hg) (by rw [hown.1]; omega) (by have hL : cur.toList.length = cur.size := Array.length_toList; rw [List.length_take, List.length_drop]; omega)
      obtain ⟨s1, s2, s3, s4⟩ := setCells_same g news (0 + n * i.size) w
      refine ⟨_, _, hr, ⟨hlen, .inr ⟨g, cap, _, rfl, Nat.zero_le _, hblk, hroom, hcm, ?_, ?_⟩⟩, ⟨s2, s3, s4, by omega, fun k _ hk => setCells_apart (fun e => hk (by simp [Value.ownBlock, e])) news _ w⟩, .inl rfl⟩
      · have hL : cur.toList.length = cur.size := Array.length_toList
        have hx := hown.1
        rw [List.size_toArray, List.length_append, List.length_append, List.length_drop]
        omega
      · show ((xs ++ (news ++ cur.toList.drop (n * i.size + news.length)))).take ((n + m) * i.size) = xs ++ news
        rw [← List.append_assoc]
        exact List.take_left' hlen
    · have holds : ∀ j u, xs[j]? = some u → w.cell? ((⟨g, 0, none⟩ : Addr).add j) = some u := hown.cells (g := g) rfl
      have hr := run_append_grow_src (P := P) w t tx ty e i z ht hi hz (some ⟨g, 0, none⟩) n cap xs (run_firstCells_some w.drew i.size n ⟨g, 0, none⟩ n cap xs hown.1 (by simpa using holds)) x m news hs (by omega) (by omega) (growslice_fits (by omega) hbytes)
      have hgr := grown cap (by omega) (Value.ownBlock (.slice (some ⟨g, 0, none⟩) n cap))
      exact ⟨_, _, hr, hgr.1, hgr.2, .inr rfl⟩

/-- At the operation. -/
theorem wp_append_row {o : Oper} {a : Act} {K : Act → World → Prop} {Q : Exit → Act → World → Prop} (s x : Operand) {t tx e : TypeId}
    (ho : o.op = .call { callee := .builtin .append, args := #[s, x], argTypes := #[t, tx] })
    {i : TypeInfo} {z : Value} {size bytes : Nat} (ht : P.underlying t = some (.slice e)) (hi : P.info? e = some i) (hz : i.zero = some z)
    (hsize : i.size = size) (hby : i.bytes = bytes) (hzs : z.cells.size = size)
    {n : Nat} {xs : List Value} (hown : w.ownsRow 0 e size (a.eval s) n xs) {m : Nat} {news : List Value} (hs : Src P size tx (a.eval x) m news w)
    (h63 : n + m ≤ maxLen) (hbytes : (n + m) * bytes ≤ 140737488355328)
    (h : ∀ q c w', w'.ownsRow 0 e size (.slice q (n + m) c) (n + m) (xs ++ news) → w.grownBy w' (a.eval s).ownBlock → ((Value.slice q (n + m) c).ownBlock = (a.eval s).ownBlock ∨ (Value.slice q (n + m) c).ownBlock = some w.heap.size) → K (a.put o.dst (.slice q (n + m) c)) w') : o.wp P a w K Q := by
  obtain ⟨v', w', hr, h2, h3, h4⟩ := append_row (ty := o.type) ht hi hz hsize hby hzs hown hs h63 hbytes
  unfold Oper.wp execOp
  simp only [ho, resolve, invoke, builtin, Sem.run_bind, Sem.run_pure, Result.andThen_ok, List.map_toArray, List.map_cons, List.map_nil, hr]
  rcases h2.2 with ⟨rfl, h0⟩ | ⟨g, cap, cur, rfl, _⟩
  · have := h none 0 w'
    rw [h0] at this h2
    exact this h2 h3 h4
  · exact h _ cap w' h2 h3 h4
theorem wpList_append_row {ops : Array Oper} {rest : List Oper} {o : Oper} {a : Act} {Q : Exit → Act → World → Prop} (hgd : o.guard = none) (s x : Operand) {t tx e : TypeId}
    (ho : o.op = .call { callee := .builtin .append, args := #[s, x], argTypes := #[t, tx] })
    {i : TypeInfo} {z : Value} {size bytes : Nat} (ht : P.underlying t = some (.slice e)) (hi : P.info? e = some i) (hz : i.zero = some z)
    (hsize : i.size = size) (hby : i.bytes = bytes) (hzs : z.cells.size = size)
    {n : Nat} {xs : List Value} (hown : w.ownsRow 0 e size (a.eval s) n xs) {m : Nat} {news : List Value} (hs : Src P size tx (a.eval x) m news w)
    (h63 : n + m ≤ maxLen) (hbytes : (n + m) * bytes ≤ 140737488355328)
    (h : ∀ q c w', w'.ownsRow 0 e size (.slice q (n + m) c) (n + m) (xs ++ news) → w.grownBy w' (a.eval s).ownBlock → ((Value.slice q (n + m) c).ownBlock = (a.eval s).ownBlock ∨ (Value.slice q (n + m) c).ownBlock = some w.heap.size) → wpList P ops Q rest (a.put o.dst (.slice q (n + m) c)) w') : wpList P ops Q (o :: rest) a w :=
  wpList_plain hgd fun _ hK => wp_append_row s x ho ht hi hz hsize hby hzs hown hs h63 hbytes fun q c w' h2 h3 h4 => hK _ _ (h q c w' h2 h3 h4)
end
/-- A row of bytes of one's own reads as these. -/
theorem rd_of_row {w : World} {e : TypeId} {v : Value} {n : Nat} {xs : List Int} (h : w.ownsRow 0 e 1 v n (bc xs)) : Rd w v xs := by
  have hl : xs.length = n := by have := h.1; simpa using this
  subst hl
  rcases h.2 with ⟨rfl, h0⟩ | ⟨g, cap, cur, rfl, _, hg, _, _, _, htake⟩
  · obtain rfl : xs = [] := List.eq_nil_of_length_eq_zero h0
    exact Rd.nil w
  · refine ⟨_, cap, rfl, .inr ⟨g, 0, rfl, fun i hi => ?_⟩⟩
    have := h.cells (g := g) rfl i (.int .u8 (xs.getD i 0)) (by simp [bc, List.getD, hi])
    rw [addr_add] at this
    exact this
end Go.Proofs.YtjlodnecdngdfaaDoor
namespace Go.Proofs.YtjlodnecdngdfaaDoor
open Go.RowKit
set_option maxRecDepth 100000

theorem RwK.chg {k : IntKind} {w w' : World} {b n : Nat} {T : TypeId} {f : Nat → Int} {S : List Nat} (h : RwK k w b n T f) (hc : Chg w w' S) (hS : b ∉ S) : RwK k w' b n T f := by
  have l := h.lt
  obtain ⟨cs, h1, h2⟩ := h
  exact ⟨cs, by rw [hc.block b l hS]; exact h1, h2⟩
/-- The index function behind a copy. -/
def cpf (f : Nat → Int) (off : Nat) (xs : List Int) : Nat → Int := fun i => if off ≤ i ∧ i < off + xs.length then xs.getD (i - off) 0 else f i
theorem cpf_nil (f : Nat → Int) (off : Nat) : cpf f off [] = f := by
  funext i; unfold cpf; rw [if_neg (by simp only [List.length_nil]; omega)]
theorem cpf_in {f : Nat → Int} {off : Nat} {xs : List Int} {i : Nat} (h0 : off ≤ i) (h1 : i < off + xs.length) : cpf f off xs i = xs.getD (i - off) 0 := if_pos ⟨h0, h1⟩
theorem cpf_out {f : Nat → Int} {off : Nat} {xs : List Int} {i : Nat} (h : i < off ∨ off + xs.length ≤ i) : cpf f off xs i = f i := if_neg (by omega)
theorem list_ext_K {k : IntKind} {l : List Value} {n : Nat} {f : Nat → Int} (hl : l.length = n) (h : ∀ i, i < n → l[i]? = some (.int k (f i))) : l = (List.range n).map fun i => .int k (f i) := by
  apply List.ext_getElem?
  intro i
  by_cases hi : i < n
  · rw [h i hi]; simp [hi]
  · rw [List.getElem?_eq_none (by omega), List.getElem?_eq_none (by simp; omega)]

theorem wp_copy_rw {P : Program} {w : World} {o : Oper} {a : Act} {K : Act → World → Prop} {Q : Exit → Act → World → Prop} (d s : Operand) (dT sT : TypeId)
    (ho : o.op = .call { callee := .builtin .copy, args := #[d, s], argTypes := #[dT, sT] }) (elem : TypeId) (hu : P.underlying dT = some (.slice elem)) (hsz : (P.info? elem).map (·.size) = some 1)
    (dp sp : Option Addr) (dLen dCap sLen sCap : Nat) (hd : a.eval d = .slice dp dLen dCap) (hs : a.eval s = .slice sp sLen sCap)
    {k : IntKind} {g N : Nat} {T : TypeId} {f : Nat → Int} (hg : RwK k w g N T f) (off : Nat) (xs : List Int) (hn : xs.length = Nat.min sLen dLen)
    (hpos : 0 < xs.length → dp = some ⟨g, off, none⟩ ∧ ∃ ad, sp = some ad ∧ ∀ j, j < xs.length → w.cell? (ad.add j) = some (.int k (xs.getD j 0)))
    (hfit : off + xs.length ≤ N)
    (h : ∀ w', RwK k w' g N T (cpf f off xs) → Chg w w' [g] → K (a.put o.dst (goInt xs.length)) w') : o.wp P a w K Q := by
  by_cases h0 : xs.length = 0
  · obtain rfl : xs = [] := List.eq_nil_of_length_eq_zero h0
    have hrun := run_copy_none (P := P) w dT sT o.type elem dp sp dLen dCap sLen sCap hu hsz (by simpa using hn.symm)
    unfold Oper.wp
    simp [execOp, ho, resolve, invoke, builtin, hd, hs, hrun, Result.andThen]
    exact h w (by rw [cpf_nil]; exact hg) (Chg.refl _ _)
  · obtain ⟨rfl, ad, rfl, hsrc⟩ := hpos (by omega)
    obtain ⟨cs, h1, h2, h3⟩ := hg
    have hrun := run_copy_row (P := P) w dT sT o.type elem g off dLen dCap ad sLen sCap cs T (xs.map (Value.int k)) hu hsz h1 (by simpa using hn) (by
      intro j v hv
      simp only [List.getElem?_map, Option.map_eq_some_iff] at hv
      obtain ⟨x, hx, rfl⟩ := hv
      have hj : j < xs.length := (List.getElem?_eq_some_iff.1 hx).1
      rw [hsrc j hj, getD_of hx]) (by simpa [h2] using hfit) (by intro v hv; simp at hv; obtain ⟨x, _, rfl⟩ := hv; rfl)
    have e : (goInt (xs.map (Value.int k)).length) = goInt xs.length := by simp
    rw [e] at hrun
    unfold Oper.wp
    simp [execOp, ho, resolve, invoke, builtin, hd, hs, hrun, Result.andThen]
    refine h _ ⟨_, setRow_heap w g _ _ T _ h1, ?_, ?_⟩ ⟨rfl, rfl, rfl, by simp, fun j hj hn => ?_⟩
    · have : cs.toList.length = N := by simpa using h2
      simp; omega
    · intro i hi
      have hc : cs.toList.length = N := by simpa using h2
      have h3' : cs.toList[i]? = some (.int k (f i)) := by simpa using h3 i hi
      rw [List.getElem?_toArray]
      by_cases hlo : i < off
      · rw [List.getElem?_append_left (by simp; omega), List.getElem?_take, if_pos hlo, h3', cpf_out (Or.inl hlo)]
      · rw [List.getElem?_append_right (by simp; omega)]
        have e1 : (cs.toList.take off).length = off := by simp; omega
        rw [e1]
        by_cases hin : i < off + xs.length
        · rw [List.getElem?_append_left (by simp; omega), cpf_in (by omega) hin]
          simp only [List.getElem?_map]
          have : i - off < xs.length := by omega
          simp [List.getD, this]
        · rw [List.getElem?_append_right (by simp; omega), List.getElem?_drop, cpf_out (Or.inr (by omega)), ← h3']
          congr 1
          simp; omega
    · have hne : g ≠ j := fun e => hn (by simp [e])
      show (w.heap.modify g _)[j]? = _
      rw [Array.getElem?_modify, if_neg hne]
theorem wpList_copy_rw {P : Program} {w : World} {ops : Array Oper} {rest : List Oper} {o : Oper} {a : Act} {Q : Exit → Act → World → Prop} (hgd : o.guard = none) (d s : Operand) (dT sT : TypeId)
    (ho : o.op = .call { callee := .builtin .copy, args := #[d, s], argTypes := #[dT, sT] }) (elem : TypeId) (hu : P.underlying dT = some (.slice elem)) (hsz : (P.info? elem).map (·.size) = some 1)
    (dp sp : Option Addr) (dLen dCap sLen sCap : Nat) (hd : a.eval d = .slice dp dLen dCap) (hs : a.eval s = .slice sp sLen sCap)
    {k : IntKind} {g N : Nat} {T : TypeId} {f : Nat → Int} (hg : RwK k w g N T f) (off : Nat) (xs : List Int) (hn : xs.length = Nat.min sLen dLen)
    (hpos : 0 < xs.length → dp = some ⟨g, off, none⟩ ∧ ∃ ad, sp = some ad ∧ ∀ j, j < xs.length → w.cell? (ad.add j) = some (.int k (xs.getD j 0)))
    (hfit : off + xs.length ≤ N)
    (h : ∀ w', RwK k w' g N T (cpf f off xs) → Chg w w' [g] → wpList P ops Q rest (a.put o.dst (goInt xs.length)) w') :
    wpList P ops Q (o :: rest) a w :=
  wpList_plain hgd fun _ hK => wp_copy_rw d s dT sT ho elem hu hsz dp sp dLen dCap sLen sCap hd hs hg off xs hn hpos hfit fun w' h1 h2 => hK _ _ (h w' h1 h2)

/-- A word's four bytes, the highest first. -/
def put4 (f : Nat → Int) (off : Nat) (n : Int) : Nat → Int := updK (updK (updK (updK f off (n / 16777216 % 256)) (off + 1) (n / 65536 % 256)) (off + 2) (n / 256 % 256)) (off + 3) (n % 256)
def put8 (f : Nat → Int) (off : Nat) (n : Int) : Nat → Int := put4 (put4 f off (n / 4294967296 % 4294967296)) (off + 4) (n % 4294967296)
theorem put4_out {f : Nat → Int} {off : Nat} (n : Int) {i : Nat} (h : i < off ∨ off + 4 ≤ i) : put4 f off n i = f i := by
  unfold put4
  rw [updK_ne _ _ (by omega), updK_ne _ _ (by omega), updK_ne _ _ (by omega), updK_ne _ _ (by omega)]
theorem put4_0 (f : Nat → Int) (off : Nat) (n : Int) : put4 f off n off = n / 16777216 % 256 := by
  unfold put4
  rw [updK_ne _ _ (by omega), updK_ne _ _ (by omega), updK_ne _ _ (by omega), updK_same]
theorem put4_1 (f : Nat → Int) (off : Nat) (n : Int) : put4 f off n (off + 1) = n / 65536 % 256 := by
  unfold put4
  rw [updK_ne _ _ (by omega), updK_ne _ _ (by omega), updK_same]
theorem put4_2 (f : Nat → Int) (off : Nat) (n : Int) : put4 f off n (off + 2) = n / 256 % 256 := by
  unfold put4
  rw [updK_ne _ _ (by omega), updK_same]
theorem put4_3 (f : Nat → Int) (off : Nat) (n : Int) : put4 f off n (off + 3) = n % 256 := by
  unfold put4
  rw [updK_same]
theorem put8_out {f : Nat → Int} {off : Nat} (n : Int) {i : Nat} (h : i < off ∨ off + 8 ≤ i) : put8 f off n i = f i := by
  unfold put8
  rw [put4_out _ (by omega), put4_out _ (by omega)]
theorem put8_in (f : Nat → Int) (off : Nat) (n : Int) {k : Nat} (h : k < 8) : put8 f off n (off + k) = (be8 n).getD k 0 := by
  unfold put8
  have e : k = 0 ∨ k = 1 ∨ k = 2 ∨ k = 3 ∨ k = 4 ∨ k = 5 ∨ k = 6 ∨ k = 7 := by omega
  rcases e with rfl | rfl | rfl | rfl | rfl | rfl | rfl | rfl
  · rw [put4_out _ (by omega), Nat.add_zero, put4_0]; simp [be8] <;> omega
  · rw [put4_out _ (by omega), put4_1]; simp [be8] <;> omega
  · rw [put4_out _ (by omega), put4_2]; simp [be8] <;> omega
  · rw [put4_out _ (by omega), put4_3]; simp [be8] <;> omega
  · rw [put4_0]; simp [be8] <;> omega
  · rw [show off + 5 = off + 4 + 1 by omega, put4_1]; simp [be8] <;> omega
  · rw [show off + 6 = off + 4 + 2 by omega, put4_2]; simp [be8] <;> omega
  · rw [show off + 7 = off + 4 + 3 by omega, put4_3]; simp [be8] <;> omega

set_option maxHeartbeats 1000000 in
theorem put32_any {w : World} {b N : Nat} {T : TypeId} {f : Nat → Int} (h : RwK .u8 w b N T f) {off len cap : Nat} (hl : 4 ≤ len) (ho : off + 4 ≤ N) (n : Int) :
    Calls Tryd.prog 100 #[.slice (some ⟨b, off, none⟩) len cap, .int .u32 n] w fun e w' => e = .returned (.tuple #[]) ∧ RwK .u8 w' b N T (put4 f off n) ∧ Chg w w' [b] := by
  have c0 := h.cell off (by omega)
  have c1 := h.cell (off + 1) (by omega)
  have c2 := h.cell (off + 2) (by omega)
  have c3 := h.cell (off + 3) (by omega)
  have f0 := h.free off
  have f1 := h.free (off + 1)
  have f2 := h.free (off + 2)
  have f3 := h.free (off + 3)
  have H := Lib.hid (And.intro ((((h.store (j := off) (by omega) (n / 16777216 % 256)).store (j := off + 1) (by omega) (n / 65536 % 256)).store (j := off + 2) (by omega) (n / 256 % 256)).store (j := off + 3) (by omega) (n % 256))
    ((((((Chg.refl w [b]).setCell (p := ⟨b, off, none⟩) (.inl (by simp)) (.int .u8 (n / 16777216 % 256))).setCell (p := ⟨b, off + 1, none⟩) (.inl (by simp)) (.int .u8 (n / 65536 % 256))).setCell (p := ⟨b, off + 2, none⟩) (.inl (by simp)) (.int .u8 (n / 256 % 256))).setCell (p := ⟨b, off + 3, none⟩) (.inl (by simp)) (.int .u8 (n % 256)))))
  clear h
  go_enter Tryd.func100, Tryd.ntmps100
  go_wp2_with fail
  go_end0
  exact ⟨rfl, H.out⟩

set_option maxHeartbeats 1000000 in
theorem put64_any {w : World} {b N : Nat} {T : TypeId} {f : Nat → Int} (h : RwK .u8 w b N T f) {off len cap : Nat} (hl : 8 ≤ len) (hcap : len ≤ cap) (ho : off + 8 ≤ N) (n : Int) :
    Calls Tryd.prog 101 #[.slice (some ⟨b, off, none⟩) len cap, .int .u64 n] w fun e w' => e = .returned (.tuple #[]) ∧ RwK .u8 w' b N T (put8 f off n) ∧ Chg w w' [b] := by
  have H := Lib.hid h
  clear h
  go_enter Tryd.func101, Tryd.ntmps101
  go_wp2_with fail
  refine (put32_any H.out (by omega) (by omega) _).mono ?_
  rintro e w1 ⟨rfl, h1, k1⟩
  have H1 := Lib.hid h1
  have K1 := Lib.hid k1
  clear h1 k1
  go_wp2_with fail
  refine (put32_any H1.out (by omega) (by omega) _).mono ?_
  rintro e w2 ⟨rfl, h2, k2⟩
  have H2 := Lib.hid h2
  have K2 := Lib.hid (K1.out.trans k2 (fun _ h _ => h))
  clear h2 k2
  go_wp2_with fail
  go_end0
  exact ⟨rfl, H2.out, K2.out⟩
end Go.Proofs.YtjlodnecdngdfaaDoor
namespace Go.Proofs.YtjlodnecdngdfaaDoor
set_option maxRecDepth 100000
open Go.RowKit

/-! ### Lists of slices -/
/-- The slice v holds slices that read as these, none of them in a block of S. -/
def RdL (w : World) (v : Value) (L : List (List Int)) (S : List Nat) : Prop := ∃ q c, v = .slice q L.length c ∧ (L = [] ∨ ∃ b off, q = some ⟨b, off, none⟩ ∧ b ∉ S ∧
  ∀ i, i < L.length → ∃ u, w.cell? ⟨b, off + i, none⟩ = some u ∧ Rd w u (L.getD i []) ∧ (L.getD i [] ≠ [] → ∀ k, u.ownBlock = some k → k ∉ S))
theorem RdL.chg {w w' : World} {v : Value} {L : List (List Int)} {S : List Nat} (h : RdL w v L S) (hc : Chg w w' S) : RdL w' v L S := by
  obtain ⟨q, c, rfl, hq | ⟨b, off, rfl, hb, hx⟩⟩ := h
  · exact ⟨q, c, rfl, .inl hq⟩
  · refine ⟨_, c, rfl, .inr ⟨b, off, rfl, hb, fun i hi => ?_⟩⟩
    obtain ⟨u, h1, h2, h3⟩ := hx i hi
    have hl := lt_of_cell h1
    exact ⟨u, by rw [World.cell?_of_block (w := w) (hc.block b hl hb)]; exact h1, h2.chg hc (fun hn k hk _ => h3 hn k hk), h3⟩
theorem RdL.at {w : World} {q : Option Addr} {n c : Nat} {L : List (List Int)} {S : List Nat} (h : RdL w (.slice q n c) L S) {i : Nat} (hi : i < L.length) :
    ∃ b off r m k, n = L.length ∧ q = some ⟨b, off, none⟩ ∧ b ∉ S ∧ w.cell? ⟨b, off + i, none⟩ = some (.slice r m k) ∧ m = (L.getD i []).length ∧ Rd w (.slice r m k) (L.getD i []) ∧ (L.getD i [] ≠ [] → ∀ x, (Value.slice r m k).ownBlock = some x → x ∉ S) := by
  obtain ⟨q', c', e, rfl | ⟨b, off, rfl, hb, hx⟩⟩ := h
  · simp at hi
  · obtain ⟨u, h1, h2, h3⟩ := hx i hi
    obtain ⟨r, k, rfl⟩ := h2.len
    simp only [Value.slice.injEq] at e
    exact ⟨b, off, r, _, k, e.2.1, e.1, hb, h1, rfl, h2, h3⟩

/-- The bytes of blobs. -/
def blobs (L : List (List Int)) : List Int := L.flatMap fun b => be8 b.length ++ b
theorem blobs_take {L : List (List Int)} {i : Nat} (hi : i < L.length) : blobs (L.take (i + 1)) = blobs (L.take i) ++ be8 (L.getD i []).length ++ L.getD i [] := by
  have e : L.take (i + 1) = L.take i ++ [L.getD i []] := by
    rw [List.take_add_one]
    simp [List.getD, hi]
  rw [e, blobs, List.flatMap_append]
  simp [blobs]
theorem blobs_le (L : List (List Int)) (i : Nat) : (blobs (L.take i)).length ≤ (blobs L).length := by
  have e : blobs L = blobs (L.take i) ++ blobs (L.drop i) := by
    conv => lhs; rw [← List.take_append_drop i L]
    rw [blobs, List.flatMap_append]; rfl
  rw [e]; simp
theorem blobs_len {L : List (List Int)} {i : Nat} (hi : i < L.length) : (blobs (L.take (i + 1))).length = (blobs (L.take i)).length + 8 + (L.getD i []).length := by
  rw [blobs_take hi]; simp; omega
theorem blobs_many : ∀ L : List (List Int), L.length ≤ (blobs L).length
  | [] => by simp
  | b :: L => by have := blobs_many L; simp [blobs] at this ⊢; omega

/-- A string's bytes, as numbers. -/
def sn (s : ByteArray) : List Int := s.data.toList.map fun c => (c.toNat : Int)
theorem sn_len (s : ByteArray) : (sn s).length = s.size := by
  simp only [sn, List.length_map, Array.length_toList]
  rfl
theorem sn_bytes (s : ByteArray) : Bytes (sn s) := by
  intro x hx
  obtain ⟨c, _, rfl⟩ := List.mem_map.1 hx
  have := c.toNat_lt
  omega
theorem wpList_copy_str {P : Program} {w : World} {ops : Array Oper} {rest : List Oper} {o : Oper} {a : Act} {Q : Exit → Act → World → Prop} (hgd : o.guard = none) (d s : Operand) (dT sT : TypeId)
    (ho : o.op = .call { callee := .builtin .copy, args := #[d, s], argTypes := #[dT, sT] }) (elem : TypeId) (hu : P.underlying dT = some (.slice elem)) (hsz : (P.info? elem).map (·.size) = some 1)
    (dp : Option Addr) (dLen dCap : Nat) (t : ByteArray) (hd : a.eval d = .slice dp dLen dCap) (hs : a.eval s = .string t)
    {g N : Nat} {T : TypeId} {f : Nat → Int} (hg : RwK .u8 w g N T f) (off : Nat) (hle : t.size ≤ dLen) (hpos : 0 < t.size → dp = some ⟨g, off, none⟩) (hfit : off + t.size ≤ N)
    (h : ∀ w', RwK .u8 w' g N T (cpf f off (sn t)) → Chg w w' [g] → wpList P ops Q rest (a.put o.dst (goInt t.size)) w') :
    wpList P ops Q (o :: rest) a w := by
  have hl := sn_len t
  by_cases h0 : t.size = 0
  · have e : sn t = [] := List.eq_nil_of_length_eq_zero (by omega)
    refine wpList_plain hgd fun K hK => ?_
    have hrun := Lib.run_copy_empty_string (P := P) w dT sT o.type elem dp dLen dCap t hu (by rw [hsz]; rfl) h0
    unfold Oper.wp
    simp [execOp, ho, resolve, invoke, builtin, hd, hs, hrun, Result.andThen]
    refine hK _ _ ?_
    have := h w (by rw [e, cpf_nil]; exact hg) (Chg.refl _ _)
    rw [h0] at this
    exact this
  · obtain rfl := hpos (by omega)
    obtain ⟨cs, h1, h2, h3⟩ := hg
    refine wpList_plain hgd fun K hK => ?_
    have hrun := Lib.run_copy_row_string (P := P) w dT sT o.type elem g off dLen dCap t cs T hu hsz h1 hle (by omega)
    unfold Oper.wp
    simp [execOp, ho, resolve, invoke, builtin, hd, hs, hrun, Result.andThen]
    refine hK _ _ ?_
    have eb : Lib.byteCells t.data.toList = (sn t).map (Value.int .u8) := by simp [Lib.byteCells, sn]
    rw [eb]
    refine h _ ⟨_, setRow_heap w g _ _ T _ h1, ?_, ?_⟩ ⟨rfl, rfl, rfl, by simp, fun j hj hn => ?_⟩
    · have : cs.toList.length = N := by simpa using h2
      simp; omega
    · intro i hi
      have hc : cs.toList.length = N := by simpa using h2
      have h3' : cs.toList[i]? = some (.int .u8 (f i)) := by simpa using h3 i hi
      rw [List.getElem?_toArray]
      by_cases hlo : i < off
      · rw [List.getElem?_append_left (by simp; omega), List.getElem?_take, if_pos hlo, h3', cpf_out (Or.inl hlo)]
      · rw [List.getElem?_append_right (by simp; omega)]
        have e1 : (cs.toList.take off).length = off := by simp; omega
        rw [e1]
        by_cases hin : i < off + (sn t).length
        · rw [List.getElem?_append_left (by simp; omega), cpf_in (by omega) hin]
          simp only [List.getElem?_map]
          have : i - off < (sn t).length := by omega
          simp [List.getD, this]
        · rw [List.getElem?_append_right (by simp; omega), List.getElem?_drop, cpf_out (Or.inr (by omega)), ← h3']
          congr 1
          simp; omega
    · have hne : g ≠ j := fun e => hn (by simp [e])
      show (w.heap.modify g _)[j]? = _
      rw [Array.getElem?_modify, if_neg hne]

/-- A row out of make. -/
theorem rw_of_made {w : World} {e : TypeId} {g n : Nat} {k : IntKind} (h : w.ownsRow 0 e 1 (.slice (some ⟨g, 0, none⟩) n n) n (madeCells #[.int k 0] n).toList) : RwK k w g n e (fun _ => 0) := by
  rcases h.2 with ⟨h0, _⟩ | ⟨g', cap, cur, h1, _, hg, hnc, hcm, hcs, htake⟩
  · simp at h0
  · simp only [Value.slice.injEq, Option.some.injEq, Addr.mk.injEq, true_and, and_true] at h1
    obtain ⟨rfl, rfl⟩ := h1
    refine ⟨cur, hg, by simpa using hcs, fun i hi => ?_⟩
    have hl : cur.toList.length = n := by simpa using hcs
    have := congrArg (·[i]?) htake
    simp only [Nat.mul_one] at this
    rw [List.take_of_length_le (by omega)] at this
    rw [← Array.getElem?_toList, this]
    simp [madeCells, hi, Nat.mod_one]
end Go.Proofs.YtjlodnecdngdfaaDoor
namespace Go.Proofs.YtjlodnecdngdfaaDoor
open Go.RowKit
set_option maxRecDepth 100000

/-- How far to the left. -/
def rsh (k : Int) : Nat := (bits .and .u64 (IntKind.u64.wrap k) 31).toNat
theorem rsh_lt (k : Int) : ∃ s : Nat, bits .and .u64 (IntKind.u64.wrap k) 31 = (s : Int) ∧ s ≤ 31 := by
  refine ⟨(BitVec.ofInt 64 (IntKind.u64.wrap k) &&& BitVec.ofInt 64 31).toNat, ?_, ?_⟩
  · show IntKind.u64.wrap _ = _
    have h : (BitVec.ofInt 64 (IntKind.u64.wrap k) &&& BitVec.ofInt 64 31).toNat < 2 ^ 64 := BitVec.isLt _
    rw [IntKind.wrap_u64]
    show ((((BitVec.ofInt 64 (IntKind.u64.wrap k) &&& BitVec.ofInt 64 31).toNat : Nat) : Int)) % _ = _
    omega
  · rw [BitVec.toNat_and]
    have : (BitVec.ofInt 64 31).toNat = 31 := by decide
    rw [this]
    have := Nat.and_lt_two_pow (n := 5) (BitVec.ofInt 64 (IntKind.u64.wrap k)).toNat (y := 31) (by decide)
    omega
/-- Turned to the left, as the library does it. -/
def rk (k x : Int) : Int := bits .or .u32 (x * 2 ^ rsh k % 4294967296) (x / 2 ^ (32 - rsh k))

theorem rot_any (x k : Int) (w : World) : Calls Tryd.prog 102 #[.int .u32 x, .int .i64 k] w fun e w' => e = .returned (.int .u32 (rk k x)) ∧ w' = w := by
  obtain ⟨s, hs, h1⟩ := rsh_lt k
  have HR : Hid (rk k x = bits .or .u32 (x * 2 ^ s % 4294967296) (x / 2 ^ (32 - s))) := by
    unfold rk rsh
    rw [hs]
    rfl
  have e1 : min s 32 = s := by omega
  have e2 : min ((32 : Int) - (s : Int)).toNat 32 = 32 - s := by omega
  have h0 : (0 : Int) ≤ 32 - (s : Int) := by omega
  go_enter Tryd.func102, Tryd.ntmps102
  go_wp2_with fail
  rw [← HR.out]
  go_ret
  exact ⟨rfl, rfl⟩
end Go.Proofs.YtjlodnecdngdfaaDoor
namespace Go.Proofs.YtjlodnecdngdfaaDoor
open Go.RowKit

/-- A word out of four bytes. -/
def wd (B : Nat → Int) (i : Nat) : Int := bits .or .u32 (bits .or .u32 (bits .or .u32 (B (4 * i) * 16777216) (B (4 * i + 1) * 65536)) (B (4 * i + 2) * 256)) (B (4 * i + 3))
def sg0 (x : Int) : Int := bits .xor .u32 (bits .xor .u32 (rk (-7) x) (rk (-18) x)) (x / 8)
def sg1 (x : Int) : Int := bits .xor .u32 (bits .xor .u32 (rk (-17) x) (rk (-19) x)) (x / 1024)
def p32 (x y : Int) : Int := (x + y) % 4294967296
def nxt (f : Nat → Int) (i : Nat) : Int := (f (i - 16) + sg0 (f (i - 15)) + f (i - 7) + sg1 (f (i - 2))) % 4294967296
/-- The words of a block. -/
def wrow (B : Nat → Int) : Nat → List Int
  | 0 => []
  | n + 1 => wrow B n ++ [if n < 16 then wd B n else nxt (fun j => (wrow B n).getD j 0) n]
def W (B : Nat → Int) (j : Nat) : Int := (wrow B (j + 1)).getD j 0
theorem wrow_len (B : Nat → Int) : ∀ n, (wrow B n).length = n
  | 0 => rfl
  | n + 1 => by simp [wrow, wrow_len B n]
theorem wrow_get (B : Nat → Int) (j : Nat) : ∀ n, j < n → (wrow B n).getD j 0 = W B j
  | 0, h => by omega
  | n + 1, h => by
    by_cases e : j = n
    · subst e; rfl
    · have l := wrow_len B n
      have hj : j < (wrow B n).length := by omega
      rw [← wrow_get B j n (by omega), wrow]
      simp only [List.getD_eq_getElem?_getD]
      rw [List.getElem?_append_left hj]
theorem W_low (B : Nat → Int) {n : Nat} (h : n < 16) : W B n = wd B n := by
  unfold W
  rw [wrow, if_pos h]
  have l := wrow_len B n
  simp [List.getD_eq_getElem?_getD, l]
theorem nxt_cong {f g : Nat → Int} {n : Nat} (h0 : 16 ≤ n) (h : ∀ j, j < n → f j = g j) : nxt f n = nxt g n := by
  unfold nxt
  rw [h (n - 16) (by omega), h (n - 15) (by omega), h (n - 7) (by omega), h (n - 2) (by omega)]
theorem W_high (B : Nat → Int) {n : Nat} (h : 16 ≤ n) : W B n = nxt (W B) n := by
  have l := wrow_len B n
  have e : W B n = nxt (fun j => (wrow B n).getD j 0) n := by
    unfold W
    rw [wrow, if_neg (by omega)]
    simp [List.getD_eq_getElem?_getD, l]
  rw [e]
  exact nxt_cong h (fun j hj => wrow_get B j n hj)

/-- The table of the rounds. -/
def rootsZ : List Int := [1116352408, 1899447441, 3049323471, 3921009573, 961987163, 1508970993, 2453635748, 2870763221, 3624381080, 310598401, 607225278, 1426881987, 1925078388, 2162078206, 2614888103, 3248222580, 3835390401, 4022224774, 264347078, 604807628, 770255983, 1249150122, 1555081692, 1996064986, 2554220882, 2821834349, 2952996808, 3210313671, 3336571891, 3584528711, 113926993, 338241895, 666307205, 773529912, 1294757372, 1396182291, 1695183700, 1986661051, 2177026350, 2456956037, 2730485921, 2820302411, 3259730800, 3345764771, 3516065817, 3600352804, 4094571909, 275423344, 430227734, 506948616, 659060556, 883997877, 958139571, 1322822218, 1537002063, 1747873779, 1955562222, 2024104815, 2227730452, 2361852424, 2428436474, 2756734187, 3204031479, 3329325298]
def rt (i : Nat) : Int := rootsZ.getD i 0

/-- The state: eight words. -/
structure St8 where
  a : Int
  b : Int
  c : Int
  d : Int
  e : Int
  f : Int
  g : Int
  h : Int
def fa (x : Int) : Int := bits .xor .u32 (bits .xor .u32 (rk (-2) x) (rk (-13) x)) (rk (-22) x)
def fe (x : Int) : Int := bits .xor .u32 (bits .xor .u32 (rk (-6) x) (rk (-11) x)) (rk (-25) x)
def notI (x : Int) : Int := bits .xor .u32 (if IntKind.u32.signed = true then -1 else IntKind.u32.max) x
def fch (e f g : Int) : Int := bits .xor .u32 (bits .and .u32 e f) (bits .and .u32 (notI e) g)
def fmj (a b c : Int) : Int := bits .xor .u32 (bits .xor .u32 (bits .and .u32 a b) (bits .and .u32 a c)) (bits .and .u32 b c)
def St8.u1 (s : St8) (k w : Int) : Int := s.h + fe s.e + fch s.e s.f s.g + k + w
def St8.u2 (s : St8) : Int := fa s.a + fmj s.a s.b s.c
def St8.rnd (s : St8) (k w : Int) : St8 := ⟨(s.u1 k w % 4294967296 + s.u2 % 4294967296) % 4294967296, s.a, s.b, s.c, (s.d + s.u1 k w % 4294967296) % 4294967296, s.e, s.f, s.g⟩
def St8.rounds (s : St8) (B : Nat → Int) : Nat → St8
  | 0 => s
  | i + 1 => (s.rounds B i).rnd (rt i) (W B i)
def St8.add (s t : St8) : St8 := ⟨p32 s.a t.a, p32 s.b t.b, p32 s.c t.c, p32 s.d t.d, p32 s.e t.e, p32 s.f t.f, p32 s.g t.g, p32 s.h t.h⟩
def St8.mix (s : St8) (B : Nat → Int) : St8 := s.add (s.rounds B 64)
def St8.lst (s : St8) : List Int := [s.a, s.b, s.c, s.d, s.e, s.f, s.g, s.h]
def St8.agg (s : St8) : Value := .agg #[.int .u32 s.a, .int .u32 s.b, .int .u32 s.c, .int .u32 s.d, .int .u32 s.e, .int .u32 s.f, .int .u32 s.g, .int .u32 s.h]
end Go.Proofs.YtjlodnecdngdfaaDoor
namespace Go.Proofs.YtjlodnecdngdfaaDoor
open Go.RowKit

/-- How many blocks. -/
def nbk (L : Nat) : Nat := L / 64 + (if 64 < L % 64 + 9 then 2 else 1)
/-- The padded string. -/
def padF (xs : List Int) (j : Nat) : Int :=
  if j < xs.length then xs.getD j 0 else if j = xs.length then 128 else if j + 8 < 64 * nbk xs.length then 0 else (be8 (8 * (xs.length : Int))).getD (j + 8 - 64 * nbk xs.length) 0
def blkF (xs : List Int) (i j : Nat) : Int := padF xs (64 * i + j)
def iv : St8 := ⟨1779033703, 3144134277, 1013904242, 2773480762, 1359893119, 2600822924, 528734635, 1541459225⟩
def shaSt (xs : List Int) : Nat → St8
  | 0 => iv
  | i + 1 => (shaSt xs i).mix (blkF xs i)
def be4 (n : Int) : List Int := [n / 16777216 % 256, n / 65536 % 256, n / 256 % 256, n % 256]
def St8.out (s : St8) : List Int := be4 s.a ++ be4 s.b ++ be4 s.c ++ be4 s.d ++ be4 s.e ++ be4 s.f ++ be4 s.g ++ be4 s.h
/-- The digest. -/
def sha (xs : List Int) : List Int := (shaSt xs (nbk xs.length)).out
theorem sha_len (xs : List Int) : (sha xs).length = 32 := rfl
theorem be4_bytes (n : Int) : Bytes (be4 n) := by
  intro x hx
  simp only [be4, List.mem_cons, List.not_mem_nil, or_false] at hx
  omega
theorem Bytes.append {xs ys : List Int} (h : Bytes xs) (k : Bytes ys) : Bytes (xs ++ ys) := by
  intro x hx
  rcases List.mem_append.1 hx with a | a
  · exact h x a
  · exact k x a
theorem sha_bytes (xs : List Int) : Bytes (sha xs) :=
  (((((((be4_bytes _).append (be4_bytes _)).append (be4_bytes _)).append (be4_bytes _)).append (be4_bytes _)).append (be4_bytes _)).append (be4_bytes _)).append (be4_bytes _)
theorem Bytes.getD {xs : List Int} (h : Bytes xs) (j : Nat) : 0 ≤ xs.getD j 0 ∧ xs.getD j 0 < 256 := by
  by_cases hj : j < xs.length
  · have : xs.getD j 0 = xs[j] := by simp [List.getD, hj]
    rw [this]; exact h _ (List.getElem_mem hj)
  · have : xs.getD j 0 = 0 := by simp [List.getD, hj]
    rw [this]; omega
theorem padF_bytes {xs : List Int} (h : Bytes xs) (j : Nat) : 0 ≤ padF xs j ∧ padF xs j < 256 := by
  unfold padF
  split
  · exact h.getD j
  · split
    · omega
    · split
      · omega
      · exact (be8_bytes _).getD _
theorem padF_low {xs : List Int} {j : Nat} (h : j < xs.length) : padF xs j = xs.getD j 0 := if_pos h

/-- The last one or two blocks, as the program lays them. -/
def endF (rs : List Int) (L n : Nat) : Nat → Int := put8 (updK (cpf (fun _ => 0) 0 rs) rs.length 128) (n - 8) (8 * (L : Int))
theorem put8_mod (f : Nat → Int) (off : Nat) (n : Int) : put8 f off (n % 18446744073709551616) = put8 f off n := by
  unfold put8
  rw [show n % 18446744073709551616 / 4294967296 % 4294967296 = n / 4294967296 % 4294967296 by omega, show n % 18446744073709551616 % 4294967296 = n % 4294967296 by omega]
theorem endF_pad {xs rs : List Int} {q n : Nat} (hq : q = xs.length / 64) (hr : rs = xs.drop (64 * q)) (hn : n = 64 * (if 64 < xs.length % 64 + 9 then 2 else 1)) {j : Nat} (hj : j < n) :
    endF rs xs.length n j = padF xs (64 * q + j) := by
  have hl : rs.length = xs.length - 64 * q := by rw [hr]; simp
  have hP : 64 * nbk xs.length = 64 * q + n := by unfold nbk; rw [hn, hq]; omega
  have h64 : n = 64 ∨ n = 128 := by rw [hn]; split <;> omega
  have hfit : rs.length + 9 ≤ n := by rw [hn]; split <;> omega
  have hxl : xs.length = 64 * q + rs.length := by omega
  unfold endF padF
  rw [hP]
  by_cases h8 : n - 8 ≤ j
  · obtain ⟨k, rfl⟩ : ∃ k, j = n - 8 + k := ⟨j - (n - 8), by omega⟩
    rw [put8_in _ _ _ (by omega), if_neg (by omega), if_neg (by omega), if_neg (by omega)]
    congr 1
    omega
  · rw [put8_out _ (by omega)]
    by_cases e : j = rs.length
    · subst e
      rw [updK_same, if_neg (by omega), if_pos (by omega)]
    · rw [updK_ne _ _ e]
      by_cases hlt : j < rs.length
      · rw [cpf_in (by omega) (by omega), if_pos (by omega), hr]
        simp [List.getD]
      · rw [cpf_out (by omega), if_neg (by omega), if_neg (by omega), if_pos (by omega)]
end Go.Proofs.YtjlodnecdngdfaaDoor
namespace Go.Proofs.YtjlodnecdngdfaaDoor
open Go.RowKit
set_option maxRecDepth 100000

theorem Tryd.size_u8 : (Tryd.prog.info? 5).map (·.size) = some 1 := by kernel_rfl

set_option maxHeartbeats 2000000 in
theorem end_any {w : World} {b : Nat} (h : RwK .u8 w b 128 143 (fun _ => 0)) {v : Value} {rs : List Int} (hr : Rd w v rs) (h64 : rs.length < 64) (L : Nat) :
    Calls Tryd.prog 99 #[.pointer (some ⟨b, 0, none⟩), v, .int .i64 L] w fun e w' => e = .returned (.int .i64 (64 * (if 64 < rs.length + 9 then 2 else 1 : Nat) : Nat)) ∧ RwK .u8 w' b 128 143 (endF rs L (64 * (if 64 < rs.length + 9 then 2 else 1))) ∧ Chg w w' [b] := by
  obtain ⟨q, c, rfl, hx⟩ := hr
  have HN := Lib.hid (show rs.length = Nat.min rs.length 128 from (Nat.min_eq_left (by omega)).symm)
  have HP : Hid (0 < rs.length → (some ⟨b, 0, none⟩ : Option Addr) = some ⟨b, 0, none⟩ ∧ ∃ ad, q = some ad ∧ ∀ j, j < rs.length → w.cell? (ad.add j) = some (.int .u8 (rs.getD j 0))) := by
    intro h0
    rcases hx with rfl | ⟨b', off, rfl, hc⟩
    · simp at h0
    · exact ⟨rfl, _, rfl, fun j hj => by rw [addr_add]; exact hc j hj⟩
  have H := Lib.hid h
  clear h hx
  by_cases hlt : 64 < rs.length + 9
  all_goals
    simp only [hlt, if_true, if_false]
    go_enter Tryd.func99, Tryd.ntmps99
    go_wp2_with (with_reducible refine wpList_copy_rw rfl _ _ _ _ rfl 5 Tryd.underlying82 Tryd.size_u8 _ _ _ _ _ _ rfl rfl H.out 0 rs HN.out HP.out (by omega) ?_)
    intro w1 h1 k1
    have c1 := h1.cell rs.length (by omega)
    have f1 := h1.free rs.length
    have H1 := Lib.hid (h1.store (j := rs.length) (by omega) 128)
    have K1 := Lib.hid (k1.setCell (p := ⟨b, rs.length, none⟩) (.inl (by simp)) (.int .u8 128))
    clear h1 k1
    go_wp2_with fail
    refine (put64_any H1.out (by omega) (by omega) (by omega) _).mono ?_
    rintro e w2 ⟨rfl, h2, k2⟩
    have H2 := Lib.hid h2
    have K2 := Lib.hid (K1.out.trans k2 (fun _ h _ => h))
    clear h2 k2
    go_wp2_with fail
    go_ret
    refine ⟨rfl, ?_, K2.out⟩
    have h2 := H2.out
    rw [show IntKind.u64.wrap (IntKind.u64.wrap (L : Int) * 8) = (8 * (L : Int)) % 18446744073709551616 by rw [IntKind.wrap_u64, IntKind.wrap_u64]; omega, put8_mod] at h2
    exact h2
theorem end_two {w : World} {b : Nat} (h : RwK .u8 w b 128 143 (fun _ => 0)) {v : Value} {rs : List Int} (hr : Rd w v rs) (h64 : rs.length < 64) (L : Nat) (hlt : 64 < rs.length + 9) :
    Calls Tryd.prog 99 #[.pointer (some ⟨b, 0, none⟩), v, .int .i64 L] w fun e w' => e = .returned (.int .i64 128) ∧ RwK .u8 w' b 128 143 (endF rs L 128) ∧ Chg w w' [b] := by
  have := end_any h hr h64 L
  simp only [hlt, if_true] at this
  exact this
theorem end_one {w : World} {b : Nat} (h : RwK .u8 w b 128 143 (fun _ => 0)) {v : Value} {rs : List Int} (hr : Rd w v rs) (h64 : rs.length < 64) (L : Nat) (hlt : ¬ 64 < rs.length + 9) :
    Calls Tryd.prog 99 #[.pointer (some ⟨b, 0, none⟩), v, .int .i64 L] w fun e w' => e = .returned (.int .i64 64) ∧ RwK .u8 w' b 128 143 (endF rs L 64) ∧ Chg w w' [b] := by
  have := end_any h hr h64 L
  simp only [hlt, if_false] at this
  exact this
end Go.Proofs.YtjlodnecdngdfaaDoor
namespace Go.Proofs.YtjlodnecdngdfaaDoor
open Go.RowKit
set_option maxRecDepth 100000

theorem zero64u (w : World) : (zeroValue 107).run Tryd.prog w = .ok (.agg (Array.replicate 64 (.int .u32 0))) w := by kernel_rfl


/-- What stands in memory: the state handed in, the result, the words. -/
structure MxSt (w wr : World) (S : St8) (f : Nat → Int) : Prop where
  below : Below w.heap.size w wr
  rs : RwK .u32 wr w.heap.size 8 106 (fun i => S.lst.getD i 0)
  rr : RwK .u32 wr (w.heap.size + 1) 8 106 (fun i => [(0 : Int), 0, 0, 0, 0, 0, 0, 0].getD i 0)
  rw : RwK .u32 wr (w.heap.size + 1 + 1) 64 107 f

theorem MxSt.step {w wr : World} {S : St8} {f : Nat → Int} (h : MxSt w wr S f) {j : Nat} (hj : j < 64) (v : Int) : MxSt w (wr.setCell ⟨w.heap.size + 1 + 1, j, none⟩ (.int .u32 v)) S (updK f j v) :=
  ⟨h.below.setCell (by simp; omega) _, h.rs.other (by simp; omega) _, h.rr.other (by simp) _, h.rw.store hj v⟩
theorem MxSt.drew {w wr : World} {S : St8} {f : Nat → Int} (h : MxSt w wr S f) : MxSt w wr.drew S f := ⟨h.below.drew, h.rs, h.rr, h.rw⟩
theorem MxSt.start (w : World) (S : St8) : MxSt w (((w.alloc (.cells #[.int .u32 S.a, .int .u32 S.b, .int .u32 S.c, .int .u32 S.d, .int .u32 S.e, .int .u32 S.f, .int .u32 S.g, .int .u32 S.h] 106)).alloc
    (.cells #[.int .u32 0, .int .u32 0, .int .u32 0, .int .u32 0, .int .u32 0, .int .u32 0, .int .u32 0, .int .u32 0] 106)).alloc (.cells (Array.replicate 64 (.int .u32 0)) 107)) S (fun _ => 0) := by
  refine ⟨?_, ?_, ?_, ?_⟩
  · exact (((Below.refl _ _).alloc (Nat.le_refl _) _).alloc (by simp) _).alloc (by simp; omega) _
  · exact ((RwK.newL .u32 w S.lst 106).alloc _).alloc _
  · have := (RwK.newL .u32 (w.alloc (.cells #[.int .u32 S.a, .int .u32 S.b, .int .u32 S.c, .int .u32 S.d, .int .u32 S.e, .int .u32 S.f, .int .u32 S.g, .int .u32 S.h] 106)) [(0 : Int), 0, 0, 0, 0, 0, 0, 0] 106).alloc (.cells (Array.replicate 64 (.int .u32 0)) 107)
    simp only [World.size_alloc] at this
    exact this
  · have := RwK.new .u32 ((w.alloc (.cells #[.int .u32 S.a, .int .u32 S.b, .int .u32 S.c, .int .u32 S.d, .int .u32 S.e, .int .u32 S.f, .int .u32 S.g, .int .u32 S.h] 106)).alloc
      (.cells #[.int .u32 0, .int .u32 0, .int .u32 0, .int .u32 0, .int .u32 0, .int .u32 0, .int .u32 0, .int .u32 0] 106)) 64 107
    simp only [World.size_alloc] at this
    exact this
theorem MxSt.drewN {w wr : World} {S : St8} {f : Nat → Int} (h : MxSt w wr S f) (n : Nat) : MxSt w (wr.drewN n) S f := by
  have b : Below wr.heap.size wr (wr.drewN n) := below_drewN (Below.refl _ _) n
  exact ⟨below_drewN h.below n, h.rs.on b, h.rr.on b, h.rw.on b⟩
theorem MxSt.tab {w wr : World} {S : St8} {f : Nat → Int} (h : MxSt w wr S f) {g i : Nat} {v : Value} (hc : w.cell? ⟨g, i, none⟩ = some v) : wr.cell? ⟨g, i, none⟩ = some v := by
  rw [h.below.cell (p := ⟨g, i, none⟩) (World.block_lt_of_cell? w ⟨g, i, none⟩ hc)]; exact hc

set_option maxHeartbeats 4000000 in
theorem mix_any {w : World} (S : St8) {b off n c : Nat} {B : Nat → Int} (hn : 64 ≤ n) (hc : n ≤ c) (hB : ∀ i, i < 64 → w.cell? ⟨b, off + i, none⟩ = some (.int .u8 (B i))) (hb8 : ∀ i, i < 64 → 0 ≤ B i ∧ B i < 256)
    (hT : ∀ i, i < 64 → w.cell? ⟨1, i, none⟩ = some (.int .u32 (rt i))) :
    Calls Tryd.prog 98 #[.agg #[.int .u32 S.a, .int .u32 S.b, .int .u32 S.c, .int .u32 S.d, .int .u32 S.e, .int .u32 S.f, .int .u32 S.g, .int .u32 S.h], .slice (some ⟨b, off, none⟩) n c] w
      fun e w' => e = .returned (.agg #[.int .u32 (S.mix B).a, .int .u32 (S.mix B).b, .int .u32 (S.mix B).c, .int .u32 (S.mix B).d, .int .u32 (S.mix B).e, .int .u32 (S.mix B).f, .int .u32 (S.mix B).g, .int .u32 (S.mix B).h]) ∧ Below w.heap.size w w' := by
  have HB := Lib.hid hB
  have HB8 := Lib.hid hb8
  have HT := Lib.hid hT
  clear hB hb8 hT
  have hz := zero64u
  have h0 := Lib.hid (MxSt.start w S)
  go_enter Tryd.func98, Tryd.ntmps98
  go_wp2_with fail
  clear hz
  go_loopw [25] (fun iv wr => ∃ (i : Nat) (f : Nat → Int), iv = .int .i64 i ∧ i ≤ 16 ∧ Hid (MxSt w wr S f) ∧ Hid (∀ j, j < i → f j = W B j)) (fun iv _ => 16 - (intOf iv).toNat)
  case atStart => exact ⟨0, _, rfl, by omega, h0, fun j hj => by omega⟩
  case round =>
    clear h0
    obtain ⟨i, f, rfl, hi, hm, hf⟩ := hrel
    by_cases hlt : i < 16
    · have q (j : Nat) (hj : j < 64) : wr.cell? ⟨b, off + j, none⟩ = some (.int .u8 (B j)) := hm.out.tab (HB.out j hj)
      have c0 := q (4 * i) (by omega)
      have c1 := q (4 * i + 1) (by omega)
      have c2 := q (4 * i + 2) (by omega)
      have c3 := q (4 * i + 3) (by omega)
      obtain ⟨a0, b0⟩ := HB8.out (4 * i) (by omega)
      obtain ⟨a1, b1⟩ := HB8.out (4 * i + 1) (by omega)
      obtain ⟨a2, b2⟩ := HB8.out (4 * i + 2) (by omega)
      obtain ⟨a3, b3⟩ := HB8.out (4 * i + 3) (by omega)
      have cw := hm.out.rw.cell i (by omega)
      have fw := hm.out.rw.free i
      clear q
      have HN : Hid (MxSt w (wr.setCell ⟨w.heap.size + 1 + 1, i, none⟩ (.int .u32 (bits .or .u32 (bits .or .u32 (bits .or .u32 (B (4 * i) * 16777216) (B (4 * i + 1) * 65536)) (B (4 * i + 2) * 256)) (B (4 * i + 3))))).drew S (updK f i (W B i))) := by
        have := (hm.out.step (j := i) (by omega) (W B i)).drew
        rw [W_low B hlt] at this ⊢
        exact this
      have HF : Hid (∀ j, j < i + 1 → updK f i (W B i) j = W B j) := by
        intro j hj
        by_cases e : j = i
        · subst e; rw [updK_same]
        · rw [updK_ne _ _ e]; exact hf.out j (by omega)
      generalize B (4 * i) = x0 at c0 a0 b0 HN
      generalize B (4 * i + 1) = x1 at c1 a1 b1 HN
      generalize B (4 * i + 2) = x2 at c2 a2 b2 HN
      generalize B (4 * i + 3) = x3 at c3 a3 b3 HN
      generalize updK f i (W B i) = f' at HN HF
      go_wp2_with fail
      go_region
      go_wp2_with fail
      go_roundw
      case rel => exact ⟨i + 1, f', by go_num, by omega, HN, HF⟩
      case measure => simp [intOf]; omega
    · obtain rfl : i = 16 := by omega
      clear hlt hi
      have hm0 := hm
      have hf0 := hf
      go_wp2_with fail
      clear hm hf
      rw [show ((16 : Nat) : Int) = 16 from rfl]
      obtain ⟨w0, hw0⟩ : ∃ w0 : World, w0 = wr := ⟨_, rfl⟩
      rw [← hw0] at hm0 ⊢
      clear hw0
      go_loopw [7] (fun iv wr => ∃ (i : Nat) (f : Nat → Int), iv = .int .i64 i ∧ 16 ≤ i ∧ i ≤ 64 ∧ Hid (MxSt w wr S f) ∧ Hid (∀ j, j < i → f j = W B j)) (fun iv _ => 64 - (intOf iv).toNat)
      case atStart => exact ⟨16, _, rfl, by omega, by omega, hm0, hf0⟩
      case round =>
        clear hm0 hf0
        obtain ⟨i, f, rfl, hi0, hi, hm, hf⟩ := hrel
        by_cases hlt : i < 64
        · have cx := hm.out.rw.cell (i - 15) (by omega)
          have cy := hm.out.rw.cell (i - 2) (by omega)
          have cz := hm.out.rw.cell (i - 16) (by omega)
          have cv := hm.out.rw.cell (i - 7) (by omega)
          have cw := hm.out.rw.cell i (by omega)
          have fw := hm.out.rw.free i
          have e15 : ((i : Int) - 15).toNat = i - 15 := by omega
          have e2 : ((i : Int) - 2).toNat = i - 2 := by omega
          have e16 : ((i : Int) - 16).toNat = i - 16 := by omega
          have e7 : ((i : Int) - 7).toNat = i - 7 := by omega
          have HV := Lib.hid ((W_high B hi0).trans (nxt_cong (g := f) hi0 (fun j hj => (hf.out j hj).symm)))
          have HN := Lib.hid (fun v => (hm.out.step (j := i) hlt v).drew.drew)
          have HF : Hid (∀ j, j < i + 1 → updK f i (W B i) j = W B j) := by
            intro j hj
            by_cases e : j = i
            · subst e; rw [updK_same]
            · rw [updK_ne _ _ e]; exact hf.out j (by omega)
          go_wp2_with fail
          go_region
          go_wp2_with (go_at_call 102; refine (rot_any _ _ _).mono ?_; rintro e w' ⟨rfl, rfl⟩)
          go_region
          go_wp2_with fail
          go_roundw
          case rel => exact ⟨i + 1, updK f i (W B i), by go_num, by omega, by omega, by rw [HV.out]; exact HN.out _, HF⟩
          case measure => simp [intOf]; omega
        · obtain rfl : i = 64 := by omega
          clear hlt hi hi0
          have hm0 := hm
          have hf0 := hf
          clear hm hf
          have s0 := hm0.out.rs.cell 0 (by omega)
          have s1 := hm0.out.rs.cell 1 (by omega)
          have s2 := hm0.out.rs.cell 2 (by omega)
          have s3 := hm0.out.rs.cell 3 (by omega)
          have s4 := hm0.out.rs.cell 4 (by omega)
          have s5 := hm0.out.rs.cell 5 (by omega)
          have s6 := hm0.out.rs.cell 6 (by omega)
          have s7 := hm0.out.rs.cell 7 (by omega)
          simp only [St8.lst, List.getD_cons_zero, List.getD_cons_succ] at s0 s1 s2 s3 s4 s5 s6 s7
          go_wp2_with fail
          go_quiet (fail)
          have hm1 := Lib.hid (hm0.out.drewN nq)
          generalize wr.drewN nq = wq at hm1 ⊢
          clear hm0 s0 s1 s2 s3 s4 s5 s6 s7
          go_wp2_with fail
          rw [show ((64 : Nat) : Int) = 64 from rfl]
          go_loopw [123, 12, 13, 14, 15, 16, 17, 18, 19] (fun iv a b' c' d e f' g h wr => ∃ (i : Nat) (s : St8), iv = .int .i64 i ∧ i ≤ 64 ∧ Hid (s = S.rounds B i) ∧ a = .int .u32 s.a ∧ b' = .int .u32 s.b ∧ c' = .int .u32 s.c ∧ d = .int .u32 s.d ∧ e = .int .u32 s.e ∧ f' = .int .u32 s.f ∧ g = .int .u32 s.g ∧ h = .int .u32 s.h ∧ Hid (MxSt w wr S f)) (fun iv _ _ _ _ _ _ _ _ _ => 64 - (intOf iv).toNat)
          case atStart => exact ⟨0, S, rfl, by omega, rfl, rfl, rfl, rfl, rfl, rfl, rfl, rfl, rfl, hm1⟩
          case round =>
            clear hm1
            obtain ⟨i, s, rfl, hi, hs, rfl, rfl, rfl, rfl, rfl, rfl, rfl, rfl, hm⟩ := hrel
            by_cases hlt : i < 64
            · have cw := hm.out.rw.cell i hlt
              rw [hf0.out i hlt] at cw
              have ct := hm.out.tab (HT.out i hlt)
              have HS : Hid (s.rnd (rt i) (W B i) = S.rounds B (i + 1)) := by
                show _ = (S.rounds B i).rnd (rt i) (W B i)
                rw [← hs.out]
              generalize W B i = wi at cw HS
              generalize rt i = ki at ct HS
              obtain ⟨xa, xb, xc, xd, xe, xf, xg, xh⟩ := s
              simp only []
              go_wp2_with fail
              go_quiet (exact Calls.quiet_of_same (rot_any _ _ _))
              have hN := Lib.hid (hm.out.drewN nq)
              generalize wr.drewN nq = wz at hN ⊢
              clear cw ct hm
              go_wp2_with (go_at_call 102; refine (rot_any _ _ _).mono ?_; rintro e w' ⟨rfl, rfl⟩)
              go_roundw
              case rel => exact ⟨i + 1, _, by go_num, by omega, HS, rfl, rfl, rfl, rfl, rfl, rfl, rfl, rfl, hN⟩
              case measure => simp [intOf]; omega
            · obtain rfl : i = 64 := by omega
              have HM : Hid (S.add s = S.mix B) := by
                show _ = S.add (S.rounds B 64)
                rw [← hs.out]
              have s0 := hm.out.rs.cell 0 (by omega)
              have s1 := hm.out.rs.cell 1 (by omega)
              have s2 := hm.out.rs.cell 2 (by omega)
              have s3 := hm.out.rs.cell 3 (by omega)
              have s4 := hm.out.rs.cell 4 (by omega)
              have s5 := hm.out.rs.cell 5 (by omega)
              have s6 := hm.out.rs.cell 6 (by omega)
              have s7 := hm.out.rs.cell 7 (by omega)
              simp only [St8.lst, List.getD_cons_zero, List.getD_cons_succ] at s0 s1 s2 s3 s4 s5 s6 s7
              have r0 := hm.out.rr.cell 0 (by omega)
              have r1 := hm.out.rr.cell 1 (by omega)
              have r2 := hm.out.rr.cell 2 (by omega)
              have r3 := hm.out.rr.cell 3 (by omega)
              have r4 := hm.out.rr.cell 4 (by omega)
              have r5 := hm.out.rr.cell 5 (by omega)
              have r6 := hm.out.rr.cell 6 (by omega)
              have r7 := hm.out.rr.cell 7 (by omega)
              have f0 := hm.out.rr.free 0
              have f1 := hm.out.rr.free 1
              have f2 := hm.out.rr.free 2
              have f3 := hm.out.rr.free 3
              have f4 := hm.out.rr.free 4
              have f5 := hm.out.rr.free 5
              have f6 := hm.out.rr.free 6
              have f7 := hm.out.rr.free 7
              clear hs
              obtain ⟨xa, xb, xc, xd, xe, xf, xg, xh⟩ := s
              simp only []
              go_wp2_with fail
              refine bodyPost_ret (v := .agg #[.int .u32 ((S.a + xa) % 4294967296), .int .u32 ((S.b + xb) % 4294967296), .int .u32 ((S.c + xc) % 4294967296), .int .u32 ((S.d + xd) % 4294967296), .int .u32 ((S.e + xe) % 4294967296), .int .u32 ((S.f + xf) % 4294967296), .int .u32 ((S.g + xg) % 4294967296), .int .u32 ((S.h + xh) % 4294967296)]) (by simp [results, Tryd.results98, go_sem, r0, r1, r2, r3, r4, r5, r6, r7]) rfl ⟨?_, ?_⟩
              · rw [← HM.out]; rfl
              · have hb := hm.out.below
                repeat (first | with_reducible exact hb | with_reducible refine Below.setCell ?_ (by simp; try omega) _)
end Go.Proofs.YtjlodnecdngdfaaDoor
namespace Go.Proofs.YtjlodnecdngdfaaDoor
open Go.RowKit

theorem all_range_beq : ∀ (n : Nat) (xs ys : List Int), xs.length = n → ys.length = n → ((List.range' 0 n).all fun i => xs[i]? == ys[i]?) = (xs == ys) := by
  intro n xs ys hx hy
  rw [Bool.eq_iff_iff]
  simp only [List.all_eq_true, beq_iff_eq]
  constructor
  · intro h
    refine List.ext_getElem? fun i => ?_
    by_cases hi : i < n
    · exact h i (by simp [List.mem_range'_1]; omega)
    · rw [List.getElem?_eq_none (by omega), List.getElem?_eq_none (by omega)]
  · rintro rfl _ _; rfl

theorem run_equalIn_ints {P : Program} (w : World) (d : Nat) {t e : TypeId} {n : Nat} {k : IntKind} (ht : P.underlying t = some (.array n e)) (he : P.underlying e = some (.int k)) (hc : P.cellsOf e = 1) (xs ys : List Int) (hx : xs.length = n) (hy : ys.length = n) :
    (Op.equalIn (d + 2) t (.agg (xs.map (Value.int k)).toArray) (.agg (ys.map (Value.int k)).toArray)).run P w = .ok (xs == ys) w := by
  rw [← all_range_beq n xs ys hx hy]
  obtain ⟨i, hi⟩ := info_of_underlying he
  have hs := run_sizeOf w hi
  rw [hc] at hs
  rw [Op.equalIn]
  simp only [Sem.run_bind, run_underlying ht, Result.andThen_ok, hs]
  simp only [Std.Legacy.Range.forIn_eq_forIn_range', Std.Legacy.Range.size, Nat.sub_zero, Nat.add_one_sub_one, Nat.div_one, Nat.mul_one]
  have hb : ∀ j ∈ List.range' 0 n, j < n := fun j hj => by simp [List.mem_range'_1] at hj; omega
  generalize List.range' 0 n = is at hb ⊢
  induction is with
  | nil => simp
  | cons j is ih =>
    have hj := hb j (by simp)
    have hp : P.plainKey e = true := by unfold Program.plainKey; rw [he]
    have p1 : (part e (xs.map (Value.int k)).toArray j).run P w = .ok (.int k xs[j]) w := run_part_plain w hp (by simp [hx, hj])
    have p2 : (part e (ys.map (Value.int k)).toArray j).run P w = .ok (.int k ys[j]) w := run_part_plain w hp (by simp [hy, hj])
    have p3 := run_equalIn_int (P := P) w d e k k xs[j] ys[j] he
    simp only [List.forIn_cons, Sem.run_bind, p1, p2, p3, Result.andThen_ok]
    have ih' := ih fun y hy => hb y (by simp [hy])
    have e1 : (xs[j]? == ys[j]?) = (xs[j] == ys[j]) := by rw [List.getElem?_eq_getElem, List.getElem?_eq_getElem]; rfl
    simp only [List.all_cons, e1]
    cases xs[j] == ys[j]
    · simp
    · simpa using ih'
end Go.Proofs.YtjlodnecdngdfaaDoor
