/-
  What a call changes of memory: the blocks of a list, and nothing else of what there was. Rows of bytes; bytes and numbers, plain.
-/
import Derived.Test.YtamkmeigcmpkjaaRows
import Derived.WalkKit
import Derived.Below
import Derived.Lib.Hide
import Derived.Lib.SmallJoins
import Derived.ProofKit
import Derived.Deep.DeepAppendWide
import Derived.Laws.BytesArg
import Derived.Deep.AppendSrc
import Derived.Laws.IdiomCopy
namespace Go.Proofs.Ytamkmeigcmpkjaa
open Go.RowKit

/-- Of what there was in w the blocks of S alone may have changed. -/
structure Chg (w w' : World) (S : List Nat) : Prop where
  os : w'.os = w.os
  tape : w'.tape = w.tape
  output : w'.output = w.output
  size : w.heap.size ≤ w'.heap.size
  block : ∀ k, k < w.heap.size → k ∉ S → w'.heap[k]? = w.heap[k]?

theorem Chg.refl (w : World) (S : List Nat) : Chg w w S := ⟨rfl, rfl, rfl, Nat.le_refl _, fun _ _ _ => rfl⟩
theorem Chg.trans {a b c : World} {S T : List Nat} (h : Chg a b S) (k : Chg b c T) (hT : ∀ x, x ∈ T → x < a.heap.size → x ∈ S) : Chg a c S :=
  ⟨k.os.trans h.os, k.tape.trans h.tape, k.output.trans h.output, Nat.le_trans h.size k.size, fun i hi hn =>
    (k.block i (Nat.lt_of_lt_of_le hi h.size) (fun hx => hn (hT i hx hi))).trans (h.block i hi hn)⟩
theorem Chg.below {w w' : World} {B : Nat} (h : Below B w w') (hB : w.heap.size ≤ B) (S : List Nat) : Chg w w' S := ⟨h.os, h.tape, h.output, h.size, fun k hk _ => h.block k (by omega)⟩
theorem Chg.grown {w w' : World} {row : Option Nat} (h : w.grownBy w' row) {S : List Nat} (hS : ∀ k, row = some k → k ∈ S) : Chg w w' S :=
  ⟨h.os, h.tape, h.output, h.size, fun k hk hn => h.block k hk (fun e => hn (hS k e.symm))⟩
theorem Chg.alloc {a w : World} {S : List Nat} (h : Chg a w S) (o : Obj) : Chg a (w.alloc o) S :=
  h.trans (T := []) (Chg.below ((Below.refl _ _).alloc (Nat.le_refl _) o) (Nat.le_refl _) []) (fun _ h => by cases h)
theorem Chg.drew {a w : World} {S : List Nat} (h : Chg a w S) : Chg a w.drew S := ⟨h.os, h.tape, h.output, h.size, h.block⟩
theorem Chg.setCell {a w : World} {S : List Nat} (h : Chg a w S) {p : Addr} (hp : p.block ∈ S ∨ a.heap.size ≤ p.block) (u : Value) : Chg a (w.setCell p u) S := by
  refine h.trans (T := [p.block]) ⟨rfl, rfl, rfl, by simp [World.setCell], fun k hk hn => Below.heap_setCell _ _ _ _ (by simpa using hn)⟩ ?_
  intro x hx hl
  obtain rfl := List.mem_singleton.1 hx
  rcases hp with hp | hp
  · exact hp
  · omega
theorem Chg.toBelow {w w' : World} {S : List Nat} {B : Nat} (h : Chg w w' S) (hB : B ≤ w.heap.size) (hS : ∀ k, k ∈ S → B ≤ k) : Below B w w' :=
  ⟨h.os, h.tape, h.output, h.size, fun k hk => h.block k (by omega) (fun hx => by have := hS k hx; omega)⟩
theorem Chg.mono {w w' : World} {S T : List Nat} (h : Chg w w' S) (hS : ∀ k, k ∈ S → k < w.heap.size → k ∈ T) : Chg w w' T :=
  ⟨h.os, h.tape, h.output, h.size, fun k hk hn => h.block k hk (fun hx => hn (hS k hx hk))⟩

/-- Cells of bytes. -/
def bc (xs : List Int) : List Value := xs.map (Value.int .u8)
@[simp] theorem bc_len (xs : List Int) : (bc xs).length = xs.length := by simp [bc]
theorem bc_append (xs ys : List Int) : bc (xs ++ ys) = bc xs ++ bc ys := by simp [bc]
theorem bc_one (xs : List Int) : ∀ u ∈ bc xs, u.oneCell' = true := by
  intro u hu
  obtain ⟨x, _, rfl⟩ := List.mem_map.1 hu
  rfl
theorem bc_get {xs : List Int} {j : Nat} {u : Value} (h : (bc xs)[j]? = some u) : ∃ x, xs[j]? = some x ∧ u = .int .u8 x := by
  simp only [bc, List.getElem?_map, Option.map_eq_some_iff] at h
  obtain ⟨x, hx, rfl⟩ := h
  exact ⟨x, hx, rfl⟩

/-- Whether all are bytes. -/
def Bytes (xs : List Int) : Prop := ∀ x ∈ xs, 0 ≤ x ∧ x < 256

/-- A number's eight bytes, the highest first. -/
def be8 (n : Int) : List Int := [n / 72057594037927936 % 256, n / 281474976710656 % 256, n / 1099511627776 % 256, n / 4294967296 % 256, n / 16777216 % 256, n / 65536 % 256, n / 256 % 256, n % 256]
/-- The number of bytes, the highest first. -/
def num (xs : List Int) : Int := xs.foldl (fun a x => a * 256 + x) 0
@[simp] theorem be8_len (n : Int) : (be8 n).length = 8 := rfl
theorem be8_bytes (n : Int) : Bytes (be8 n) := by
  intro x hx
  simp only [be8, List.mem_cons, List.not_mem_nil, or_false] at hx
  omega
theorem num_be8 {n : Int} (h0 : 0 ≤ n) (h1 : n < 18446744073709551616) : num (be8 n) = n := by
  simp only [num, be8, List.foldl_cons, List.foldl_nil]
  omega

/-! ### Slices that read as bytes -/
/-- The slice v reads as the bytes xs. -/
def Rd (w : World) (v : Value) (xs : List Int) : Prop := ∃ q c, v = .slice q xs.length c ∧ (xs = [] ∨ ∃ b off, q = some ⟨b, off, none⟩ ∧ ∀ i, i < xs.length → w.cell? ⟨b, off + i, none⟩ = some (.int .u8 (xs.getD i 0)))

section
variable {w w' : World} {v : Value} {xs : List Int}
theorem Rd.nil (w : World) : Rd w (.slice none 0 0) [] := ⟨none, 0, rfl, .inl rfl⟩
theorem lt_of_cell {a : Addr} {u : Value} (h : w.cell? a = some u) : a.block < w.heap.size := World.block_lt_of_cell? w a h
theorem Rd.chg {S : List Nat} (h : Rd w v xs) (hc : Chg w w' S) (hS : xs ≠ [] → ∀ k, v.ownBlock = some k → k < w.heap.size → k ∉ S) : Rd w' v xs := by
  obtain ⟨q, c, rfl, hq | ⟨b, off, rfl, hx⟩⟩ := h
  · exact ⟨q, c, rfl, .inl hq⟩
  · refine ⟨_, c, rfl, .inr ⟨b, off, rfl, fun i hi => ?_⟩⟩
    have hb := lt_of_cell (hx i hi)
    rw [World.cell?_of_block (w := w) (hc.block b hb (hS (by rintro rfl; simp at hi) b rfl hb))]
    exact hx i hi
theorem Rd.on (h : Rd w v xs) (hb : Below w.heap.size w w') : Rd w' v xs := h.chg (Chg.below hb (Nat.le_refl _) []) (fun _ _ _ _ h => by cases h)
theorem Rd.alloc (h : Rd w v xs) (o : Obj) : Rd (w.alloc o) v xs := h.on ((Below.refl _ _).alloc (Nat.le_refl _) o)
theorem Rd.drew (h : Rd w v xs) : Rd w.drew v xs := h
theorem Rd.setCell (h : Rd w v xs) {a : Addr} (ha : v.ownBlock ≠ some a.block) (u : Value) : Rd (w.setCell a u) v xs := by
  refine h.chg (S := [a.block]) ((Chg.refl w [a.block]).setCell (.inl (by simp)) u) ?_
  intro _ k hk _ hm
  obtain rfl := List.mem_singleton.1 hm
  exact ha hk
theorem Rd.lt (h : Rd w v xs) (hx : xs ≠ []) {k : Nat} (hk : v.ownBlock = some k) : k < w.heap.size := by
  obtain ⟨q, c, rfl, rfl | ⟨b, off, rfl, hc⟩⟩ := h
  · exact absurd rfl hx
  · have := lt_of_cell (hc 0 (List.length_pos_iff.2 hx))
    simp [Value.ownBlock] at hk
    simpa [← hk] using this
theorem Rd.len (h : Rd w v xs) : ∃ q c, v = .slice q xs.length c := by
  obtain ⟨q, c, e, _⟩ := h
  exact ⟨q, c, e⟩
theorem addr_add (b off i : Nat) : (⟨b, off, none⟩ : Addr).add i = ⟨b, off + i, none⟩ := by unfold Addr.add; split <;> simp_all
theorem getD_of {xs : List Int} {j : Nat} {x : Int} (h : xs[j]? = some x) : xs.getD j 0 = x := by simp [List.getD, h]
theorem Rd.src {P : Program} {tx e' : TypeId} (hk : P.underlying tx = some (.slice e')) (h : Rd w v xs) : Src P 1 tx v xs.length (bc xs) w := by
  obtain ⟨q, c, rfl, rfl | ⟨b, off, rfl, hx⟩⟩ := h
  · cases q with
    | none => exact Src.ofNil w hk c
    | some a => exact Src.ofSlice w hk a 0 c [] (by simp) (fun j u hu => by simp at hu) (by simp)
  · refine Src.ofSlice w hk _ _ _ _ (by simp) (fun j u hu => ?_) (bc_one xs)
    obtain ⟨x, hj, rfl⟩ := bc_get hu
    have hl : j < xs.length := (List.getElem?_eq_some_iff.1 hj).1
    rw [addr_add, hx j hl, getD_of hj]
theorem Rd.str {P : Program} {src e dst : TypeId} (h : Rd w v xs) (hs : P.underlying src = some (.slice e)) (he : P.underlying e = some (.int .u8)) (hd : P.underlying dst = some .string) :
    (convert src dst v).run P w = .ok (.string (strOfNums xs)) w := by
  obtain ⟨q, c, rfl, rfl | ⟨b, off, rfl, hx⟩⟩ := h
  · cases q with
    | none => exact run_convert_bytes_nil w src e hs he _ _ dst hd
    | some a =>
      have hl : (loadCells a 0).run P w = .ok (([] : List Int).map (Value.int .u8)).toArray w := run_loadCells_list (P := P) w a [] (fun j v hj => by simp at hj)
      rw [run_convert_bytes_string w src dst e _ _ c hs he hd, show ([] : List Int).length = 0 from rfl, run_bytesToString w a 0 c [] hl]
      rfl
  · exact run_convert_bytes_arg w src e hs he b off _ c xs rfl hx dst hd
end

/-! ### A row of the call's own, appended to -/
theorem setCells_in {b : Nat} {t : TypeId} {fr : Nat × Nat} : ∀ (vs : List Value) {o : Nat} {w : World} {pre mid post : List Value}, w.heap[b]? = some (.cells (pre ++ (mid ++ post)).toArray t fr) → pre.length = o → mid.length = vs.length →
    (w.setCells b o vs).heap[b]? = some (.cells (pre ++ (vs ++ post)).toArray t fr)
  | [], o, w, pre, mid, post, h, _, hm => by
    obtain rfl : mid = [] := by simpa using hm
    exact h
  | v :: vs, o, w, pre, [], post, h, _, hm => by simp at hm
  | v :: vs, o, w, pre, m :: mid, post, h, hp, hm => by
    have h1 : (w.setCell ⟨b, o, none⟩ v).heap[b]? = some (.cells ((pre ++ [v]) ++ (mid ++ post)).toArray t fr) := by
      rw [Joins.block_setCell h v]
      congr 2
      apply Array.ext'
      simp [hp.symm]
    have := setCells_in vs (o := o + 1) h1 (by simp [hp]) (by simpa using hm)
    rw [World.setCells, this]
    simp
theorem setCells_apart {b c : Nat} (hne : c ≠ b) : ∀ (vs : List Value) (o : Nat) (w : World), (w.setCells b o vs).heap[c]? = w.heap[c]?
  | [], _, _ => rfl
  | v :: vs, o, w => by
    rw [World.setCells, setCells_apart hne vs (o + 1) _, Below.heap_setCell _ _ _ _ hne]
theorem setCells_same (b : Nat) : ∀ (vs : List Value) (o : Nat) (w : World), (w.setCells b o vs).heap.size = w.heap.size ∧ (w.setCells b o vs).os = w.os ∧ (w.setCells b o vs).tape = w.tape ∧ (w.setCells b o vs).output = w.output
  | [], _, _ => ⟨rfl, rfl, rfl, rfl⟩
  | v :: vs, o, w => by
    obtain ⟨a, b', c, d⟩ := setCells_same b vs (o + 1) (w.setCell ⟨b, o, none⟩ v)
    rw [World.setCells]
    exact ⟨by rw [a]; simp [World.setCell], b', c, d⟩

section
variable {P : Program} {w : World}
theorem append_row {t tx ty e : TypeId} {i : TypeInfo} {z : Value} {size bytes : Nat} (ht : P.underlying t = some (.slice e)) (hi : P.info? e = some i) (hz : i.zero = some z)
    (hsize : i.size = size) (hby : i.bytes = bytes) (hzs : z.cells.size = size)
    {v : Value} {n : Nat} {xs : List Value} (hown : w.ownsRow 0 e size v n xs) {x : Value} {m : Nat} {news : List Value} (hs : Src P size tx x m news w)
    (h63 : n + m ≤ maxLen) (hbytes : (n + m) * bytes ≤ 140737488355328) :
    ∃ v' w', (Builtin.append_ #[t, tx] ty #[v, x]).run P w = .ok v' w' ∧ w'.ownsRow 0 e size v' (n + m) (xs ++ news) ∧ w.grownBy w' v.ownBlock ∧
      (v'.ownBlock = v.ownBlock ∨ v'.ownBlock = some w.heap.size) := by
  subst hsize
  subst hby
  have hsmall : n + m ≤ 9223372036854775807 := by simp only [maxLen] at h63; omega
  have hlen : (xs ++ news).length = (n + m) * i.size := by rw [List.length_append, hown.1, hs.newsLen, Nat.add_mul]
  have grown : ∀ (old : Nat), old < n + m → ∀ (row : Option Nat),
      (w.drew.alloc (.cells ((xs ++ news).toArray ++ Builtin.zeroCells z.cells (grownCap w (n + m) old e - (n + m))) e)).ownsRow 0 e i.size
        (.slice (some ⟨w.heap.size, 0, none⟩) (n + m) (grownCap w (n + m) old e)) (n + m) (xs ++ news) ∧
      w.grownBy (w.drew.alloc (.cells ((xs ++ news).toArray ++ Builtin.zeroCells z.cells (grownCap w (n + m) old e - (n + m))) e)) row := by
    intro old ho row
    have hge := grownCap_ge w (n + m) old e
    have hcm : grownCap w (n + m) old e ≤ maxLen := grownCap_le_maxLen w (n + m) old e h63
    refine ⟨⟨hlen, .inr ⟨w.heap.size, _, _, rfl, Nat.zero_le _, heap_alloc_new w.drew _, hge, hcm, ?_, ?_⟩⟩, ⟨rfl, rfl, rfl, by simp, fun k hk _ => Below.heap_alloc w.drew _ k hk⟩⟩
    · rw [Array.size_append, List.size_toArray, size_zeroCells, hzs, hlen, ← Nat.add_mul]
      congr 1
      omega
    · rw [Array.toList_append]
      exact List.take_left' hlen
  rcases hown.2 with ⟨rfl, rfl⟩ | ⟨g, cap, cur, rfl, _, hg, hnc, hcm, hcs, htake⟩
  · obtain rfl : xs = [] := List.eq_nil_of_length_eq_zero (by simpa using hown.1)
    by_cases hm : m = 0
    · subst hm
      obtain rfl : news = [] := List.eq_nil_of_length_eq_zero (by simpa using hs.newsLen)
      refine ⟨.slice none 0 0, w, ?_, World.ownsRow_nil w 0 e i.size, ⟨rfl, rfl, rfl, Nat.le_refl _, fun _ _ _ => rfl⟩, .inl rfl⟩
      have hc := hs.cells
      rcases hs.kind with ⟨e', hk⟩ | hk <;> simp [Builtin.append_, run_underlying ht, run_underlying hk, sizeOf, typeInfo, hi, hs.len, hc]
    · have hr := run_append_grow_src (P := P) w t tx ty e i z ht hi hz none 0 0 [] (run_firstCells_none w.drew i.size 0 0 0) x m news hs (by omega) (by omega) (growslice_fits (by omega) (by simpa using hbytes))
      have hgr := grown 0 (by omega) (Value.ownBlock (.slice none 0 0))
      simp only [Nat.zero_add, List.nil_append] at hgr hr ⊢
      exact ⟨_, _, hr, hgr.1, hgr.2, .inr rfl⟩
  · have hfrozen : ∀ j, w.frozen? ⟨g, j, none⟩ = false := fun j => Joins.unfrozen_of_block hg j
    by_cases hroom : n + m ≤ cap
    · have hfit : n * i.size + news.length ≤ cur.size := by rw [hs.newsLen, hcs, ← Nat.add_mul]; exact Nat.mul_le_mul_right _ hroom
      have hr := run_append_room_src (P := P) w t tx ty e i ht hi g 0 n cap x m news hs hroom
        (fun j hj => by
          rw [cell_of_row w g _ cur e (0, 0) hg]
          have : n * i.size + j < cur.size := by omega
          simp [this]) (fun j hj => hfrozen _)
      have hsplit : cur = (xs ++ ((cur.toList.drop (n * i.size)).take news.length ++ cur.toList.drop (n * i.size + news.length))).toArray := by
        apply Array.ext'
        show cur.toList = xs ++ ((cur.toList.drop (n * i.size)).take news.length ++ cur.toList.drop (n * i.size + news.length))
        rw [← List.drop_drop, List.take_append_drop, ← htake, List.take_append_drop]
      have hblk := setCells_in (w := w) (b := g) (t := e) (fr := (0, 0)) (o := 0 + n * i.size) (pre := xs) (mid := (cur.toList.drop (n * i.size)).take news.length) (post := cur.toList.drop (n * i.size + news.length)) news
        (by rw [← hsplit]; exact hg) (by rw [hown.1]; omega) (by have hL : cur.toList.length = cur.size := Array.length_toList; rw [List.length_take, List.length_drop]; omega)
      obtain ⟨s1, s2, s3, s4⟩ := setCells_same g news (0 + n * i.size) w
      refine ⟨_, _, hr, ⟨hlen, .inr ⟨g, cap, _, rfl, Nat.zero_le _, hblk, hroom, hcm, ?_, ?_⟩⟩, ⟨s2, s3, s4, by omega, fun k _ hk => setCells_apart (fun e => hk (by simp [Value.ownBlock, e])) news _ w⟩, .inl rfl⟩
      · have hL : cur.toList.length = cur.size := Array.length_toList
        have hx := hown.1
        rw [List.size_toArray, List.length_append, List.length_append, List.length_drop]
        omega
      · show ((xs ++ (news ++ cur.toList.drop (n * i.size + news.length)))).take ((n + m) * i.size) = xs ++ news
        rw [← List.append_assoc]
        exact List.take_left' hlen
    · have holds : ∀ j u, xs[j]? = some u → w.cell? ((⟨g, 0, none⟩ : Addr).add j) = some u := hown.cells (g := g) rfl
      have hr := run_append_grow_src (P := P) w t tx ty e i z ht hi hz (some ⟨g, 0, none⟩) n cap xs (run_firstCells_some w.drew i.size n ⟨g, 0, none⟩ n cap xs hown.1 (by simpa using holds)) x m news hs (by omega) (by omega) (growslice_fits (by omega) hbytes)
      have hgr := grown cap (by omega) (Value.ownBlock (.slice (some ⟨g, 0, none⟩) n cap))
      exact ⟨_, _, hr, hgr.1, hgr.2, .inr rfl⟩

/-- At the operation. -/
theorem wp_append_row {o : Oper} {a : Act} {K : Act → World → Prop} {Q : Exit → Act → World → Prop} (s x : Operand) {t tx e : TypeId}
    (ho : o.op = .call { callee := .builtin .append, args := #[s, x], argTypes := #[t, tx] })
    {i : TypeInfo} {z : Value} {size bytes : Nat} (ht : P.underlying t = some (.slice e)) (hi : P.info? e = some i) (hz : i.zero = some z)
    (hsize : i.size = size) (hby : i.bytes = bytes) (hzs : z.cells.size = size)
    {n : Nat} {xs : List Value} (hown : w.ownsRow 0 e size (a.eval s) n xs) {m : Nat} {news : List Value} (hs : Src P size tx (a.eval x) m news w)
    (h63 : n + m ≤ maxLen) (hbytes : (n + m) * bytes ≤ 140737488355328)
    (h : ∀ q c w', w'.ownsRow 0 e size (.slice q (n + m) c) (n + m) (xs ++ news) → w.grownBy w' (a.eval s).ownBlock → ((Value.slice q (n + m) c).ownBlock = (a.eval s).ownBlock ∨ (Value.slice q (n + m) c).ownBlock = some w.heap.size) → K (a.put o.dst (.slice q (n + m) c)) w') : o.wp P a w K Q := by
  obtain ⟨v', w', hr, h2, h3, h4⟩ := append_row (ty := o.type) ht hi hz hsize hby hzs hown hs h63 hbytes
  unfold Oper.wp execOp
  simp only [ho, resolve, invoke, builtin, Sem.run_bind, Sem.run_pure, Result.andThen_ok, List.map_toArray, List.map_cons, List.map_nil, hr]
  rcases h2.2 with ⟨rfl, h0⟩ | ⟨g, cap, cur, rfl, _⟩
  · have := h none 0 w'
    rw [h0] at this h2
    exact this h2 h3 h4
  · exact h _ cap w' h2 h3 h4
theorem wpList_append_row {ops : Array Oper} {rest : List Oper} {o : Oper} {a : Act} {Q : Exit → Act → World → Prop} (hgd : o.guard = none) (s x : Operand) {t tx e : TypeId}
    (ho : o.op = .call { callee := .builtin .append, args := #[s, x], argTypes := #[t, tx] })
    {i : TypeInfo} {z : Value} {size bytes : Nat} (ht : P.underlying t = some (.slice e)) (hi : P.info? e = some i) (hz : i.zero = some z)
    (hsize : i.size = size) (hby : i.bytes = bytes) (hzs : z.cells.size = size)
    {n : Nat} {xs : List Value} (hown : w.ownsRow 0 e size (a.eval s) n xs) {m : Nat} {news : List Value} (hs : Src P size tx (a.eval x) m news w)
    (h63 : n + m ≤ maxLen) (hbytes : (n + m) * bytes ≤ 140737488355328)
    (h : ∀ q c w', w'.ownsRow 0 e size (.slice q (n + m) c) (n + m) (xs ++ news) → w.grownBy w' (a.eval s).ownBlock → ((Value.slice q (n + m) c).ownBlock = (a.eval s).ownBlock ∨ (Value.slice q (n + m) c).ownBlock = some w.heap.size) → wpList P ops Q rest (a.put o.dst (.slice q (n + m) c)) w') : wpList P ops Q (o :: rest) a w :=
  wpList_plain hgd fun _ hK => wp_append_row s x ho ht hi hz hsize hby hzs hown hs h63 hbytes fun q c w' h2 h3 h4 => hK _ _ (h q c w' h2 h3 h4)
end
/-- A row of bytes of one's own reads as these. -/
theorem rd_of_row {w : World} {e : TypeId} {v : Value} {n : Nat} {xs : List Int} (h : w.ownsRow 0 e 1 v n (bc xs)) : Rd w v xs := by
  have hl : xs.length = n := by have := h.1; simpa using this
  subst hl
  rcases h.2 with ⟨rfl, h0⟩ | ⟨g, cap, cur, rfl, _, hg, _, _, _, htake⟩
  · obtain rfl : xs = [] := List.eq_nil_of_length_eq_zero h0
    exact Rd.nil w
  · refine ⟨_, cap, rfl, .inr ⟨g, 0, rfl, fun i hi => ?_⟩⟩
    have := h.cells (g := g) rfl i (.int .u8 (xs.getD i 0)) (by simp [bc, List.getD, hi])
    rw [addr_add] at this
    exact this
end Go.Proofs.Ytamkmeigcmpkjaa
