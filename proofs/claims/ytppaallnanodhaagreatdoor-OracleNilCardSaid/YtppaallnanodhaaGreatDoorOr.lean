/-
  Package oracle: an oracle, its proposals and what waits to be paid, as cells in memory.
-/
import Derived.Test.YtppaallnanodhaaGreatDoorMem
import Derived.Test.YtppaallnanodhaaGreatDoorHash
import Derived.Deep.RegionHeld3
namespace Go.Proofs.YtppaallnanodhaaGreatDoor
set_option maxRecDepth 100000
open Go.RowKit

/-- A proposal. -/
structure Pr where
  nb : Int
  bs : Int
  at_ : Int
  st : Int
  rt : List Int
  fr : List Int
  who : Int
def Pr.row (p : Pr) : List Value := [.int .i64 p.nb, .int .i64 p.bs, .int .i64 p.at_, .int .i64 p.st] ++ (hc p.rt ++ (hc p.fr ++ [.int .u64 p.who]))
structure Pr.ok (p : Pr) : Prop where
  rt : p.rt.length = 32
  fr : p.fr.length = 32
theorem Pr.ok.len {p : Pr} (h : p.ok) : p.row.length = 69 := by simp [Pr.row, hc_len, h.rt, h.fr]
theorem Pr.one (p : Pr) : p.row.toArray.all (·.oneCell') = true := by
  refine all_oneCell_toArray fun v hv => ?_
  simp only [Pr.row, List.mem_append, List.mem_cons, List.not_mem_nil, or_false] at hv
  rcases hv with (rfl | rfl | rfl | rfl) | hv | hv | rfl
  any_goals rfl
  all_goals exact (Array.all_eq_true_iff_forall_mem.1 (hc_one _)) v (by simpa using hv)
def pr0 : Pr := ⟨0, 0, 0, 0, zero32, zero32, 0⟩
theorem pr0_ok : pr0.ok := ⟨zero32_len, zero32_len⟩

/-- A payment's cells. -/
def payRow (y : Int × Int) : List Value := [.int .u64 y.1, .int .i64 y.2]

/-- An oracle. -/
structure Or where
  wait : Int
  clock : Int
  num : Int
  root : List Int
  vP : Value
  vY : Value
  bonds : Int
def Or.row (o : Or) : List Value := [.int .i64 o.wait, .int .i64 o.clock, .int .i64 o.num] ++ (hc o.root ++ [o.vP, .slice none 0 0, o.vY, .int .i64 o.bonds])
theorem Or.len {o : Or} (h : o.root.length = 32) : o.row.length = 39 := by simp [Or.row, hc_len, h]

/-- Block p holds the oracle o. -/
def OrB (w : World) (p : Nat) (o : Or) : Prop := w.heap[p]? = some (.cells o.row.toArray 86 (0, 0))
section
variable {w w' : World} {p : Nat} {o : Or}
theorem OrB.lt (h : OrB w p o) : p < w.heap.size := (Array.getElem?_eq_some_iff.1 h).1
theorem OrB.cell (h : OrB w p o) (hr : o.root.length = 32) (i : Nat) : w.cell? ⟨p, 35 + i, none⟩ = [o.vP, .slice none 0 0, o.vY, .int .i64 o.bonds][i]? := by
  rw [cell_of_row _ _ _ _ _ _ h]
  simp only [Or.row]
  rw [List.getElem?_toArray, List.getElem?_append_right (by simp; omega), List.getElem?_append_right (by rw [hc_len, hr]; simp; omega), hc_len, hr]
  congr 1
  simp
  omega
theorem OrB.facts (h : OrB w p o) (hr : o.root.length = 32) : w.cell? ⟨p, 0, none⟩ = some (.int .i64 o.wait) ∧ w.cell? ⟨p, 2, none⟩ = some (.int .i64 o.num) ∧ rowOf w p 3 32 = hc o.root ∧
    w.cell? ⟨p, 35, none⟩ = some o.vP ∧ w.cell? ⟨p, 36, none⟩ = some (.slice none 0 0) ∧ w.cell? ⟨p, 37, none⟩ = some o.vY ∧ w.cell? ⟨p, 38, none⟩ = some (.int .i64 o.bonds) := by
  refine ⟨?_, ?_, ?_, h.cell hr 0, h.cell hr 1, h.cell hr 2, h.cell hr 3⟩
  · rw [cell_of_row _ _ _ _ _ _ h]; rfl
  · rw [cell_of_row _ _ _ _ _ _ h]; rfl
  · rw [rowOf_block h]
    simp [Or.row, hc_len, hr]
theorem OrB.free (h : OrB w p o) (i : Nat) : w.frozen? ⟨p, i, none⟩ = false := Joins.unfrozen_of_block h i
theorem OrB.there (h : OrB w p o) (hr : o.root.length = 32) {i n : Nat} (hi : i + n ≤ 39) : w.there p i n := fun j hj => by
  refine ⟨?_, h.free _⟩
  rw [cell_of_row _ _ _ _ _ _ h]
  have := Or.len hr
  simp [this]; omega
theorem OrB.chg {S : List Nat} (h : OrB w p o) (hc : Chg w w' S) (hp : p ∉ S) : OrB w' p o := by
  unfold OrB
  rw [hc.block p h.lt hp]; exact h
theorem OrB.on (h : OrB w p o) (hb : Below w.heap.size w w') : OrB w' p o := h.chg (S := []) (Chg.below hb (Nat.le_refl _) []) (by simp)
theorem OrB.alloc (h : OrB w p o) (x : Obj) : OrB (w.alloc x) p o := h.on ((Below.refl _ _).alloc (Nat.le_refl _) x)
theorem OrB.drew (h : OrB w p o) : OrB w.drew p o := h
theorem OrB.set2 (h : OrB w p o) (x : Int) : OrB (w.setCell ⟨p, 2, none⟩ (.int .i64 x)) p { o with num := x } := by
  have := setCells_block (b := p) (t := 86) (fr := (0, 0)) [.int .i64 x] (o := 2) (w := w) (pre := [.int .i64 o.wait, .int .i64 o.clock]) (mid := [.int .i64 o.num]) (post := hc o.root ++ [o.vP, .slice none 0 0, o.vY, .int .i64 o.bonds]) (by simpa [OrB, Or.row] using h) rfl rfl
  simpa [OrB, Or.row, World.setCells] using this
theorem OrB.setRoot (h : OrB w p o) (hr : o.root.length = 32) {F : List Int} (hF : F.length = 32) : OrB (w.setCells p 3 (hc F)) p { o with root := F } := by
  have := setCells_block (b := p) (t := 86) (fr := (0, 0)) (hc F) (o := 3) (w := w) (pre := [.int .i64 o.wait, .int .i64 o.clock, .int .i64 o.num]) (mid := hc o.root) (post := [o.vP, .slice none 0 0, o.vY, .int .i64 o.bonds]) (by simpa [OrB, Or.row] using h) rfl (by rw [hc_len, hc_len, hr, hF])
  simpa [OrB, Or.row] using this
theorem OrB.setP (h : OrB w p o) (hr : o.root.length = 32) (x : Value) : OrB (w.setCell ⟨p, 35, none⟩ x) p { o with vP := x } := by
  have := setCells_block (b := p) (t := 86) (fr := (0, 0)) [x] (o := 35) (w := w) (pre := [.int .i64 o.wait, .int .i64 o.clock, .int .i64 o.num] ++ hc o.root) (mid := [o.vP]) (post := [.slice none 0 0, o.vY, .int .i64 o.bonds]) (by simpa [OrB, Or.row] using h) (by simp [hc_len, hr]) rfl
  simpa [OrB, Or.row, World.setCells] using this
theorem OrB.setY (h : OrB w p o) (hr : o.root.length = 32) (x : Value) : OrB (w.setCell ⟨p, 37, none⟩ x) p { o with vY := x } := by
  have := setCells_block (b := p) (t := 86) (fr := (0, 0)) [x] (o := 37) (w := w) (pre := [.int .i64 o.wait, .int .i64 o.clock, .int .i64 o.num] ++ (hc o.root ++ [o.vP, .slice none 0 0])) (mid := [o.vY]) (post := [.int .i64 o.bonds]) (by simpa [OrB, Or.row] using h) (by simp [hc_len, hr]) rfl
  simpa [OrB, Or.row, World.setCells] using this
theorem OrB.setB (h : OrB w p o) (hr : o.root.length = 32) (x : Int) : OrB (w.setCell ⟨p, 38, none⟩ (.int .i64 x)) p { o with bonds := x } := by
  have := setCells_block (b := p) (t := 86) (fr := (0, 0)) [.int .i64 x] (o := 38) (w := w) (pre := [.int .i64 o.wait, .int .i64 o.clock, .int .i64 o.num] ++ (hc o.root ++ [o.vP, .slice none 0 0, o.vY])) (mid := [.int .i64 o.bonds]) (post := []) (by simpa [OrB, Or.row] using h) (by simp [hc_len, hr]) rfl
  simpa [OrB, Or.row, World.setCells] using this
end

/-! ### Rows of one's own, of whatever element -/
section
variable {w w' : World} {e : TypeId} {size : Nat} {v : Value} {n : Nat} {xs : List Value}
theorem own_lt (h : w.ownsRow 0 e size v n xs) {k : Nat} (hk : v.ownBlock = some k) : k < w.heap.size := by
  rcases h.2 with ⟨rfl, _⟩ | ⟨g, cap, cur, rfl, _, hg, _⟩
  · simp [Value.ownBlock] at hk
  · obtain rfl : g = k := by simpa [Value.ownBlock] using hk
    exact (Array.getElem?_eq_some_iff.1 hg).1
theorem own_ne (h : w.ownsRow 0 e size v n xs) {p : Nat} {cs : Array Value} {t : TypeId} {fr : Nat × Nat} (hp : w.heap[p]? = some (.cells cs t fr)) (ht : t ≠ e) : v.ownBlock ≠ some p := by
  rcases h.2 with ⟨rfl, _⟩ | ⟨g, cap, cur, rfl, _, hg, _⟩
  · simp [Value.ownBlock]
  · intro hk
    obtain rfl : g = p := by simpa [Value.ownBlock] using hk
    rw [hp] at hg
    simp at hg
    exact ht hg.2.1
theorem own_keep (h : w.ownsRow 0 e size v n xs) (hb : ∀ k, v.ownBlock = some k → w'.heap[k]? = w.heap[k]?) : w'.ownsRow 0 e size v n xs := by
  refine ⟨h.1, ?_⟩
  rcases h.2 with hn | ⟨g, cap, cur, rfl, hq, hg, r⟩
  · exact .inl hn
  · exact .inr ⟨g, cap, cur, rfl, hq, by rw [hb g rfl]; exact hg, r⟩
theorem own_chg {S : List Nat} (h : w.ownsRow 0 e size v n xs) (hc : Chg w w' S) (hS : ∀ k, v.ownBlock = some k → k ∉ S) : w'.ownsRow 0 e size v n xs :=
  own_keep h fun k hk => hc.block k (own_lt h hk) (hS k hk)
theorem own_two {e' : TypeId} {size' : Nat} {v' : Value} {n' : Nat} {xs' : List Value} (h : w.ownsRow 0 e size v n xs) (h' : w.ownsRow 0 e' size' v' n' xs') (ht : e ≠ e') {k : Nat} (hk : v.ownBlock = some k) : v'.ownBlock ≠ some k := by
  rcases h.2 with ⟨rfl, _⟩ | ⟨g, cap, cur, rfl, _, hg, _⟩
  · simp [Value.ownBlock] at hk
  · obtain rfl : g = k := by simpa [Value.ownBlock] using hk
    exact own_ne h' hg ht
end

/-- Where an oracle stands: behind what was made above a. -/
structure OSt (a w : World) (p : Nat) (o : Or) (L : List Pr) (Y : List (Int × Int)) : Prop where
  blk : OrB w p o
  root : o.root.length = 32
  all : ∀ x ∈ L, x.ok
  pr : w.ownsRow 0 54 69 o.vP L.length (L.flatMap Pr.row)
  pay : w.ownsRow 0 93 2 o.vY Y.length (Y.flatMap payRow)
  hp : a.heap.size ≤ p
  hP : ∀ k, o.vP.ownBlock = some k → a.heap.size ≤ k
  hY : ∀ k, o.vY.ownBlock = some k → a.heap.size ≤ k
  below : Below a.heap.size a w
section
variable {a w w' : World} {p : Nat} {o : Or} {L : List Pr} {Y : List (Int × Int)}
theorem OSt.neP (h : OSt a w p o L Y) : o.vP.ownBlock ≠ some p := own_ne h.pr h.blk (by decide)
theorem OSt.neY (h : OSt a w p o L Y) : o.vY.ownBlock ≠ some p := own_ne h.pay h.blk (by decide)
theorem OSt.on (h : OSt a w p o L Y) (hb : Below w.heap.size w w') : OSt a w' p o L Y := by
  have hc := Chg.below hb (Nat.le_refl _) []
  exact ⟨h.blk.on hb, h.root, h.all, own_chg h.pr hc (by simp), own_chg h.pay hc (by simp), h.hp, h.hP, h.hY, h.below.trans (hb.mono h.below.size)⟩
theorem OSt.alloc (h : OSt a w p o L Y) (x : Obj) : OSt a (w.alloc x) p o L Y := h.on ((Below.refl _ _).alloc (Nat.le_refl _) x)
theorem OSt.drew (h : OSt a w p o L Y) : OSt a w.drew p o L Y := h.on ((Below.refl _ _).drew)
/-- The cells of proposal i. -/
theorem flat_get {L : List Pr} (h : ∀ x ∈ L, x.ok) {i : Nat} (hi : i < L.length) {j : Nat} (hj : j < 69) : (L.flatMap Pr.row)[i * 69 + j]? = (L[i]).row[j]? := by
  induction L generalizing i with
  | nil => simp at hi
  | cons x L ih =>
    have hx := (h x (by simp)).len
    rw [List.flatMap_cons]
    cases i with
    | zero => rw [List.getElem?_append_left (by omega)]; simp
    | succ i =>
      rw [List.getElem?_append_right (by omega), hx, show (i + 1) * 69 + j - 69 = i * 69 + j by omega]
      simpa using ih (fun y hy => h y (by simp [hy])) (by simpa using hi)
theorem OSt.at (h : OSt a w p o L Y) {i : Nat} (hi : i < L.length) : ∃ g c, o.vP = .slice (some ⟨g, 0, none⟩) L.length c ∧ g < w.heap.size ∧ g ≠ p ∧ rowOf w g (i * 69) 69 = (L[i]).row ∧ w.cell? ⟨g, i * 69 + 3, none⟩ = some (.int .i64 (L[i]).st) ∧ w.frozen? ⟨g, i * 69 + 3, none⟩ = false := by
  have hne := h.neP
  have hlt := fun k => own_lt h.pr (k := k)
  rcases h.pr.2 with ⟨_, h0⟩ | ⟨g, cap, cur, e, _, hg, hn, _, hs, htake⟩
  · omega
  · rw [e] at hne hlt
    have hx := (h.all _ (List.getElem_mem hi)).len
    have hcur : ∀ j, j < 69 → cur[i * 69 + j]? = (L[i]).row[j]? := by
      intro j hj
      rw [← flat_get h.all hi hj, ← htake, List.getElem?_take_of_lt (by omega), ← Array.getElem?_toList]
    refine ⟨g, cap, e, hlt g rfl, fun e' => hne (by simp [Value.ownBlock, e']), ?_, ?_, Joins.unfrozen_of_block hg _⟩
    · rw [rowOf_block hg]
      refine List.ext_getElem? fun j => ?_
      have hsz : i * 69 + 69 ≤ cur.size := by omega
      rw [Array.getElem?_toList, Array.getElem?_extract]
      by_cases hj : j < 69
      · rw [if_pos (by omega), hcur j hj]
      · rw [if_neg (by omega), List.getElem?_eq_none (by omega)]
    · rw [cell_of_row _ _ _ _ _ _ hg, hcur 3 (by omega)]
      rfl
end
/-! ### What an append and a store leave -/
section
variable {a w w2 : World} {p : Nat} {o : Or} {L : List Pr} {Y : List (Int × Int)} {v : Value}
theorem OSt.appY (h : OSt a w p o L Y) (y : Int × Int) (own : w2.ownsRow 0 93 2 v (Y.length + 1) (Y.flatMap payRow ++ payRow y)) (grow : w.grownBy w2 o.vY.ownBlock)
    (fr : v.ownBlock = o.vY.ownBlock ∨ v.ownBlock = some w.heap.size) :
    OrB w2 p o ∧ OSt a (w2.setCell ⟨p, 37, none⟩ v) p { o with vY := v } L (Y ++ [y]) ∧ Chg w (w2.setCell ⟨p, 37, none⟩ v) (p :: o.vY.ownBlock.toList) := by
  have hc : Chg w w2 o.vY.ownBlock.toList := Chg.grown grow (fun k hk => by simp [hk])
  have hb : OrB w2 p o := h.blk.chg hc (by
    intro hm
    have := h.neY
    simp at hm
    exact this hm)
  have hc2 : Chg w (w2.setCell ⟨p, 37, none⟩ v) (p :: o.vY.ownBlock.toList) := (hc.mono (T := p :: o.vY.ownBlock.toList) (fun k hk _ => List.mem_cons.2 (.inr hk))).setCell (.inl (by simp)) _
  have hv : v.ownBlock ≠ some p := by
    rcases fr with e | e
    · rw [e]; exact h.neY
    · rw [e]; intro e'; have := h.blk.lt; simp at e'; omega
  refine ⟨hb, ⟨hb.setY h.root _, h.root, h.all, own_chg h.pr hc2 ?_, ?_, h.hp, h.hP, ?_, ?_⟩, hc2⟩
  · intro k hk hm
    rcases List.mem_cons.1 hm with rfl | hm
    · exact h.neP hk
    · exact own_two h.pr h.pay (by decide) hk (by simpa using hm)
  · have := own_keep (w' := w2.setCell ⟨p, 37, none⟩ v) own (fun k hk => Below.heap_setCell _ _ _ _ (by intro e; exact hv (by rw [hk]; simp at e; rw [e])))
    simpa using this
  · intro k hk
    rcases fr with e | e
    · exact h.hY k (by rw [← e]; exact hk)
    · have := h.below.size
      simp only at hk
      rw [e] at hk; simp at hk; omega
  · refine h.below.trans (hc2.toBelow h.below.size ?_)
    intro k hk
    rcases List.mem_cons.1 hk with rfl | hk
    · exact h.hp
    · exact h.hY k (by simpa using hk)
theorem OSt.appP (h : OSt a w p o L Y) {x : Pr} (hx : x.ok) (own : w2.ownsRow 0 54 69 v (L.length + 1) (L.flatMap Pr.row ++ x.row)) (grow : w.grownBy w2 o.vP.ownBlock)
    (fr : v.ownBlock = o.vP.ownBlock ∨ v.ownBlock = some w.heap.size) :
    OrB w2 p o ∧ OSt a (w2.setCell ⟨p, 35, none⟩ v) p { o with vP := v } (L ++ [x]) Y ∧ Chg w w2 o.vP.ownBlock.toList := by
  have hc : Chg w w2 o.vP.ownBlock.toList := Chg.grown grow (fun k hk => by simp [hk])
  have hb : OrB w2 p o := h.blk.chg hc (by
    intro hm
    have := h.neP
    simp at hm
    exact this hm)
  have hc2 : Chg w (w2.setCell ⟨p, 35, none⟩ v) (p :: o.vP.ownBlock.toList) := (hc.mono (T := p :: o.vP.ownBlock.toList) (fun k hk _ => List.mem_cons.2 (.inr hk))).setCell (.inl (by simp)) _
  have hv : v.ownBlock ≠ some p := by
    rcases fr with e | e
    · rw [e]; exact h.neP
    · rw [e]; intro e'; have := h.blk.lt; simp at e'; omega
  refine ⟨hb, ⟨hb.setP h.root _, h.root, ?_, ?_, own_chg h.pay hc2 ?_, h.hp, ?_, h.hY, ?_⟩, hc⟩
  · intro y hy
    rcases List.mem_append.1 hy with hy | hy
    · exact h.all y hy
    · obtain rfl := List.mem_singleton.1 hy
      exact hx
  · have := own_keep (w' := w2.setCell ⟨p, 35, none⟩ v) own (fun k hk => Below.heap_setCell _ _ _ _ (by intro e; exact hv (by rw [hk]; simp at e; rw [e])))
    simpa using this
  · intro k hk hm
    rcases List.mem_cons.1 hm with rfl | hm
    · exact h.neY hk
    · exact own_two h.pay h.pr (by decide) hk (by simpa using hm)
  · intro k hk
    rcases fr with e | e
    · exact h.hP k (by rw [← e]; exact hk)
    · have := h.below.size
      simp only at hk
      rw [e] at hk; simp at hk; omega
  · refine h.below.trans (hc2.toBelow h.below.size ?_)
    intro k hk
    rcases List.mem_cons.1 hk with rfl | hk
    · exact h.hp
    · exact h.hP k (by simpa using hk)
/-- A store in the oracle's own block. -/
theorem OSt.own (h : OSt a w p o L Y) {o' : Or} (hc : Chg w w2 [p]) (hb : OrB w2 p o') (hr : o'.root.length = 32) (hP : o'.vP = o.vP) (hY : o'.vY = o.vY) : OSt a w2 p o' L Y := by
  refine ⟨hb, hr, h.all, ?_, ?_, h.hp, by rw [hP]; exact h.hP, by rw [hY]; exact h.hY, h.below.trans (hc.toBelow h.below.size (by simpa using h.hp))⟩
  · rw [hP]
    exact own_chg h.pr hc (fun k hk hm => h.neP (by rw [hk, List.mem_singleton.1 hm]))
  · rw [hY]
    exact own_chg h.pay hc (fun k hk hm => h.neY (by rw [hk, List.mem_singleton.1 hm]))
theorem OSt.setB (h : OSt a w p o L Y) (x : Int) : OSt a (w.setCell ⟨p, 38, none⟩ (.int .i64 x)) p { o with bonds := x } L Y :=
  h.own ((Chg.refl w [p]).setCell (.inl (by simp)) _) (h.blk.setB h.root x) h.root rfl rfl
theorem OSt.setN (h : OSt a w p o L Y) (x : Int) : OSt a (w.setCell ⟨p, 2, none⟩ (.int .i64 x)) p { o with num := x } L Y :=
  h.own ((Chg.refl w [p]).setCell (.inl (by simp)) _) (h.blk.set2 x) h.root rfl rfl
theorem chg_setCells {a : World} {S : List Nat} {b : Nat} (hb : b ∈ S ∨ a.heap.size ≤ b) : ∀ (vs : List Value) (o : Nat) {w : World}, Chg a w S → Chg a (w.setCells b o vs) S
  | [], _, _, h => h
  | v :: vs, o, _, h => chg_setCells hb vs (o + 1) (Chg.setCell (p := ⟨b, o, none⟩) h hb v)
theorem OSt.setR (h : OSt a w p o L Y) {F : List Int} (hF : F.length = 32) : OSt a (w.setCells p 3 (hc F)) p { o with root := F } L Y :=
  h.own (chg_setCells (.inl (by simp)) _ _ (Chg.refl w [p])) (h.blk.setRoot h.root hF) hF rfl rfl
end
end Go.Proofs.YtppaallnanodhaaGreatDoor
