/-
  The readers' states, with or without an error.; What Get stands on.; What From stands on.; What the document reads of a proof's bytes.
-/
import Derived.Test.YtebeacejlkiglaaDoorMa1
import Derived.Test.YtebeacejlkiglaaDoorMa12
import Derived.Test.YtebeacejlkiglaaDoorMa21
namespace Go.Proofs.YtebeacejlkiglaaDoor
set_option maxRecDepth 100000
open Go.RowKit

/-! ### The program -/
/-- A reader's state: f tells whether there was an error. -/
structure RSt (w : World) (p : Nat) (v : Value) (xs : List Int) (pos : Nat) (f : Bool) : Prop where
  ok : f = false → RrV w p v xs pos
  bad : f = true → RrF w p
  lt : p < w.heap.size
theorem RSt.chg {w w' : World} {p : Nat} {v : Value} {xs : List Int} {pos : Nat} {f : Bool} (h : RSt w p v xs pos f) {K : List Nat} (hc : Chg w w' K) (hp : p ∉ K) (hv : ∀ g, v.ownBlock = some g → g ∉ K) : RSt w' p v xs pos f := by
  refine ⟨fun e => (h.ok e).chg hc hp hv, fun e => ?_, by have := hc.size; have := h.lt; omega⟩
  have := h.bad e
  unfold RrF at this ⊢
  rw [hc.block p h.lt hp]; exact this
theorem RSt.on {w w' : World} {p : Nat} {v : Value} {xs : List Int} {pos : Nat} {f : Bool} (h : RSt w p v xs pos f) (hb : Below w.heap.size w w') : RSt w' p v xs pos f := h.chg (K := []) (Chg.below hb (Nat.le_refl _) []) (by simp) (fun _ _ => by simp)
theorem RSt.mk0 {w : World} {p : Nat} {v : Value} {xs : List Int} {pos : Nat} (h : RrV w p v xs pos) : RSt w p v xs pos false := ⟨fun _ => h, fun e => by simp at e, h.lt⟩
theorem RSt.mk1 {w : World} {p : Nat} {v : Value} {xs : List Int} {pos : Nat} (h : RrF w p) : RSt w p v xs pos true := ⟨fun e => by simp at e, fun _ => h, h.lt⟩
theorem Count_st {w : World} {p : Nat} {v : Value} {xs : List Int} {pos most : Nat} {f : Bool} (h : RSt w p v xs pos f) (hx : Bytes xs) (hm : most ≤ 1000000) :
    Calls Tryd.prog 47 #[.pointer (some ⟨p, 0, none⟩), .int .i64 (most : Int)] w fun e w' => ∃ (z : Nat) (f' : Bool), e = .returned (.int .i64 z) ∧ z ≤ most ∧ RSt w' p v xs (pos + 8) f' ∧ Chg w w' [p] ∧ (f' = false → f = false ∧ pos + 8 ≤ xs.length ∧ num ((xs.drop pos).take 8) = z) ∧ (f' = true → f = true ∨ xs.length < pos + 8 ∨ (most : Int) < num ((xs.drop pos).take 8)) := by
  cases f with
  | true =>
    refine (Count_bad (most := (most : Int)) (h.bad rfl)).mono ?_
    rintro e w' ⟨rfl, h1, h2⟩
    exact ⟨0, true, rfl, Nat.zero_le _, RSt.mk1 h1, h2, fun e => by simp at e, fun _ => .inl rfl⟩
  | false =>
    have h0 := h.ok rfl
    by_cases hf : pos + 8 ≤ xs.length
    · have hb := num_bd (xs := (xs.drop pos).take 8) (fun x hx' => hx x (List.mem_of_mem_drop (List.mem_of_mem_take hx'))) 8 (by simp; omega)
      rw [List.take_of_length_le (l := (xs.drop pos).take 8) (by simp; omega)] at hb
      obtain ⟨z, hz⟩ : ∃ z : Nat, num ((xs.drop pos).take 8) = z := ⟨(num ((xs.drop pos).take 8)).toNat, by omega⟩
      by_cases hzm : z ≤ most
      · refine (Count_ok h0 hx hm hf hz hzm).mono ?_
        rintro e w' ⟨rfl, h1, h2⟩
        exact ⟨z, false, rfl, hzm, RSt.mk0 h1, h2, fun _ => ⟨rfl, hf, hz⟩, fun e => by simp at e⟩
      · refine (Count_big h0 hx hm hf (by rw [hz]; omega)).mono ?_
        rintro e w' ⟨rfl, h1, h2⟩
        exact ⟨0, true, rfl, Nat.zero_le _, RSt.mk1 h1, h2, fun e => by simp at e, fun _ => .inr (.inr (by rw [hz]; omega))⟩
    · refine (Count_end (most := (most : Int)) h0 (by omega)).mono ?_
      rintro e w' ⟨rfl, h1, h2⟩
      exact ⟨0, true, rfl, Nat.zero_le _, RSt.mk1 h1, h2, fun e => by simp at e, fun _ => .inr (.inl (by omega))⟩
theorem Hash_st {w : World} {p : Nat} {v : Value} {xs : List Int} {pos : Nat} {f : Bool} (h : RSt w p v xs pos f) (hx : Bytes xs) :
    Calls Tryd.prog 48 #[.pointer (some ⟨p, 0, none⟩)] w fun e w' => ∃ (F : List Int) (f' : Bool), e = .returned (.agg (hc F).toArray) ∧ F.length = 32 ∧ Bytes F ∧ RSt w' p v xs (pos + 32) f' ∧ Chg w w' [p] ∧ (f' = false → f = false ∧ pos + 32 ≤ xs.length ∧ (xs.drop pos).take 32 = F) ∧ (f' = true → f = true ∨ xs.length < pos + 32) := by
  have bz : Bytes zero32 := by
    intro x hx
    have e : ∀ x ∈ zero32, x = 0 := by decide
    rw [e x hx]; omega
  cases f with
  | true =>
    refine (Hash_bad (h.bad rfl)).mono ?_
    rintro e w' ⟨rfl, h1, h2⟩
    exact ⟨zero32, true, rfl, zero32_len, bz, RSt.mk1 h1, h2, fun e => by simp at e, fun _ => .inl rfl⟩
  | false =>
    have h0 := h.ok rfl
    by_cases hf : pos + 32 ≤ xs.length
    · have hl : ((xs.drop pos).take 32).length = 32 := by simp; omega
      refine (RHash_ok h0 hl hf rfl).mono ?_
      rintro e w' ⟨rfl, h1, h2⟩
      exact ⟨_, false, rfl, hl, fun x hx' => hx x (List.mem_of_mem_drop (List.mem_of_mem_take hx')), RSt.mk0 h1, h2, fun _ => ⟨rfl, hf, rfl⟩, fun e => by simp at e⟩
    · refine (Hash_end h0 (by omega)).mono ?_
      rintro e w' ⟨rfl, h1, h2⟩
      exact ⟨zero32, true, rfl, zero32_len, bz, RSt.mk1 h1, h2, fun e => by simp at e, fun _ => .inr (by omega)⟩
theorem Done_st {w : World} {p : Nat} {v : Value} {xs : List Int} {pos : Nat} {f : Bool} (h : RSt w p v xs pos f) :
    Calls Tryd.prog 49 #[.pointer (some ⟨p, 0, none⟩)] w fun e w' => ∃ (z : Int) (m : Nat), e = .returned (.int .i64 z) ∧ w' = w.drewN m ∧ (z = 0 ↔ f = false ∧ pos = xs.length) := by
  cases f with
  | true =>
    refine (Done_bad (h.bad rfl)).mono ?_
    rintro e w' ⟨z, hz, rfl, rfl⟩
    exact ⟨z, 0, rfl, rfl, ⟨fun e => absurd e hz, fun e => by simp at e⟩⟩
  | false =>
    have h0 := h.ok rfl
    have hle := h0.le
    by_cases hl : pos = xs.length
    · subst hl
      refine (Done_all h0).mono ?_
      rintro e w' ⟨m, rfl, rfl⟩
      exact ⟨0, m, rfl, rfl, by simp⟩
    · refine (Done_left h0 (by omega)).mono ?_
      rintro e w' ⟨m, rfl, rfl⟩
      exact ⟨21, m, rfl, rfl, by constructor <;> intro e <;> omega⟩

/-! ### The document -/
/-- A reader's state: f tells whether there was an error. -/
structure DSt (w : World) (p : Nat) (v : Value) (xs : List Int) (pos : Nat) (f : Bool) : Prop where
  ok : f = false → DrV w p v xs pos
  bad : f = true → DrF w p
  lt : p < w.heap.size
theorem DSt.chg {w w' : World} {p : Nat} {v : Value} {xs : List Int} {pos : Nat} {f : Bool} (h : DSt w p v xs pos f) {K : List Nat} (hc : Chg w w' K) (hp : p ∉ K) (hv : ∀ g, v.ownBlock = some g → g ∉ K) : DSt w' p v xs pos f := by
  refine ⟨fun e => (h.ok e).chg hc hp hv, fun e => ?_, by have := hc.size; have := h.lt; omega⟩
  have := h.bad e
  unfold DrF at this ⊢
  rw [hc.block p h.lt hp]; exact this
theorem DSt.on {w w' : World} {p : Nat} {v : Value} {xs : List Int} {pos : Nat} {f : Bool} (h : DSt w p v xs pos f) (hb : Below w.heap.size w w') : DSt w' p v xs pos f := h.chg (K := []) (Chg.below hb (Nat.le_refl _) []) (by simp) (fun _ _ => by simp)
theorem DSt.mk0 {w : World} {p : Nat} {v : Value} {xs : List Int} {pos : Nat} (h : DrV w p v xs pos) : DSt w p v xs pos false := ⟨fun _ => h, fun e => by simp at e, h.lt⟩
theorem DSt.mk1 {w : World} {p : Nat} {v : Value} {xs : List Int} {pos : Nat} (h : DrF w p) : DSt w p v xs pos true := ⟨fun e => by simp at e, fun _ => h, h.lt⟩
theorem rdCount_st {w : World} {p : Nat} {v : Value} {xs : List Int} {pos most : Nat} {f : Bool} (h : DSt w p v xs pos f) (hx : Bytes xs) (hm : most ≤ 1000000) :
    Calls Tryd.prog 67 #[.pointer (some ⟨p, 0, none⟩), .int .i64 (most : Int)] w fun e w' => ∃ (z : Nat) (f' : Bool), e = .returned (.int .i64 z) ∧ z ≤ most ∧ DSt w' p v xs (pos + 8) f' ∧ Chg w w' [p] ∧ (f' = false → f = false ∧ pos + 8 ≤ xs.length ∧ num ((xs.drop pos).take 8) = z) ∧ (f' = true → f = true ∨ xs.length < pos + 8 ∨ (most : Int) < num ((xs.drop pos).take 8)) := by
  cases f with
  | true =>
    refine (rdCount_bad (most := (most : Int)) (h.bad rfl)).mono ?_
    rintro e w' ⟨rfl, h1, h2⟩
    exact ⟨0, true, rfl, Nat.zero_le _, DSt.mk1 h1, h2, fun e => by simp at e, fun _ => .inl rfl⟩
  | false =>
    have h0 := h.ok rfl
    by_cases hf : pos + 8 ≤ xs.length
    · have hb := num_bd (xs := (xs.drop pos).take 8) (fun x hx' => hx x (List.mem_of_mem_drop (List.mem_of_mem_take hx'))) 8 (by simp; omega)
      rw [List.take_of_length_le (l := (xs.drop pos).take 8) (by simp; omega)] at hb
      obtain ⟨z, hz⟩ : ∃ z : Nat, num ((xs.drop pos).take 8) = z := ⟨(num ((xs.drop pos).take 8)).toNat, by omega⟩
      by_cases hzm : z ≤ most
      · refine (rdCount_ok h0 hx hm hf hz hzm).mono ?_
        rintro e w' ⟨rfl, h1, h2⟩
        exact ⟨z, false, rfl, hzm, DSt.mk0 h1, h2, fun _ => ⟨rfl, hf, hz⟩, fun e => by simp at e⟩
      · refine (rdCount_big h0 hx hm hf (by rw [hz]; omega)).mono ?_
        rintro e w' ⟨rfl, h1, h2⟩
        exact ⟨0, true, rfl, Nat.zero_le _, DSt.mk1 h1, h2, fun e => by simp at e, fun _ => .inr (.inr (by rw [hz]; omega))⟩
    · refine (rdCount_end (most := (most : Int)) h0 (by omega)).mono ?_
      rintro e w' ⟨rfl, h1, h2⟩
      exact ⟨0, true, rfl, Nat.zero_le _, DSt.mk1 h1, h2, fun e => by simp at e, fun _ => .inr (.inl (by omega))⟩
theorem rdHash_st {w : World} {p : Nat} {v : Value} {xs : List Int} {pos : Nat} {f : Bool} (h : DSt w p v xs pos f) (hx : Bytes xs) :
    Calls Tryd.prog 68 #[.pointer (some ⟨p, 0, none⟩)] w fun e w' => ∃ (F : List Int) (f' : Bool), e = .returned (.agg (hc F).toArray) ∧ F.length = 32 ∧ Bytes F ∧ DSt w' p v xs (pos + 32) f' ∧ Chg w w' [p] ∧ (f' = false → f = false ∧ pos + 32 ≤ xs.length ∧ (xs.drop pos).take 32 = F) ∧ (f' = true → f = true ∨ xs.length < pos + 32) := by
  have bz : Bytes zero32 := by
    intro x hx
    have e : ∀ x ∈ zero32, x = 0 := by decide
    rw [e x hx]; omega
  cases f with
  | true =>
    refine (rdHash_bad (h.bad rfl)).mono ?_
    rintro e w' ⟨rfl, h1, h2⟩
    exact ⟨zero32, true, rfl, zero32_len, bz, DSt.mk1 h1, h2, fun e => by simp at e, fun _ => .inl rfl⟩
  | false =>
    have h0 := h.ok rfl
    by_cases hf : pos + 32 ≤ xs.length
    · have hl : ((xs.drop pos).take 32).length = 32 := by simp; omega
      refine (rdHash_ok h0 hl hf rfl).mono ?_
      rintro e w' ⟨rfl, h1, h2⟩
      exact ⟨_, false, rfl, hl, fun x hx' => hx x (List.mem_of_mem_drop (List.mem_of_mem_take hx')), DSt.mk0 h1, h2, fun _ => ⟨rfl, hf, rfl⟩, fun e => by simp at e⟩
    · refine (rdHash_end h0 (by omega)).mono ?_
      rintro e w' ⟨rfl, h1, h2⟩
      exact ⟨zero32, true, rfl, zero32_len, bz, DSt.mk1 h1, h2, fun e => by simp at e, fun _ => .inr (by omega)⟩
theorem rdDone_st {w : World} {p : Nat} {v : Value} {xs : List Int} {pos : Nat} {f : Bool} (h : DSt w p v xs pos f) :
    Calls Tryd.prog 52 #[.pointer (some ⟨p, 0, none⟩)] w fun e w' => ∃ (z : Int) (m : Nat), e = .returned (.int .i64 z) ∧ w' = w.drewN m ∧ (z = 0 ↔ f = false ∧ pos = xs.length) := by
  cases f with
  | true =>
    refine (rdDone_bad (h.bad rfl)).mono ?_
    rintro e w' ⟨z, hz, rfl, rfl⟩
    exact ⟨z, 0, rfl, rfl, ⟨fun e => absurd e hz, fun e => by simp at e⟩⟩
  | false =>
    have h0 := h.ok rfl
    have hle := h0.le
    by_cases hl : pos = xs.length
    · subst hl
      refine (rdDone_all h0).mono ?_
      rintro e w' ⟨m, rfl, rfl⟩
      exact ⟨0, m, rfl, rfl, by simp⟩
    · refine (rdDone_left h0 (by omega)).mono ?_
      rintro e w' ⟨m, rfl, rfl⟩
      exact ⟨21, m, rfl, rfl, by constructor <;> intro e <;> omega⟩

end Go.Proofs.YtebeacejlkiglaaDoor
namespace Go.Proofs.YtebeacejlkiglaaDoor
set_option maxRecDepth 100000
open Go.RowKit

/-- Where Get's loop stands. -/
structure GtS (w wr : World) (T : TypeId) (p bp : Nat) (v1 : Value) (xs : List Int) (R : World → Prop) (z1 z2 : Int) (qa : Option Addr) (na ca : Nat) (acc : List (List Int)) : Prop where
  out : wr.heap[w.heap.size]? = some (.cells #[.int .i64 0, .int .i64 0, .slice none 0 0] T (0, 0))
  blk : wr.heap[bp]? = some (.cells #[.int .i64 z1, .int .i64 z2, .slice qa na ca] T (0, 0))
  hs : HsS w wr (.slice qa na ca) acc
  rd : R wr
  vo : wr.ownsRow 0 5 1 v1 xs.length (bc xs)
  pb : p ≠ bp
  ob : w.heap.size < bp
  op : w.heap.size < p
  ln : na = acc.length
theorem GtS.hash {w wr w6 : World} {T : TypeId} {p bp : Nat} {v1 : Value} {xs : List Int} {R R' : World → Prop} {z1 z2 : Int} {qa : Option Addr} {na ca : Nat} {acc : List (List Int)} (h : GtS w wr T p bp v1 xs R z1 z2 qa na ca acc) (hc : Chg wr w6 [p]) (hR : R' w6)
    (hp : ∀ g, (Value.slice qa na ca).ownBlock = some g → g ≠ p) (hv : ∀ g, v1.ownBlock = some g → g ≠ p) : GtS w w6 T p bp v1 xs R' z1 z2 qa na ca acc := by
  have ho := h.op
  refine ⟨?_, ?_, ⟨own_chg2 h.hs.own hc (fun g hg hm => hp g hg (by simpa using hm)), h.hs.ok, h.hs.fresh, h.hs.below.trans (hc.toBelow h.hs.below.size (fun k hk => by simp at hk; omega))⟩, hR, own_chg2 h.vo hc (fun g hg hm => hv g hg (by simpa using hm)), h.pb, h.ob, h.op, h.ln⟩
  · rw [hc.block _ (Array.getElem?_eq_some_iff.1 h.out).1 (by simp; omega)]; exact h.out
  · rw [hc.block _ (Array.getElem?_eq_some_iff.1 h.blk).1 (by have := h.pb; simp; omega)]; exact h.blk
theorem GtS.push {w w6 w8 : World} {T : TypeId} {p bp : Nat} {v1 : Value} {xs : List Int} {R : World → Prop} {z1 z2 : Int} {qa q8 : Option Addr} {na ca k8 : Nat} {acc : List (List Int)} {F : List Int} (h : GtS w w6 T p bp v1 xs R z1 z2 qa na ca acc) (hT : T ≠ 36) (hTU : T ≠ 5) (hp : ∀ g, (Value.slice qa na ca).ownBlock = some g → g ≠ p) (hF : F.length = 32) (bF : Bytes F)
    (own : w8.ownsRow 0 36 32 (.slice q8 (na + 1) k8) (na + 1) (hcs acc ++ hcs [F])) (grow : (w6.alloc (.cells (hc F).toArray 36)).grownBy w8 (Value.slice qa na ca).ownBlock) (fr : (Value.slice q8 (na + 1) k8).ownBlock = (Value.slice qa na ca).ownBlock ∨ (Value.slice q8 (na + 1) k8).ownBlock = some (w6.alloc (.cells (hc F).toArray 36)).heap.size)
    (hR : ∀ K w', Chg w6 w' K → (∀ g, g ∈ K → g ≠ p) → (∀ g, v1.ownBlock = some g → g ∉ K) → R w') :
    w8.heap[bp]? = some (.cells #[.int .i64 z1, .int .i64 z2, .slice qa na ca] T (0, 0)) ∧ GtS w (w8.setCell ⟨bp, 2, none⟩ (.slice q8 (na + 1) k8)) T p bp v1 xs R z1 z2 q8 (na + 1) k8 (acc ++ [F]) := by
  have hln := h.ln
  subst hln
  have b7 : Below w6.heap.size w6 (w6.alloc (.cells (hc F).toArray 36)) := (Below.refl _ _).alloc (Nat.le_refl _) _
  have c8 : Chg (w6.alloc (.cells (hc F).toArray 36)) w8 (Value.slice qa acc.length ca).ownBlock.toList := Chg.grown grow (fun g hg => by simp [hg])
  have c68 : Chg w6 w8 (Value.slice qa acc.length ca).ownBlock.toList := (Chg.below b7 (Nat.le_refl _) _).trans c8 (fun x hx _ => hx)
  have own0 := h.hs.own
  have e1 : w8.heap[bp]? = some (.cells #[.int .i64 z1, .int .i64 z2, .slice qa acc.length ca] T (0, 0)) := by
    rw [c68.block bp (Array.getElem?_eq_some_iff.1 h.blk).1 (fun hm => own_ne own0 h.blk hT (by simpa using hm))]; exact h.blk
  have e2 : w8.heap[w.heap.size]? = some (.cells #[.int .i64 0, .int .i64 0, .slice none 0 0] T (0, 0)) := by
    rw [c68.block _ (Array.getElem?_eq_some_iff.1 h.out).1 (fun hm => own_ne own0 h.out hT (by simpa using hm))]; exact h.out
  have h8 : HsS w w8 (.slice q8 (acc.length + 1) k8) (acc ++ [F]) := (h.hs.on b7).grow (HsOk.one hF bF) rfl own grow fr
  have hne : (Value.slice q8 (acc.length + 1) k8).ownBlock ≠ some bp := own_ne own e1 hT
  have hvn : ∀ g, v1.ownBlock = some g → g ∉ (Value.slice qa acc.length ca).ownBlock.toList := fun g hg hm => own_two h.vo own0 (by decide) hg (by simpa using hm)
  have v8 := own_chg2 h.vo c68 hvn
  have hvb : v1.ownBlock ≠ some bp := own_ne v8 e1 hTU
  have cF : Chg w6 (w8.setCell ⟨bp, 2, none⟩ (.slice q8 (acc.length + 1) k8)) (bp :: (Value.slice qa acc.length ca).ownBlock.toList) := (c68.mono (fun k hk _ => List.mem_cons_of_mem _ hk)).setCell (.inl (by simp)) _
  have hob := h.ob
  refine ⟨e1, ?_, Joins.block_setCell e1 _, ⟨own_keep h8.own (fun j hj => ?_), h8.ok, h8.fresh, h8.below.setCell (p := ⟨bp, 2, none⟩) (by simp; omega) _⟩, ?_, own_keep v8 (fun j hj => ?_), h.pb, h.ob, h.op, by simp⟩
  · rw [Below.heap_setCell _ _ _ _ (by simp; omega)]; exact e2
  · rw [Below.heap_setCell _ _ _ _ (fun (e : j = bp) => hne (e ▸ hj))]
  · refine hR _ _ cF (fun g hg => ?_) (fun g hg hm => ?_)
    · rcases List.mem_cons.1 hg with rfl | hg
      · exact fun e => h.pb e.symm
      · exact hp g (by simpa using hg)
    · rcases List.mem_cons.1 hm with rfl | hm
      · exact hvb hg
      · exact hvn g hg hm
  · rw [Below.heap_setCell _ _ _ _ (fun (e : j = bp) => hvb (e ▸ hj))]
end Go.Proofs.YtebeacejlkiglaaDoor
namespace Go.Proofs.YtebeacejlkiglaaDoor
set_option maxRecDepth 100000
open Go.RowKit

/-- Where From's loop stands. -/
structure GdS (w wr : World) (T : TypeId) (p bo bp : Nat) (v1 : Value) (xs : List Int) (R : World → Prop) (z1 z2 : Int) (qa : Option Addr) (na ca : Nat) (acc : List (List Int)) : Prop where
  out : wr.heap[bo]? = some (.cells #[.int .i64 0, .int .i64 0, .slice none 0 0] T (0, 0))
  blk : wr.heap[bp]? = some (.cells #[.int .i64 z1, .int .i64 z2, .slice qa na ca] T (0, 0))
  hs : HsS w wr (.slice qa na ca) acc
  rd : R wr
  vo : wr.ownsRow 0 5 1 v1 xs.length (bc xs)
  pb : p ≠ bp
  ob : bo ≠ bp ∧ w.heap.size ≤ bp
  op : w.heap.size ≤ p ∧ bo ≠ p
  ln : na = acc.length
theorem GdS.hash {w wr w6 : World} {T : TypeId} {p bo bp : Nat} {v1 : Value} {xs : List Int} {R R' : World → Prop} {z1 z2 : Int} {qa : Option Addr} {na ca : Nat} {acc : List (List Int)} (h : GdS w wr T p bo bp v1 xs R z1 z2 qa na ca acc) (hc : Chg wr w6 [p]) (hR : R' w6)
    (hp : ∀ g, (Value.slice qa na ca).ownBlock = some g → g ≠ p) (hv : ∀ g, v1.ownBlock = some g → g ≠ p) : GdS w w6 T p bo bp v1 xs R' z1 z2 qa na ca acc := by
  have ho := h.op
  refine ⟨?_, ?_, ⟨own_chg2 h.hs.own hc (fun g hg hm => hp g hg (by simpa using hm)), h.hs.ok, h.hs.fresh, h.hs.below.trans (hc.toBelow h.hs.below.size (fun k hk => by simp at hk; omega))⟩, hR, own_chg2 h.vo hc (fun g hg hm => hv g hg (by simpa using hm)), h.pb, h.ob, h.op, h.ln⟩
  · rw [hc.block _ (Array.getElem?_eq_some_iff.1 h.out).1 (by simp; omega)]; exact h.out
  · rw [hc.block _ (Array.getElem?_eq_some_iff.1 h.blk).1 (by have := h.pb; simp; omega)]; exact h.blk
theorem GdS.push {w w6 w8 : World} {T : TypeId} {p bo bp : Nat} {v1 : Value} {xs : List Int} {R : World → Prop} {z1 z2 : Int} {qa q8 : Option Addr} {na ca k8 : Nat} {acc : List (List Int)} {F : List Int} (h : GdS w w6 T p bo bp v1 xs R z1 z2 qa na ca acc) (hT : T ≠ 36) (hTU : T ≠ 5) (hp : ∀ g, (Value.slice qa na ca).ownBlock = some g → g ≠ p) (hF : F.length = 32) (bF : Bytes F)
    (own : w8.ownsRow 0 36 32 (.slice q8 (na + 1) k8) (na + 1) (hcs acc ++ hcs [F])) (grow : (w6.alloc (.cells (hc F).toArray 36)).grownBy w8 (Value.slice qa na ca).ownBlock) (fr : (Value.slice q8 (na + 1) k8).ownBlock = (Value.slice qa na ca).ownBlock ∨ (Value.slice q8 (na + 1) k8).ownBlock = some (w6.alloc (.cells (hc F).toArray 36)).heap.size)
    (hR : ∀ K w', Chg w6 w' K → (∀ g, g ∈ K → g ≠ p) → (∀ g, v1.ownBlock = some g → g ∉ K) → R w') :
    w8.heap[bp]? = some (.cells #[.int .i64 z1, .int .i64 z2, .slice qa na ca] T (0, 0)) ∧ GdS w (w8.setCell ⟨bp, 2, none⟩ (.slice q8 (na + 1) k8)) T p bo bp v1 xs R z1 z2 q8 (na + 1) k8 (acc ++ [F]) := by
  have hln := h.ln
  subst hln
  have b7 : Below w6.heap.size w6 (w6.alloc (.cells (hc F).toArray 36)) := (Below.refl _ _).alloc (Nat.le_refl _) _
  have c8 : Chg (w6.alloc (.cells (hc F).toArray 36)) w8 (Value.slice qa acc.length ca).ownBlock.toList := Chg.grown grow (fun g hg => by simp [hg])
  have c68 : Chg w6 w8 (Value.slice qa acc.length ca).ownBlock.toList := (Chg.below b7 (Nat.le_refl _) _).trans c8 (fun x hx _ => hx)
  have own0 := h.hs.own
  have e1 : w8.heap[bp]? = some (.cells #[.int .i64 z1, .int .i64 z2, .slice qa acc.length ca] T (0, 0)) := by
    rw [c68.block bp (Array.getElem?_eq_some_iff.1 h.blk).1 (fun hm => own_ne own0 h.blk hT (by simpa using hm))]; exact h.blk
  have e2 : w8.heap[bo]? = some (.cells #[.int .i64 0, .int .i64 0, .slice none 0 0] T (0, 0)) := by
    rw [c68.block _ (Array.getElem?_eq_some_iff.1 h.out).1 (fun hm => own_ne own0 h.out hT (by simpa using hm))]; exact h.out
  have h8 : HsS w w8 (.slice q8 (acc.length + 1) k8) (acc ++ [F]) := (h.hs.on b7).grow (HsOk.one hF bF) rfl own grow fr
  have hne : (Value.slice q8 (acc.length + 1) k8).ownBlock ≠ some bp := own_ne own e1 hT
  have hvn : ∀ g, v1.ownBlock = some g → g ∉ (Value.slice qa acc.length ca).ownBlock.toList := fun g hg hm => own_two h.vo own0 (by decide) hg (by simpa using hm)
  have v8 := own_chg2 h.vo c68 hvn
  have hvb : v1.ownBlock ≠ some bp := own_ne v8 e1 hTU
  have cF : Chg w6 (w8.setCell ⟨bp, 2, none⟩ (.slice q8 (acc.length + 1) k8)) (bp :: (Value.slice qa acc.length ca).ownBlock.toList) := (c68.mono (fun k hk _ => List.mem_cons_of_mem _ hk)).setCell (.inl (by simp)) _
  have hob := h.ob
  refine ⟨e1, ?_, Joins.block_setCell e1 _, ⟨own_keep h8.own (fun j hj => ?_), h8.ok, h8.fresh, h8.below.setCell (p := ⟨bp, 2, none⟩) (by simp; omega) _⟩, ?_, own_keep v8 (fun j hj => ?_), h.pb, h.ob, h.op, by simp⟩
  · rw [Below.heap_setCell _ _ _ _ (by simp; omega)]; exact e2
  · rw [Below.heap_setCell _ _ _ _ (fun (e : j = bp) => hne (e ▸ hj))]
  · refine hR _ _ cF (fun g hg => ?_) (fun g hg hm => ?_)
    · rcases List.mem_cons.1 hg with rfl | hg
      · exact fun e => h.pb e.symm
      · exact hp g (by simpa using hg)
    · rcases List.mem_cons.1 hm with rfl | hm
      · exact hvb hg
      · exact hvn g hg hm
  · rw [Below.heap_setCell _ _ _ _ (fun (e : j = bp) => hvb (e ▸ hj))]
end Go.Proofs.YtebeacejlkiglaaDoor
namespace Go.Proofs.YtebeacejlkiglaaDoor
set_option maxRecDepth 100000
open Go.RowKit

def FromP (wb w : World) (p : Nat) (v1 : Value) (xs : List Int) (e : Ending) (w' : World) : Prop := ∃ (z1 z2 z3 : Nat) (q : Option Addr) (n k : Nat) (acc : List (List Int)) (f : Bool) (m : Nat), e = .returned (.agg #[.int .i64 (z1 : Int), .int .i64 (z2 : Int), .slice q n k]) ∧ HsS wb w' (.slice q n k) acc ∧ n = acc.length ∧ n ≤ 40 ∧ DSt w' p v1 xs m f ∧ Chg w w' [p] ∧ (f = false → num ((xs.drop 0).take 8) = z1 ∧ num ((xs.drop 8).take 8) = z2 ∧ num ((xs.drop 16).take 8) = z3 ∧ m = 24 + 32 * z3 ∧ m ≤ xs.length ∧ acc = chunks z3 (xs.drop 24)) ∧ (f = true → ∀ p c Ss, ¬ Told xs p c Ss)

set_option maxHeartbeats 16000000 in
theorem From_any' {wb w : World} {p : Nat} {v1 : Value} {xs : List Int} (hB : Below wb.heap.size wb w) (hp : wb.heap.size ≤ p) (hV : DrV w p v1 xs 0) (hx : Bytes xs) :
    Calls Tryd.prog 51 #[.pointer (some ⟨p, 0, none⟩)] w (FromP wb w p v1 xs) := by
  obtain ⟨i0, hi, hz0, hz1, hz2⟩ := info_parts Tryd.infoHs
  replace hi := Lib.hid hi
  replace hz0 := Lib.hid hz0
  replace hz1 := Lib.hid hz1
  replace hz2 := Lib.hid hz2
  have HX := Lib.hid hx
  have hpw := hV.lt
  have b0 : Below w.heap.size w (w.alloc (.cells #[.int .i64 0, .int .i64 0, .slice none 0 0] 32)) := (Below.refl _ _).alloc (Nat.le_refl _) _
  have HO := Lib.hid (heap_alloc_new w (.cells #[.int .i64 0, .int .i64 0, .slice none 0 0] 32))
  have HV1 : Hid (∀ g, v1.ownBlock = some g → g ≠ p) := fun g hg e => hV.ne (e ▸ hg)
  have HVW : Hid (∀ g, v1.ownBlock = some g → g < w.heap.size) := fun g hg => own_lt hV.own hg
  have VO0 := Lib.hid (own_on hV.own b0)
  have S0 := Lib.hid (DSt.mk0 (hV.on b0))
  have HBW := Lib.hid hB
  have C0 : Hid (Chg w (w.alloc (.cells #[.int .i64 0, .int .i64 0, .slice none 0 0] 32)) [p]) := Chg.below b0 (Nat.le_refl _) [p]
  clear hx hV hB b0
  go_enter Tryd.func51, Tryd.ntmps51
  go_wp2_with fail
  generalize w.alloc (.cells #[.int .i64 0, .int .i64 0, .slice none 0 0] 32) = w0 at *
  refine (rdCount_st (most := 65536) S0.out HX.out (by omega)).mono ?_
  rintro e w2 ⟨z1, f1, rfl, hz1m, hs2, hc2, g1, g1'⟩
  have b3 : Below w2.heap.size w2 (w2.alloc (.cells #[.int .i64 (z1 : Int), .int .i64 0, .slice none 0 0] 32)) := (Below.refl _ _).alloc (Nat.le_refl _) _
  have hob : Hid (w.heap.size < w2.heap.size) := by have h1 := (Array.getElem?_eq_some_iff.1 HO.out).1; have h2 := hc2.size; show _ < _; omega
  have HO3 : Hid ((w2.alloc (.cells #[.int .i64 (z1 : Int), .int .i64 0, .slice none 0 0] 32)).heap[w.heap.size]? = some (.cells #[.int .i64 0, .int .i64 0, .slice none 0 0] 32 (0, 0))) := blk_onB2 (show w2.heap[w.heap.size]? = _ by rw [hc2.block _ (Array.getElem?_eq_some_iff.1 HO.out).1 (by simp; omega)]; exact HO.out) b3
  have VO3 := Lib.hid (own_on (own_chg2 VO0.out hc2 (fun g hg hm => HV1.out g hg (by simpa using hm))) b3)
  have S3 := Lib.hid (hs2.on b3)
  have HB3 := Lib.hid (heap_alloc_new w2 (.cells #[.int .i64 (z1 : Int), .int .i64 0, .slice none 0 0] 32))
  have C3 : Hid (Chg w (w2.alloc (.cells #[.int .i64 (z1 : Int), .int .i64 0, .slice none 0 0] 32)) [p]) := (C0.out.trans hc2 (fun x hx _ => hx)).trans (Chg.below b3 (Nat.le_refl _) [p]) (fun x hx _ => hx)
  have hbp0 : p < w2.heap.size := hs2.lt
  have G1 := Lib.hid g1
  have G1' := Lib.hid g1'
  have K4 := Lib.hid (rdCount_st (most := 65536) S3.out HX.out (by omega))
  clear hs2 hc2 g1 g1' b3 S0 VO0 HO C0
  go_wp2_with fail
  generalize (w2.alloc (.cells #[.int .i64 (z1 : Int), .int .i64 0, .slice none 0 0] 32)) = w3 at *
  have hbp : w.heap.size ≤ w2.heap.size := by have := hob.out; omega
  generalize w2.heap.size = bp at *
  refine K4.out.mono ?_
  rintro e w4 ⟨z2, f2, rfl, hz2m, hs4, hc4, g2, g2'⟩
  have hpb : p ≠ bp := by omega
  have HB4 : w4.heap[bp]? = some (.cells #[.int .i64 (z1 : Int), .int .i64 0, .slice none 0 0] 32 (0, 0)) := by rw [hc4.block _ (Array.getElem?_eq_some_iff.1 HB3.out).1 (by simp; omega)]; exact HB3.out
  have x1 := (Joins.cell_of_block HB4 1).trans (rfl : _ = some _)
  have k1 := Joins.unfrozen_of_block HB4 1
  have cS : Chg w4 (w4.setCell ⟨bp, 1, none⟩ (.int .i64 (z2 : Int))) [bp] := (Chg.refl _ _).setCell (.inl (by simp)) _
  have HB5 : Hid ((w4.setCell ⟨bp, 1, none⟩ (.int .i64 (z2 : Int))).heap[bp]? = some (.cells #[.int .i64 (z1 : Int), .int .i64 (z2 : Int), .slice none 0 0] 32 (0, 0))) := Joins.block_setCell HB4 _
  have vbp : ∀ g, v1.ownBlock = some g → g ≠ bp := fun g hg => by have := HVW.out g hg; omega
  have VO5 := Lib.hid (own_chg2 (own_chg2 VO3.out hc4 (fun g hg hm => HV1.out g hg (by simpa using hm))) cS (fun g hg hm => vbp g hg (by simpa using hm)))
  have HO5 : Hid ((w4.setCell ⟨bp, 1, none⟩ (.int .i64 (z2 : Int))).heap[w.heap.size]? = some (.cells #[.int .i64 0, .int .i64 0, .slice none 0 0] 32 (0, 0))) := by
    have := hob.out
    show _ = _
    rw [Below.heap_setCell _ _ _ _ (by simp; omega), hc4.block _ (Array.getElem?_eq_some_iff.1 HO3.out).1 (by simp; omega)]; exact HO3.out
  have S5 := Lib.hid (hs4.chg cS (by simp; omega) (fun g hg hm => vbp g hg (by simpa using hm)))
  have C5 : Hid (Chg w (w4.setCell ⟨bp, 1, none⟩ (.int .i64 (z2 : Int))) [p]) := (C3.out.trans hc4 (fun x hx _ => hx)).setCell (.inr hbp) _
  have G2 := Lib.hid g2
  have G2' := Lib.hid g2'
  have K6 := Lib.hid (rdCount_st (most := 32) S5.out HX.out (by omega))
  clear hs4 hc4 g2 g2' S3 VO3 HO3 HB3 C3 HB4 cS
  go_wp2_with fail
  clear x1 k1
  generalize w4.setCell ⟨bp, 1, none⟩ (.int .i64 (z2 : Int)) = w5 at *
  refine K6.out.mono ?_
  rintro e w6 ⟨z3, f3, rfl, hz3m, hs6, hc6, g3, g3'⟩
  have HNP0 : Hid (∀ g, (Value.slice none 0 0).ownBlock = some g → g ≠ p) := fun g hg => by simp [Value.ownBlock] at hg
  have HFR0 : Hid (∀ g, (Value.slice none 0 0).ownBlock = some g → w.heap.size ≤ g) := fun g hg => by simp [Value.ownBlock] at hg
  have C6 : Hid (Chg w w6 [p]) := C5.out.trans hc6 (fun x hx _ => hx)
  have BW6 : Below wb.heap.size wb w6 := HBW.out.trans (C6.out.toBelow HBW.out.size (fun k hk => by simp at hk; omega))
  have S6 : Hid (GdS wb w6 32 p w.heap.size bp v1 xs (fun W => DSt W p v1 xs (24 + 32 * 0) f3) z1 z2 none 0 0 []) := by
    have := hob.out
    have := HBW.out.size
    refine ⟨?_, ?_, ⟨World.ownsRow_nil w6 0 _ 32, HsOk.nil, by simp [Value.ownBlock], BW6⟩, hs6, own_chg2 VO5.out hc6 (fun g hg hm => HV1.out g hg (by simpa using hm)), hpb, ⟨by omega, by omega⟩, ⟨by omega, by omega⟩, rfl⟩
    · rw [hc6.block _ (Array.getElem?_eq_some_iff.1 HO5.out).1 (by simp; omega)]; exact HO5.out
    · rw [hc6.block _ (Array.getElem?_eq_some_iff.1 HB5.out).1 (by simp; omega)]; exact HB5.out
  have GA : Hid (f3 = false → 24 ≤ xs.length ∧ num ((xs.drop 0).take 8) = z1 ∧ num ((xs.drop 8).take 8) = z2 ∧ num ((xs.drop 16).take 8) = z3) := fun e => by
    obtain ⟨e3, l3, n3⟩ := g3 e
    obtain ⟨e2, l2, n2⟩ := G2.out e3
    obtain ⟨e1, l1, n1⟩ := G1.out e2
    exact ⟨by omega, n1, n2, n3⟩
  have GB : Hid (f3 = true → ∀ p c Ss, ¬ Told xs p c Ss) := fun e p' c' Ss ht => by
    obtain ⟨b1, b2, b3, -⟩ := ht.bounds
    obtain ⟨l, n1, n2, n3, -⟩ := ht.nums
    have q1 : f1 = true → False := fun e => by
      rcases G1'.out e with h | h | h
      · simp at h
      · omega
      · have n1' : num ((xs.drop 0).take 8) = p' := n1
        omega
    have q2 : f2 = true → False := fun e => by
      rcases G2'.out e with h | h | h
      · exact q1 h
      · omega
      · have n2' : num ((xs.drop (0 + 8)).take 8) = c' := n2
        omega
    rcases g3' e with h | h | h
    · exact q2 h
    · omega
    · have n3' : num ((xs.drop (0 + 8 + 8)).take 8) = Ss.length := n3
      omega
  clear hs6 hc6 g3 g3' S5 VO5 HO5 HB5 C5 K6 G1 G1' G2 G2' BW6
  go_wp2_with fail
  go_loopw [5] (fun iv wr => ∃ (i : Nat) (f : Bool) (qa : Option Addr) (na ca : Nat) (acc : List (List Int)), iv = .int .i64 i ∧ i ≤ z3 ∧ na ≤ i ∧ i ≤ na ∧ Hid (f = false → f3 = false ∧ 24 + 32 * i ≤ xs.length ∧ acc = chunks i (xs.drop 24)) ∧ Hid (f = true → f3 = true ∨ xs.length < 24 + 32 * i) ∧ Hid (∀ g, (Value.slice qa na ca).ownBlock = some g → g ≠ p) ∧ Hid (∀ g, (Value.slice qa na ca).ownBlock = some g → w.heap.size ≤ g) ∧ Hid (Chg w wr [p]) ∧ Hid (GdS wb wr 32 p w.heap.size bp v1 xs (fun W => DSt W p v1 xs (24 + 32 * i) f) z1 z2 qa na ca acc)) (fun iv _ => z3 - (intOf iv).toNat)
  case atStart => exact ⟨0, f3, none, 0, 0, [], rfl, by omega, by omega, by omega, (fun e => ⟨e, by have := (GA.out e).1; omega, by simp [chunks]⟩), (fun e => .inl e), HNP0, HFR0, C6, S6⟩
  case round =>
    clear S6 HNP0 HFR0 C6
    obtain ⟨i, f, qa, na, ca, acc, rfl, hi3, hna, hna', HF0, HF1, HNP, HFR, HCH, hS⟩ := hrel
    have c2 := (Joins.cell_of_block hS.out.blk 2).trans (rfl : _ = some _)
    by_cases hgo : i < z3 ∧ f = false
    · obtain ⟨hlt, hff⟩ := hgo
      have ce := (Joins.cell_of_block (hS.out.rd.ok hff).blk 2).trans (rfl : _ = some _)
      have hltI : (i : Int) < (z3 : Int) := by omega
      go_wp2_with fail
      refine wp_region_held_drew (S := fun _ => True) (by kernel_rfl) (trivial) (fun h0 => ?_)
      refine wpAnyH_take (i := 0) (v := ?_) (by rw [List.getElem?_toArray]; rfl) (by kernel_rfl) (by kernel_rfl) (by kernel_rfl) (by exact fun _ _ _ h => h) (Or.inl ⟨by rfl, ?_⟩) h0 ?_
      rotate_left
      · intro W hW
        go_simp
        all_goals with_reducible rfl
      try simp only [Act.put, List.setIfInBounds_toArray, List.set_cons_zero, List.set_cons_succ]
      refine wpAnyH_take (i := 2) (v := ?_) (by rw [List.getElem?_toArray]; rfl) (by kernel_rfl) (by kernel_rfl) (by kernel_rfl) (by exact fun _ _ _ h => h) (Or.inl ⟨by rfl, ?_⟩) h0 ?_
      rotate_left
      · intro W hW
        go_simp
        all_goals with_reducible rfl
      try simp only [Act.put, List.setIfInBounds_toArray, List.set_cons_zero, List.set_cons_succ]
      refine wpAnyH_ready (rs := [1, 3]) (by kernel_rfl) (by simp) ?_
      refine AllReadyH.cons (by rw [List.getElem?_toArray]; rfl) (fun K hK => ?_) (AllReadyH.cons (by rw [List.getElem?_toArray]; rfl) (fun K hK => ?_) AllReadyH.nil)
      · rw [if_pos (by rfl)]
        go_wp2_with fail
        refine hK.out _ _ (trivial) (fun h1 => ?_)
        clear hK K
        try simp only [Act.put, List.setIfInBounds_toArray, List.set_cons_zero, List.set_cons_succ]
        refine wpAnyH_ready (rs := [3]) (by kernel_rfl) (by simp) ?_
        refine AllReadyH.cons (by rw [List.getElem?_toArray]; rfl) (fun K hK => ?_) AllReadyH.nil
        rw [if_pos (by rfl)]
        go_wp2_with fail
        refine (rdHash_st (hS.out.rd.on ((Below.refl _ _).drew)) HX.out).mono ?_
        rintro e w6 ⟨Fh, f', rfl, hF, bF, h6, hc6, hf0, hf1⟩
        have lF := hc_len Fh
        have hc6' : Chg wr w6 [p] := (Chg.refl wr [p]).drew.trans hc6 (fun x hx _ => hx)
        have S6 := Lib.hid (GdS.hash (R' := fun W => DSt W p v1 xs (24 + 32 * i + 32) f') hS.out hc6' h6 HNP.out HV1.out)
        have c6 := (Joins.cell_of_block S6.out.blk 2).trans (rfl : _ = some _)
        have CH6 : Hid (Chg w w6 [p]) := Lib.hid (HCH.out.trans hc6' (fun x hx _ => hx))
        have HF0' := Lib.hid hf0
        have HF1' := Lib.hid hf1
        clear hc6 hc6' h6 hf0 hf1
        go_wp2_with fail
        refine hK.out _ _ (trivial) (fun h3 => ?_)
        clear hK K
        try simp only [Act.put, List.setIfInBounds_toArray, List.set_cons_zero, List.set_cons_succ]
        refine wpAnyH_ready (rs := [4]) (by kernel_rfl) (by simp) ?_
        refine AllReadyH.cons (by rw [List.getElem?_toArray]; rfl) (fun K hK => ?_) AllReadyH.nil
        rw [if_pos (by rfl)]
        have b7 : Below w6.heap.size w6 (w6.alloc (.cells (hc Fh).toArray 36)) := (Below.refl _ _).alloc (Nat.le_refl _) _
        have R7 := Lib.hid (one_hs (w := w6) hF bF)
        have c7 := (Joins.cell_of_block (blk_onB2 S6.out.blk b7) 2).trans (rfl : _ = some _)
        have OW : (w6.alloc (.cells (hc Fh).toArray 36)).ownsRow 0 36 32 (.slice qa na ca) na (hcs acc) := by have := own_on S6.out.hs.own b7; rw [← S6.out.ln] at this; exact this
        clear b7
        go_wp2_with fail
        refine hK.out _ _ (trivial) (fun h4 => ?_)
        clear hK K
        try simp only [Act.put, List.setIfInBounds_toArray, List.set_cons_zero, List.set_cons_succ]
        refine wpAnyH_ready (rs := [5]) (by kernel_rfl) (by simp) ?_
        refine AllReadyH.cons (by rw [List.getElem?_toArray]; rfl) (fun K hK => ?_) AllReadyH.nil
        rw [if_pos (by rfl)]
        refine wp_append_row _ _ rfl Tryd.underlying26 hi.out hz0.out hz1.out hz2.out zero_cells OW (R7.out.src (P := Tryd.prog) (HsOk.one hF bF) Tryd.underlying26) (by unfold maxLen; (try simp only [List.length_singleton]); omega) (by (try simp only [List.length_singleton]); omega) ?_
        intro q8 k8 w8 own8' grow8' fr8'
        have own8 : w8.ownsRow 0 36 32 (.slice q8 (na + 1) k8) (na + 1) (hcs acc ++ hcs [Fh]) := own8'
        have grow8 : (w6.alloc (.cells (hc Fh).toArray 36)).grownBy w8 (Value.slice qa na ca).ownBlock := grow8'
        have fr8 : (Value.slice q8 (na + 1) k8).ownBlock = (Value.slice qa na ca).ownBlock ∨ (Value.slice q8 (na + 1) k8).ownBlock = some (w6.alloc (.cells (hc Fh).toArray 36)).heap.size := fr8'
        have HN := Lib.hid (GdS.push S6.out (by decide) (by decide) HNP.out hF bF own8 grow8 fr8 (fun K w' hc hk hv => S6.out.rd.chg hc (fun hm => hk p hm rfl) hv))
        have HNP2 : Hid (∀ g, (Value.slice q8 (na + 1) k8).ownBlock = some g → g ≠ p) := fun g hg => by
          rcases fr8 with e | e
          · rw [e] at hg; exact HNP.out g hg
          · rw [e] at hg
            have := S6.out.rd.lt
            simp at hg
            omega
        have CH8 : Hid (Chg w (w8.setCell ⟨bp, 2, none⟩ (.slice q8 (na + 1) k8)) [p]) := Lib.hid (((CH6.out.trans (Chg.below ((Below.refl w6.heap.size w6).alloc (Nat.le_refl _) (.cells (hc Fh).toArray 36)) (Nat.le_refl _) [p]) (fun x hx _ => hx)).trans (Chg.grown grow8 (S := (Value.slice qa na ca).ownBlock.toList) (fun g hg => by simp [hg])) (fun x hx hl => by have := HFR.out x (by simpa using hx); omega)).setCell (.inr hbp) _)
        have HFR8 : Hid (∀ g, (Value.slice q8 (na + 1) k8).ownBlock = some g → w.heap.size ≤ g) := fun g hg => by
          rcases fr8 with e | e
          · rw [e] at hg; exact HFR.out g hg
          · rw [e] at hg
            have := CH6.out.size
            simp at hg
            omega
        have f2 := Joins.unfrozen_of_block HN.out.1 2
        have z2' := (Joins.cell_of_block HN.out.1 2).trans (rfl : _ = some _)
        clear own8' grow8' fr8' own8 grow8 fr8 OW R7
        refine hK.out _ _ (trivial) (fun h8 => ?_)
        clear hK K
        try simp only [Act.put, List.setIfInBounds_toArray, List.set_cons_zero, List.set_cons_succ]
        refine wpAnyH_take (i := 6) (v := ?_) (by rw [List.getElem?_toArray]; rfl) (by kernel_rfl) (by kernel_rfl) (by kernel_rfl) (by exact fun _ _ _ h => h) (Or.inl ⟨by rfl, ?_⟩) h8 ?_
        rotate_left
        · intro W hW
          go_simp
          all_goals with_reducible rfl
        try simp only [Act.put, List.setIfInBounds_toArray, List.set_cons_zero, List.set_cons_succ]
        refine wpAnyH_ready (rs := [7]) (by kernel_rfl) (by simp) ?_
        refine AllReadyH.cons (by rw [List.getElem?_toArray]; rfl) (fun K hK => ?_) AllReadyH.nil
        rw [if_pos (by rfl)]
        go_wp2_with fail
        refine hK.out _ _ (trivial) (fun h9 => ?_)
        clear hK K
        try simp only [Act.put, List.setIfInBounds_toArray, List.set_cons_zero, List.set_cons_succ]
        refine wpAnyH_done (by kernel_rfl) ?_ _
        have HNN := Lib.hid HN.out.2
        clear h9 h8 HN z2' f2 c6 c7
        go_wp2_with fail
        go_roundw
        case rel => exact ⟨i + 1, f', q8, na + 1, k8, acc ++ [Fh], by go_num, by omega, by omega, by omega, (by
          show _ → _
          intro e
          obtain ⟨e1, e2, e3⟩ := HF0'.out e
          obtain ⟨a1, a2, a3⟩ := HF0.out e1
          refine ⟨a1, by omega, ?_⟩
          rw [a3, chunks_succ, List.drop_drop, e3]), (by
          show _ → _
          intro e
          rcases HF1'.out e with e1 | e1
          · rcases HF1.out e1 with a | a
            · exact .inl a
            · exact .inr (by omega)
          · exact .inr (by omega)), HNP2, HFR8, CH8, HNN⟩
        case measure => simp [intOf]; omega
      · rw [if_pos (by rfl)]
        go_wp2_with fail
        refine (rdHash_st (hS.out.rd.on ((Below.refl _ _).drew)) HX.out).mono ?_
        rintro e w6 ⟨Fh, f', rfl, hF, bF, h6, hc6, hf0, hf1⟩
        have lF := hc_len Fh
        have hc6' : Chg wr w6 [p] := (Chg.refl wr [p]).drew.trans hc6 (fun x hx _ => hx)
        have S6 := Lib.hid (GdS.hash (R' := fun W => DSt W p v1 xs (24 + 32 * i + 32) f') hS.out hc6' h6 HNP.out HV1.out)
        have c6 := (Joins.cell_of_block S6.out.blk 2).trans (rfl : _ = some _)
        have CH6 : Hid (Chg w w6 [p]) := Lib.hid (HCH.out.trans hc6' (fun x hx _ => hx))
        have HF0' := Lib.hid hf0
        have HF1' := Lib.hid hf1
        clear hc6 hc6' h6 hf0 hf1
        go_wp2_with fail
        refine hK.out _ _ (trivial) (fun h3 => ?_)
        clear hK K
        try simp only [Act.put, List.setIfInBounds_toArray, List.set_cons_zero, List.set_cons_succ]
        refine wpAnyH_ready (rs := [1, 4]) (by kernel_rfl) (by simp) ?_
        refine AllReadyH.cons (by rw [List.getElem?_toArray]; rfl) (fun K hK => ?_) (AllReadyH.cons (by rw [List.getElem?_toArray]; rfl) (fun K hK => ?_) AllReadyH.nil)
        · rw [if_pos (by rfl)]
          go_wp2_with fail
          refine hK.out _ _ (trivial) (fun h1 => ?_)
          clear hK K
          try simp only [Act.put, List.setIfInBounds_toArray, List.set_cons_zero, List.set_cons_succ]
          refine wpAnyH_ready (rs := [4]) (by kernel_rfl) (by simp) ?_
          refine AllReadyH.cons (by rw [List.getElem?_toArray]; rfl) (fun K hK => ?_) AllReadyH.nil
          rw [if_pos (by rfl)]
          have b7 : Below w6.heap.size w6 (w6.alloc (.cells (hc Fh).toArray 36)) := (Below.refl _ _).alloc (Nat.le_refl _) _
          have R7 := Lib.hid (one_hs (w := w6) hF bF)
          have c7 := (Joins.cell_of_block (blk_onB2 S6.out.blk b7) 2).trans (rfl : _ = some _)
          have OW : (w6.alloc (.cells (hc Fh).toArray 36)).ownsRow 0 36 32 (.slice qa na ca) na (hcs acc) := by have := own_on S6.out.hs.own b7; rw [← S6.out.ln] at this; exact this
          clear b7
          go_wp2_with fail
          refine hK.out _ _ (trivial) (fun h4 => ?_)
          clear hK K
          try simp only [Act.put, List.setIfInBounds_toArray, List.set_cons_zero, List.set_cons_succ]
          refine wpAnyH_ready (rs := [5]) (by kernel_rfl) (by simp) ?_
          refine AllReadyH.cons (by rw [List.getElem?_toArray]; rfl) (fun K hK => ?_) AllReadyH.nil
          rw [if_pos (by rfl)]
          refine wp_append_row _ _ rfl Tryd.underlying26 hi.out hz0.out hz1.out hz2.out zero_cells OW (R7.out.src (P := Tryd.prog) (HsOk.one hF bF) Tryd.underlying26) (by unfold maxLen; (try simp only [List.length_singleton]); omega) (by (try simp only [List.length_singleton]); omega) ?_
          intro q8 k8 w8 own8' grow8' fr8'
          have own8 : w8.ownsRow 0 36 32 (.slice q8 (na + 1) k8) (na + 1) (hcs acc ++ hcs [Fh]) := own8'
          have grow8 : (w6.alloc (.cells (hc Fh).toArray 36)).grownBy w8 (Value.slice qa na ca).ownBlock := grow8'
          have fr8 : (Value.slice q8 (na + 1) k8).ownBlock = (Value.slice qa na ca).ownBlock ∨ (Value.slice q8 (na + 1) k8).ownBlock = some (w6.alloc (.cells (hc Fh).toArray 36)).heap.size := fr8'
          have HN := Lib.hid (GdS.push S6.out (by decide) (by decide) HNP.out hF bF own8 grow8 fr8 (fun K w' hc hk hv => S6.out.rd.chg hc (fun hm => hk p hm rfl) hv))
          have HNP2 : Hid (∀ g, (Value.slice q8 (na + 1) k8).ownBlock = some g → g ≠ p) := fun g hg => by
            rcases fr8 with e | e
            · rw [e] at hg; exact HNP.out g hg
            · rw [e] at hg
              have := S6.out.rd.lt
              simp at hg
              omega
          have CH8 : Hid (Chg w (w8.setCell ⟨bp, 2, none⟩ (.slice q8 (na + 1) k8)) [p]) := Lib.hid (((CH6.out.trans (Chg.below ((Below.refl w6.heap.size w6).alloc (Nat.le_refl _) (.cells (hc Fh).toArray 36)) (Nat.le_refl _) [p]) (fun x hx _ => hx)).trans (Chg.grown grow8 (S := (Value.slice qa na ca).ownBlock.toList) (fun g hg => by simp [hg])) (fun x hx hl => by have := HFR.out x (by simpa using hx); omega)).setCell (.inr hbp) _)
          have HFR8 : Hid (∀ g, (Value.slice q8 (na + 1) k8).ownBlock = some g → w.heap.size ≤ g) := fun g hg => by
            rcases fr8 with e | e
            · rw [e] at hg; exact HFR.out g hg
            · rw [e] at hg
              have := CH6.out.size
              simp at hg
              omega
          have f2 := Joins.unfrozen_of_block HN.out.1 2
          have z2' := (Joins.cell_of_block HN.out.1 2).trans (rfl : _ = some _)
          clear own8' grow8' fr8' own8 grow8 fr8 OW R7
          refine hK.out _ _ (trivial) (fun h8 => ?_)
          clear hK K
          try simp only [Act.put, List.setIfInBounds_toArray, List.set_cons_zero, List.set_cons_succ]
          refine wpAnyH_take (i := 6) (v := ?_) (by rw [List.getElem?_toArray]; rfl) (by kernel_rfl) (by kernel_rfl) (by kernel_rfl) (by exact fun _ _ _ h => h) (Or.inl ⟨by rfl, ?_⟩) h8 ?_
          rotate_left
          · intro W hW
            go_simp
            all_goals with_reducible rfl
          try simp only [Act.put, List.setIfInBounds_toArray, List.set_cons_zero, List.set_cons_succ]
          refine wpAnyH_ready (rs := [7]) (by kernel_rfl) (by simp) ?_
          refine AllReadyH.cons (by rw [List.getElem?_toArray]; rfl) (fun K hK => ?_) AllReadyH.nil
          rw [if_pos (by rfl)]
          go_wp2_with fail
          refine hK.out _ _ (trivial) (fun h9 => ?_)
          clear hK K
          try simp only [Act.put, List.setIfInBounds_toArray, List.set_cons_zero, List.set_cons_succ]
          refine wpAnyH_done (by kernel_rfl) ?_ _
          have HNN := Lib.hid HN.out.2
          clear h9 h8 HN z2' f2 c6 c7
          go_wp2_with fail
          go_roundw
          case rel => exact ⟨i + 1, f', q8, na + 1, k8, acc ++ [Fh], by go_num, by omega, by omega, by omega, (by
            show _ → _
            intro e
            obtain ⟨e1, e2, e3⟩ := HF0'.out e
            obtain ⟨a1, a2, a3⟩ := HF0.out e1
            refine ⟨a1, by omega, ?_⟩
            rw [a3, chunks_succ, List.drop_drop, e3]), (by
            show _ → _
            intro e
            rcases HF1'.out e with e1 | e1
            · rcases HF1.out e1 with a | a
              · exact .inl a
              · exact .inr (by omega)
            · exact .inr (by omega)), HNP2, HFR8, CH8, HNN⟩
          case measure => simp [intOf]; omega
        · rw [if_pos (by rfl)]
          have b7 : Below w6.heap.size w6 (w6.alloc (.cells (hc Fh).toArray 36)) := (Below.refl _ _).alloc (Nat.le_refl _) _
          have R7 := Lib.hid (one_hs (w := w6) hF bF)
          have c7 := (Joins.cell_of_block (blk_onB2 S6.out.blk b7) 2).trans (rfl : _ = some _)
          have OW : (w6.alloc (.cells (hc Fh).toArray 36)).ownsRow 0 36 32 (.slice qa na ca) na (hcs acc) := by have := own_on S6.out.hs.own b7; rw [← S6.out.ln] at this; exact this
          clear b7
          go_wp2_with fail
          refine hK.out _ _ (trivial) (fun h4 => ?_)
          clear hK K
          try simp only [Act.put, List.setIfInBounds_toArray, List.set_cons_zero, List.set_cons_succ]
          refine wpAnyH_ready (rs := [1]) (by kernel_rfl) (by simp) ?_
          refine AllReadyH.cons (by rw [List.getElem?_toArray]; rfl) (fun K hK => ?_) AllReadyH.nil
          rw [if_pos (by rfl)]
          go_wp2_with fail
          refine hK.out _ _ (trivial) (fun h1 => ?_)
          clear hK K
          try simp only [Act.put, List.setIfInBounds_toArray, List.set_cons_zero, List.set_cons_succ]
          refine wpAnyH_ready (rs := [5]) (by kernel_rfl) (by simp) ?_
          refine AllReadyH.cons (by rw [List.getElem?_toArray]; rfl) (fun K hK => ?_) AllReadyH.nil
          rw [if_pos (by rfl)]
          refine wp_append_row _ _ rfl Tryd.underlying26 hi.out hz0.out hz1.out hz2.out zero_cells OW (R7.out.src (P := Tryd.prog) (HsOk.one hF bF) Tryd.underlying26) (by unfold maxLen; (try simp only [List.length_singleton]); omega) (by (try simp only [List.length_singleton]); omega) ?_
          intro q8 k8 w8 own8' grow8' fr8'
          have own8 : w8.ownsRow 0 36 32 (.slice q8 (na + 1) k8) (na + 1) (hcs acc ++ hcs [Fh]) := own8'
          have grow8 : (w6.alloc (.cells (hc Fh).toArray 36)).grownBy w8 (Value.slice qa na ca).ownBlock := grow8'
          have fr8 : (Value.slice q8 (na + 1) k8).ownBlock = (Value.slice qa na ca).ownBlock ∨ (Value.slice q8 (na + 1) k8).ownBlock = some (w6.alloc (.cells (hc Fh).toArray 36)).heap.size := fr8'
          have HN := Lib.hid (GdS.push S6.out (by decide) (by decide) HNP.out hF bF own8 grow8 fr8 (fun K w' hc hk hv => S6.out.rd.chg hc (fun hm => hk p hm rfl) hv))
          have HNP2 : Hid (∀ g, (Value.slice q8 (na + 1) k8).ownBlock = some g → g ≠ p) := fun g hg => by
            rcases fr8 with e | e
            · rw [e] at hg; exact HNP.out g hg
            · rw [e] at hg
              have := S6.out.rd.lt
              simp at hg
              omega
          have CH8 : Hid (Chg w (w8.setCell ⟨bp, 2, none⟩ (.slice q8 (na + 1) k8)) [p]) := Lib.hid (((CH6.out.trans (Chg.below ((Below.refl w6.heap.size w6).alloc (Nat.le_refl _) (.cells (hc Fh).toArray 36)) (Nat.le_refl _) [p]) (fun x hx _ => hx)).trans (Chg.grown grow8 (S := (Value.slice qa na ca).ownBlock.toList) (fun g hg => by simp [hg])) (fun x hx hl => by have := HFR.out x (by simpa using hx); omega)).setCell (.inr hbp) _)
          have HFR8 : Hid (∀ g, (Value.slice q8 (na + 1) k8).ownBlock = some g → w.heap.size ≤ g) := fun g hg => by
            rcases fr8 with e | e
            · rw [e] at hg; exact HFR.out g hg
            · rw [e] at hg
              have := CH6.out.size
              simp at hg
              omega
          have f2 := Joins.unfrozen_of_block HN.out.1 2
          have z2' := (Joins.cell_of_block HN.out.1 2).trans (rfl : _ = some _)
          clear own8' grow8' fr8' own8 grow8 fr8 OW R7
          refine hK.out _ _ (trivial) (fun h8 => ?_)
          clear hK K
          try simp only [Act.put, List.setIfInBounds_toArray, List.set_cons_zero, List.set_cons_succ]
          refine wpAnyH_take (i := 6) (v := ?_) (by rw [List.getElem?_toArray]; rfl) (by kernel_rfl) (by kernel_rfl) (by kernel_rfl) (by exact fun _ _ _ h => h) (Or.inl ⟨by rfl, ?_⟩) h8 ?_
          rotate_left
          · intro W hW
            go_simp
            all_goals with_reducible rfl
          try simp only [Act.put, List.setIfInBounds_toArray, List.set_cons_zero, List.set_cons_succ]
          refine wpAnyH_ready (rs := [7]) (by kernel_rfl) (by simp) ?_
          refine AllReadyH.cons (by rw [List.getElem?_toArray]; rfl) (fun K hK => ?_) AllReadyH.nil
          rw [if_pos (by rfl)]
          go_wp2_with fail
          refine hK.out _ _ (trivial) (fun h9 => ?_)
          clear hK K
          try simp only [Act.put, List.setIfInBounds_toArray, List.set_cons_zero, List.set_cons_succ]
          refine wpAnyH_done (by kernel_rfl) ?_ _
          have HNN := Lib.hid HN.out.2
          clear h9 h8 HN z2' f2 c6 c7
          go_wp2_with fail
          go_roundw
          case rel => exact ⟨i + 1, f', q8, na + 1, k8, acc ++ [Fh], by go_num, by omega, by omega, by omega, (by
            show _ → _
            intro e
            obtain ⟨e1, e2, e3⟩ := HF0'.out e
            obtain ⟨a1, a2, a3⟩ := HF0.out e1
            refine ⟨a1, by omega, ?_⟩
            rw [a3, chunks_succ, List.drop_drop, e3]), (by
            show _ → _
            intro e
            rcases HF1'.out e with e1 | e1
            · rcases HF1.out e1 with a | a
              · exact .inl a
              · exact .inr (by omega)
            · exact .inr (by omega)), HNP2, HFR8, CH8, HNN⟩
          case measure => simp [intOf]; omega
    · have HFI : Hid (f = false → i = z3) := fun e => by
        by_cases h : i < z3
        · exact absurd ⟨h, e⟩ hgo
        · omega
      have HT : Hid (f = true → ∀ p c Ss, ¬ Told xs p c Ss) := fun e p' c' Ss ht => by
        rcases HF1.out e with a | a
        · exact GB.out a p' c' Ss ht
        · have g3 : f3 = false := by
            cases h3 : f3 with
            | false => rfl
            | true => exact absurd ht (GB.out h3 p' c' Ss)
          have n3 := (GA.out g3).2.2.2
          have l1 := ht.nums.1
          have n3' := ht.nums.2.2.2.1
          omega
      have HN : Hid (f = false → num ((xs.drop 0).take 8) = z1 ∧ num ((xs.drop 8).take 8) = z2 ∧ num ((xs.drop 16).take 8) = z3 ∧ 24 + 32 * i = 24 + 32 * z3 ∧ 24 + 32 * i ≤ xs.length ∧ acc = chunks z3 (xs.drop 24)) := fun e => by
        obtain ⟨g3, hle, hacc⟩ := HF0.out e
        obtain ⟨-, n1, n2, n3⟩ := GA.out g3
        have := HFI.out e
        exact ⟨n1, n2, n3, by omega, hle, by rw [← this]; exact hacc⟩
      have hob' := hob.out
      have hne : (Value.slice qa na ca).ownBlock ≠ some w.heap.size := own_ne hS.out.hs.own hS.out.out (by decide)
      have HF : Hid (HsS wb (((wr.setCell ⟨w.heap.size, 0, none⟩ (.int .i64 (z1 : Int))).setCell ⟨w.heap.size, 1, none⟩ (.int .i64 (z2 : Int))).setCell ⟨w.heap.size, 2, none⟩ (.slice qa na ca)) (.slice qa na ca) acc) := by
        have := HBW.out.size
        refine ⟨own_keep hS.out.hs.own (fun j hj => ?_), hS.out.hs.ok, hS.out.hs.fresh, ((hS.out.hs.below.setCell (p := ⟨_, 0, none⟩) this _).setCell (p := ⟨_, 1, none⟩) this _).setCell (p := ⟨_, 2, none⟩) this _⟩
        have hj1 : j ≠ w.heap.size := fun e => hne (e ▸ hj)
        rw [Below.heap_setCell _ _ _ _ hj1, Below.heap_setCell _ _ _ _ hj1, Below.heap_setCell _ _ _ _ hj1]
      have cF : Chg wr (((wr.setCell ⟨w.heap.size, 0, none⟩ (.int .i64 (z1 : Int))).setCell ⟨w.heap.size, 1, none⟩ (.int .i64 (z2 : Int))).setCell ⟨w.heap.size, 2, none⟩ (.slice qa na ca)) [w.heap.size] := (((Chg.refl _ _).setCell (.inl (by simp)) _).setCell (.inl (by simp)) _).setCell (.inl (by simp)) _
      have HD := Lib.hid (hS.out.rd.chg cF (by simp; omega) (fun g hg hm => by have := HVW.out g hg; simp at hm; omega))
      have HC : Hid (Chg w (((wr.setCell ⟨w.heap.size, 0, none⟩ (.int .i64 (z1 : Int))).setCell ⟨w.heap.size, 1, none⟩ (.int .i64 (z2 : Int))).setCell ⟨w.heap.size, 2, none⟩ (.slice qa na ca)) [p]) := Lib.hid (((HCH.out.setCell (.inr (Nat.le_refl _)) _).setCell (.inr (Nat.le_refl _)) _).setCell (.inr (Nat.le_refl _)) _)
      have HLN := Lib.hid hS.out.ln
      have hb9 : (((wr.setCell ⟨w.heap.size, 0, none⟩ (.int .i64 (z1 : Int))).setCell ⟨w.heap.size, 1, none⟩ (.int .i64 (z2 : Int))).setCell ⟨w.heap.size, 2, none⟩ (.slice qa na ca)).heap[w.heap.size]? = some (.cells #[.int .i64 (z1 : Int), .int .i64 (z2 : Int), .slice qa na ca] 32 (0, 0)) :=
        Joins.block_setCell (Joins.block_setCell (Joins.block_setCell hS.out.out _) _) _
      have y0 := (Joins.cell_of_block hb9 0).trans (rfl : _ = some _)
      have y1 := (Joins.cell_of_block hb9 1).trans (rfl : _ = some _)
      have y2 := (Joins.cell_of_block hb9 2).trans (rfl : _ = some _)
      have x0 := (Joins.cell_of_block hS.out.out 0).trans (rfl : _ = some _)
      have x1 := (Joins.cell_of_block hS.out.out 1).trans (rfl : _ = some _)
      have x2 := (Joins.cell_of_block hS.out.out 2).trans (rfl : _ = some _)
      have k0 := Joins.unfrozen_of_block hS.out.out 0
      have k1 := Joins.unfrozen_of_block hS.out.out 1
      have k2 := Joins.unfrozen_of_block hS.out.out 2
      have c0 := (Joins.cell_of_block hS.out.blk 0).trans (rfl : _ = some _)
      have c1 := (Joins.cell_of_block hS.out.blk 1).trans (rfl : _ = some _)
      have HQ : Hid (FromP wb w p v1 xs (.returned (.agg #[.int .i64 (z1 : Int), .int .i64 (z2 : Int), .slice qa na ca])) (((wr.setCell ⟨w.heap.size, 0, none⟩ (.int .i64 (z1 : Int))).setCell ⟨w.heap.size, 1, none⟩ (.int .i64 (z2 : Int))).setCell ⟨w.heap.size, 2, none⟩ (.slice qa na ca))) :=
        ⟨z1, z2, z3, qa, na, ca, acc, f, 24 + 32 * i, rfl, HF.out, HLN.out, by omega, HD.out, HC.out, HN.out, HT.out⟩
      clear HF HD HC HN HT HFI hb9 hne cF hob' HF0 HF1 HNP HFR HCH HLN
      by_cases hlt : i < z3
      · have hft : f = true := by
          cases f with
          | true => rfl
          | false => exact absurd ⟨hlt, rfl⟩ hgo
        obtain ⟨vE, posE, fE, hE1, hE2⟩ := hS.out.rd.bad hft
        have ce := (Joins.cell_of_block hE2 2).trans (rfl : _ = some _)
        have d0 : (fE == 0) = false := by simpa using hE1
        have hltI : (i : Int) < (z3 : Int) := by omega
        clear hE2 hS hgo hft
        go_wp2_with fail
        refine bodyPost_ret (v := .agg #[.int .i64 (z1 : Int), .int .i64 (z2 : Int), .slice qa na ca]) (by simp [results, Tryd.results51, go_sem, y0, y1, y2]) rfl HQ.out
      · have hltI : ¬ (i : Int) < (z3 : Int) := by omega
        have d0 : decide ((i : Int) < (z3 : Int)) = false := by rw [decide_eq_false_iff_not]; exact hltI
        clear hS hgo
        go_wp2_with fail
        refine bodyPost_ret (v := .agg #[.int .i64 (z1 : Int), .int .i64 (z2 : Int), .slice qa na ca]) (by simp [results, Tryd.results51, go_sem, y0, y1, y2]) rfl HQ.out
end Go.Proofs.YtebeacejlkiglaaDoor
