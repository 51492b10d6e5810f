/-
  A slice of hashes, a slice of ints, in memory.
-/
import Derived.Test.YtkdhhdbgngegfaaOwn
namespace Go.Proofs.Ytkdhhdbgngegfaa
open Go.RowKit

theorem rowOf_below {w w' : World} {B b : Nat} (h : Below B w w') (hb : b < B) (o n : Nat) : rowOf w' b o n = rowOf w b o n := by
  unfold rowOf
  rw [h.block b hb]

/-- p leads to n hashes, T 0, T 1 and so on. -/
def TrP (w : World) (p : Option Addr) (n : Nat) (T : Nat → List Int) : Prop := ∀ i, i < n → ∃ b o, p = some ⟨b, o, none⟩ ∧ b < w.heap.size ∧ (T i).length = 32 ∧ rowOf w b (o + i * 32) 32 = hc (T i)
theorem TrP.on {w w' : World} {p : Option Addr} {n : Nat} {T : Nat → List Int} (h : TrP w p n T) (hb : Below w.heap.size w w') : TrP w' p n T := fun i hi => by
  obtain ⟨b, o, hp, hlt, hl, hr⟩ := h i hi
  exact ⟨b, o, hp, by have := hb.size; omega, hl, by rw [rowOf_below hb hlt]; exact hr⟩
theorem TrP.alloc {w : World} {p : Option Addr} {n : Nat} {T : Nat → List Int} (h : TrP w p n T) (ob : Obj) : TrP (w.alloc ob) p n T :=
  h.on ((Below.refl _ _).alloc (Nat.le_refl _) ob)

theorem HashAt.there {w : World} {b : Nat} {F : List Int} (h : HashAt w b F) (hF : F.length = 32) : w.there b 0 32 := fun j hj => by
  refine ⟨?_, Joins.unfrozen_of_block h _⟩
  rw [cell_of_row _ _ _ _ _ _ h]
  simp [hc_len, hF, hj]
theorem HashAt.set {w : World} {b : Nat} {F G : List Int} (h : HashAt w b F) (hF : F.length = 32) (hG : G.length = 32) : HashAt (w.setCells b 0 (hc G)) b G := by
  have := setCells_block (b := b) (t := 25) (fr := (0, 0)) (hc G) (o := 0) (w := w) (pre := []) (mid := hc F) (post := []) (by simpa [HashAt] using h) rfl (by rw [hc_len, hc_len, hF, hG])
  simpa [HashAt] using this

/-- q leads to m ints. -/
def InP (w : World) (q : Option Addr) (m : Nat) (C : Nat → Int) : Prop := ∀ i, i < m → ∃ b o, q = some ⟨b, o, none⟩ ∧ b < w.heap.size ∧ w.cell? ⟨b, o + i, none⟩ = some (.int .i64 (C i)) ∧ -9223372036854775808 ≤ C i ∧ C i < 9223372036854775808
theorem InP.on {w w' : World} {q : Option Addr} {m : Nat} {C : Nat → Int} (h : InP w q m C) (hb : Below w.heap.size w w') : InP w' q m C := fun i hi => by
  obtain ⟨b, o, hp, hlt, hr, h1, h2⟩ := h i hi
  exact ⟨b, o, hp, by have := hb.size; omega, by rw [hb.cell hlt]; exact hr, h1, h2⟩
end Go.Proofs.Ytkdhhdbgngegfaa
