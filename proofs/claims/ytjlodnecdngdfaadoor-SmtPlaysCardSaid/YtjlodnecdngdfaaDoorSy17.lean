/-
  The document's strings that are digested for a row of one pair.; The document's strings that are digested for any rising row of pairs.; The document's map: all strings that are digested for its root.
-/
import Derived.Test.YtjlodnecdngdfaaDoorSy2
import Derived.Test.YtjlodnecdngdfaaDoorSy16
namespace Go.Proofs.YtjlodnecdngdfaaDoor
open Go.RowKit
set_option maxRecDepth 100000

end Go.Proofs.YtjlodnecdngdfaaDoor
namespace Go.Proofs.YtjlodnecdngdfaaDoor
open Go.RowKit
set_option maxRecDepth 100000

/-- Behind both halves: their hashes. -/
structure SvS (w2 : World) (b7 b9 : Nat) (h1 h2 : List Int) (W : World) : Prop where
  h7 : HashAt W b7 h1
  h9 : HashAt W b9 h2
  size : w2.heap.size ≤ W.heap.size
structure SvZ (w2 : World) (rb b7 b9 : Nat) (h1 h2 : List Int) (W : World) : Prop where
  s : SvS w2 b7 b9 h1 h2 W
  rz : HashAt W rb zero32
section
variable {w2 W W' : World} {rb b7 b9 : Nat} {h1 h2 : List Int}
theorem SvS.chg {S : List Nat} (h : SvS w2 b7 b9 h1 h2 W) (hc : Chg W W' S) (n7 : b7 ∉ S) (n9 : b9 ∉ S) : SvS w2 b7 b9 h1 h2 W' := ⟨h.h7.chg' hc n7, h.h9.chg' hc n9, Nat.le_trans h.size hc.size⟩
theorem SvZ.on (h : SvZ w2 rb b7 b9 h1 h2 W) (hb : Below W.heap.size W W') : SvZ w2 rb b7 b9 h1 h2 W' := ⟨h.s.chg (Chg.below hb (Nat.le_refl _) []) (by simp) (by simp), h.rz.on hb⟩
theorem SvZ.grown {v : Value} {n : Nat} {xs : List Value} (h : SvZ w2 rb b7 b9 h1 h2 W) (own : W.ownsRow 0 82 1 v n xs) (grow : W.grownBy W' v.ownBlock) : SvZ w2 rb b7 b9 h1 h2 W' := by
  have hc : Chg W W' v.ownBlock.toList := Chg.grown grow (fun g hg => by simp [hg])
  have nE : ∀ (bk : Nat) (G : List Int), HashAt W bk G → bk ∉ v.ownBlock.toList := fun bk G hG hm => own_ne own hG (by decide) (by simpa using hm)
  exact ⟨h.s.chg hc (nE _ _ h.s.h7) (nE _ _ h.s.h9), h.rz.chg' hc (nE _ _ h.rz)⟩
end
end Go.Proofs.YtjlodnecdngdfaaDoor
namespace Go.Proofs.YtjlodnecdngdfaaDoor
open Go.RowKit
set_option maxRecDepth 100000

end Go.Proofs.YtjlodnecdngdfaaDoor
