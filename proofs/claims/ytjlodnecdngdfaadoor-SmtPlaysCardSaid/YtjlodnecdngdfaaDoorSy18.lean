/-
  Whether a proof may be, in package proof and in the document.; The root behind a proof, plain and in package proof.; All strings that the document digests for the root behind a proof.
-/
import Derived.Test.YtjlodnecdngdfaaDoorSy15
import Derived.Test.YtjlodnecdngdfaaDoorSy17
namespace Go.Proofs.YtjlodnecdngdfaaDoor
set_option maxRecDepth 100000
open Go.RowKit

/-- What stands in memory within Right. -/
structure RgS (t : TypeId) (w wr : World) (M : List Int) (q : Option Addr) (k : Nat) (Ss : List (List Int)) : Prop where
  below : Below w.heap.size w wr
  pf : PfB t wr w.heap.size M (.slice q Ss.length k)
  hs : RdHs wr q Ss
theorem RgS.on {t : TypeId} {w wr w1 : World} {M : List Int} {q : Option Addr} {k : Nat} {Ss : List (List Int)} (h : RgS t w wr M q k Ss) (ok : HsOk Ss) (hb : Below wr.heap.size wr w1) : RgS t w w1 M q k Ss :=
  ⟨h.below.trans (hb.mono h.below.size), h.pf.on hb, h.hs.on (fun i hi => (ok.get i hi).1) hb⟩
theorem RgS.start {t : TypeId} {w : World} {M : List Int} {q : Option Addr} {k : Nat} {Ss : List (List Int)} (hs : RdHs w q Ss) (ok : HsOk Ss) : RgS t w (w.alloc (.cells (pfRow M (.slice q Ss.length k)).toArray t)) M q k Ss :=
  ⟨(Below.refl _ _).alloc (Nat.le_refl _) _, PfB.new _ _ _, hs.on (fun i hi => (ok.get i hi).1) ((Below.refl _ _).alloc (Nat.le_refl _) _)⟩

end Go.Proofs.YtjlodnecdngdfaaDoor
namespace Go.Proofs.YtjlodnecdngdfaaDoor
set_option maxRecDepth 100000
open Go.RowKit

/-- What stands beside the way at a level. -/
def sdI (M : List Int) (Ss : List (List Int)) (l : Nat) : List Int := if bitI M l = 1 then Ss.getD (cntI M l) [] else zero32
/-- What stands in memory within Root: key, value, proof, answer. -/
structure RtS (t : TypeId) (w wr : World) (K V M : List Int) (v : Value) : Prop where
  below : Below w.heap.size w wr
  hK : HashAt wr w.heap.size K
  hV : HashAt wr (w.heap.size + 1) V
  pf : PfB t wr (w.heap.size + 2) M v
  hR : HashAt wr (w.heap.size + 3) zero32
section
variable {t : TypeId} {w W W' : World} {K V M : List Int} {v : Value}
theorem RtS.on (h : RtS t w W K V M v) (hb : Below W.heap.size W W') : RtS t w W' K V M v := ⟨h.below.trans (hb.mono h.below.size), h.hK.on hb, h.hV.on hb, h.pf.on hb, h.hR.on hb⟩
theorem RtS.put (h : RtS t w W K V M v) {b : Nat} (hb : w.heap.size + 3 < b) (o : Nat) (vs : List Value) : RtS t w (W.setCells b o vs) K V M v :=
  ⟨below_setCells' b (by omega) vs o h.below, h.hK.others (by omega) o vs, h.hV.others (by omega) o vs, h.pf.others (by omega) o vs, h.hR.others (by omega) o vs⟩
theorem RtS.start (t : TypeId) (w : World) (K V M : List Int) (v : Value) : RtS t w ((((w.alloc (.cells (hc K).toArray 24)).alloc (.cells (hc V).toArray 24)).alloc (.cells (pfRow M v).toArray t)).alloc (.cells (hc zero32).toArray 24)) K V M v := by
  have h1 := HashAt.new (w.alloc (.cells (hc K).toArray 24)) V
  have h2 := PfB.new (t := t) ((w.alloc (.cells (hc K).toArray 24)).alloc (.cells (hc V).toArray 24)) M v
  have h3 := HashAt.new (((w.alloc (.cells (hc K).toArray 24)).alloc (.cells (hc V).toArray 24)).alloc (.cells (pfRow M v).toArray t)) zero32
  simp only [World.size_alloc] at h1 h2 h3
  exact ⟨((((Below.refl w.heap.size w).alloc (Nat.le_refl _) _).alloc (by simp) _).alloc (by simp; omega) _).alloc (by simp; omega) _, (((HashAt.new w K).alloc _).alloc _).alloc _, (h1.alloc _).alloc _, h2.alloc _, h3⟩
end
end Go.Proofs.YtjlodnecdngdfaaDoor
namespace Go.Proofs.YtjlodnecdngdfaaDoor
open Go.RowKit
set_option maxRecDepth 100000

end Go.Proofs.YtjlodnecdngdfaaDoor
