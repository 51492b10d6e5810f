/-
  A book's two maps: what the instructions on maps answer, for the keys that a short run meets.
-/
import Derived.Test.YtimcjnocmbbahaaDoorRefSum2
import Derived.Test.YtimcjnocmbbahaaDoorPartsD
import Derived.Test.YtimcjnocmbbahaaDoorReg
import Derived.MapKept
namespace Go.Proofs.YtimcjnocmbbahaaDoor
open Go.RowKit
set_option maxRecDepth 100000

/-- The world with another map in a block. -/
def putMap (w : World) (b : Nat) (es : Array MapEntry) (c : Nat) : World := { w with heap := w.heap.setIfInBounds b (.map es c) }
section
variable {P : Program} {w : World} {t k e : TypeId} {b c : Nat} {es : Array MapEntry} {key : Value}
theorem getMap (hb : w.heap[b]? = some (.map es c)) : (getObj b).run P w = .ok (.map es c) w := by simp [getObj, Sem.run, hb]
theorem setMap (o : Obj) (hb : w.heap[b]? = some (.map es c)) : (setObj b o).run P w = .ok () { w with heap := w.heap.setIfInBounds b o } := by simp [setObj, Sem.run, hb]
theorem run_lookup_at {r : Option (Nat × Value)} {z : Value} (ok : Bool) (ht : P.underlying t = some (.map k e)) (hb : w.heap[b]? = some (.map es c)) (hc : (Instr.checkKey es.isEmpty 10000 k key).run P w = .ok () w) (hf : (Instr.findKey k key es.toList).run P w = .ok r w) (hz : (zeroValue e).run P w = .ok z w) :
    (Instr.lookup t (.map (some b)) key ok).run P w = .ok (if ok then .tuple #[(r.map (·.2)).getD z, .bool r.isSome] else (r.map (·.2)).getD z) w := by
  unfold Instr.lookup
  simp only [Sem.run_bind, run_underlying ht, Result.andThen_ok, getMap hb, Sem.run_pure, hc, hf]
  cases r <;> simp [hz]
theorem run_mapUpdate_new {v : Value} (ht : P.underlying t = some (.map k e)) (hb : w.heap[b]? = some (.map es c)) (hc : (Instr.checkKey false 10000 k key).run P w = .ok () w) (hf : (Instr.findKey k key es.toList).run P w = .ok none w) :
    (Instr.mapUpdate t (.map (some b)) key v).run P w = .ok () (putMap w b (es.push { key := key, val := v, born := c }) (c + 1)) := by
  unfold Instr.mapUpdate
  simp only [Sem.run_bind, run_underlying ht, Result.andThen_ok, getMap hb, Sem.run_pure, hc, hf, setMap _ hb]
  rfl
theorem run_mapEntry_new {z : Value} (ht : P.underlying t = some (.map k e)) (hb : w.heap[b]? = some (.map es c)) (hc : (Instr.checkKey false 10000 k key).run P w = .ok () w) (hf : (Instr.findKey k key es.toList).run P w = .ok none w) (hz : (zeroValue e).run P w = .ok z w) :
    (Instr.mapEntry t (.map (some b)) key).run P w = .ok (.tuple #[z, goInt c]) (putMap w b (es.push { key := key, val := z, born := c }) (c + 1)) := by
  unfold Instr.mapEntry
  simp only [Sem.run_bind, run_underlying ht, Result.andThen_ok, getMap hb, Sem.run_pure, hc, hf, hz, setMap _ hb]
  rfl
theorem run_mapEntry_old {v : Value} {i : Nat} {old : Value} {n : Nat} (ht : P.underlying t = some (.map k e)) (hb : w.heap[b]? = some (.map es c)) (hc : (Instr.checkKey false 10000 k key).run P w = .ok () w) (hf : (Instr.findKey k key es.toList).run P w = .ok (some (i, v)) w)
    (he : es[i]? = some { key := old, val := v, born := n }) (hs : Instr.sameBits 10000 old key = true) :
    (Instr.mapEntry t (.map (some b)) key).run P w = .ok (.tuple #[v, goInt n]) (putMap w b (es.modify i fun e => { e with key := key }) c) := by
  unfold Instr.mapEntry
  simp only [Sem.run_bind, run_underlying ht, Result.andThen_ok, getMap hb, Sem.run_pure, hc, hf, he, Option.map_some, Option.getD_some]
  have hk : (Instr.keyThatStays old key).run P w = .ok key w := by unfold Instr.keyThatStays; rw [if_pos hs]; rfl
  simp only [hk, Result.andThen_ok, setMap _ hb]
  rfl
theorem run_entryStore_at {v : Value} {n i : Nat} (hb : w.heap[b]? = some (.map es c)) (hi : es.findIdx? (fun e => (e.born : Int) == (n : Int)) = some i) :
    (Instr.entryStore t (.map (some b)) (.int .i64 n) v).run P w = .ok () (putMap w b (es.modify i fun e => { e with val := v }) c) := by
  unfold Instr.entryStore
  simp only [Sem.run_bind, Result.andThen_ok, getMap hb, Sem.run_pure, asInt]
  simp only [asIntOf, Sem.run_pure, Result.andThen_ok, hi]
  exact setMap _ hb
end

/-! ### The digest of "a", and the keys -/
def dgA : List Int := [202, 151, 129, 18, 202, 27, 189, 202, 250, 194, 49, 179, 154, 35, 220, 77, 167, 134, 239, 248, 20, 124, 78, 114, 185, 128, 119, 133, 175, 238, 72, 187]
theorem dgA_len : dgA.length = 32 := rfl
def enA : List Value := hc dgA ++ [.string ⟨#[97]⟩]
def enB : List Value := hc dgA ++ [.string ⟨#[98]⟩]
theorem sha_a : sha [97] = dgA := by decide +kernel
theorem ck_en (x : Bool) (w : World) : (Instr.checkKey x 10000 61 (.agg enA.toArray)).run Tryd.prog w = .ok () w := by cases x <;> kernel_rfl
theorem ck_enB (x : Bool) (w : World) : (Instr.checkKey x 10000 61 (.agg enB.toArray)).run Tryd.prog w = .ok () w := by cases x <;> kernel_rfl
theorem ck_h (x : Bool) (w : World) : (Instr.checkKey x 10000 28 (.agg (hc dgA).toArray)).run Tryd.prog w = .ok () w := by cases x <;> kernel_rfl
theorem zero_unit (w : World) : (zeroValue 62).run Tryd.prog w = .ok (.agg #[]) w := by kernel_rfl
theorem zero_strs (w : World) : (zeroValue 51).run Tryd.prog w = .ok (.slice none 0 0) w := by kernel_rfl
def T1 : Array MapEntry := #[{ key := .agg enA.toArray, val := .agg #[], born := 0 }]
def T2 : Array MapEntry := #[{ key := .agg enA.toArray, val := .agg #[], born := 0 }, { key := .agg enB.toArray, val := .agg #[], born := 1 }]
def S1 (v : Value) : Array MapEntry := #[{ key := .agg (hc dgA).toArray, val := v, born := 0 }]
theorem look_en0 {w : World} {b : Nat} (hb : w.heap[b]? = some (.map #[] 0)) : (Instr.lookup 47 (.map (some b)) (.agg enA.toArray) true).run Tryd.prog w = .ok (.tuple #[.agg #[], .bool false]) w :=
  run_lookup_at (r := none) true Tryd.underlying47 hb (ck_en _ w) (by kernel_rfl) (zero_unit w)
theorem look_en1 {w : World} {b : Nat} (hb : w.heap[b]? = some (.map T1 1)) : (Instr.lookup 47 (.map (some b)) (.agg enB.toArray) true).run Tryd.prog w = .ok (.tuple #[.agg #[], .bool false]) w :=
  run_lookup_at (r := none) true Tryd.underlying47 hb (ck_enB _ w) (by kernel_rfl) (zero_unit w)
theorem upd_en0 {w : World} {b : Nat} (hb : w.heap[b]? = some (.map #[] 0)) : (Instr.mapUpdate 47 (.map (some b)) (.agg enA.toArray) (.agg #[])).run Tryd.prog w = .ok () (putMap w b T1 1) :=
  run_mapUpdate_new Tryd.underlying47 hb (ck_en _ w) (by kernel_rfl)
theorem upd_en1 {w : World} {b : Nat} (hb : w.heap[b]? = some (.map T1 1)) : (Instr.mapUpdate 47 (.map (some b)) (.agg enB.toArray) (.agg #[])).run Tryd.prog w = .ok () (putMap w b T2 2) :=
  run_mapUpdate_new Tryd.underlying47 hb (ck_enB _ w) (by kernel_rfl)
theorem ent_h0 {w : World} {b : Nat} (hb : w.heap[b]? = some (.map #[] 0)) : (Instr.mapEntry 46 (.map (some b)) (.agg (hc dgA).toArray)).run Tryd.prog w = .ok (.tuple #[.slice none 0 0, .int .i64 0]) (putMap w b (S1 (.slice none 0 0)) 1) :=
  run_mapEntry_new Tryd.underlying46 hb (ck_h _ w) (by kernel_rfl) (zero_strs w)
theorem find_h (v : Value) (w : World) : (Instr.findKey 28 (.agg (hc dgA).toArray) (S1 v).toList).run Tryd.prog w = .ok (some (0, v)) w := by kernel_rfl
theorem ent_h1 {w : World} {b : Nat} {v : Value} (hb : w.heap[b]? = some (.map (S1 v) 1)) : (Instr.mapEntry 46 (.map (some b)) (.agg (hc dgA).toArray)).run Tryd.prog w = .ok (.tuple #[v, .int .i64 0]) (putMap w b (S1 v) 1) :=
  run_mapEntry_old (n := 0) Tryd.underlying46 hb (ck_h _ w) (find_h v w) rfl (by decide +kernel)
theorem ents_h {w : World} {b : Nat} {v u : Value} (hb : w.heap[b]? = some (.map (S1 v) 1)) : (Instr.entryStore 46 (.map (some b)) (.int .i64 0) u).run Tryd.prog w = .ok () (putMap w b (S1 u) 1) :=
  run_entryStore_at (n := 0) (i := 0) hb (by simp [S1, Array.findIdx?, Array.findIdx?.loop])
theorem look_h {w : World} {b : Nat} {v : Value} (hb : w.heap[b]? = some (.map (S1 v) 1)) : (Instr.lookup 46 (.map (some b)) (.agg (hc dgA).toArray) false).run Tryd.prog w = .ok v w :=
  run_lookup_at (r := some (0, v)) false Tryd.underlying46 hb (ck_h _ w) (find_h v w) (zero_strs w)
end Go.Proofs.YtimcjnocmbbahaaDoor
