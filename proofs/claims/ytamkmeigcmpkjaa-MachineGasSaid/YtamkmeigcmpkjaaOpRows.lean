/-
  Slices of whatever rows, as a law's argument.
-/
import Derived.Test.YtamkmeigcmpkjaaFpG
import Derived.Test.YtamkmeigcmpkjaaOpenTx
namespace Go.Proofs.Ytamkmeigcmpkjaa
set_option maxRecDepth 100000
open Go.ChangeShapes Go.WideShapes Go.ChangeAt Go.RowKit Go.Deep

section
variable {H : Type} {enc : TypeId × Value → H} {P : Program} {w : World} {base : Nat} {held : Bool}
/-- A slice's cell, element by element. -/
theorem trod_rows {α : Type} {R : World → Fp → α → List Value → Prop} {okx : α → Prop} {d0 : α} {n by_ : Nat} {t e : TypeId} (k : FpOk R) (hn : 0 < n) (ht : P.underlying t = some (.slice e)) (hC : P.cellsOf e = n) (hB : P.bytesOf e = by_)
    (elem : ∀ (fuel : Nat) (cs : List Value) (y : DataW H × List MemPlace), DataW.trod enc P w base (fun _ => true) held fuel e cs = some y → (∀ n ∈ y.1.weights P e, n ≤ reachBytes) → ∃ x, cs.length = n ∧ R w (fun g => g < w.heap.size) x cs ∧ okx x)
    {fuel : Nat} {cs : List Value} {y : DataW H × List MemPlace} (hf : DataW.trod enc P w base (fun _ => true) held fuel t cs = some y) (hs : ∀ n ∈ y.1.weights P t, n ≤ reachBytes) :
    ∃ q c L, cs = [.slice q L.length c] ∧ RwF n d0 R w (fun g => g < w.heap.size) q L ∧ (∀ x ∈ L, okx x) ∧ L.length * by_ ≤ reachBytes := by
  have _ := k
  rcases Deep.open_slice ht hf with ⟨h0, _⟩ | ⟨a, len, cap, m, nn, D, Pl, hcs, hb, hl, hm, hmm, hy, hx⟩
  · exact ⟨none, 0, [], h0, .inl rfl, fun s h => by simp at h, by simp⟩
  · simp only [if_true] at hmm
    subst hmm
    rw [hy] at hs
    obtain ⟨w1, w2⟩ := weights_slice ht hs
    rw [hB] at w1
    have key : ∀ i, ∃ x : α × List Value, i < len → okx x.1 ∧ x.2.length = n ∧ R w (fun g => g < w.heap.size) x.1 x.2 ∧ ∀ j u, x.2[j]? = some u → w.cell? (a.add (i * n + j)) = some u := by
      intro i
      by_cases hi : i < len
      · obtain ⟨cs', hc1, hte⟩ := hx i (by omega)
        rw [hC] at hc1
        obtain ⟨x, l9, hr, ok⟩ := elem _ _ _ hte (w2 (D i) (List.mem_map.2 ⟨i, by simpa using hi, rfl⟩))
        refine ⟨(x, cs'), fun _ => ⟨ok, l9, hr, fun j u hu => ?_⟩⟩
        have hj2 : j < cs'.length := (List.getElem?_eq_some_iff.1 hu).1
        have hj : j < n := by omega
        have := (World.cells?_some hc1).2.2 j hj
        rw [Addr.add_add] at this
        rw [this]
        exact hu
      · exact ⟨(d0, []), fun h => absurd h hi⟩
    obtain ⟨f, hf⟩ := Classical.axiomOfChoice key
    have hlen : ((List.range len).map fun i => (f i).1).length = len := by simp
    have hg : ∀ i, i < len → ((List.range len).map fun i => (f i).1).getD i d0 = (f i).1 := fun i hi => by simp [List.getD, hi]
    refine ⟨some a, m, (List.range len).map fun i => (f i).1, by rw [hlen]; exact hcs, ?_, ?_, by rw [hlen]; simpa using w1⟩
    · by_cases h0 : len = 0
      · exact .inl (by simp [h0])
      · obtain ⟨b, o, sp⟩ := a
        have hsp : sp = none := by
          obtain ⟨_, l9, _, h3⟩ := hf 0 (by omega)
          have := h3 0 _ (List.getElem?_eq_getElem (by omega))
          simpa [Addr.add] using World.cell?_spot this
        subst hsp
        refine .inr ⟨b, o, rfl, ?_, fun i hi => ?_⟩
        · obtain ⟨_, l9, _, h3⟩ := hf 0 (by omega)
          have := lt_of_cell (h3 0 _ (List.getElem?_eq_getElem (by omega)))
          rw [addr_add] at this
          exact this
        · rw [hlen] at hi
          obtain ⟨ok, l9, h2, h3⟩ := hf i hi
          rw [hg i hi]
          refine ⟨(f i).2, l9, rowOf_vals l9 hn (fun j u hu => ?_), h2⟩
          have := h3 j u hu
          rw [addr_add] at this
          rw [← this]
          congr 2
          omega
    · intro s hS
      obtain ⟨i, hi, rfl⟩ := List.mem_map.1 hS
      exact (hf i (List.mem_range.1 hi)).1
end
end Go.Proofs.Ytamkmeigcmpkjaa
