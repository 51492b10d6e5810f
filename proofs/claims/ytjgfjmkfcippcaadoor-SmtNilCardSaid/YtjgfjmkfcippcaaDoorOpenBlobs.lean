/-
  A list of slices of bytes, as a law's argument; what it weighs.
-/
import Derived.Test.YtjgfjmkfcippcaaDoorOpenBytes
import Derived.Test.YtjgfjmkfcippcaaDoorDgLent
namespace Go.Proofs.YtjgfjmkfcippcaaDoor
set_option maxRecDepth 100000
open Go.ChangeShapes Go.WideShapes Go.ChangeAt Go.RowKit Go.Deep

theorem bulk_pos {H : Type} (d : DataW H) : 1 ≤ Rows.uptoBulk d := by
  cases d with
  | lit l => cases l <;> simp [Rows.uptoBulk]
  | nil => simp [Rows.uptoBulk]
  | ptr d => simp [Rows.uptoBulk]
  | slice elems spare => simp [Rows.uptoBulk]
  | agg parts => simp [Rows.uptoBulk]
  | iface t d => simp [Rows.uptoBulk]
  | map entries => simp [Rows.uptoBulk]
  | held h => simp [Rows.uptoBulk]
theorem bulk_app {H : Type} (l r : List (DataW H)) : Rows.uptoBulkAll (l ++ r) = Rows.uptoBulkAll l + Rows.uptoBulkAll r := by
  induction l with
  | nil => simp [Rows.uptoBulkAll]
  | cons x l ih => simp only [List.cons_append, Rows.uptoBulkAll, ih]; omega
theorem bulk_len {H : Type} (l : List (DataW H)) : l.length ≤ Rows.uptoBulkAll l := by
  induction l with
  | nil => simp [Rows.uptoBulkAll]
  | cons x r ih => have := bulk_pos x; simp only [Rows.uptoBulkAll, List.length_cons]; omega
theorem bulk_slice {H : Type} (el sp : List (DataW H)) : Rows.uptoBulkAll el + 1 ≤ Rows.uptoBulk (.slice el sp) := by
  simp only [Rows.uptoBulk]; omega
theorem blobs_app (L M : List (List Int)) : blobs (L ++ M) = blobs L ++ blobs M := by simp [blobs]
theorem blobs_bulk {H : Type} {f : Nat → List Int} {D : Nat → DataW H} : ∀ n, (∀ i, i < n → (f i).length + 1 ≤ Rows.uptoBulk (D i)) → (blobs ((List.range n).map f)).length ≤ 8 * Rows.uptoBulkAll ((List.range n).map D)
  | 0, _ => by simp [blobs]
  | n + 1, h => by
    have ih := blobs_bulk n (fun i hi => h i (by omega))
    have hn := h n (by omega)
    rw [List.range_succ, List.map_append, List.map_append, blobs_app, bulk_app, List.length_append]
    have e : (blobs (List.map f [n])).length = 8 + (f n).length := by simp [blobs]
    have e2 : Rows.uptoBulkAll (List.map D [n]) = Rows.uptoBulk (D n) := by simp [Rows.uptoBulkAll]
    omega

section
variable {H : Type} {enc : TypeId × Value → H} {w : World} {base : Nat} {held : Bool}
theorem trod_bytesB {fuel : Nat} {cs : List Value} {y : DataW H × List MemPlace} (h : DataW.trod enc Tryd.prog w base (fun _ => true) held fuel 64 cs = some y) :
    ∃ v xs, cs = [v] ∧ Rd w v xs ∧ Bytes xs ∧ xs.length + 1 ≤ Rows.uptoBulk y.1 := by
  rcases Deep.open_slice Tryd.underlying64 h with ⟨rfl, _⟩ | ⟨a, len, cap, m, n, D, Pl, rfl, hb, hl, hm, hmm, hy, hx⟩
  · exact ⟨_, [], rfl, Rd.nil w, (fun x hx => by simp at hx), by have := bulk_pos y.1; simpa using this⟩
  · rcases open_ints Tryd.underlying64 Tryd.underlying5 (by kernel_rfl) h with ⟨h0, _⟩ | ⟨a', len', cap', zs, hcs, _, hl', hm', hz, _, hx', hwf⟩
    · simp at h0
    · simp only [List.cons.injEq, Value.slice.injEq, Option.some.injEq, and_true] at hcs
      obtain ⟨rfl, rfl, rfl⟩ := hcs
      simp only [if_true] at hz
      have hl2 : (zs.take len).length = len := by simp; omega
      refine ⟨_, zs.take len, rfl, ?_, fun x hx => u8_bounds (hwf x (List.mem_of_mem_take hx)), ?_⟩
      · by_cases h0 : len = 0
        · subst h0
          exact ⟨some a, _, by rw [hl2], .inl (by simp)⟩
        · obtain ⟨b, o, sp⟩ := a
          have hsp : sp = none := by
            have := hx' 0 (by omega)
            simpa [Addr.add] using World.cell?_spot this
          subst hsp
          refine ⟨_, _, by rw [hl2], .inr ⟨b, o, rfl, fun i hi => ?_⟩⟩
          have h := hx' i (by omega)
          rw [addr_add] at h
          rw [h]
          simp [List.getD, show i < len by omega]
      · rw [hy, hl2]
        have h1 := bulk_slice ((List.range len).map D) ((List.range (m - len)).map fun j => D (len + j))
        have h2 := bulk_len ((List.range len).map D)
        simp only [List.length_map, List.length_range] at h2
        simp only [Rows.uptoBulk]
        omega
theorem open_blobs {r : Reach} {b0 : Nat} {v : Value} {d : DataW H} {p : List MemPlace} (hv : Value.okWide Tryd.prog w r b0 79 v) (h : DataW.Trod enc Tryd.prog w base (fun _ => true) held 79 v d p) :
    ∃ L, RdL w v L [] ∧ (∀ b ∈ L, Bytes b) ∧ (blobs L).length ≤ 8 * Rows.uptoBulk d := by
  obtain ⟨a0, len0, cap0, rfl⟩ := okWide_slice Tryd.underlying79 hv
  obtain ⟨fuel, hf⟩ := h
  rcases Deep.open_slice Tryd.underlying79 hf with ⟨h0, _⟩ | ⟨a, len, cap, m, n, D, Pl, h0, hb, hl, hm, hmm, hy, hx⟩
  · simp [Value.cells] at h0
    obtain ⟨rfl, rfl, rfl⟩ := h0
    exact ⟨[], ⟨_, _, rfl, .inl rfl⟩, (fun b hb => by simp at hb), by simp [blobs]⟩
  · simp [Value.cells] at h0
    obtain ⟨rfl, rfl, rfl⟩ := h0
    simp only [if_true] at hmm
    subst hmm
    have key : ∀ i, ∃ xs : List Int, i < len0 → ∃ u, w.cell? (a.add i) = some u ∧ Rd w u xs ∧ Bytes xs ∧ xs.length + 1 ≤ Rows.uptoBulk (D i) := by
      intro i
      by_cases hi : i < len0
      · obtain ⟨cs', hc, ht⟩ := hx i (by omega)
        rw [show Tryd.prog.cellsOf 64 = 1 by kernel_rfl, Nat.mul_one] at hc
        obtain ⟨v, xs, rfl, hrd, hbx, hd⟩ := trod_bytesB ht
        refine ⟨xs, fun _ => ⟨v, ?_, hrd, hbx, hd⟩⟩
        have := (World.cells?_some hc).2.2 0 (by decide)
        simpa [Addr.add_add] using this
      · exact ⟨[], fun h => absurd h hi⟩
    obtain ⟨f, hf⟩ := Classical.axiomOfChoice key
    have hlen : ((List.range len0).map f).length = len0 := by simp
    refine ⟨(List.range len0).map f, ⟨some a, _, by rw [hlen], ?_⟩, ?_, ?_⟩
    · by_cases h0 : len0 = 0
      · exact .inl (by simp [h0])
      · obtain ⟨b, o, sp⟩ := a
        have hsp : sp = none := by
          obtain ⟨u, hu, _⟩ := hf 0 (by omega)
          simpa [Addr.add] using World.cell?_spot hu
        subst hsp
        refine .inr ⟨b, o, rfl, by simp, fun i hi => ?_⟩
        have hi' : i < len0 := by simpa using hi
        obtain ⟨u, hu, hrd, _⟩ := hf i hi'
        rw [addr_add] at hu
        have e : ((List.range len0).map f).getD i [] = f i := by simp [List.getD, hi']
        exact ⟨u, hu, by rw [e]; exact hrd, fun _ _ _ => by simp⟩
    · intro b hb
      obtain ⟨i, hi, rfl⟩ := List.mem_map.1 hb
      obtain ⟨u, _, _, h3, _⟩ := hf i (by simpa using hi)
      exact h3
    · have h1 := blobs_bulk (D := D) len0 (fun i hi => by obtain ⟨_, _, _, _, h4⟩ := hf i hi; exact h4)
      have h2 := bulk_slice ((List.range len0).map D) ((List.range (m - len0)).map fun j => D (len0 + j))
      rw [show d = (d, p).1 from rfl, hy]
      simp only [Rows.uptoBulk]
      omega
end
end Go.Proofs.YtjgfjmkfcippcaaDoor
