/-
  An op of the book's laws as a law's argument.
-/
import Derived.Test.YtimcjnocmbbahaaDoorBookNilW
import Derived.Test.YtimcjnocmbbahaaDoorOpenBytes
import Derived.Test.YtimcjnocmbbahaaDoorOpenStruct
namespace Go.Proofs.YtimcjnocmbbahaaDoor
set_option maxRecDepth 100000
open Go.ChangeShapes Go.WideShapes Go.ChangeAt Go.RowKit Go.Deep

section
variable {H : Type} {enc : TypeId × Value → H} {w : World} {base : Nat} {held : Bool}
theorem trod_bytesC {fuel : Nat} {cs : List Value} {y : DataW H × List MemPlace} (h : DataW.trod enc Tryd.prog w base (fun _ => true) held fuel 22 cs = some y) :
    ∃ v xs, cs = [v] ∧ RdC w v xs ∧ Bytes xs := by
  rcases Deep.open_slice Tryd.underlying22 h with ⟨rfl, _⟩ | ⟨a, len, cap, m, n, D, Pl, rfl, hb, hl, hm, hmm, hy, hx⟩
  · exact ⟨_, [], rfl, ⟨none, 0, rfl, by simp, .inl rfl⟩, (fun x hx => by simp at hx)⟩
  · rcases open_ints Tryd.underlying22 Tryd.underlying5 (by kernel_rfl) h with ⟨h0, _⟩ | ⟨a', len', cap', zs, hcs, _, hl', hm', hz, _, hx', hwf⟩
    · simp at h0
    · simp only [List.cons.injEq, Value.slice.injEq, Option.some.injEq, and_true] at hcs
      obtain ⟨rfl, rfl, rfl⟩ := hcs
      simp only [if_true] at hz
      have hl2 : (zs.take len).length = len := by simp; omega
      refine ⟨_, zs.take len, rfl, ?_, fun x hx => u8_bounds (hwf x (List.mem_of_mem_take hx))⟩
      by_cases h0 : len = 0
      · subst h0
        exact ⟨some a, cap, by rw [hl2], by omega, .inl (by simp)⟩
      · obtain ⟨b, o, sp⟩ := a
        have hsp : sp = none := by
          have := hx' 0 (by omega)
          simpa [Addr.add] using World.cell?_spot this
        subst hsp
        refine ⟨_, cap, by rw [hl2], by omega, .inr ⟨b, o, rfl, fun i hi => ?_⟩⟩
        have h := hx' i (by omega)
        rw [addr_add] at h
        rw [h]
        simp [List.getD, show i < len by omega]
theorem trod_blobsC {fuel : Nat} {cs : List Value} {y : DataW H × List MemPlace} (h : DataW.trod enc Tryd.prog w base (fun _ => true) held fuel 26 cs = some y) :
    ∃ v L, cs = [v] ∧ RdL w v L [] ∧ (∀ b ∈ L, Bytes b) ∧ L.length ≤ maxLen ∧ Cap0 w v L := by
  rcases Deep.open_slice Tryd.underlying26 h with ⟨rfl, _⟩ | ⟨a, len0, cap, m, n, D, Pl, rfl, hb, hl, hm, hmm, hy, hx⟩
  · exact ⟨_, [], rfl, ⟨_, _, rfl, .inl rfl⟩, (fun b hb => by simp at hb), Nat.zero_le _, .inl rfl⟩
  · simp only [if_true] at hmm
    subst hmm
    have key : ∀ i, ∃ xs : List Int, i < len0 → ∃ u, w.cell? (a.add i) = some u ∧ RdC w u xs ∧ Bytes xs := by
      intro i
      by_cases hi : i < len0
      · obtain ⟨cs', hc, ht⟩ := hx i (by omega)
        rw [show Tryd.prog.cellsOf 22 = 1 by kernel_rfl, Nat.mul_one] at hc
        obtain ⟨v, xs, rfl, hrd, hbx⟩ := trod_bytesC ht
        refine ⟨xs, fun _ => ⟨v, ?_, hrd, hbx⟩⟩
        have := (World.cells?_some hc).2.2 0 (by decide)
        simpa [Addr.add_add] using this
      · exact ⟨[], fun h => absurd h hi⟩
    obtain ⟨f, hf⟩ := Classical.axiomOfChoice key
    have hlen : ((List.range len0).map f).length = len0 := by simp
    by_cases h0 : len0 = 0
    · subst h0
      refine ⟨_, [], rfl, ⟨some a, _, rfl, .inl rfl⟩, (fun b hb => by simp at hb), Nat.zero_le _, .inl rfl⟩
    obtain ⟨b, o, sp⟩ := a
    have hsp : sp = none := by
      obtain ⟨u, hu, _⟩ := hf 0 (by omega)
      simpa [Addr.add] using World.cell?_spot hu
    subst hsp
    refine ⟨_, (List.range len0).map f, rfl, ⟨some ⟨b, o, none⟩, m, by rw [hlen], ?_⟩, ?_, by rw [hlen]; omega, ?_⟩
    · refine .inr ⟨b, o, rfl, by simp, fun i hi => ?_⟩
      have hi' : i < len0 := by simpa using hi
      obtain ⟨u, hu, hrd, _⟩ := hf i hi'
      rw [addr_add] at hu
      have e : ((List.range len0).map f).getD i [] = f i := by simp [List.getD, hi']
      exact ⟨u, hu, by rw [e]; exact hrd.rd, fun _ _ _ => by simp⟩
    · intro b hb
      obtain ⟨i, hi, rfl⟩ := List.mem_map.1 hb
      obtain ⟨u, _, _, h3⟩ := hf i (by simpa using hi)
      exact h3
    · obtain ⟨u, hu, hrd, _⟩ := hf 0 (by omega)
      rw [addr_add, Nat.add_zero] at hu
      have e : ((List.range len0).map f).getD 0 [] = f 0 := by simp [List.getD, show 0 < len0 by omega]
      exact .inr ⟨b, o, m, u, by rw [hlen], hu, by rw [e]; exact hrd⟩
theorem split_op {cs : List Value} {a b c : Value} {F : List Value} (hl : cs.length = 35) (h0 : cs[0]? = some a) (h1 : cs[1]? = some b) (h2 : cs[2]? = some c) (hF : (cs.drop 3).take 32 = F) : cs = [a, b, c] ++ F := by
  rcases cs with _ | ⟨x, _ | ⟨y, _ | ⟨z, r⟩⟩⟩
  · simp at hl
  · simp at hl
  · simp at hl
  · simp at h0 h1 h2 hl
    subst h0 h1 h2
    have : r.take 32 = r := List.take_of_length_le (by omega)
    simp only [List.drop_succ_cons, List.drop_zero, this] at hF
    rw [hF]; rfl
theorem open_op {r : Reach} {b0 : Nat} {v : Value} {d : DataW H} {p : List MemPlace} (hv : Value.okWide Tryd.prog w r b0 30 v) (h : DataW.Trod enc Tryd.prog w base (fun _ => true) held 30 v d p) :
    ∃ k s vL F L, v = .agg (opRow k s vL F).toArray ∧ RdL w vL L [] ∧ (∀ b ∈ L, Bytes b) ∧ L.length ≤ maxLen ∧ Cap0 w vL L ∧ s.size ≤ maxLen ∧ F.length = 32 := by
  obtain ⟨arr, rfl, _, _⟩ : ∃ cs, v = .agg cs ∧ cs.size = Tryd.prog.cellsOf 30 ∧ Row.okWide Tryd.prog w r b0 30 cs := by
    simpa [Value.okWide, Tryd.underlying30] using hv
  obtain ⟨fuel, hf0⟩ := h
  obtain ⟨hl, m, hf⟩ := trod_fields Tryd.underlying30 (n := 35) (by kernel_rfl) hf0
  obtain ⟨y0, t0⟩ := hf _ (List.mem_of_getElem? (i := 0) rfl)
  obtain ⟨y1, t1⟩ := hf _ (List.mem_of_getElem? (i := 1) rfl)
  obtain ⟨y2, t2⟩ := hf _ (List.mem_of_getElem? (i := 2) rfl)
  obtain ⟨y3, t3⟩ := hf _ (List.mem_of_getElem? (i := 3) rfl)
  dsimp only at t0 t1 t2 t3
  rw [show Tryd.prog.cellsOf 3 = 1 by kernel_rfl] at t0
  rw [show Tryd.prog.cellsOf 9 = 1 by kernel_rfl] at t1
  rw [show Tryd.prog.cellsOf 26 = 1 by kernel_rfl] at t2
  rw [show Tryd.prog.cellsOf 28 = 32 by kernel_rfl] at t3
  obtain ⟨k, e0, _, _⟩ := DataW.trod_int Tryd.underlying3 t0
  obtain ⟨s, e1, _, hs⟩ := DataW.trod_string Tryd.underlying9 t1
  obtain ⟨vL, L, e2, hL, bL, hn, hC⟩ := trod_blobsC t2
  obtain ⟨F, hF, e3⟩ := trod_hash Tryd.underlying28 Tryd.underlying5 (by kernel_rfl) (by kernel_rfl) t3
  refine ⟨k, s, vL, F, L, ?_, hL, bL, hn, hC, hs, hF⟩
  have := split_op hl (one_at e0) (one_at e1) (one_at e2) e3
  unfold opRow
  rw [← this]
  simp [Value.cells]
end
end Go.Proofs.YtimcjnocmbbahaaDoor
