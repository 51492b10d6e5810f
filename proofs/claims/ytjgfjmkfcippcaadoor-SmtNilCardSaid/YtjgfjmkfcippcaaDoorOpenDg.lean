/-
  How many slices an argument of slices holds; a hash as an argument, and its bytes.
-/
import Derived.Test.YtjgfjmkfcippcaaDoorOpenBlobs
import Derived.Test.YtjgfjmkfcippcaaDoorHash
namespace Go.Proofs.YtjgfjmkfcippcaaDoor
set_option maxRecDepth 100000
open Go.ChangeShapes Go.WideShapes Go.ChangeAt Go.RowKit Go.Deep

section
variable {H : Type} {enc : TypeId × Value → H} {w : World} {base : Nat} {held : Bool}
theorem blobs_count {v : Value} {d : DataW H} {p : List MemPlace} {L : List (List Int)} (hR : RdL w v L []) (h : DataW.Trod enc Tryd.prog w base (fun _ => true) held 79 v d p) : L.length ≤ maxLen := by
  obtain ⟨q, c, rfl, _⟩ := hR
  obtain ⟨fuel, hf⟩ := h
  rcases Deep.open_slice Tryd.underlying79 hf with ⟨h0, _⟩ | ⟨a, len, cap, m, n, D, Pl, h0, hb, hl, hm, _⟩
  · simp only [Value.cells, List.cons.injEq, Value.slice.injEq, and_true] at h0
    rw [h0.2.1]; exact Nat.zero_le _
  · simp only [Value.cells, List.cons.injEq, Value.slice.injEq, and_true] at h0
    omega

theorem mapM_memB {α β : Type} {f : α → Option β} : ∀ {L : List α} {xs : List β}, L.mapM f = some xs → ∀ i ∈ L, ∃ y, f i = some y
  | [], _, _, i, hi => by simp at hi
  | a :: L, xs, h, i, hi => by
    rw [List.mapM_cons] at h
    simp only [bind, Option.bind_eq_some_iff, pure, Option.some.injEq] at h
    obtain ⟨y, hy, ys, hys, _⟩ := h
    rcases List.mem_cons.1 hi with rfl | hi
    · exact ⟨y, hy⟩
    · exact mapM_memB hys i hi
theorem trod_hashB {t e : TypeId} {P : Program} {spare : Nat → Bool} {fuel : Nat} {cs : List Value} {x : DataW H × List MemPlace} (ht : P.underlying t = some (.array 32 e)) (he : P.underlying e = some (.int .u8)) (hC : P.cellsOf t = 32) (h1 : P.cellsOf e = 1)
    (h : DataW.trod enc P w base spare held fuel t cs = some x) : ∃ F : List Int, F.length = 32 ∧ cs = hc F ∧ Bytes F := by
  cases fuel with
  | zero => simp [DataW.trod] at h
  | succ m =>
    rw [DataW.trod_step] at h
    unfold DataW.trodStep at h
    simp only [ht, h1, hC, Nat.mul_one] at h
    split at h
    · rename_i hl
      simp only [Option.map_eq_some_iff] at h
      obtain ⟨ys, hy, _⟩ := h
      have key : ∀ i, i < 32 → ∃ a, cs[i]? = some (.int .u8 a) ∧ 0 ≤ a ∧ a < 256 := by
        intro i hi
        obtain ⟨y, hy⟩ := mapM_memB hy i (by simp [hi])
        obtain ⟨a, ea, _, wa⟩ := DataW.trod_int he hy
        refine ⟨a, ?_, u8_bounds wa⟩
        have := congrArg (fun l => l[0]?) ea
        simpa [List.getElem?_take, List.getElem?_drop] using this
      refine ⟨cs.map fun v => match v with | .int _ q => q | _ => 0, by simp [hl], ?_, ?_⟩
      · apply List.ext_getElem?
        intro i
        by_cases hi : i < 32
        · obtain ⟨a, e0, _⟩ := key i hi
          simp [hc, e0]
        · rw [List.getElem?_eq_none (by omega), List.getElem?_eq_none (by simp [hc]; omega)]
      · intro z hz
        obtain ⟨v, hv, rfl⟩ := List.mem_map.1 hz
        obtain ⟨i, hi, rfl⟩ := List.getElem_of_mem hv
        obtain ⟨a, e0, ha⟩ := key i (by omega)
        rw [List.getElem?_eq_getElem hi, Option.some.injEq] at e0
        rw [e0]
        exact ha
    · simp at h
theorem open_hashB {r : Reach} {b0 : Nat} {v : Value} {d : DataW H} {p : List MemPlace} (hv : Value.okWide Tryd.prog w r b0 23 v) (h : DataW.Trod enc Tryd.prog w base (fun _ => true) held 23 v d p) :
    ∃ F : List Int, F.length = 32 ∧ v = .agg (hc F).toArray ∧ Bytes F := by
  obtain ⟨cs, rfl, _, _⟩ : ∃ cs, v = .agg cs ∧ cs.size = Tryd.prog.cellsOf 23 ∧ Row.okWide Tryd.prog w r b0 23 cs := by
    simpa [Value.okWide, Tryd.underlying23] using hv
  obtain ⟨fuel, hf⟩ := h
  obtain ⟨F, hF, e, hb⟩ := trod_hashB Tryd.underlying23 Tryd.underlying5 (by kernel_rfl) (by kernel_rfl) hf
  exact ⟨F, hF, by rw [← e]; simp [Value.cells], hb⟩
end
end Go.Proofs.YtjgfjmkfcippcaaDoor
