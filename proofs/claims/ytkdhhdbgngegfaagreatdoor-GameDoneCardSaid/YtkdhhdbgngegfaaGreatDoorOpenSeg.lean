/-
  A hash, a segment, as a law's argument.
-/
import Derived.Test.YtkdhhdbgngegfaaGreatDoorSeg
import Derived.Test.YtkdhhdbgngegfaaGreatDoorFrame
namespace Go.Proofs.YtkdhhdbgngegfaaGreatDoor
set_option maxRecDepth 100000
open Go.ChangeShapes Go.WideShapes Go.ChangeAt Go.RowKit

theorem mapM_mem {α β : Type} {f : α → Option β} : ∀ {L : List α} {xs : List β}, L.mapM f = some xs → ∀ i ∈ L, ∃ y, f i = some y
  | [], _, _, i, hi => by simp at hi
  | a :: L, xs, h, i, hi => by
    rw [List.mapM_cons] at h
    simp only [bind, Option.bind_eq_some_iff, pure, Option.some.injEq] at h
    obtain ⟨y, hy, ys, hys, _⟩ := h
    rcases List.mem_cons.1 hi with rfl | hi
    · exact ⟨y, hy⟩
    · exact mapM_mem hys i hi

section
variable {H : Type} {enc : TypeId × Value → H} {P : Program} {w : World} {base : Nat} {spare : Nat → Bool} {held : Bool}

theorem trod_hash {t e : TypeId} {fuel : Nat} {cs : List Value} {x : DataW H × List MemPlace} (ht : P.underlying t = some (.array 32 e)) (he : P.underlying e = some (.int .u8)) (hC : P.cellsOf t = 32) (h1 : P.cellsOf e = 1)
    (h : DataW.trod enc P w base spare held fuel t cs = some x) : ∃ F : List Int, F.length = 32 ∧ cs = hc F := by
  cases fuel with
  | zero => simp [DataW.trod] at h
  | succ m =>
    rw [DataW.trod_step] at h
    unfold DataW.trodStep at h
    simp only [ht, h1, hC, Nat.mul_one] at h
    split at h
    · rename_i hl
      simp only [Option.map_eq_some_iff] at h
      obtain ⟨ys, hy, _⟩ := h
      refine ⟨cs.map fun v => match v with | .int _ q => q | _ => 0, by simp [hl], ?_⟩
      apply List.ext_getElem?
      intro i
      by_cases hi : i < 32
      · obtain ⟨y, hy⟩ := mapM_mem hy i (by simp [hi])
        obtain ⟨a, ea, _, _⟩ := DataW.trod_int he hy
        have e0 : cs[i]? = some (.int .u8 a) := by
          have := congrArg (fun l => l[0]?) ea
          simpa [List.getElem?_take, List.getElem?_drop] using this
        simp [hc, e0]
      · rw [List.getElem?_eq_none (by omega), List.getElem?_eq_none (by simp [hc]; omega)]
    · simp at h

theorem i64_bounds {x : Int} (h : (Lit.int .i64 x).wf = true) : -9223372036854775808 ≤ x ∧ x < 9223372036854775808 := by
  have : -9223372036854775808 ≤ x ∧ x ≤ 9223372036854775807 := by simpa [Lit.wf, IntKind.min, IntKind.max, IntKind.signed, IntKind.bits] using h
  omega

theorem split_row {cs : List Value} {a b p : Value} {F T M : List Value} (hl : cs.length = 99) (ha : cs.take 1 = [a]) (hb : (cs.drop 1).take 1 = [b]) (hF : (cs.drop 2).take 32 = F) (hT : (cs.drop 34).take 32 = T) (hM : (cs.drop 66).take 32 = M) (hp : (cs.drop 98).take 1 = [p]) :
    cs = a :: b :: (F ++ (T ++ (M ++ [p]))) := by
  have e0 : cs = cs.take 1 ++ cs.drop 1 := (List.take_append_drop 1 cs).symm
  have e1 : cs.drop 1 = (cs.drop 1).take 1 ++ cs.drop 2 := by
    have := (List.take_append_drop 1 (cs.drop 1)).symm; rwa [List.drop_drop] at this
  have e2 : cs.drop 2 = (cs.drop 2).take 32 ++ cs.drop 34 := by
    have := (List.take_append_drop 32 (cs.drop 2)).symm; rwa [List.drop_drop] at this
  have e3 : cs.drop 34 = (cs.drop 34).take 32 ++ cs.drop 66 := by
    have := (List.take_append_drop 32 (cs.drop 34)).symm; rwa [List.drop_drop] at this
  have e4 : cs.drop 66 = (cs.drop 66).take 32 ++ cs.drop 98 := by
    have := (List.take_append_drop 32 (cs.drop 66)).symm; rwa [List.drop_drop] at this
  have e5 : cs.drop 98 = (cs.drop 98).take 1 := by
    rw [List.take_of_length_le (by simp [hl])]
  rw [e0, e1, e2, e3, e4, e5, ha, hb, hF, hT, hM, hp]
  simp

theorem trod_seg {fuel : Nat} {cs : List Value} {x : DataW H × List MemPlace} (h : DataW.trod enc Tryz.prog w base spare held fuel 25 cs = some x) : ∃ s : Seg, s.ok ∧ cs = s.row := by
  have c1 : Tryz.prog.cellsOf 3 = 1 := by kernel_rfl
  have c2 : Tryz.prog.cellsOf 23 = 32 := by kernel_rfl
  have c3 : Tryz.prog.cellsOf 4 = 1 := by kernel_rfl
  have c4 : Tryz.prog.cellsOf 5 = 1 := by kernel_rfl
  have c5 : Tryz.prog.cellsOf 25 = 99 := by kernel_rfl
  cases fuel with
  | zero => simp [DataW.trod] at h
  | succ m =>
    rw [DataW.trod_step] at h
    unfold DataW.trodStep at h
    simp only [Tryz.underlying25, c5] at h
    split at h
    · rename_i hl
      simp only [Option.map_eq_some_iff] at h
      obtain ⟨ys, hy, _⟩ := h
      have key := mapM_mem hy
      simp only [List.mem_cons, List.not_mem_nil, or_false, forall_eq_or_imp, forall_eq, c1, c2, c3, List.drop_zero] at key
      obtain ⟨⟨y0, k0⟩, ⟨y1, k1⟩, ⟨y2, k2⟩, ⟨y3, k3⟩, ⟨y4, k4⟩, ⟨y5, k5⟩⟩ := key
      obtain ⟨a, ea, _, wa⟩ := DataW.trod_int Tryz.underlying3 k0
      obtain ⟨b, eb, _, wb⟩ := DataW.trod_int Tryz.underlying3 k1
      obtain ⟨F, hF, eF⟩ := trod_hash Tryz.underlying23 Tryz.underlying5 c2 c4 k2
      obtain ⟨T, hT, eT⟩ := trod_hash Tryz.underlying23 Tryz.underlying5 c2 c4 k3
      obtain ⟨M, hM, eM⟩ := trod_hash Tryz.underlying23 Tryz.underlying5 c2 c4 k4
      obtain ⟨p, ep, _⟩ := DataW.trod_bool Tryz.underlying4 k5
      have ba := i64_bounds wa
      have bb := i64_bounds wb
      exact ⟨⟨a, b, F, T, M, p⟩, ⟨ba.1, ba.2, bb.1, bb.2, hF, hT, hM⟩, split_row hl ea eb eF eT eM ep⟩
    · simp at h

/-- A segment, by value. -/
theorem open_seg {r : Reach} {b0 : Nat} {v : Value} {d : DataW H} {p : List MemPlace} (hv : Value.okWide Tryz.prog w r b0 25 v) (h : DataW.Trod enc Tryz.prog w base spare held 25 v d p) :
    ∃ s : Seg, s.ok ∧ v = .agg s.row.toArray := by
  obtain ⟨cs, rfl, _, _⟩ : ∃ cs, v = .agg cs ∧ cs.size = Tryz.prog.cellsOf 25 ∧ Row.okWide Tryz.prog w r b0 25 cs := by
    simpa [Value.okWide, Tryz.underlying25] using hv
  obtain ⟨fuel, hf⟩ := h
  obtain ⟨s, hs, e⟩ := trod_seg hf
  exact ⟨s, hs, by rw [← e]; simp [Value.cells]⟩
/-- A hash, by value. -/
theorem open_hash {r : Reach} {b0 : Nat} {v : Value} {d : DataW H} {p : List MemPlace} (hv : Value.okWide Tryz.prog w r b0 23 v) (h : DataW.Trod enc Tryz.prog w base spare held 23 v d p) :
    ∃ F : List Int, F.length = 32 ∧ v = .agg (hc F).toArray := by
  obtain ⟨cs, rfl, _, _⟩ : ∃ cs, v = .agg cs ∧ cs.size = Tryz.prog.cellsOf 23 ∧ Row.okWide Tryz.prog w r b0 23 cs := by
    simpa [Value.okWide, Tryz.underlying23] using hv
  obtain ⟨fuel, hf⟩ := h
  obtain ⟨F, hF, e⟩ := trod_hash Tryz.underlying23 Tryz.underlying5 (by kernel_rfl) (by kernel_rfl) hf
  exact ⟨F, hF, by rw [← e]; simp [Value.cells]⟩
end
end Go.Proofs.YtkdhhdbgngegfaaGreatDoor
