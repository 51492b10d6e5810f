/-
  A game, as a law's argument.
-/
import Derived.Test.YtkdhhdbgngegfaaGreatDoorOpenSeg
import Derived.Test.YtkdhhdbgngegfaaGreatDoorGm
namespace Go.Proofs.YtkdhhdbgngegfaaGreatDoor
set_option maxRecDepth 100000
open Go.ChangeShapes Go.WideShapes Go.ChangeAt Go.RowKit

section
variable {H : Type} {enc : TypeId × Value → H} {P : Program} {w : World} {base : Nat} {spare : Nat → Bool} {held : Bool}

theorem trod_clk {fuel : Nat} {cs : List Value} {x : DataW H × List MemPlace} (h : DataW.trod enc Tryz.prog w base spare held fuel 26 cs = some x) : ∃ a b : Int, i64ok a ∧ i64ok b ∧ cs = [.int .i64 a, .int .i64 b] := by
  have c1 : Tryz.prog.cellsOf 3 = 1 := by kernel_rfl
  have c2 : Tryz.prog.cellsOf 26 = 2 := by kernel_rfl
  cases fuel with
  | zero => simp [DataW.trod] at h
  | succ m =>
    rw [DataW.trod_step] at h
    unfold DataW.trodStep at h
    simp only [Tryz.underlying26, c1, c2, Nat.mul_one] at h
    split at h
    · rename_i hl
      simp only [Option.map_eq_some_iff] at h
      obtain ⟨ys, hy, _⟩ := h
      obtain ⟨y0, k0⟩ := mapM_mem hy 0 (by simp)
      obtain ⟨y1, k1⟩ := mapM_mem hy 1 (by simp)
      obtain ⟨a, ea, _, wa⟩ := DataW.trod_int Tryz.underlying3 k0
      obtain ⟨b, eb, _, wb⟩ := DataW.trod_int Tryz.underlying3 k1
      refine ⟨a, b, i64_bounds wa, i64_bounds wb, ?_⟩
      match cs, hl with
      | [p, q], _ =>
        simp at ea eb
        rw [ea, eb]
    · simp at h

theorem split_gm {cs : List Value} {s : List Value} {a b c d : Value} (hl : cs.length = 103) (hs : (cs.take 99) = s) (hk : (cs.drop 99).take 2 = [a, b]) (hc : (cs.drop 101).take 1 = [c]) (hd : (cs.drop 102).take 1 = [d]) : cs = s ++ [a, b, c, d] := by
  have e0 : cs = cs.take 99 ++ cs.drop 99 := (List.take_append_drop 99 cs).symm
  have e1 : cs.drop 99 = (cs.drop 99).take 2 ++ cs.drop 101 := by
    have := (List.take_append_drop 2 (cs.drop 99)).symm; rwa [List.drop_drop] at this
  have e2 : cs.drop 101 = (cs.drop 101).take 1 ++ cs.drop 102 := by
    have := (List.take_append_drop 1 (cs.drop 101)).symm; rwa [List.drop_drop] at this
  have e3 : cs.drop 102 = (cs.drop 102).take 1 := by
    rw [List.take_of_length_le (by simp [hl])]
  rw [e0, e1, e2, e3, hs, hk, hc, hd]
  simp

/-- A game, by value. -/
theorem open_gm {r : Reach} {b0 : Nat} {v : Value} {d : DataW H} {p : List MemPlace} (hv : Value.okWide Tryz.prog w r b0 28 v) (h : DataW.Trod enc Tryz.prog w base spare held 28 v d p) :
    ∃ g : Gm, g.ok ∧ v = .agg g.row.toArray := by
  obtain ⟨cs, rfl, _, _⟩ : ∃ cs, v = .agg cs ∧ cs.size = Tryz.prog.cellsOf 28 ∧ Row.okWide Tryz.prog w r b0 28 cs := by
    simpa [Value.okWide, Tryz.underlying28] using hv
  obtain ⟨fuel, h⟩ := h
  have c1 : Tryz.prog.cellsOf 3 = 1 := by kernel_rfl
  have c2 : Tryz.prog.cellsOf 26 = 2 := by kernel_rfl
  have c3 : Tryz.prog.cellsOf 25 = 99 := by kernel_rfl
  have c5 : Tryz.prog.cellsOf 28 = 103 := by kernel_rfl
  cases fuel with
  | zero => simp [DataW.trod] at h
  | succ m =>
    rw [DataW.trod_step] at h
    unfold DataW.trodStep at h
    simp only [Tryz.underlying28, c5] at h
    split at h
    · rename_i hl
      simp only [Option.map_eq_some_iff] at h
      obtain ⟨ys, hy, _⟩ := h
      have key := mapM_mem hy
      simp only [List.mem_cons, List.not_mem_nil, or_false, forall_eq_or_imp, forall_eq, c1, c2, c3, List.drop_zero] at key
      obtain ⟨⟨y0, k0⟩, ⟨y1, k1⟩, ⟨y2, k2⟩, ⟨y3, k3⟩⟩ := key
      obtain ⟨s, hs, es⟩ := trod_seg k0
      obtain ⟨a, b, ha, hb, eab⟩ := trod_clk k1
      obtain ⟨c, ec, _, wc⟩ := DataW.trod_int Tryz.underlying3 k2
      obtain ⟨d, ed, _, wd⟩ := DataW.trod_int Tryz.underlying3 k3
      have e := split_gm hl es eab ec ed
      refine ⟨⟨s, a, b, c, d⟩, ⟨hs, ha, hb, i64_bounds wc, i64_bounds wd⟩, ?_⟩
      show _ = Value.agg (List.toArray (s.row ++ [Value.int .i64 a, Value.int .i64 b, Value.int .i64 c, Value.int .i64 d]))
      rw [← e]
      simp [Value.cells]
    · simp at h
end
end Go.Proofs.YtkdhhdbgngegfaaGreatDoor
