/-
  A slice of items, as a law's argument.
-/
import Derived.Test.YtigpiejjblfenaaOpenItem
import Derived.Test.YtigpiejjblfenaaCodecBk
namespace Go.Proofs.Ytigpiejjblfenaa
set_option maxRecDepth 100000
open Go.ChangeShapes Go.WideShapes Go.ChangeAt Go.RowKit Go.Deep

theorem u64_bounds {x : Int} (h : (Lit.int .u64 x).wf = true) : 0 ≤ x ∧ x < B := by
  have : 0 ≤ x ∧ x ≤ 18446744073709551615 := by simpa [Lit.wf, IntKind.min, IntKind.max, IntKind.signed, IntKind.bits] using h
  unfold B
  omega

section
variable {H : Type} {enc : TypeId × Value → H} {P : Program} {w : World} {base : Nat} {held : Bool}
theorem trod_arrI {t e : TypeId} {n : Nat} {kd : IntKind} {fuel : Nat} {cs : List Value} {x : DataW H × List MemPlace} (ht : P.underlying t = some (.array n e)) (he : P.underlying e = some (.int kd)) (hC : P.cellsOf t = n) (h1 : P.cellsOf e = 1)
    (h : DataW.trod enc P w base (fun _ => true) held fuel t cs = some x) : cs.length = n ∧ ∀ u ∈ cs, ∃ a, u = .int kd a ∧ (Lit.int kd a).wf = true := by
  cases fuel with
  | zero => simp [DataW.trod] at h
  | succ m =>
    rw [DataW.trod_step] at h
    unfold DataW.trodStep at h
    simp only [ht, h1, hC, Nat.mul_one] at h
    split at h
    · rename_i hl
      simp only [Option.map_eq_some_iff] at h
      obtain ⟨ys, hy, _⟩ := h
      refine ⟨hl, fun u hu => ?_⟩
      obtain ⟨i, hi, e⟩ := List.getElem_of_mem hu
      obtain ⟨y, hy⟩ := mapM_mem hy i (by simp; omega)
      obtain ⟨a, ea, _, hw⟩ := DataW.trod_int he hy
      have := congrArg (fun l => l[0]?) ea
      have e2 : cs[i]? = some (.int kd a) := by simpa [List.getElem?_take, List.getElem?_drop] using this
      rw [List.getElem?_eq_getElem hi, e] at e2
      obtain rfl : u = .int kd a := by simpa using e2
      exact ⟨a, rfl, hw⟩
    · simp at h

theorem sl_ints {t e : TypeId} {k : Nat} {kd : IntKind} (ht : P.underlying t = some (.slice e)) (ce : P.cellsOf e = k) (hk : 0 < k)
    (hone : ∀ m cs (x : DataW H × List MemPlace), DataW.trod enc P w base (fun _ => true) held m e cs = some x → cs.length = k ∧ ∀ u ∈ cs, ∃ a, u = .int kd a ∧ (Lit.int kd a).wf = true)
    {fuel : Nat} {cs : List Value} {y : DataW H × List MemPlace} (h : DataW.trod enc P w base (fun _ => true) held fuel t cs = some y) :
    ∃ v n zs, cs = [v] ∧ RdZ w v kd k n zs [] ∧ (∀ z ∈ zs, (Lit.int kd z).wf = true) ∧ (n = 0 ∨ ∃ el sp, y.1 = .slice el sp ∧ el.length = n) := by
  rcases Deep.open_slice ht h with ⟨rfl, _⟩ | ⟨a, len, cap, m, n, D, Pl, rfl, hb, hl, hm, hmm, hy, hx⟩
  · exact ⟨_, 0, [], rfl, ⟨_, _, rfl, by simp, .inl rfl⟩, by simp, .inl rfl⟩
  · simp only [if_true] at hmm
    subst hmm
    rw [ce] at hx
    have key : ∀ j, ∃ z : Int, j < len * k → w.cell? (a.add j) = some (.int kd z) ∧ (Lit.int kd z).wf = true := by
      intro j
      by_cases hj : j < len * k
      · have hi : j / k < len := (Nat.div_lt_iff_lt_mul hk).2 hj
        obtain ⟨cs', hc, ht'⟩ := hx (j / k) (by omega)
        obtain ⟨hl', ho⟩ := hone _ _ _ ht'
        have hr : j % k < k := Nat.mod_lt _ hk
        obtain ⟨-, -, hcell⟩ := World.cells?_some hc
        have h1 := hcell (j % k) hr
        rw [Addr.add_add, Nat.div_add_mod'] at h1
        have h2 : j % k < cs'.length := by omega
        rw [List.getElem?_eq_getElem h2] at h1
        obtain ⟨z, e, hw⟩ := ho _ (List.getElem_mem h2)
        exact ⟨z, fun _ => ⟨by rw [h1, e], hw⟩⟩
      · exact ⟨0, fun h => absurd h hj⟩
    obtain ⟨f, hf⟩ := Classical.axiomOfChoice key
    have hlen : ((List.range (len * k)).map f).length = len * k := by simp
    refine ⟨_, len, (List.range (len * k)).map f, rfl, ⟨some a, _, rfl, hlen, ?_⟩, ?_, .inr ⟨_, _, by rw [hy], by simp⟩⟩
    · by_cases h0 : len = 0
      · exact .inl h0
      · have hpos : 0 < len * k := Nat.mul_pos (by omega) hk
        obtain ⟨b, o, sp⟩ := a
        have hsp : sp = none := by
          have := (hf 0 hpos).1
          simpa [Addr.add] using World.cell?_spot this
        subst hsp
        have hcell : ∀ j, j < len * k → w.cell? ⟨b, o + j, none⟩ = some (.int kd (f j)) := fun j hj => by
          have := (hf j hj).1
          rw [addr_add] at this
          exact this
        refine .inr ⟨b, o, rfl, by simp, lt_of_cell (hcell 0 hpos), fun j hj => ?_⟩
        rw [hlen] at hj
        rw [hcell j hj]
        simp [List.getD, hj]
    · intro z hz
      obtain ⟨j, hj, rfl⟩ := List.mem_map.1 hz
      exact (hf j (by simpa using hj)).2
end

section
variable {H : Type} {enc : TypeId × Value → H} {w : World} {base : Nat} {held : Bool}
theorem trod_bytesI {fuel : Nat} {cs : List Value} {y : DataW H × List MemPlace} (h : DataW.trod enc Try.prog w base (fun _ => true) held fuel 26 cs = some y) :
    ∃ v xs, cs = [v] ∧ Rd w v xs ∧ Bytes xs ∧ (xs = [] ∨ ∃ el sp, y.1 = .slice el sp ∧ el.length = xs.length) := by
  obtain ⟨v, xs, rfl, hr, hd⟩ := trod_bytes h
  refine ⟨v, xs, rfl, hr, ?_, hd⟩
  obtain ⟨v', n, zs, e, hz, hw, -⟩ := sl_ints (k := 1) (kd := .u8) Try.underlying26 (by kernel_rfl) (by decide) (fun m cs x h => by obtain ⟨a, rfl, _, hw⟩ := DataW.trod_int Try.underlying5 h; exact ⟨rfl, fun u hu => by obtain rfl := List.mem_singleton.1 hu; exact ⟨a, rfl, hw⟩⟩) h
  obtain rfl : v = v' := by simpa using e
  obtain ⟨q, c, rfl, hx⟩ := hr
  obtain ⟨q', c', e', hl, hx'⟩ := hz
  simp only [Value.slice.injEq] at e'
  obtain ⟨rfl, rfl, rfl⟩ := e'
  rcases hx with rfl | ⟨b, off, rfl, hx⟩
  · intro z hz; simp at hz
  · intro z hz
    obtain ⟨i, hi, rfl⟩ := List.getElem_of_mem hz
    rcases hx' with h0 | ⟨b', off', e2, _, _, hx'⟩
    · omega
    · simp only [Option.some.injEq, Addr.mk.injEq, and_true] at e2
      obtain ⟨rfl, rfl⟩ := e2
      have h1 := hx i hi
      rw [hx' i (by omega)] at h1
      simp only [Option.some.injEq, Value.int.injEq, true_and] at h1
      have e3 : xs.getD i 0 = xs[i] := by simp [List.getD, hi]
      rw [← e3, ← h1]
      have hi' : i < zs.length := by omega
      rw [show zs.getD i 0 = zs[i] by simp [List.getD, hi']]
      exact u8_bounds (hw _ (List.getElem_mem hi'))
theorem trod_listI {fuel : Nat} {cs : List Value} {y : DataW H × List MemPlace} (h : DataW.trod enc Try.prog w base (fun _ => true) held fuel 31 cs = some y) (hw : ∀ n ∈ y.1.weights Try.prog 31, n ≤ reachBytes) :
    ∃ v L, cs = [v] ∧ RdL w v L [] ∧ L.length * 24 ≤ 140737488355328 ∧ (∀ i, (L.getD i []).length ≤ 140737488355328) ∧ ∀ b ∈ L, Bytes b := by
  have hr := reach47
  rcases Deep.open_slice Try.underlying31 h with ⟨rfl, _⟩ | ⟨a, len, cap, m, n, D, Pl, rfl, hb, hl, hm, hmm, hy, hx⟩
  · exact ⟨_, [], rfl, ⟨_, _, rfl, .inl rfl⟩, by simp, by simp, by simp⟩
  · simp only [if_true] at hmm
    subst hmm
    rw [hy] at hw
    obtain ⟨w1, w2⟩ := weights_slice Try.underlying31 hw
    rw [show Try.prog.bytesOf 26 = 24 by kernel_rfl] at w1
    have key : ∀ i, ∃ xs : List Int, i < len → ∃ u, w.cell? (a.add i) = some u ∧ Rd w u xs ∧ Bytes xs ∧ xs.length ≤ 140737488355328 := by
      intro i
      by_cases hi : i < len
      · obtain ⟨cs', hc, ht⟩ := hx i (by omega)
        rw [show Try.prog.cellsOf 26 = 1 by kernel_rfl, Nat.mul_one] at hc
        obtain ⟨v, xs, rfl, hrd, hbx, hd⟩ := trod_bytesI ht
        refine ⟨xs, fun _ => ⟨v, ?_, hrd, hbx, ?_⟩⟩
        · have := (World.cells?_some hc).2.2 0 (by decide)
          simpa [Addr.add_add] using this
        · rcases hd with rfl | ⟨el, sp, e1, e2⟩
          · simp
          · have h3 := w2 (D i) (List.mem_map.2 ⟨i, by simpa using hi, rfl⟩)
            simp only at e1
            rw [e1] at h3
            have h4 := (weights_slice Try.underlying26 h3).1
            rw [show Try.prog.bytesOf 5 = 1 by kernel_rfl] at h4
            omega
      · exact ⟨[], fun h => absurd h hi⟩
    obtain ⟨f, hf⟩ := Classical.axiomOfChoice key
    have hlen : ((List.range len).map f).length = len := by simp
    refine ⟨_, (List.range len).map f, rfl, ⟨some a, _, by rw [hlen], ?_⟩, by simpa using Nat.le_trans w1 hr, fun i => ?_, fun b hb => ?_⟩
    · by_cases h0 : len = 0
      · exact .inl (by simp [h0])
      · obtain ⟨b, o, sp⟩ := a
        have hsp : sp = none := by
          obtain ⟨u, hu, _⟩ := hf 0 (by omega)
          simpa [Addr.add] using World.cell?_spot hu
        subst hsp
        refine .inr ⟨b, o, rfl, by simp, fun i hi => ?_⟩
        have hi' : i < len := by simpa using hi
        obtain ⟨u, hu, hrd, _⟩ := hf i hi'
        rw [addr_add] at hu
        have e : ((List.range len).map f).getD i [] = f i := by simp [List.getD, hi']
        exact ⟨u, hu, by rw [e]; exact hrd, fun _ _ _ => by simp⟩
    · by_cases hi : i < len
      · obtain ⟨u, _, _, _, h3⟩ := hf i hi
        have e : ((List.range len).map f).getD i [] = f i := by simp [List.getD, hi]
        rw [e]; exact h3
      · have e : ((List.range len).map f).getD i [] = [] := by simp [List.getD, hi]
        rw [e]; simp
    · obtain ⟨j, hj, rfl⟩ := List.mem_map.1 hb
      obtain ⟨u, _, _, h3, _⟩ := hf j (by simpa using hj)
      exact h3

theorem trod_item {fuel : Nat} {cs : List Value} {d : DataW H × List MemPlace} (h : DataW.trod enc Try.prog w base (fun _ => true) held fuel 33 cs = some d)
    (hs : ∀ n ∈ d.1.weights Try.prog 33, n ≤ reachBytes) : ∃ x, ItR w cs x := by
  have hr := reach47
  obtain ⟨hl, m, ys, hx, hfld⟩ := trod_struct Try.underlying33 (n := 5) (by kernel_rfl) h
  rw [hx] at hs
  obtain ⟨y0, g0, t0⟩ := hfld 0 _ rfl
  dsimp only at t0
  rw [show Try.prog.cellsOf 3 = 1 by kernel_rfl] at t0
  obtain ⟨k, e0, _, _⟩ := DataW.trod_int Try.underlying3 t0
  obtain ⟨y1, g1, t1⟩ := hfld 1 _ rfl
  dsimp only at t1
  rw [show Try.prog.cellsOf 28 = 1 by kernel_rfl] at t1
  have m1 := weights_struct Try.underlying33 hs (j := 1) rfl (show (ys.map (·.1))[1]? = some y1.1 by rw [List.getElem?_map, g1]; rfl)
  dsimp only at m1
  obtain ⟨v1, n1, x1, e1, r1, f1, z1⟩ := sl_ints (k := 1) (kd := .u64) Try.underlying28 (by kernel_rfl) (by decide) (fun m cs x h => by obtain ⟨a, rfl, _, hw⟩ := DataW.trod_int Try.underlying41 h; exact ⟨rfl, fun u hu => by obtain rfl := List.mem_singleton.1 hu; exact ⟨a, rfl, hw⟩⟩) t1
  have s1 : n1 * 8 ≤ 140737488355328 := by
    rcases z1 with z | ⟨el, sp, z1, z2⟩
    · omega
    · rw [z1] at m1
      have := (weights_slice Try.underlying28 m1).1
      rw [show Try.prog.bytesOf 41 = 8 by kernel_rfl, z2] at this
      omega
  obtain ⟨y2, g2, t2⟩ := hfld 2 _ rfl
  dsimp only at t2
  rw [show Try.prog.cellsOf 29 = 1 by kernel_rfl] at t2
  have m2 := weights_struct Try.underlying33 hs (j := 2) rfl (show (ys.map (·.1))[2]? = some y2.1 by rw [List.getElem?_map, g2]; rfl)
  dsimp only at m2
  obtain ⟨v2, n2, x2, e2, r2, f2, z2⟩ := sl_ints (k := 4) (kd := .u64) Try.underlying29 (by kernel_rfl) (by decide) (fun m cs x h => trod_arrI Try.underlying44 Try.underlying41 (by kernel_rfl) (by kernel_rfl) h) t2
  have s2 : n2 * 32 ≤ 140737488355328 := by
    rcases z2 with z | ⟨el, sp, z1, z2⟩
    · omega
    · rw [z1] at m2
      have := (weights_slice Try.underlying29 m2).1
      rw [show Try.prog.bytesOf 44 = 32 by kernel_rfl, z2] at this
      omega
  obtain ⟨y3, g3, t3⟩ := hfld 3 _ rfl
  dsimp only at t3
  rw [show Try.prog.cellsOf 30 = 1 by kernel_rfl] at t3
  have m3 := weights_struct Try.underlying33 hs (j := 3) rfl (show (ys.map (·.1))[3]? = some y3.1 by rw [List.getElem?_map, g3]; rfl)
  dsimp only at m3
  obtain ⟨v3, n3, x3, e3, r3, f3, z3⟩ := sl_ints (k := 32) (kd := .u8) Try.underlying30 (by kernel_rfl) (by decide) (fun m cs x h => trod_arrI Try.underlying47 Try.underlying5 (by kernel_rfl) (by kernel_rfl) h) t3
  have s3 : n3 * 32 ≤ 140737488355328 := by
    rcases z3 with z | ⟨el, sp, z1, z2⟩
    · omega
    · rw [z1] at m3
      have := (weights_slice Try.underlying30 m3).1
      rw [show Try.prog.bytesOf 47 = 32 by kernel_rfl, z2] at this
      omega
  obtain ⟨y4, g4, t4⟩ := hfld 4 _ rfl
  dsimp only at t4
  rw [show Try.prog.cellsOf 31 = 1 by kernel_rfl] at t4
  have m4 := weights_struct Try.underlying33 hs (j := 4) rfl (show (ys.map (·.1))[4]? = some y4.1 by rw [List.getElem?_map, g4]; rfl)
  dsimp only at m4
  obtain ⟨v4, L, e4, r4, s4, s5, f4⟩ := trod_listI t4 m4
  have hl1 : x1.length = n1 := by obtain ⟨_, _, _, e, _⟩ := r1; omega
  subst hl1
  refine ⟨⟨k, x1, n2, x2, n3, x3, L⟩, ⟨⟨v1, v2, v3, v4, ?_, r1, r2, r3, r4⟩, s1, s2, s3, s4, s5, fun z hz => u64_bounds (f1 z hz), fun z hz => u64_bounds (f2 z hz), fun z hz => u8_bounds (f3 z hz), f4⟩⟩
  rcases cs with _ | ⟨a, _ | ⟨b, _ | ⟨c, _ | ⟨d', _ | ⟨e', _ | _⟩⟩⟩⟩⟩ <;> simp at hl
  simp at e0 e1 e2 e3 e4
  subst e0 e1 e2 e3 e4
  rfl

theorem open_items {r : Reach} {b0 : Nat} {v : Value} {d : DataW H} {p : List MemPlace} (hv : Value.okWide Try.prog w r b0 22 v) (h : DataW.Trod enc Try.prog w base (fun _ => true) held 22 v d p)
    (hs : ∀ n ∈ d.weights Try.prog 22, n ≤ reachBytes) : ∃ its, RdIt w v its ∧ its.length ≤ 140737488355328 := by
  have hr := reach47
  obtain ⟨a0, len0, cap0, rfl⟩ := okWide_slice Try.underlying22 hv
  obtain ⟨fuel, hf⟩ := h
  rcases Deep.open_slice Try.underlying22 hf with ⟨h0, _⟩ | ⟨a, len, cap, m, n, D, Pl, hcs, hb, hl, hm, hmm, hy, hx⟩
  · simp [Value.cells] at h0
    obtain ⟨rfl, rfl, rfl⟩ := h0
    exact ⟨[], ⟨_, _, rfl, .inl rfl⟩, by simp⟩
  · simp [Value.cells] at hcs
    obtain ⟨e1, e2, e3⟩ := hcs
    subst e1 e2 e3
    simp only [if_true] at hmm
    subst hmm
    simp only [Prod.mk.injEq] at hy
    rw [hy.1] at hs
    obtain ⟨w1, w2⟩ := weights_slice Try.underlying22 hs
    have hbo : 1 ≤ Try.prog.bytesOf 33 := by decide +kernel
    have key : ∀ i, ∃ x : It, i < len0 → ∃ cs, w.cells? base (a.add (i * 5)) 5 = some cs ∧ ItR w cs x := by
      intro i
      by_cases hi : i < len0
      · obtain ⟨cs', hc, ht⟩ := hx i (by omega)
        rw [show Try.prog.cellsOf 33 = 5 by kernel_rfl] at hc
        obtain ⟨x, hx'⟩ := trod_item ht (w2 (D i) (List.mem_map.2 ⟨i, by simpa using hi, rfl⟩))
        exact ⟨x, fun _ => ⟨cs', hc, hx'⟩⟩
      · exact ⟨it0, fun h => absurd h hi⟩
    obtain ⟨f, hf⟩ := Classical.axiomOfChoice key
    have hlen : ((List.range len0).map f).length = len0 := by simp
    have hle : len0 ≤ 140737488355328 := by
      have := Nat.le_mul_of_pos_right ((List.range len0).map D).length hbo
      simp only [List.length_map, List.length_range] at this w1
      omega
    refine ⟨(List.range len0).map f, ⟨some a, _, by rw [hlen], ?_⟩, by rw [hlen]; exact hle⟩
    by_cases h0 : len0 = 0
    · exact .inl (by simp [h0])
    · obtain ⟨b, o, sp⟩ := a
      have hsp : sp = none := by
        obtain ⟨cs, hc, _⟩ := hf 0 (by omega)
        have := (World.cells?_some hc).2.2 0 (by decide)
        obtain ⟨u, hu⟩ : ∃ u, cs[0]? = some u := by
          have hl := (World.cells?_some hc).2.1
          cases cs with
          | nil => simp at hl
          | cons u cs => exact ⟨u, rfl⟩
        rw [hu] at this
        simpa [Addr.add] using World.cell?_spot this
      subst hsp
      refine .inr ⟨b, o, rfl, fun i hi => ?_⟩
      have hi' : i < len0 := by simpa using hi
      obtain ⟨cs, hc, hI⟩ := hf i hi'
      have e : ((List.range len0).map f).getD i it0 = f i := by simp [List.getD, hi']
      refine ⟨cs, by rw [e]; exact hI, fun j hj => ?_⟩
      have := (World.cells?_some hc).2.2 j hj
      rw [addr_add, addr_add] at this
      exact this
end
end Go.Proofs.Ytigpiejjblfenaa
