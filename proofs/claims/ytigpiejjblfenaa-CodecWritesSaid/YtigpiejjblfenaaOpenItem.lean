/-
  An item, as a law's argument.
-/
import Derived.Test.YtigpiejjblfenaaOpenBytes
import Derived.Test.YtigpiejjblfenaaCodecN3
import Derived.Test.YtigpiejjblfenaaOpenStruct
import Derived.SizedLaws
namespace Go.Proofs.Ytigpiejjblfenaa
set_option maxRecDepth 100000
open Go.ChangeShapes Go.WideShapes Go.ChangeAt Go.RowKit Go.Deep

section
variable {H : Type} {enc : TypeId × Value → H} {P : Program} {w : World} {base : Nat} {held : Bool}

theorem trod_arr {t e : TypeId} {n : Nat} {kd : IntKind} {fuel : Nat} {cs : List Value} {x : DataW H × List MemPlace} (ht : P.underlying t = some (.array n e)) (he : P.underlying e = some (.int kd)) (hC : P.cellsOf t = n) (h1 : P.cellsOf e = 1)
    (h : DataW.trod enc P w base (fun _ => true) held fuel t cs = some x) : cs.length = n ∧ ∀ u ∈ cs, u.oneCell' = true := by
  cases fuel with
  | zero => simp [DataW.trod] at h
  | succ m =>
    rw [DataW.trod_step] at h
    unfold DataW.trodStep at h
    simp only [ht, h1, hC, Nat.mul_one] at h
    split at h
    · rename_i hl
      simp only [Option.map_eq_some_iff] at h
      obtain ⟨ys, hy, _⟩ := h
      refine ⟨hl, fun u hu => ?_⟩
      obtain ⟨i, hi, e⟩ := List.getElem_of_mem hu
      obtain ⟨y, hy⟩ := mapM_mem hy i (by simp; omega)
      obtain ⟨a, ea, _, _⟩ := DataW.trod_int he hy
      have := congrArg (fun l => l[0]?) ea
      have e2 : cs[i]? = some (.int kd a) := by simpa [List.getElem?_take, List.getElem?_drop] using this
      rw [List.getElem?_eq_getElem hi, e] at e2
      obtain rfl : u = .int kd a := by simpa using e2
      rfl
    · simp at h

theorem sl_cells {t e : TypeId} {k : Nat} (ht : P.underlying t = some (.slice e)) (ce : P.cellsOf e = k) (hk : 0 < k)
    (hone : ∀ m cs (x : DataW H × List MemPlace), DataW.trod enc P w base (fun _ => true) held m e cs = some x → cs.length = k ∧ ∀ u ∈ cs, u.oneCell' = true)
    {fuel : Nat} {cs : List Value} {y : DataW H × List MemPlace} (h : DataW.trod enc P w base (fun _ => true) held fuel t cs = some y) :
    ∃ v n xs, cs = [v] ∧ Rdc w v k n xs ∧ (n = 0 ∨ ∃ el sp, y.1 = .slice el sp ∧ el.length = n) := by
  rcases Deep.open_slice ht h with ⟨rfl, _⟩ | ⟨a, len, cap, m, n, D, Pl, rfl, hb, hl, hm, hmm, hy, hx⟩
  · exact ⟨_, 0, [], rfl, ⟨_, _, rfl, by simp, by simp, .inl rfl⟩, .inl rfl⟩
  · simp only [if_true] at hmm
    subst hmm
    rw [ce] at hx
    have key : ∀ j, j < len * k → ∃ u, w.cell? (a.add j) = some u ∧ u.oneCell' = true := by
      intro j hj
      have hi : j / k < len := (Nat.div_lt_iff_lt_mul hk).2 hj
      obtain ⟨cs', hc, ht'⟩ := hx (j / k) (by omega)
      obtain ⟨hl', ho⟩ := hone _ _ _ ht'
      have hr : j % k < k := Nat.mod_lt _ hk
      obtain ⟨-, -, hcell⟩ := World.cells?_some hc
      have h1 := hcell (j % k) hr
      rw [Addr.add_add, Nat.div_add_mod'] at h1
      have h2 : j % k < cs'.length := by omega
      rw [List.getElem?_eq_getElem h2] at h1
      exact ⟨_, h1, ho _ (List.getElem_mem h2)⟩
    refine ⟨_, len, (List.range (len * k)).map fun j => (w.cell? (a.add j)).getD (.int .u8 0), rfl, ⟨_, _, rfl, by simp, ?_, .inr ⟨a, rfl, ?_⟩⟩, .inr ?_⟩
    · intro u hu
      obtain ⟨j, hj, rfl⟩ := List.mem_map.1 hu
      obtain ⟨u, hu, ho⟩ := key j (by simpa using hj)
      rw [hu]; exact ho
    · intro j u hu
      rw [List.getElem?_map, Option.map_eq_some_iff] at hu
      obtain ⟨j', hj', rfl⟩ := hu
      obtain ⟨hlt, e⟩ := List.getElem?_eq_some_iff.1 hj'
      rw [List.getElem_range] at e
      subst e
      obtain ⟨u, hu, _⟩ := key j (by simpa using hlt)
      rw [hu]; rfl
    · rw [hy]
      exact ⟨_, _, rfl, by simp⟩

theorem trod_struct {t : TypeId} {fs : Array Field} {fuel n : Nat} {cs : List Value} {x : DataW H × List MemPlace} (ht : P.underlying t = some (.struct fs)) (hC : P.cellsOf t = n) (h : DataW.trod enc P w base (fun _ => true) held fuel t cs = some x) :
    cs.length = n ∧ ∃ m, ∃ ys : List (DataW H × List MemPlace), x.1 = .agg (ys.map (·.1)) ∧
      ∀ (i : Nat) f, fs.toList[i]? = some f → ∃ y, ys[i]? = some y ∧ DataW.trod enc P w base (fun _ => true) held m f.type ((cs.drop f.offset).take (P.cellsOf f.type)) = some y := by
  cases fuel with
  | zero => simp [DataW.trod] at h
  | succ m =>
    rw [DataW.trod_step] at h
    unfold DataW.trodStep at h
    simp only [ht, hC] at h
    split at h
    · rename_i hl
      simp only [Option.map_eq_some_iff] at h
      obtain ⟨ys, hy, hx⟩ := h
      refine ⟨hl, m, ys, by rw [← hx], fun i f hf => ?_⟩
      have h1 := mapM_some_get hy i f hf
      obtain ⟨y, hyy⟩ := mapM_mem hy f (List.mem_of_getElem? hf)
      exact ⟨y, by rw [← h1]; exact hyy, hyy⟩
    · simp at h
theorem weights_mem_all {e : TypeId} : ∀ {el : List (DataW H)} {d : DataW H}, d ∈ el → ∀ n ∈ d.weights P e, n ∈ DataW.weightsAll P e el
  | [], d, hd, _, _ => by cases hd
  | c :: el, d, hd, n, hn => by
    rw [DataW.weightsAll]
    rcases List.mem_cons.1 hd with rfl | hd
    · exact List.mem_append.2 (.inl hn)
    · exact List.mem_append.2 (.inr (weights_mem_all hd n hn))
theorem weights_struct {t : TypeId} {fs : Array Field} (ht : P.underlying t = some (.struct fs)) {parts : List (DataW H)} (h : ∀ n ∈ (DataW.agg parts).weights P t, n ≤ reachBytes) {j : Nat} {f : Field} {d : DataW H} (hf : fs.toList[j]? = some f) (hd : parts[j]? = some d) :
    ∀ n ∈ d.weights P f.type, n ≤ reachBytes := by
  intro n hn
  refine h n ?_
  rw [DataW.weights, ht]
  exact DataW.weights_mem_each (by rw [List.getElem?_map, hf]; rfl) hd n hn
theorem weights_slice {t e : TypeId} (ht : P.underlying t = some (.slice e)) {el sp : List (DataW H)} (h : ∀ n ∈ (DataW.slice el sp).weights P t, n ≤ reachBytes) : el.length * P.bytesOf e ≤ reachBytes ∧ ∀ d ∈ el, ∀ n ∈ d.weights P e, n ≤ reachBytes := by
  rw [DataW.weights, ht] at h
  simp only at h
  refine ⟨Nat.le_trans (Nat.mul_le_mul_right _ (Nat.le_add_right _ sp.length)) (h _ (List.mem_cons_self ..)), fun d hd n hn => h n ?_⟩
  exact List.mem_cons.2 (.inr (List.mem_append.2 (.inl (weights_mem_all hd n hn))))
end

section
variable {H : Type} {enc : TypeId × Value → H} {w : World} {base : Nat} {held : Bool}
theorem trod_bytes {fuel : Nat} {cs : List Value} {y : DataW H × List MemPlace} (h : DataW.trod enc Try.prog w base (fun _ => true) held fuel 26 cs = some y) :
    ∃ v xs, cs = [v] ∧ Rd w v xs ∧ (xs = [] ∨ ∃ el sp, y.1 = .slice el sp ∧ el.length = xs.length) := by
  rcases Deep.open_slice Try.underlying26 h with ⟨rfl, _⟩ | ⟨a, len, cap, m, n, D, Pl, rfl, hb, hl, hm, hmm, hy, hx⟩
  · exact ⟨_, [], rfl, Rd.nil w, .inl rfl⟩
  · rcases open_ints Try.underlying26 Try.underlying5 (by kernel_rfl) h with ⟨h0, _⟩ | ⟨a', len', cap', zs, hcs, _, hl', hm', hz, _, hx', hwf⟩
    · simp at h0
    · simp only [List.cons.injEq, Value.slice.injEq, Option.some.injEq, and_true] at hcs
      obtain ⟨rfl, rfl, rfl⟩ := hcs
      simp only [if_true] at hz
      have hl2 : (zs.take len).length = len := by simp; omega
      refine ⟨_, zs.take len, rfl, ?_, .inr ⟨_, _, by rw [hy], by simp; omega⟩⟩
      by_cases h0 : len = 0
      · subst h0
        exact ⟨some a, _, by rw [hl2], .inl (by simp)⟩
      · obtain ⟨b, o, sp⟩ := a
        have hsp : sp = none := by
          have := hx' 0 (by omega)
          simpa [Addr.add] using World.cell?_spot this
        subst hsp
        refine ⟨_, _, by rw [hl2], .inr ⟨b, o, rfl, fun i hi => ?_⟩⟩
        have h := hx' i (by omega)
        rw [addr_add] at h
        rw [h]
        simp [List.getD, show i < len by omega]
theorem reach47 : reachBytes ≤ 140737488355328 := by decide
theorem trod_list {fuel : Nat} {cs : List Value} {y : DataW H × List MemPlace} (h : DataW.trod enc Try.prog w base (fun _ => true) held fuel 31 cs = some y) (hw : ∀ n ∈ y.1.weights Try.prog 31, n ≤ reachBytes) :
    ∃ v L, cs = [v] ∧ RdL w v L [] ∧ L.length * 24 ≤ 140737488355328 ∧ ∀ i, (L.getD i []).length ≤ 140737488355328 := by
  have hr := reach47
  rcases Deep.open_slice Try.underlying31 h with ⟨rfl, _⟩ | ⟨a, len, cap, m, n, D, Pl, rfl, hb, hl, hm, hmm, hy, hx⟩
  · exact ⟨_, [], rfl, ⟨_, _, rfl, .inl rfl⟩, by simp, by simp⟩
  · simp only [if_true] at hmm
    subst hmm
    rw [hy] at hw
    obtain ⟨w1, w2⟩ := weights_slice Try.underlying31 hw
    rw [show Try.prog.bytesOf 26 = 24 by kernel_rfl] at w1
    have key : ∀ i, ∃ xs : List Int, i < len → ∃ u, w.cell? (a.add i) = some u ∧ Rd w u xs ∧ xs.length ≤ 140737488355328 := by
      intro i
      by_cases hi : i < len
      · obtain ⟨cs', hc, ht⟩ := hx i (by omega)
        rw [show Try.prog.cellsOf 26 = 1 by kernel_rfl, Nat.mul_one] at hc
        obtain ⟨v, xs, rfl, hrd, hd⟩ := trod_bytes ht
        refine ⟨xs, fun _ => ⟨v, ?_, hrd, ?_⟩⟩
        · have := (World.cells?_some hc).2.2 0 (by decide)
          simpa [Addr.add_add] using this
        · rcases hd with rfl | ⟨el, sp, e1, e2⟩
          · simp
          · have h3 := w2 (D i) (List.mem_map.2 ⟨i, by simpa using hi, rfl⟩)
            simp only at e1
            rw [e1] at h3
            have h4 := (weights_slice Try.underlying26 h3).1
            rw [show Try.prog.bytesOf 5 = 1 by kernel_rfl] at h4
            omega
      · exact ⟨[], fun h => absurd h hi⟩
    obtain ⟨f, hf⟩ := Classical.axiomOfChoice key
    have hlen : ((List.range len).map f).length = len := by simp
    refine ⟨_, (List.range len).map f, rfl, ⟨some a, _, by rw [hlen], ?_⟩, by simpa using Nat.le_trans w1 hr, fun i => ?_⟩
    · by_cases h0 : len = 0
      · exact .inl (by simp [h0])
      · obtain ⟨b, o, sp⟩ := a
        have hsp : sp = none := by
          obtain ⟨u, hu, _⟩ := hf 0 (by omega)
          simpa [Addr.add] using World.cell?_spot hu
        subst hsp
        refine .inr ⟨b, o, rfl, by simp, fun i hi => ?_⟩
        have hi' : i < len := by simpa using hi
        obtain ⟨u, hu, hrd, _⟩ := hf i hi'
        rw [addr_add] at hu
        have e : ((List.range len).map f).getD i [] = f i := by simp [List.getD, hi']
        exact ⟨u, hu, by rw [e]; exact hrd, fun _ _ _ => by simp⟩
    · by_cases hi : i < len
      · obtain ⟨u, _, _, h3⟩ := hf i hi
        have e : ((List.range len).map f).getD i [] = f i := by simp [List.getD, hi]
        rw [e]; exact h3
      · have e : ((List.range len).map f).getD i [] = [] := by simp [List.getD, hi]
        rw [e]; simp

theorem open_item {r : Reach} {b0 : Nat} {v : Value} {d : DataW H} {p : List MemPlace} (hv : Value.okWide Try.prog w r b0 33 v) (h : DataW.Trod enc Try.prog w base (fun _ => true) held 33 v d p)
    (hs : ∀ n ∈ d.weights Try.prog 33, n ≤ reachBytes) : ∃ cs, v = .agg cs.toArray ∧ ItV w cs := by
  have hr := reach47
  obtain ⟨arr, rfl, _, _⟩ : ∃ cs, v = .agg cs ∧ cs.size = Try.prog.cellsOf 33 ∧ Row.okWide Try.prog w r b0 33 cs := by
    simpa [Value.okWide, Try.underlying33] using hv
  obtain ⟨fuel, hf⟩ := h
  obtain ⟨hl, m, ys, hx, hfld⟩ := trod_struct Try.underlying33 (n := 5) (by kernel_rfl) hf
  simp only at hx
  subst hx
  obtain ⟨y0, g0, t0⟩ := hfld 0 _ rfl
  dsimp only at t0
  rw [show Try.prog.cellsOf 3 = 1 by kernel_rfl] at t0
  obtain ⟨k, e0, _, _⟩ := DataW.trod_int Try.underlying3 t0
  obtain ⟨y1, g1, t1⟩ := hfld 1 _ rfl
  dsimp only at t1
  rw [show Try.prog.cellsOf 28 = 1 by kernel_rfl] at t1
  have m1 := weights_struct Try.underlying33 hs (j := 1) rfl (show (ys.map (·.1))[1]? = some y1.1 by rw [List.getElem?_map, g1]; rfl)
  dsimp only at m1
  obtain ⟨v1, n1, x1, e1, r1, z1⟩ := sl_cells (k := 1) Try.underlying28 (by kernel_rfl) (by decide) (fun m cs x h => by obtain ⟨a, rfl, _, _⟩ := DataW.trod_int Try.underlying41 h; exact ⟨rfl, fun u hu => by obtain rfl := List.mem_singleton.1 hu; rfl⟩) t1
  have s1 : n1 * 8 ≤ 140737488355328 := by
    rcases z1 with z | ⟨el, sp, z1, z2⟩
    · omega
    · rw [z1] at m1
      have := (weights_slice Try.underlying28 m1).1
      rw [show Try.prog.bytesOf 41 = 8 by kernel_rfl, z2] at this
      omega
  obtain ⟨y2, g2, t2⟩ := hfld 2 _ rfl
  dsimp only at t2
  rw [show Try.prog.cellsOf 29 = 1 by kernel_rfl] at t2
  have m2 := weights_struct Try.underlying33 hs (j := 2) rfl (show (ys.map (·.1))[2]? = some y2.1 by rw [List.getElem?_map, g2]; rfl)
  dsimp only at m2
  obtain ⟨v2, n2, x2, e2, r2, z2⟩ := sl_cells (k := 4) Try.underlying29 (by kernel_rfl) (by decide) (fun m cs x h => trod_arr Try.underlying44 Try.underlying41 (by kernel_rfl) (by kernel_rfl) h) t2
  have s2 : n2 * 32 ≤ 140737488355328 := by
    rcases z2 with z | ⟨el, sp, z1, z2⟩
    · omega
    · rw [z1] at m2
      have := (weights_slice Try.underlying29 m2).1
      rw [show Try.prog.bytesOf 44 = 32 by kernel_rfl, z2] at this
      omega
  obtain ⟨y3, g3, t3⟩ := hfld 3 _ rfl
  dsimp only at t3
  rw [show Try.prog.cellsOf 30 = 1 by kernel_rfl] at t3
  have m3 := weights_struct Try.underlying33 hs (j := 3) rfl (show (ys.map (·.1))[3]? = some y3.1 by rw [List.getElem?_map, g3]; rfl)
  dsimp only at m3
  obtain ⟨v3, n3, x3, e3, r3, z3⟩ := sl_cells (k := 32) Try.underlying30 (by kernel_rfl) (by decide) (fun m cs x h => trod_arr Try.underlying47 Try.underlying5 (by kernel_rfl) (by kernel_rfl) h) t3
  have s3 : n3 * 32 ≤ 140737488355328 := by
    rcases z3 with z | ⟨el, sp, z1, z2⟩
    · omega
    · rw [z1] at m3
      have := (weights_slice Try.underlying30 m3).1
      rw [show Try.prog.bytesOf 47 = 32 by kernel_rfl, z2] at this
      omega
  obtain ⟨y4, g4, t4⟩ := hfld 4 _ rfl
  dsimp only at t4
  rw [show Try.prog.cellsOf 31 = 1 by kernel_rfl] at t4
  have m4 := weights_struct Try.underlying33 hs (j := 4) rfl (show (ys.map (·.1))[4]? = some y4.1 by rw [List.getElem?_map, g4]; rfl)
  dsimp only at m4
  obtain ⟨v4, L, e4, r4, s4, s5⟩ := trod_list t4 m4
  refine ⟨(Value.agg arr).cells.toList, by simp [Value.cells], ⟨k, v1, v2, v3, v4, ?_, ⟨n1, x1, s1, r1⟩, ⟨n2, x2, s2, r2⟩, ⟨n3, x3, s3, r3⟩, ⟨L, s4, s5, r4⟩⟩⟩
  generalize (Value.agg arr).cells.toList = cs at *
  rcases cs with _ | ⟨a, _ | ⟨b, _ | ⟨c, _ | ⟨d', _ | ⟨e', _ | _⟩⟩⟩⟩⟩ <;> simp at hl
  simp at e0 e1 e2 e3 e4
  subst e0 e1 e2 e3 e4
  rfl
end
end Go.Proofs.Ytigpiejjblfenaa
