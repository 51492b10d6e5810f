/-
  A slice of bytes, as a law's argument.; A hash as a law's argument.; A struct's fields, as a law's argument holds them.; A message, and bytes, as a law's arguments.; Txs, as a law's argument.; Slices of whatever rows, as a law's argument.; A run ends within its gas.; Code, a context, numbers, as a law's arguments.; The walks of basculelaw02: Lent, Stays.; A list of slices of bytes, as a law's argument; what it weighs.; How many slices an argument of slices holds; a hash as an argument, and its bytes.; A state of the machine, as a law's argument.; What a row's list of variables gives: the table of digest's rounds.
-/
import Derived.Deep.Slices
import Derived.Deep.Grids
import Derived.SizedLaws
import Derived.Test.YtnllcmcahfkmaaaDoorTie
import Derived.Test.YtnllcmcahfkmaaaDoorCards
import Derived.ProofKit
import Derived.LaidMore
import Derived.Stop.Joined
import Derived.SevenTiedAt
import Derived.Lib.LaidTab
import Derived.Test.YtnllcmcahfkmaaaDoorMp1
import Derived.Test.YtnllcmcahfkmaaaDoorMp2
import Derived.Test.YtnllcmcahfkmaaaDoorMp3
import Derived.Test.YtnllcmcahfkmaaaDoorMp5
import Derived.Test.YtnllcmcahfkmaaaDoorMp7
import Derived.Test.YtnllcmcahfkmaaaDoorMp13
namespace Go.Proofs.YtnllcmcahfkmaaaDoor
set_option maxRecDepth 100000
open Go.ChangeShapes Go.WideShapes Go.ChangeAt Go.RowKit Go.Deep

theorem u8_bounds {x : Int} (h : (Lit.int .u8 x).wf = true) : 0 ≤ x ∧ x < 256 := by
  have : 0 ≤ x ∧ x ≤ 255 := by simpa [Lit.wf, IntKind.min, IntKind.max, IntKind.signed, IntKind.bits] using h
  omega

section
variable {H : Type} {enc : TypeId × Value → H} {w : World} {base : Nat} {held : Bool}
theorem open_bytes {r : Reach} {b0 : Nat} {v : Value} {d : DataW H} {p : List MemPlace} (hv : Value.okWide Tryd.prog w r b0 67 v) (h : DataW.Trod enc Tryd.prog w base (fun _ => true) held 67 v d p) :
    ∃ xs : List Int, Rd w v xs ∧ Bytes xs ∧ xs.length ≤ maxLen := by
  obtain ⟨a0, len, cap, rfl⟩ := okWide_slice Tryd.underlying67 hv
  obtain ⟨fuel, hf⟩ := h
  rcases open_ints Tryd.underlying67 Tryd.underlying5 (by kernel_rfl) hf with ⟨h0, _⟩ | ⟨a, len', cap', zs, hcs, _, hl, hm, hz, _, hx, hwf⟩
  · simp [Value.cells] at h0
    obtain ⟨rfl, rfl, rfl⟩ := h0
    exact ⟨[], Rd.nil w, (by unfold Bytes; simp), Nat.zero_le _⟩
  · simp [Value.cells] at hcs
    obtain ⟨e1, e2, e3⟩ := hcs
    subst e1 e2 e3
    simp only [if_true] at hz
    refine ⟨zs.take len, ?_, fun x hx' => u8_bounds (hwf x (List.mem_of_mem_take hx')), by simp; omega⟩
    have hl2 : (zs.take len).length = len := by simp; omega
    by_cases h0 : len = 0
    · subst h0
      exact ⟨some a, _, by rw [hl2], .inl (by simp)⟩
    · obtain ⟨b, o, sp⟩ := a
      have hsp : sp = none := by
        have := hx 0 (by omega)
        simpa [Addr.add] using World.cell?_spot this
      subst hsp
      refine ⟨_, _, by rw [hl2], .inr ⟨b, o, rfl, fun i hi => ?_⟩⟩
      have h := hx i (by omega)
      rw [addr_add] at h
      rw [h]
      simp [List.getD, show i < len by omega]
end
end Go.Proofs.YtnllcmcahfkmaaaDoor
namespace Go.Proofs.YtnllcmcahfkmaaaDoor
set_option maxRecDepth 100000
open Go.ChangeShapes Go.WideShapes Go.ChangeAt Go.RowKit

theorem mapM_mem {α β : Type} {f : α → Option β} : ∀ {L : List α} {xs : List β}, L.mapM f = some xs → ∀ i ∈ L, ∃ y, f i = some y
  | [], _, _, i, hi => by simp at hi
  | a :: L, xs, h, i, hi => by
    rw [List.mapM_cons] at h
    simp only [bind, Option.bind_eq_some_iff, pure, Option.some.injEq] at h
    obtain ⟨y, hy, ys, hys, _⟩ := h
    rcases List.mem_cons.1 hi with rfl | hi
    · exact ⟨y, hy⟩
    · exact mapM_mem hys i hi

section
variable {H : Type} {enc : TypeId × Value → H} {P : Program} {w : World} {base : Nat} {spare : Nat → Bool} {held : Bool}

theorem trod_hash {t e : TypeId} {fuel : Nat} {cs : List Value} {x : DataW H × List MemPlace} (ht : P.underlying t = some (.array 32 e)) (he : P.underlying e = some (.int .u8)) (hC : P.cellsOf t = 32) (h1 : P.cellsOf e = 1)
    (h : DataW.trod enc P w base spare held fuel t cs = some x) : ∃ F : List Int, F.length = 32 ∧ cs = hc F := by
  cases fuel with
  | zero => simp [DataW.trod] at h
  | succ m =>
    rw [DataW.trod_step] at h
    unfold DataW.trodStep at h
    simp only [ht, h1, hC, Nat.mul_one] at h
    split at h
    · rename_i hl
      simp only [Option.map_eq_some_iff] at h
      obtain ⟨ys, hy, _⟩ := h
      refine ⟨cs.map fun v => match v with | .int _ q => q | _ => 0, by simp [hl], ?_⟩
      apply List.ext_getElem?
      intro i
      by_cases hi : i < 32
      · obtain ⟨y, hy⟩ := mapM_mem hy i (by simp [hi])
        obtain ⟨a, ea, _, _⟩ := DataW.trod_int he hy
        have e0 : cs[i]? = some (.int .u8 a) := by
          have := congrArg (fun l => l[0]?) ea
          simpa [List.getElem?_take, List.getElem?_drop] using this
        simp [hc, e0]
      · rw [List.getElem?_eq_none (by omega), List.getElem?_eq_none (by simp [hc]; omega)]
    · simp at h

theorem open_hash {r : Reach} {b0 : Nat} {v : Value} {d : DataW H} {p : List MemPlace} (hv : Value.okWide Tryd.prog w r b0 43 v) (h : DataW.Trod enc Tryd.prog w base spare held 43 v d p) :
    ∃ F : List Int, F.length = 32 ∧ v = .agg (hc F).toArray := by
  obtain ⟨cs, rfl, _, _⟩ : ∃ cs, v = .agg cs ∧ cs.size = Tryd.prog.cellsOf 43 ∧ Row.okWide Tryd.prog w r b0 43 cs := by
    simpa [Value.okWide, Tryd.underlying43] using hv
  obtain ⟨fuel, hf⟩ := h
  obtain ⟨F, hF, e⟩ := trod_hash Tryd.underlying43 Tryd.underlying5 (by kernel_rfl) (by kernel_rfl) hf
  exact ⟨F, hF, by rw [← e]; simp [Value.cells]⟩
end
end Go.Proofs.YtnllcmcahfkmaaaDoor
namespace Go.Proofs.YtnllcmcahfkmaaaDoor
set_option maxRecDepth 100000
open Go.ChangeShapes Go.WideShapes Go.ChangeAt Go.RowKit

section
variable {H : Type} {enc : TypeId × Value → H} {P : Program} {w : World} {base : Nat} {spare : Nat → Bool} {held : Bool}

theorem trod_fields {t : TypeId} {fs : Array Field} {fuel n : Nat} {cs : List Value} {x : DataW H × List MemPlace} (ht : P.underlying t = some (.struct fs)) (hC : P.cellsOf t = n) (h : DataW.trod enc P w base spare held fuel t cs = some x) :
    cs.length = n ∧ ∃ m, ∀ f ∈ fs.toList, ∃ y, DataW.trod enc P w base spare held m f.type ((cs.drop f.offset).take (P.cellsOf f.type)) = some y := by
  cases fuel with
  | zero => simp [DataW.trod] at h
  | succ m =>
    rw [DataW.trod_step] at h
    unfold DataW.trodStep at h
    simp only [ht, hC] at h
    split at h
    · rename_i hl
      simp only [Option.map_eq_some_iff] at h
      obtain ⟨ys, hy, _⟩ := h
      exact ⟨hl, m, mapM_mem hy⟩
    · simp at h
theorem trod_sl {t e : TypeId} {fuel : Nat} {cs : List Value} {x : DataW H × List MemPlace} (ht : P.underlying t = some (.slice e)) (h : DataW.trod enc P w base spare held fuel t cs = some x) :
    ∃ q n c, cs = [.slice q n c] ∧ n ≤ maxLen := by
  rcases Deep.open_slice ht h with ⟨rfl, _⟩ | ⟨a, len, cap, m, n, D, Pl, rfl, hb, hl, hm, _⟩
  · exact ⟨_, _, _, rfl, Nat.zero_le _⟩
  · exact ⟨_, _, _, rfl, Nat.le_trans hl hm⟩
theorem one_at {cs : List Value} {i : Nat} {v : Value} (h : (cs.drop i).take 1 = [v]) : cs[i]? = some v := by
  have := congrArg (fun l => l[0]?) h
  simpa [List.getElem?_take, List.getElem?_drop] using this
end
end Go.Proofs.YtnllcmcahfkmaaaDoor
namespace Go.Proofs.YtnllcmcahfkmaaaDoor
set_option maxRecDepth 100000
open Go.ChangeShapes Go.WideShapes Go.ChangeAt Go.RowKit Go.Deep

section
variable {H : Type} {enc : TypeId × Value → H} {P : Program} {w : World} {base : Nat} {held : Bool}

theorem trod_struct {t : TypeId} {fs : Array Field} {fuel n : Nat} {cs : List Value} {x : DataW H × List MemPlace} (ht : P.underlying t = some (.struct fs)) (hC : P.cellsOf t = n) (h : DataW.trod enc P w base (fun _ => true) held fuel t cs = some x) :
    cs.length = n ∧ ∃ m, ∃ ys : List (DataW H × List MemPlace), x.1 = .agg (ys.map (·.1)) ∧
      ∀ (i : Nat) f, fs.toList[i]? = some f → ∃ y, ys[i]? = some y ∧ DataW.trod enc P w base (fun _ => true) held m f.type ((cs.drop f.offset).take (P.cellsOf f.type)) = some y := by
  cases fuel with
  | zero => simp [DataW.trod] at h
  | succ m =>
    rw [DataW.trod_step] at h
    unfold DataW.trodStep at h
    simp only [ht, hC] at h
    split at h
    · rename_i hl
      simp only [Option.map_eq_some_iff] at h
      obtain ⟨ys, hy, hx⟩ := h
      refine ⟨hl, m, ys, by rw [← hx], fun i f hf => ?_⟩
      have h1 := mapM_some_get hy i f hf
      obtain ⟨y, hyy⟩ := mapM_mem hy f (List.mem_of_getElem? hf)
      exact ⟨y, by rw [← h1]; exact hyy, hyy⟩
    · simp at h
theorem weights_mem_all {e : TypeId} : ∀ {el : List (DataW H)} {d : DataW H}, d ∈ el → ∀ n ∈ d.weights P e, n ∈ DataW.weightsAll P e el
  | [], d, hd, _, _ => by cases hd
  | c :: el, d, hd, n, hn => by
    rw [DataW.weightsAll]
    rcases List.mem_cons.1 hd with rfl | hd
    · exact List.mem_append.2 (.inl hn)
    · exact List.mem_append.2 (.inr (weights_mem_all hd n hn))
theorem weights_struct {t : TypeId} {fs : Array Field} (ht : P.underlying t = some (.struct fs)) {parts : List (DataW H)} (h : ∀ n ∈ (DataW.agg parts).weights P t, n ≤ reachBytes) {j : Nat} {f : Field} {d : DataW H} (hf : fs.toList[j]? = some f) (hd : parts[j]? = some d) :
    ∀ n ∈ d.weights P f.type, n ≤ reachBytes := by
  intro n hn
  refine h n ?_
  rw [DataW.weights, ht]
  exact DataW.weights_mem_each (by rw [List.getElem?_map, hf]; rfl) hd n hn
theorem weights_slice {t e : TypeId} (ht : P.underlying t = some (.slice e)) {el sp : List (DataW H)} (h : ∀ n ∈ (DataW.slice el sp).weights P t, n ≤ reachBytes) : el.length * P.bytesOf e ≤ reachBytes ∧ ∀ d ∈ el, ∀ n ∈ d.weights P e, n ≤ reachBytes := by
  rw [DataW.weights, ht] at h
  simp only at h
  refine ⟨Nat.le_trans (Nat.mul_le_mul_right _ (Nat.le_add_right _ sp.length)) (h _ (List.mem_cons_self ..)), fun d hd n hn => h n ?_⟩
  exact List.mem_cons.2 (.inr (List.mem_append.2 (.inl (weights_mem_all hd n hn))))
end

section
variable {H : Type} {enc : TypeId × Value → H} {P : Program} {w : World} {base : Nat} {held : Bool}
theorem trod_arrI {t e : TypeId} {n : Nat} {kd : IntKind} {fuel : Nat} {cs : List Value} {x : DataW H × List MemPlace} (ht : P.underlying t = some (.array n e)) (he : P.underlying e = some (.int kd)) (hC : P.cellsOf t = n) (h1 : P.cellsOf e = 1)
    (h : DataW.trod enc P w base (fun _ => true) held fuel t cs = some x) : cs.length = n ∧ ∀ i, i < n → ∃ a, cs[i]? = some (.int kd a) ∧ (Lit.int kd a).wf = true := by
  cases fuel with
  | zero => simp [DataW.trod] at h
  | succ m =>
    rw [DataW.trod_step] at h
    unfold DataW.trodStep at h
    simp only [ht, h1, hC, Nat.mul_one] at h
    split at h
    · rename_i hl
      simp only [Option.map_eq_some_iff] at h
      obtain ⟨ys, hy, _⟩ := h
      refine ⟨hl, fun i hi => ?_⟩
      obtain ⟨y, hy⟩ := mapM_mem hy i (by simp; omega)
      obtain ⟨a, ea, _, hw⟩ := DataW.trod_int he hy
      have := congrArg (fun l => l[0]?) ea
      have e2 : cs[i]? = some (.int kd a) := by simpa [List.getElem?_take, List.getElem?_drop] using this
      exact ⟨a, e2, hw⟩
    · simp at h
theorem u64_bd {x : Int} (hx : (Lit.int .u64 x).wf = true) : 0 ≤ x ∧ x < 18446744073709551616 := by
  have : 0 ≤ x ∧ x ≤ 18446744073709551615 := by simpa [Lit.wf, IntKind.min, IntKind.max, IntKind.signed, IntKind.bits] using hx
  omega
theorem trod_u64B {t : TypeId} {fuel : Nat} {cs : List Value} {i : Nat} {x : DataW H × List MemPlace} (ht : P.underlying t = some (.int .u64)) (h : DataW.trod enc P w base (fun _ => true) held fuel t ((cs.drop i).take 1) = some x) : ∃ a, cs[i]? = some (.int .u64 a) ∧ 0 ≤ a ∧ a < 18446744073709551616 := by
  obtain ⟨a, e, _, hw⟩ := DataW.trod_int ht h
  exact ⟨a, one_at e, u64_bd hw⟩
end
section
variable {H : Type} {enc : TypeId × Value → H} {w : World} {base : Nat} {held : Bool}
theorem trod_bytes {fuel : Nat} {cs : List Value} {y : DataW H × List MemPlace} (h : DataW.trod enc Tryd.prog w base (fun _ => true) held fuel 67 cs = some y) :
    ∃ v xs, cs = [v] ∧ Rd w v xs ∧ Bytes xs ∧ (xs = [] ∨ ∃ el sp, y.1 = .slice el sp ∧ el.length = xs.length) := by
  rcases Deep.open_slice Tryd.underlying67 h with ⟨rfl, _⟩ | ⟨a, len, cap, m, n, D, Pl, rfl, hb, hl, hm, hmm, hy, hx⟩
  · exact ⟨_, [], rfl, Rd.nil w, (by unfold Bytes; simp), .inl rfl⟩
  · rcases open_ints Tryd.underlying67 Tryd.underlying5 (by kernel_rfl) h with ⟨h0, _⟩ | ⟨a', len', cap', zs, hcs, _, hl', hm', hz, _, hx', hwf⟩
    · simp at h0
    · simp only [List.cons.injEq, Value.slice.injEq, Option.some.injEq, and_true] at hcs
      obtain ⟨rfl, rfl, rfl⟩ := hcs
      simp only [if_true] at hz
      have hl2 : (zs.take len).length = len := by simp; omega
      refine ⟨_, zs.take len, rfl, ?_, fun x hx' => u8_bounds (hwf x (List.mem_of_mem_take hx')), .inr ⟨_, _, by rw [hy], by simp; omega⟩⟩
      by_cases h0 : len = 0
      · subst h0
        exact ⟨some a, _, by rw [hl2], .inl (by simp)⟩
      · obtain ⟨b, o, sp⟩ := a
        have hsp : sp = none := by
          have := hx' 0 (by omega)
          simpa [Addr.add] using World.cell?_spot this
        subst hsp
        refine ⟨_, _, by rw [hl2], .inr ⟨b, o, rfl, fun i hi => ?_⟩⟩
        have h := hx' i (by omega)
        rw [addr_add] at h
        rw [h]
        simp [List.getD, show i < len by omega]
theorem reach46 : reachBytes ≤ 140737488355000 := by decide
theorem open_bytesS {r : Reach} {b0 : Nat} {v : Value} {d : DataW H} {p : List MemPlace} (hv : Value.okWide Tryd.prog w r b0 67 v) (h : DataW.Trod enc Tryd.prog w base (fun _ => true) held 67 v d p)
    (hs : ∀ n ∈ d.weights Tryd.prog 67, n ≤ reachBytes) : ∃ xs : List Int, Rd w v xs ∧ Bytes xs ∧ xs.length ≤ 140737488355000 := by
  have hr := reach46
  obtain ⟨xs, rx, bx, lx⟩ := open_bytes hv h
  obtain ⟨fuel, hf⟩ := h
  obtain ⟨v', xs', e, r', _, z⟩ := trod_bytes hf
  obtain ⟨q, c, rfl⟩ := rx.len
  obtain ⟨q', c', rfl⟩ := r'.len
  simp only [Value.cells, List.cons.injEq, Value.slice.injEq, and_true] at e
  refine ⟨xs, rx, bx, ?_⟩
  rcases z with rfl | ⟨el, sp, z1, z2⟩
  · have h5 : xs.length = ([] : List Int).length := e.2.1
    rw [h5]
    simp
  · simp only at z1
    rw [z1] at hs
    have h4 := (weights_slice Tryd.underlying67 hs).1
    rw [show Tryd.prog.bytesOf 5 = 1 by kernel_rfl, z2] at h4
    omega
end
end Go.Proofs.YtnllcmcahfkmaaaDoor
namespace Go.Proofs.YtnllcmcahfkmaaaDoor
set_option maxRecDepth 100000
open Go.ChangeShapes Go.WideShapes Go.ChangeAt Go.RowKit Go.Deep

theorem rowOf_vals {w : World} {b o n : Nat} {cs : List Value} (hn : cs.length = n) (h0 : 0 < n) (h : ∀ j v, cs[j]? = some v → w.cell? ⟨b, o + j, none⟩ = some v) : rowOf w b o n = cs := by
  subst hn
  have hf := h 0 cs[0] (by simp [h0])
  unfold World.cell? at hf
  split at hf
  · rename_i C t fr hb
    rw [rowOf_block hb]
    apply List.ext_getElem?
    intro j
    by_cases hj : j < cs.length
    · have := h j cs[j] (by simp [hj])
      rw [Joins.cell_of_block hb] at this
      have hlt := (Array.getElem?_eq_some_iff.1 this).1
      rw [Array.getElem?_toList, Array.getElem?_extract, if_pos (by omega), this, List.getElem?_eq_getElem hj]
    · rw [List.getElem?_eq_none (by rw [Array.length_toList, Array.size_extract]; omega), List.getElem?_eq_none (by omega)]
  · simp at hf

theorem i64_bd {x : Int} (h : (Lit.int .i64 x).wf = true) : -9223372036854775808 ≤ x ∧ x < 9223372036854775808 := by
  have : -9223372036854775808 ≤ x ∧ x ≤ 9223372036854775807 := by simpa [Lit.wf, IntKind.min, IntKind.max, IntKind.signed, IntKind.bits] using h
  omega
section
variable {H : Type} {enc : TypeId × Value → H} {w : World} {base : Nat} {held : Bool}
end
end Go.Proofs.YtnllcmcahfkmaaaDoor
namespace Go.Proofs.YtnllcmcahfkmaaaDoor
set_option maxRecDepth 100000
open Go.ChangeShapes Go.WideShapes Go.ChangeAt Go.RowKit Go.Deep

section
variable {H : Type} {enc : TypeId × Value → H} {P : Program} {w : World} {base : Nat} {held : Bool}
/-- A slice's cell, element by element. -/
theorem trod_rows {α : Type} {R : World → Fp → α → List Value → Prop} {okx : α → Prop} {d0 : α} {n by_ : Nat} {t e : TypeId} (k : FpOk R) (hn : 0 < n) (ht : P.underlying t = some (.slice e)) (hC : P.cellsOf e = n) (hB : P.bytesOf e = by_)
    (elem : ∀ (fuel : Nat) (cs : List Value) (y : DataW H × List MemPlace), DataW.trod enc P w base (fun _ => true) held fuel e cs = some y → (∀ n ∈ y.1.weights P e, n ≤ reachBytes) → ∃ x, cs.length = n ∧ R w (fun g => g < w.heap.size) x cs ∧ okx x)
    {fuel : Nat} {cs : List Value} {y : DataW H × List MemPlace} (hf : DataW.trod enc P w base (fun _ => true) held fuel t cs = some y) (hs : ∀ n ∈ y.1.weights P t, n ≤ reachBytes) :
    ∃ q c L, cs = [.slice q L.length c] ∧ RwF n d0 R w (fun g => g < w.heap.size) q L ∧ (∀ x ∈ L, okx x) ∧ L.length * by_ ≤ reachBytes := by
  have _ := k
  rcases Deep.open_slice ht hf with ⟨h0, _⟩ | ⟨a, len, cap, m, nn, D, Pl, hcs, hb, hl, hm, hmm, hy, hx⟩
  · exact ⟨none, 0, [], h0, .inl rfl, fun s h => by simp at h, by simp⟩
  · simp only [if_true] at hmm
    subst hmm
    rw [hy] at hs
    obtain ⟨w1, w2⟩ := weights_slice ht hs
    rw [hB] at w1
    have key : ∀ i, ∃ x : α × List Value, i < len → okx x.1 ∧ x.2.length = n ∧ R w (fun g => g < w.heap.size) x.1 x.2 ∧ ∀ j u, x.2[j]? = some u → w.cell? (a.add (i * n + j)) = some u := by
      intro i
      by_cases hi : i < len
      · obtain ⟨cs', hc1, hte⟩ := hx i (by omega)
        rw [hC] at hc1
        obtain ⟨x, l9, hr, ok⟩ := elem _ _ _ hte (w2 (D i) (List.mem_map.2 ⟨i, by simpa using hi, rfl⟩))
        refine ⟨(x, cs'), fun _ => ⟨ok, l9, hr, fun j u hu => ?_⟩⟩
        have hj2 : j < cs'.length := (List.getElem?_eq_some_iff.1 hu).1
        have hj : j < n := by omega
        have := (World.cells?_some hc1).2.2 j hj
        rw [Addr.add_add] at this
        rw [this]
        exact hu
      · exact ⟨(d0, []), fun h => absurd h hi⟩
    obtain ⟨f, hf⟩ := Classical.axiomOfChoice key
    have hlen : ((List.range len).map fun i => (f i).1).length = len := by simp
    have hg : ∀ i, i < len → ((List.range len).map fun i => (f i).1).getD i d0 = (f i).1 := fun i hi => by simp [List.getD, hi]
    refine ⟨some a, m, (List.range len).map fun i => (f i).1, by rw [hlen]; exact hcs, ?_, ?_, by rw [hlen]; simpa using w1⟩
    · by_cases h0 : len = 0
      · exact .inl (by simp [h0])
      · obtain ⟨b, o, sp⟩ := a
        have hsp : sp = none := by
          obtain ⟨_, l9, _, h3⟩ := hf 0 (by omega)
          have := h3 0 _ (List.getElem?_eq_getElem (by omega))
          simpa [Addr.add] using World.cell?_spot this
        subst hsp
        refine .inr ⟨b, o, rfl, ?_, fun i hi => ?_⟩
        · obtain ⟨_, l9, _, h3⟩ := hf 0 (by omega)
          have := lt_of_cell (h3 0 _ (List.getElem?_eq_getElem (by omega)))
          rw [addr_add] at this
          exact this
        · rw [hlen] at hi
          obtain ⟨ok, l9, h2, h3⟩ := hf i hi
          rw [hg i hi]
          refine ⟨(f i).2, l9, rowOf_vals l9 hn (fun j u hu => ?_), h2⟩
          have := h3 j u hu
          rw [addr_add] at this
          rw [← this]
          congr 2
          omega
    · intro s hS
      obtain ⟨i, hi, rfl⟩ := List.mem_map.1 hS
      exact (hf i (List.mem_range.1 hi)).1
end
end Go.Proofs.YtnllcmcahfkmaaaDoor
namespace Go.Proofs.YtnllcmcahfkmaaaDoor
set_option maxRecDepth 100000
open Go.RowKit

theorem runM_ok {L : List Ins} {c : Cx} {s : Ms} {M : Int} (hc : c.ok) (hL : ∀ i ∈ L, i.ok) (h : s.ok) : (runM L c s M).1.ok := by
  unfold runM
  split
  · exact h
  · split
    · exact goM_ok hc hL h
    · exact ⟨h.gas, h.stk, h.wds, h.w16, h.len⟩
end Go.Proofs.YtnllcmcahfkmaaaDoor
namespace Go.Proofs.YtnllcmcahfkmaaaDoor
set_option maxRecDepth 100000
open Go.ChangeShapes Go.WideShapes Go.ChangeAt Go.RowKit Go.Deep

/-- A number's cell. -/
def PU (_ : World) (_ : Fp) (x : Int) (r : List Value) : Prop := r = [.int .u64 x]
theorem PU_ok : FpOk PU where
  mono := fun h _ => h
  agr := fun h _ => h
  lt := fun h => h
theorem RwF.rdU {w : World} {F : Fp} {q : Option Addr} {c : Nat} {L : List Int} (h : RwF 1 0 PU w F q L) : RdU w (.slice q L.length c) L := by
  refine ⟨q, c, rfl, ?_⟩
  rcases h with h | ⟨b, off, e, _, hx⟩
  · exact .inl h
  · refine .inr ⟨b, off, e, fun i hi => ?_⟩
    obtain ⟨r, h1, h2, h3⟩ := hx i hi
    have := row_cellG h2 h1 (j := 0) (v := .int .u64 (L.getD i 0)) (by rw [h3]; rfl)
    rw [Nat.mul_one, Nat.add_zero] at this
    exact this
section
variable {H : Type} {enc : TypeId × Value → H} {w : World} {base : Nat} {held : Bool}
theorem elem_u64 (fuel : Nat) (cs : List Value) (y : DataW H × List MemPlace) (hf : DataW.trod enc Tryd.prog w base (fun _ => true) held fuel 23 cs = some y) (_hs : ∀ n ∈ y.1.weights Tryd.prog 23, n ≤ reachBytes) :
    ∃ x, cs.length = 1 ∧ PU w (fun g => g < w.heap.size) x cs ∧ (0 ≤ x ∧ x < 18446744073709551616) := by
  obtain ⟨a, e, _, hw⟩ := DataW.trod_int Tryd.underlying23 hf
  exact ⟨a, by rw [e]; rfl, e, u64_bd hw⟩
theorem elem_ins (fuel : Nat) (cs : List Value) (y : DataW H × List MemPlace) (hf : DataW.trod enc Tryd.prog w base (fun _ => true) held fuel 53 cs = some y) (_hs : ∀ n ∈ y.1.weights Tryd.prog 53, n ≤ reachBytes) :
    ∃ x, cs.length = 2 ∧ PIs w (fun g => g < w.heap.size) x cs ∧ x.ok := by
  obtain ⟨hl, mm, ys, hx, hfld⟩ := trod_struct Tryd.underlying53 (n := 2) (by kernel_rfl) hf
  have ci : Tryd.prog.cellsOf 3 = 1 := by kernel_rfl
  have c1 : Tryd.prog.cellsOf 23 = 1 := by kernel_rfl
  obtain ⟨y0, g0, t0⟩ := hfld 0 _ rfl
  obtain ⟨y1, g1, t1⟩ := hfld 1 _ rfl
  dsimp only at t0 t1
  rw [ci] at t0
  rw [c1] at t1
  obtain ⟨a0, e0', _, h0'⟩ := DataW.trod_int Tryd.underlying3 t0
  obtain ⟨a1, e1, h1⟩ := trod_u64B Tryd.underlying23 t1
  have e0 := one_at e0'
  refine ⟨⟨a0, a1⟩, hl, ?_, h1⟩
  rcases cs with _ | ⟨a, _ | ⟨b, _ | _⟩⟩ <;> simp at hl
  simp at e0 e1
  rw [e0, e1]
  rfl
theorem open_code {r : Reach} {b0 : Nat} {v : Value} {d : DataW H} {p : List MemPlace} (hv : Value.okWide Tryd.prog w r b0 22 v) (h : DataW.Trod enc Tryd.prog w base (fun _ => true) held 22 v d p)
    (hs : ∀ n ∈ d.weights Tryd.prog 22, n ≤ reachBytes) : ∃ q c L, v = .slice q L.length c ∧ RwF 2 ins0 PIs w (fun g => g < w.heap.size) q L ∧ (∀ i ∈ L, i.ok) ∧ L.length ≤ 3000000000000 * 3 := by
  obtain ⟨a0, len0, cap0, rfl⟩ := okWide_slice Tryd.underlying22 hv
  obtain ⟨fuel, hf⟩ := h
  obtain ⟨q, c, L, e, rr, ok, l⟩ := trod_rows (d0 := ins0) PIs_ok (by decide) Tryd.underlying22 (n := 2) (by kernel_rfl) (by_ := 16) (by kernel_rfl) elem_ins hf hs
  refine ⟨q, c, L, ?_, rr, ok, by unfold reachBytes at l; omega⟩
  simpa [Value.cells] using e
theorem open_cx {r : Reach} {b0 : Nat} {v : Value} {d : DataW H} {p : List MemPlace} (hv : Value.okWide Tryd.prog w r b0 26 v) (h : DataW.Trod enc Tryd.prog w base (fun _ => true) held 26 v d p)
    (hs : ∀ n ∈ d.weights Tryd.prog 26, n ≤ reachBytes) : ∃ (c : Cx) (q : Option Addr) (k : Nat), v = .agg #[.int .u64 c.who, .int .u64 c.val, .slice q c.inp.length k] ∧ c.ok ∧ RdU w (.slice q c.inp.length k) c.inp := by
  obtain ⟨arr, rfl, _, _⟩ : ∃ cs, v = .agg cs ∧ cs.size = Tryd.prog.cellsOf 26 ∧ Row.okWide Tryd.prog w r b0 26 cs := by
    simpa [Value.okWide, Tryd.underlying26] using hv
  obtain ⟨fuel, hf⟩ := h
  obtain ⟨hl, mm, ys, hx, hfld⟩ := trod_struct Tryd.underlying26 (n := 3) (by kernel_rfl) hf
  simp only at hx
  subst hx
  have c1 : Tryd.prog.cellsOf 23 = 1 := by kernel_rfl
  have c2 : Tryd.prog.cellsOf 24 = 1 := by kernel_rfl
  obtain ⟨y0, g0, t0⟩ := hfld 0 _ rfl
  obtain ⟨y1, g1, t1⟩ := hfld 1 _ rfl
  obtain ⟨y2, g2, t2⟩ := hfld 2 _ rfl
  dsimp only at t0 t1 t2
  rw [c1] at t0 t1
  rw [c2] at t2
  have m2 := weights_struct Tryd.underlying26 hs (j := 2) rfl (show (ys.map (·.1))[2]? = some y2.1 by rw [List.getElem?_map, g2]; rfl)
  dsimp only at m2
  obtain ⟨a0, e0, h0⟩ := trod_u64B Tryd.underlying23 t0
  obtain ⟨a1, e1, h1⟩ := trod_u64B Tryd.underlying23 t1
  obtain ⟨q, k, L, e2, rr, ok, l⟩ := trod_rows (d0 := 0) PU_ok (by decide) Tryd.underlying24 (n := 1) (by kernel_rfl) (by_ := 8) (by kernel_rfl) elem_u64 t2 m2
  refine ⟨⟨a0, a1, L⟩, q, k, ?_, ⟨h0, h1, ok, by show L.length ≤ _; unfold reachBytes at l; omega⟩, rr.rdU⟩
  obtain ⟨cs, hcs⟩ : ∃ cs, (Value.agg arr).cells.toList = cs := ⟨_, rfl⟩
  have ha : arr = cs.toArray := by rw [← hcs]; simp [Value.cells]
  rw [hcs] at hl e0 e1 e2
  rw [ha]
  rcases cs with _ | ⟨a, _ | ⟨b, _ | ⟨c, _ | _⟩⟩⟩ <;> simp at hl
  simp at e0 e1 e2
  rw [e0, e1, e2]
end
end Go.Proofs.YtnllcmcahfkmaaaDoor
namespace Go.Proofs.YtnllcmcahfkmaaaDoor
open Go.RowKit
set_option maxRecDepth 100000

/-- A slice of the call's own: xs, and behind them in its room 55 and 56. -/
structure LentAt (w : World) (v : Value) (xs : List Int) (B : Nat) : Prop where
  own : ∃ g c, v = .slice (some ⟨g, 0, none⟩) xs.length c ∧ xs.length + 2 ≤ c ∧ B ≤ g ∧ w.ownsRow 0 5 1 (.slice (some ⟨g, 0, none⟩) (xs.length + 2) c) (xs.length + 2) (bc (xs ++ [55, 56]))


theorem old {w W : World} (hb : Below w.heap.size w W) {p : Addr} {v : Value} (hc : w.cell? p = some v) : W.cell? p = some v := by
  rw [hb.cell (World.block_lt_of_cell? w p hc)]; exact hc
theorem LentAt.on {w w' : World} {v : Value} {xs : List Int} {B : Nat} (h : LentAt w v xs B) (hb : Below w.heap.size w w') : LentAt w' v xs B := by
  obtain ⟨g, c, e, h1, h2, h3⟩ := h.own
  exact ⟨g, c, e, h1, h2, own_on h3 hb⟩
theorem LentAt.rdc {w : World} {v : Value} {xs : List Int} {B : Nat} (h : LentAt w v xs B) : RdC w v xs := by
  obtain ⟨g, c, rfl, h1, h2, h3⟩ := h.own
  have hr := rd_of_row (by simpa using h3 : w.ownsRow 0 5 1 (.slice (some ⟨g, 0, none⟩) (xs.length + 2) c) (xs.length + 2) (bc (xs ++ [55, 56])))
  obtain ⟨q', c', e, h0 | ⟨b, off, rfl, hc⟩⟩ := hr
  · simp at h0
  · simp only [Value.slice.injEq, Option.some.injEq, Addr.mk.injEq, and_true] at e
    obtain ⟨⟨rfl, rfl⟩, -, -⟩ := e
    refine ⟨_, c, rfl, by omega, .inr ⟨g, 0, rfl, fun i hi => ?_⟩⟩
    rw [hc i (by simp; omega)]
    simp [List.getD, List.getElem?_append_left hi]
theorem LentAt.tail {w : World} {v : Value} {xs : List Int} {B : Nat} (h : LentAt w v xs B) : ∃ g c, v = .slice (some ⟨g, 0, none⟩) xs.length c ∧ xs.length + 2 ≤ c ∧ w.cell? ⟨g, xs.length, none⟩ = some (.int .u8 55) ∧ w.cell? ⟨g, xs.length + 1, none⟩ = some (.int .u8 56) := by
  obtain ⟨g, c, rfl, h1, h2, h3⟩ := h.own
  have hr := rd_of_row (by simpa using h3 : w.ownsRow 0 5 1 (.slice (some ⟨g, 0, none⟩) (xs.length + 2) c) (xs.length + 2) (bc (xs ++ [55, 56])))
  obtain ⟨q', c', e, h0 | ⟨b, off, rfl, hc⟩⟩ := hr
  · simp at h0
  · simp only [Value.slice.injEq, Option.some.injEq, Addr.mk.injEq, and_true] at e
    obtain ⟨⟨rfl, rfl⟩, -, -⟩ := e
    have c5 := hc xs.length (by simp)
    have c6 := hc (xs.length + 1) (by simp)
    rw [Nat.zero_add] at c5 c6
    exact ⟨g, c, rfl, h1, by rw [c5]; simp [List.getD], by rw [c6]; simp [List.getD]⟩

end Go.Proofs.YtnllcmcahfkmaaaDoor
namespace Go.Proofs.YtnllcmcahfkmaaaDoor
set_option maxRecDepth 100000
open Go.ChangeShapes Go.WideShapes Go.ChangeAt Go.RowKit Go.Deep

theorem bulk_pos {H : Type} (d : DataW H) : 1 ≤ Rows.uptoBulk d := by
  cases d with
  | lit l => cases l <;> simp [Rows.uptoBulk]
  | nil => simp [Rows.uptoBulk]
  | ptr d => simp [Rows.uptoBulk]
  | slice elems spare => simp [Rows.uptoBulk]
  | agg parts => simp [Rows.uptoBulk]
  | iface t d => simp [Rows.uptoBulk]
  | map entries => simp [Rows.uptoBulk]
  | held h => simp [Rows.uptoBulk]
theorem bulk_app {H : Type} (l r : List (DataW H)) : Rows.uptoBulkAll (l ++ r) = Rows.uptoBulkAll l + Rows.uptoBulkAll r := by
  induction l with
  | nil => simp [Rows.uptoBulkAll]
  | cons x l ih => simp only [List.cons_append, Rows.uptoBulkAll, ih]; omega
theorem bulk_len {H : Type} (l : List (DataW H)) : l.length ≤ Rows.uptoBulkAll l := by
  induction l with
  | nil => simp [Rows.uptoBulkAll]
  | cons x r ih => have := bulk_pos x; simp only [Rows.uptoBulkAll, List.length_cons]; omega
theorem bulk_slice {H : Type} (el sp : List (DataW H)) : Rows.uptoBulkAll el + 1 ≤ Rows.uptoBulk (.slice el sp) := by
  simp only [Rows.uptoBulk]; omega
theorem blobs_app (L M : List (List Int)) : blobs (L ++ M) = blobs L ++ blobs M := by simp [blobs]
theorem blobs_bulk {H : Type} {f : Nat → List Int} {D : Nat → DataW H} : ∀ n, (∀ i, i < n → (f i).length + 1 ≤ Rows.uptoBulk (D i)) → (blobs ((List.range n).map f)).length ≤ 8 * Rows.uptoBulkAll ((List.range n).map D)
  | 0, _ => by simp [blobs]
  | n + 1, h => by
    have ih := blobs_bulk n (fun i hi => h i (by omega))
    have hn := h n (by omega)
    rw [List.range_succ, List.map_append, List.map_append, blobs_app, bulk_app, List.length_append]
    have e : (blobs (List.map f [n])).length = 8 + (f n).length := by simp [blobs]
    have e2 : Rows.uptoBulkAll (List.map D [n]) = Rows.uptoBulk (D n) := by simp [Rows.uptoBulkAll]
    omega

section
variable {H : Type} {enc : TypeId × Value → H} {w : World} {base : Nat} {held : Bool}
theorem trod_bytesB {fuel : Nat} {cs : List Value} {y : DataW H × List MemPlace} (h : DataW.trod enc Tryd.prog w base (fun _ => true) held fuel 67 cs = some y) :
    ∃ v xs, cs = [v] ∧ Rd w v xs ∧ Bytes xs ∧ xs.length + 1 ≤ Rows.uptoBulk y.1 := by
  rcases Deep.open_slice Tryd.underlying67 h with ⟨rfl, _⟩ | ⟨a, len, cap, m, n, D, Pl, rfl, hb, hl, hm, hmm, hy, hx⟩
  · exact ⟨_, [], rfl, Rd.nil w, (fun x hx => by simp at hx), by have := bulk_pos y.1; simpa using this⟩
  · rcases open_ints Tryd.underlying67 Tryd.underlying5 (by kernel_rfl) h with ⟨h0, _⟩ | ⟨a', len', cap', zs, hcs, _, hl', hm', hz, _, hx', hwf⟩
    · simp at h0
    · simp only [List.cons.injEq, Value.slice.injEq, Option.some.injEq, and_true] at hcs
      obtain ⟨rfl, rfl, rfl⟩ := hcs
      simp only [if_true] at hz
      have hl2 : (zs.take len).length = len := by simp; omega
      refine ⟨_, zs.take len, rfl, ?_, fun x hx => u8_bounds (hwf x (List.mem_of_mem_take hx)), ?_⟩
      · by_cases h0 : len = 0
        · subst h0
          exact ⟨some a, _, by rw [hl2], .inl (by simp)⟩
        · obtain ⟨b, o, sp⟩ := a
          have hsp : sp = none := by
            have := hx' 0 (by omega)
            simpa [Addr.add] using World.cell?_spot this
          subst hsp
          refine ⟨_, _, by rw [hl2], .inr ⟨b, o, rfl, fun i hi => ?_⟩⟩
          have h := hx' i (by omega)
          rw [addr_add] at h
          rw [h]
          simp [List.getD, show i < len by omega]
      · rw [hy, hl2]
        have h1 := bulk_slice ((List.range len).map D) ((List.range (m - len)).map fun j => D (len + j))
        have h2 := bulk_len ((List.range len).map D)
        simp only [List.length_map, List.length_range] at h2
        simp only [Rows.uptoBulk]
        omega
theorem open_blobs {r : Reach} {b0 : Nat} {v : Value} {d : DataW H} {p : List MemPlace} (hv : Value.okWide Tryd.prog w r b0 86 v) (h : DataW.Trod enc Tryd.prog w base (fun _ => true) held 86 v d p) :
    ∃ L, RdL w v L [] ∧ (∀ b ∈ L, Bytes b) ∧ (blobs L).length ≤ 8 * Rows.uptoBulk d := by
  obtain ⟨a0, len0, cap0, rfl⟩ := okWide_slice Tryd.underlying86 hv
  obtain ⟨fuel, hf⟩ := h
  rcases Deep.open_slice Tryd.underlying86 hf with ⟨h0, _⟩ | ⟨a, len, cap, m, n, D, Pl, h0, hb, hl, hm, hmm, hy, hx⟩
  · simp [Value.cells] at h0
    obtain ⟨rfl, rfl, rfl⟩ := h0
    exact ⟨[], ⟨_, _, rfl, .inl rfl⟩, (fun b hb => by simp at hb), by simp [blobs]⟩
  · simp [Value.cells] at h0
    obtain ⟨rfl, rfl, rfl⟩ := h0
    simp only [if_true] at hmm
    subst hmm
    have key : ∀ i, ∃ xs : List Int, i < len0 → ∃ u, w.cell? (a.add i) = some u ∧ Rd w u xs ∧ Bytes xs ∧ xs.length + 1 ≤ Rows.uptoBulk (D i) := by
      intro i
      by_cases hi : i < len0
      · obtain ⟨cs', hc, ht⟩ := hx i (by omega)
        rw [show Tryd.prog.cellsOf 67 = 1 by kernel_rfl, Nat.mul_one] at hc
        obtain ⟨v, xs, rfl, hrd, hbx, hd⟩ := trod_bytesB ht
        refine ⟨xs, fun _ => ⟨v, ?_, hrd, hbx, hd⟩⟩
        have := (World.cells?_some hc).2.2 0 (by decide)
        simpa [Addr.add_add] using this
      · exact ⟨[], fun h => absurd h hi⟩
    obtain ⟨f, hf⟩ := Classical.axiomOfChoice key
    have hlen : ((List.range len0).map f).length = len0 := by simp
    refine ⟨(List.range len0).map f, ⟨some a, _, by rw [hlen], ?_⟩, ?_, ?_⟩
    · by_cases h0 : len0 = 0
      · exact .inl (by simp [h0])
      · obtain ⟨b, o, sp⟩ := a
        have hsp : sp = none := by
          obtain ⟨u, hu, _⟩ := hf 0 (by omega)
          simpa [Addr.add] using World.cell?_spot hu
        subst hsp
        refine .inr ⟨b, o, rfl, by simp, fun i hi => ?_⟩
        have hi' : i < len0 := by simpa using hi
        obtain ⟨u, hu, hrd, _⟩ := hf i hi'
        rw [addr_add] at hu
        have e : ((List.range len0).map f).getD i [] = f i := by simp [List.getD, hi']
        exact ⟨u, hu, by rw [e]; exact hrd, fun _ _ _ => by simp⟩
    · intro b hb
      obtain ⟨i, hi, rfl⟩ := List.mem_map.1 hb
      obtain ⟨u, _, _, h3, _⟩ := hf i (by simpa using hi)
      exact h3
    · have h1 := blobs_bulk (D := D) len0 (fun i hi => by obtain ⟨_, _, _, _, h4⟩ := hf i hi; exact h4)
      have h2 := bulk_slice ((List.range len0).map D) ((List.range (m - len0)).map fun j => D (len0 + j))
      rw [show d = (d, p).1 from rfl, hy]
      simp only [Rows.uptoBulk]
      omega
end
end Go.Proofs.YtnllcmcahfkmaaaDoor
namespace Go.Proofs.YtnllcmcahfkmaaaDoor
set_option maxRecDepth 100000
open Go.ChangeShapes Go.WideShapes Go.ChangeAt Go.RowKit Go.Deep

section
variable {H : Type} {enc : TypeId × Value → H} {w : World} {base : Nat} {held : Bool}
theorem blobs_count {v : Value} {d : DataW H} {p : List MemPlace} {L : List (List Int)} (hR : RdL w v L []) (h : DataW.Trod enc Tryd.prog w base (fun _ => true) held 86 v d p) : L.length ≤ maxLen := by
  obtain ⟨q, c, rfl, _⟩ := hR
  obtain ⟨fuel, hf⟩ := h
  rcases Deep.open_slice Tryd.underlying86 hf with ⟨h0, _⟩ | ⟨a, len, cap, m, n, D, Pl, h0, hb, hl, hm, _⟩
  · simp only [Value.cells, List.cons.injEq, Value.slice.injEq, and_true] at h0
    rw [h0.2.1]; exact Nat.zero_le _
  · simp only [Value.cells, List.cons.injEq, Value.slice.injEq, and_true] at h0
    omega

theorem mapM_memB {α β : Type} {f : α → Option β} : ∀ {L : List α} {xs : List β}, L.mapM f = some xs → ∀ i ∈ L, ∃ y, f i = some y
  | [], _, _, i, hi => by simp at hi
  | a :: L, xs, h, i, hi => by
    rw [List.mapM_cons] at h
    simp only [bind, Option.bind_eq_some_iff, pure, Option.some.injEq] at h
    obtain ⟨y, hy, ys, hys, _⟩ := h
    rcases List.mem_cons.1 hi with rfl | hi
    · exact ⟨y, hy⟩
    · exact mapM_memB hys i hi
theorem trod_hashB {t e : TypeId} {P : Program} {spare : Nat → Bool} {fuel : Nat} {cs : List Value} {x : DataW H × List MemPlace} (ht : P.underlying t = some (.array 32 e)) (he : P.underlying e = some (.int .u8)) (hC : P.cellsOf t = 32) (h1 : P.cellsOf e = 1)
    (h : DataW.trod enc P w base spare held fuel t cs = some x) : ∃ F : List Int, F.length = 32 ∧ cs = hc F ∧ Bytes F := by
  cases fuel with
  | zero => simp [DataW.trod] at h
  | succ m =>
    rw [DataW.trod_step] at h
    unfold DataW.trodStep at h
    simp only [ht, h1, hC, Nat.mul_one] at h
    split at h
    · rename_i hl
      simp only [Option.map_eq_some_iff] at h
      obtain ⟨ys, hy, _⟩ := h
      have key : ∀ i, i < 32 → ∃ a, cs[i]? = some (.int .u8 a) ∧ 0 ≤ a ∧ a < 256 := by
        intro i hi
        obtain ⟨y, hy⟩ := mapM_memB hy i (by simp [hi])
        obtain ⟨a, ea, _, wa⟩ := DataW.trod_int he hy
        refine ⟨a, ?_, u8_bounds wa⟩
        have := congrArg (fun l => l[0]?) ea
        simpa [List.getElem?_take, List.getElem?_drop] using this
      refine ⟨cs.map fun v => match v with | .int _ q => q | _ => 0, by simp [hl], ?_, ?_⟩
      · apply List.ext_getElem?
        intro i
        by_cases hi : i < 32
        · obtain ⟨a, e0, _⟩ := key i hi
          simp [hc, e0]
        · rw [List.getElem?_eq_none (by omega), List.getElem?_eq_none (by simp [hc]; omega)]
      · intro z hz
        obtain ⟨v, hv, rfl⟩ := List.mem_map.1 hz
        obtain ⟨i, hi, rfl⟩ := List.getElem_of_mem hv
        obtain ⟨a, e0, ha⟩ := key i (by omega)
        rw [List.getElem?_eq_getElem hi, Option.some.injEq] at e0
        rw [e0]
        exact ha
    · simp at h
theorem open_hashB {r : Reach} {b0 : Nat} {v : Value} {d : DataW H} {p : List MemPlace} (hv : Value.okWide Tryd.prog w r b0 43 v) (h : DataW.Trod enc Tryd.prog w base (fun _ => true) held 43 v d p) :
    ∃ F : List Int, F.length = 32 ∧ v = .agg (hc F).toArray ∧ Bytes F := by
  obtain ⟨cs, rfl, _, _⟩ : ∃ cs, v = .agg cs ∧ cs.size = Tryd.prog.cellsOf 43 ∧ Row.okWide Tryd.prog w r b0 43 cs := by
    simpa [Value.okWide, Tryd.underlying43] using hv
  obtain ⟨fuel, hf⟩ := h
  obtain ⟨F, hF, e, hb⟩ := trod_hashB Tryd.underlying43 Tryd.underlying5 (by kernel_rfl) (by kernel_rfl) hf
  exact ⟨F, hF, by rw [← e]; simp [Value.cells], hb⟩
end
end Go.Proofs.YtnllcmcahfkmaaaDoor
namespace Go.Proofs.YtnllcmcahfkmaaaDoor
set_option maxRecDepth 100000
open Go.ChangeShapes Go.WideShapes Go.ChangeAt Go.RowKit Go.Deep
section
variable {H : Type} {enc : TypeId × Value → H} {w : World} {base : Nat} {held : Bool}
theorem trod_u16 {t e : TypeId} {P : Program} {spare : Nat → Bool} {fuel : Nat} {cs : List Value} {x : DataW H × List MemPlace} (ht : P.underlying t = some (.array 16 e)) (he : P.underlying e = some (.int .u64)) (hC : P.cellsOf t = 16) (h1 : P.cellsOf e = 1)
    (h : DataW.trod enc P w base spare held fuel t cs = some x) : ∃ F : List Int, F.length = 16 ∧ cs = wcs F ∧ U64s F := by
  cases fuel with
  | zero => simp [DataW.trod] at h
  | succ m =>
    rw [DataW.trod_step] at h
    unfold DataW.trodStep at h
    simp only [ht, h1, hC, Nat.mul_one] at h
    split at h
    · rename_i hl
      simp only [Option.map_eq_some_iff] at h
      obtain ⟨ys, hy, _⟩ := h
      have key : ∀ i, i < 16 → ∃ a, cs[i]? = some (.int .u64 a) ∧ 0 ≤ a ∧ a < 18446744073709551616 := by
        intro i hi
        obtain ⟨y, hy⟩ := mapM_memB hy i (by simp [hi])
        obtain ⟨a, ea, _, wa⟩ := DataW.trod_int he hy
        refine ⟨a, ?_, u64_bd wa⟩
        have := congrArg (fun l => l[0]?) ea
        simpa [List.getElem?_take, List.getElem?_drop] using this
      refine ⟨cs.map fun v => match v with | .int _ q => q | _ => 0, by simp [hl], ?_, ?_⟩
      · apply List.ext_getElem?
        intro i
        by_cases hi : i < 16
        · obtain ⟨a, e0, _⟩ := key i hi
          simp [wcs, e0]
        · rw [List.getElem?_eq_none (by omega), List.getElem?_eq_none (by simp [wcs]; omega)]
      · intro z hz
        obtain ⟨v, hv, rfl⟩ := List.mem_map.1 hz
        obtain ⟨i, hi, rfl⟩ := List.getElem_of_mem hv
        obtain ⟨a, e0, ha⟩ := key i (by omega)
        rw [List.getElem?_eq_getElem hi, Option.some.injEq] at e0
        rw [e0]
        exact ha
    · simp at h
theorem open_st {r : Reach} {b0 : Nat} {v : Value} {d : DataW H} {p : List MemPlace} (hv : Value.okWide Tryd.prog w r b0 29 v) (h : DataW.Trod enc Tryd.prog w base (fun _ => true) held 29 v d p)
    (hs : ∀ n ∈ d.weights Tryd.prog 29, n ≤ reachBytes) : ∃ (s : Ms) (q : Option Addr) (k : Nat), v = .agg (stRow s q k).toArray ∧ ((0 ≤ s.gas ∧ s.gas < 18446744073709551616) ∧ U64s s.stk ∧ U64s s.wds ∧ s.wds.length = 16) ∧ RdU w (.slice q s.stk.length k) s.stk := by
  obtain ⟨arr, rfl, _, _⟩ : ∃ cs, v = .agg cs ∧ cs.size = Tryd.prog.cellsOf 29 ∧ Row.okWide Tryd.prog w r b0 29 cs := by
    simpa [Value.okWide, Tryd.underlying29] using hv
  obtain ⟨fuel, hf⟩ := h
  obtain ⟨hl, mm, ys, hx, hfld⟩ := trod_struct Tryd.underlying29 (n := 21) (by kernel_rfl) hf
  simp only at hx
  subst hx
  have ci : Tryd.prog.cellsOf 3 = 1 := by kernel_rfl
  have c1 : Tryd.prog.cellsOf 23 = 1 := by kernel_rfl
  have c2 : Tryd.prog.cellsOf 24 = 1 := by kernel_rfl
  have c3 : Tryd.prog.cellsOf 27 = 16 := by kernel_rfl
  obtain ⟨y0, g0, t0⟩ := hfld 0 _ rfl
  obtain ⟨y1, g1, t1⟩ := hfld 1 _ rfl
  obtain ⟨y2, g2, t2⟩ := hfld 2 _ rfl
  obtain ⟨y3, g3, t3⟩ := hfld 3 _ rfl
  obtain ⟨y4, g4, t4⟩ := hfld 4 _ rfl
  obtain ⟨y5, g5, t5⟩ := hfld 5 _ rfl
  dsimp only at t0 t1 t2 t3 t4 t5
  rw [ci] at t0 t2 t3
  rw [c1] at t1
  rw [c2] at t4
  rw [c3] at t5
  have m4 := weights_struct Tryd.underlying29 hs (j := 4) rfl (show (ys.map (·.1))[4]? = some y4.1 by rw [List.getElem?_map, g4]; rfl)
  dsimp only at m4
  obtain ⟨a0, e0', _, h0⟩ := DataW.trod_int Tryd.underlying3 t0
  obtain ⟨a1, e1, h1⟩ := trod_u64B Tryd.underlying23 t1
  obtain ⟨a2, e2', _, h2⟩ := DataW.trod_int Tryd.underlying3 t2
  obtain ⟨a3, e3', _, h3⟩ := DataW.trod_int Tryd.underlying3 t3
  have e0 := one_at e0'
  have e2 := one_at e2'
  have e3 := one_at e3'
  obtain ⟨q, k, L, e4, rr, ok, l⟩ := trod_rows (d0 := 0) PU_ok (by decide) Tryd.underlying24 (n := 1) (by kernel_rfl) (by_ := 8) (by kernel_rfl) elem_u64 t4 m4
  obtain ⟨W, hW, e5, okw⟩ := trod_u16 Tryd.underlying27 Tryd.underlying23 (by kernel_rfl) (by kernel_rfl) t5
  refine ⟨⟨a0, a1, a2, a3, L, W⟩, q, k, ?_, ⟨h1, ok, okw, hW⟩, rr.rdU⟩
  obtain ⟨cs, hcs⟩ : ∃ cs, (Value.agg arr).cells.toList = cs := ⟨_, rfl⟩
  have ha : arr = cs.toArray := by rw [← hcs]; simp [Value.cells]
  rw [hcs] at hl e0 e1 e2 e3 e4 e5
  rw [ha]
  have e4' : cs[4]? = some (.slice q L.length k) := one_at e4
  have key : cs = stRow ⟨a0, a1, a2, a3, L, W⟩ q k := by
    rcases cs with _ | ⟨x0, _ | ⟨x1, _ | ⟨x2, _ | ⟨x3, _ | ⟨x4, cs⟩⟩⟩⟩⟩ <;> try (simp at hl; done)
    simp at e0 e1 e2 e3 e4' e5 hl
    have : cs.take 16 = cs := List.take_of_length_le (by omega)
    rw [this] at e5
    rw [e0, e1, e2, e3, e4', e5]
    rfl
  rw [key]
end
end Go.Proofs.YtnllcmcahfkmaaaDoor
namespace Go.Proofs.YtnllcmcahfkmaaaDoor
open Go.ChangeShapes Go.WideShapes Go.ChangeAt Go.RowKit
set_option maxRecDepth 100000

def rootsL : List (String × DataW Unit) := [("bascule/digest.roots", Rows.laid_bascule_digest_roots)]
theorem gRoots : Tryd.prog.globalNamed "bascule/digest.roots" = some 0 := by kernel_rfl
theorem gRootsType : (Tryd.prog.globals[0]?).map (·.type) = some 119 := by kernel_rfl
theorem rootsData : (Rows.laid_bascule_digest_roots : DataW Unit) = Lib.tabData .u32 rootsZ := by rfl
theorem tbl_of {W : World} (h : laidMetH Tryd.prog rootsL W) : Tbl W := by
  have h' : laidMetH Tryd.prog (("bascule/digest.roots", Lib.tabData .u32 rootsZ) :: []) W := by rw [← rootsData]; exact h
  have := Lib.tabIs_of_head (rest := []) gRoots gRootsType Tryd.underlying119 Tryd.underlying106 (by kernel_rfl) (by kernel_rfl) h'
  intro i hi
  exact this.cell gRoots i (by have : rootsZ.length = 64 := rfl; omega)
/-- The door's own heap meets the condition. -/
theorem door_met (os : Os) (args : Array Value) : laidMetH Tryd.prog rootsL ((World.doorLaid Tryd.prog 400 os).forCall (fun _ _ => 0) ⟨#[], args, []⟩).memory :=
  laidMetH_of_parts3 (fuel := 8) (laidMet_of_run' 8 (by kernel_rfl) (by kernel_rfl)) (by kernel_rfl) (by kernel_rfl)
end Go.Proofs.YtnllcmcahfkmaaaDoor
