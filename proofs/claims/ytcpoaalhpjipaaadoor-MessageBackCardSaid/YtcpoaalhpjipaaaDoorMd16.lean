/-
  A slice of bytes, as a law's argument.; A hash as a law's argument.; A struct's fields, as a law's argument holds them.; A message, and bytes, as a law's arguments.; A list of slices of bytes, as a law's argument; what it weighs.; How many slices an argument of slices holds; a hash as an argument, and its bytes.; What a row's list of variables gives: the table of digest's rounds.
-/
import Derived.Deep.Slices
import Derived.Deep.Grids
import Derived.SizedLaws
import Derived.Test.YtcpoaalhpjipaaaDoorTie
import Derived.Test.YtcpoaalhpjipaaaDoorCards
import Derived.ProofKit
import Derived.LaidMore
import Derived.Stop.Joined
import Derived.SevenTiedAt
import Derived.Lib.LaidTab
import Derived.Test.YtcpoaalhpjipaaaDoorMd1
import Derived.Test.YtcpoaalhpjipaaaDoorMd2
import Derived.Test.YtcpoaalhpjipaaaDoorMd8
import Derived.Test.YtcpoaalhpjipaaaDoorMd15
namespace Go.Proofs.YtcpoaalhpjipaaaDoor
set_option maxRecDepth 100000
open Go.ChangeShapes Go.WideShapes Go.ChangeAt Go.RowKit Go.Deep

theorem u8_bounds {x : Int} (h : (Lit.int .u8 x).wf = true) : 0 ≤ x ∧ x < 256 := by
  have : 0 ≤ x ∧ x ≤ 255 := by simpa [Lit.wf, IntKind.min, IntKind.max, IntKind.signed, IntKind.bits] using h
  omega

section
variable {H : Type} {enc : TypeId × Value → H} {w : World} {base : Nat} {held : Bool}
theorem open_bytes {r : Reach} {b0 : Nat} {v : Value} {d : DataW H} {p : List MemPlace} (hv : Value.okWide Tryd.prog w r b0 25 v) (h : DataW.Trod enc Tryd.prog w base (fun _ => true) held 25 v d p) :
    ∃ xs : List Int, Rd w v xs ∧ Bytes xs ∧ xs.length ≤ maxLen := by
  obtain ⟨a0, len, cap, rfl⟩ := okWide_slice Tryd.underlying25 hv
  obtain ⟨fuel, hf⟩ := h
  rcases open_ints Tryd.underlying25 Tryd.underlying5 (by kernel_rfl) hf with ⟨h0, _⟩ | ⟨a, len', cap', zs, hcs, _, hl, hm, hz, _, hx, hwf⟩
  · simp [Value.cells] at h0
    obtain ⟨rfl, rfl, rfl⟩ := h0
    exact ⟨[], Rd.nil w, (by unfold Bytes; simp), Nat.zero_le _⟩
  · simp [Value.cells] at hcs
    obtain ⟨e1, e2, e3⟩ := hcs
    subst e1 e2 e3
    simp only [if_true] at hz
    refine ⟨zs.take len, ?_, fun x hx' => u8_bounds (hwf x (List.mem_of_mem_take hx')), by simp; omega⟩
    have hl2 : (zs.take len).length = len := by simp; omega
    by_cases h0 : len = 0
    · subst h0
      exact ⟨some a, _, by rw [hl2], .inl (by simp)⟩
    · obtain ⟨b, o, sp⟩ := a
      have hsp : sp = none := by
        have := hx 0 (by omega)
        simpa [Addr.add] using World.cell?_spot this
      subst hsp
      refine ⟨_, _, by rw [hl2], .inr ⟨b, o, rfl, fun i hi => ?_⟩⟩
      have h := hx i (by omega)
      rw [addr_add] at h
      rw [h]
      simp [List.getD, show i < len by omega]
end
end Go.Proofs.YtcpoaalhpjipaaaDoor
namespace Go.Proofs.YtcpoaalhpjipaaaDoor
set_option maxRecDepth 100000
open Go.ChangeShapes Go.WideShapes Go.ChangeAt Go.RowKit

theorem mapM_mem {α β : Type} {f : α → Option β} : ∀ {L : List α} {xs : List β}, L.mapM f = some xs → ∀ i ∈ L, ∃ y, f i = some y
  | [], _, _, i, hi => by simp at hi
  | a :: L, xs, h, i, hi => by
    rw [List.mapM_cons] at h
    simp only [bind, Option.bind_eq_some_iff, pure, Option.some.injEq] at h
    obtain ⟨y, hy, ys, hys, _⟩ := h
    rcases List.mem_cons.1 hi with rfl | hi
    · exact ⟨y, hy⟩
    · exact mapM_mem hys i hi

section
variable {H : Type} {enc : TypeId × Value → H} {P : Program} {w : World} {base : Nat} {spare : Nat → Bool} {held : Bool}

theorem trod_hash {t e : TypeId} {fuel : Nat} {cs : List Value} {x : DataW H × List MemPlace} (ht : P.underlying t = some (.array 32 e)) (he : P.underlying e = some (.int .u8)) (hC : P.cellsOf t = 32) (h1 : P.cellsOf e = 1)
    (h : DataW.trod enc P w base spare held fuel t cs = some x) : ∃ F : List Int, F.length = 32 ∧ cs = hc F := by
  cases fuel with
  | zero => simp [DataW.trod] at h
  | succ m =>
    rw [DataW.trod_step] at h
    unfold DataW.trodStep at h
    simp only [ht, h1, hC, Nat.mul_one] at h
    split at h
    · rename_i hl
      simp only [Option.map_eq_some_iff] at h
      obtain ⟨ys, hy, _⟩ := h
      refine ⟨cs.map fun v => match v with | .int _ q => q | _ => 0, by simp [hl], ?_⟩
      apply List.ext_getElem?
      intro i
      by_cases hi : i < 32
      · obtain ⟨y, hy⟩ := mapM_mem hy i (by simp [hi])
        obtain ⟨a, ea, _, _⟩ := DataW.trod_int he hy
        have e0 : cs[i]? = some (.int .u8 a) := by
          have := congrArg (fun l => l[0]?) ea
          simpa [List.getElem?_take, List.getElem?_drop] using this
        simp [hc, e0]
      · rw [List.getElem?_eq_none (by omega), List.getElem?_eq_none (by simp [hc]; omega)]
    · simp at h

theorem open_hash {r : Reach} {b0 : Nat} {v : Value} {d : DataW H} {p : List MemPlace} (hv : Value.okWide Tryd.prog w r b0 44 v) (h : DataW.Trod enc Tryd.prog w base spare held 44 v d p) :
    ∃ F : List Int, F.length = 32 ∧ v = .agg (hc F).toArray := by
  obtain ⟨cs, rfl, _, _⟩ : ∃ cs, v = .agg cs ∧ cs.size = Tryd.prog.cellsOf 44 ∧ Row.okWide Tryd.prog w r b0 44 cs := by
    simpa [Value.okWide, Tryd.underlying44] using hv
  obtain ⟨fuel, hf⟩ := h
  obtain ⟨F, hF, e⟩ := trod_hash Tryd.underlying44 Tryd.underlying5 (by kernel_rfl) (by kernel_rfl) hf
  exact ⟨F, hF, by rw [← e]; simp [Value.cells]⟩
end
end Go.Proofs.YtcpoaalhpjipaaaDoor
namespace Go.Proofs.YtcpoaalhpjipaaaDoor
set_option maxRecDepth 100000
open Go.ChangeShapes Go.WideShapes Go.ChangeAt Go.RowKit

section
variable {H : Type} {enc : TypeId × Value → H} {P : Program} {w : World} {base : Nat} {spare : Nat → Bool} {held : Bool}

theorem trod_fields {t : TypeId} {fs : Array Field} {fuel n : Nat} {cs : List Value} {x : DataW H × List MemPlace} (ht : P.underlying t = some (.struct fs)) (hC : P.cellsOf t = n) (h : DataW.trod enc P w base spare held fuel t cs = some x) :
    cs.length = n ∧ ∃ m, ∀ f ∈ fs.toList, ∃ y, DataW.trod enc P w base spare held m f.type ((cs.drop f.offset).take (P.cellsOf f.type)) = some y := by
  cases fuel with
  | zero => simp [DataW.trod] at h
  | succ m =>
    rw [DataW.trod_step] at h
    unfold DataW.trodStep at h
    simp only [ht, hC] at h
    split at h
    · rename_i hl
      simp only [Option.map_eq_some_iff] at h
      obtain ⟨ys, hy, _⟩ := h
      exact ⟨hl, m, mapM_mem hy⟩
    · simp at h
theorem trod_sl {t e : TypeId} {fuel : Nat} {cs : List Value} {x : DataW H × List MemPlace} (ht : P.underlying t = some (.slice e)) (h : DataW.trod enc P w base spare held fuel t cs = some x) :
    ∃ q n c, cs = [.slice q n c] ∧ n ≤ maxLen := by
  rcases Deep.open_slice ht h with ⟨rfl, _⟩ | ⟨a, len, cap, m, n, D, Pl, rfl, hb, hl, hm, _⟩
  · exact ⟨_, _, _, rfl, Nat.zero_le _⟩
  · exact ⟨_, _, _, rfl, Nat.le_trans hl hm⟩
theorem one_at {cs : List Value} {i : Nat} {v : Value} (h : (cs.drop i).take 1 = [v]) : cs[i]? = some v := by
  have := congrArg (fun l => l[0]?) h
  simpa [List.getElem?_take, List.getElem?_drop] using this
end
end Go.Proofs.YtcpoaalhpjipaaaDoor
namespace Go.Proofs.YtcpoaalhpjipaaaDoor
set_option maxRecDepth 100000
open Go.ChangeShapes Go.WideShapes Go.ChangeAt Go.RowKit Go.Deep

section
variable {H : Type} {enc : TypeId × Value → H} {P : Program} {w : World} {base : Nat} {held : Bool}

theorem trod_struct {t : TypeId} {fs : Array Field} {fuel n : Nat} {cs : List Value} {x : DataW H × List MemPlace} (ht : P.underlying t = some (.struct fs)) (hC : P.cellsOf t = n) (h : DataW.trod enc P w base (fun _ => true) held fuel t cs = some x) :
    cs.length = n ∧ ∃ m, ∃ ys : List (DataW H × List MemPlace), x.1 = .agg (ys.map (·.1)) ∧
      ∀ (i : Nat) f, fs.toList[i]? = some f → ∃ y, ys[i]? = some y ∧ DataW.trod enc P w base (fun _ => true) held m f.type ((cs.drop f.offset).take (P.cellsOf f.type)) = some y := by
  cases fuel with
  | zero => simp [DataW.trod] at h
  | succ m =>
    rw [DataW.trod_step] at h
    unfold DataW.trodStep at h
    simp only [ht, hC] at h
    split at h
    · rename_i hl
      simp only [Option.map_eq_some_iff] at h
      obtain ⟨ys, hy, hx⟩ := h
      refine ⟨hl, m, ys, by rw [← hx], fun i f hf => ?_⟩
      have h1 := mapM_some_get hy i f hf
      obtain ⟨y, hyy⟩ := mapM_mem hy f (List.mem_of_getElem? hf)
      exact ⟨y, by rw [← h1]; exact hyy, hyy⟩
    · simp at h
theorem weights_mem_all {e : TypeId} : ∀ {el : List (DataW H)} {d : DataW H}, d ∈ el → ∀ n ∈ d.weights P e, n ∈ DataW.weightsAll P e el
  | [], d, hd, _, _ => by cases hd
  | c :: el, d, hd, n, hn => by
    rw [DataW.weightsAll]
    rcases List.mem_cons.1 hd with rfl | hd
    · exact List.mem_append.2 (.inl hn)
    · exact List.mem_append.2 (.inr (weights_mem_all hd n hn))
theorem weights_struct {t : TypeId} {fs : Array Field} (ht : P.underlying t = some (.struct fs)) {parts : List (DataW H)} (h : ∀ n ∈ (DataW.agg parts).weights P t, n ≤ reachBytes) {j : Nat} {f : Field} {d : DataW H} (hf : fs.toList[j]? = some f) (hd : parts[j]? = some d) :
    ∀ n ∈ d.weights P f.type, n ≤ reachBytes := by
  intro n hn
  refine h n ?_
  rw [DataW.weights, ht]
  exact DataW.weights_mem_each (by rw [List.getElem?_map, hf]; rfl) hd n hn
theorem weights_slice {t e : TypeId} (ht : P.underlying t = some (.slice e)) {el sp : List (DataW H)} (h : ∀ n ∈ (DataW.slice el sp).weights P t, n ≤ reachBytes) : el.length * P.bytesOf e ≤ reachBytes ∧ ∀ d ∈ el, ∀ n ∈ d.weights P e, n ≤ reachBytes := by
  rw [DataW.weights, ht] at h
  simp only at h
  refine ⟨Nat.le_trans (Nat.mul_le_mul_right _ (Nat.le_add_right _ sp.length)) (h _ (List.mem_cons_self ..)), fun d hd n hn => h n ?_⟩
  exact List.mem_cons.2 (.inr (List.mem_append.2 (.inl (weights_mem_all hd n hn))))
end

section
variable {H : Type} {enc : TypeId × Value → H} {P : Program} {w : World} {base : Nat} {held : Bool}
theorem trod_arrI {t e : TypeId} {n : Nat} {kd : IntKind} {fuel : Nat} {cs : List Value} {x : DataW H × List MemPlace} (ht : P.underlying t = some (.array n e)) (he : P.underlying e = some (.int kd)) (hC : P.cellsOf t = n) (h1 : P.cellsOf e = 1)
    (h : DataW.trod enc P w base (fun _ => true) held fuel t cs = some x) : cs.length = n ∧ ∀ i, i < n → ∃ a, cs[i]? = some (.int kd a) ∧ (Lit.int kd a).wf = true := by
  cases fuel with
  | zero => simp [DataW.trod] at h
  | succ m =>
    rw [DataW.trod_step] at h
    unfold DataW.trodStep at h
    simp only [ht, h1, hC, Nat.mul_one] at h
    split at h
    · rename_i hl
      simp only [Option.map_eq_some_iff] at h
      obtain ⟨ys, hy, _⟩ := h
      refine ⟨hl, fun i hi => ?_⟩
      obtain ⟨y, hy⟩ := mapM_mem hy i (by simp; omega)
      obtain ⟨a, ea, _, hw⟩ := DataW.trod_int he hy
      have := congrArg (fun l => l[0]?) ea
      have e2 : cs[i]? = some (.int kd a) := by simpa [List.getElem?_take, List.getElem?_drop] using this
      exact ⟨a, e2, hw⟩
    · simp at h
theorem u64_bd {x : Int} (hx : (Lit.int .u64 x).wf = true) : 0 ≤ x ∧ x < 18446744073709551616 := by
  have : 0 ≤ x ∧ x ≤ 18446744073709551615 := by simpa [Lit.wf, IntKind.min, IntKind.max, IntKind.signed, IntKind.bits] using hx
  omega
theorem trod_u64B {t : TypeId} {fuel : Nat} {cs : List Value} {i : Nat} {x : DataW H × List MemPlace} (ht : P.underlying t = some (.int .u64)) (h : DataW.trod enc P w base (fun _ => true) held fuel t ((cs.drop i).take 1) = some x) : ∃ a, cs[i]? = some (.int .u64 a) ∧ 0 ≤ a ∧ a < 18446744073709551616 := by
  obtain ⟨a, e, _, hw⟩ := DataW.trod_int ht h
  exact ⟨a, one_at e, u64_bd hw⟩
end
section
variable {H : Type} {enc : TypeId × Value → H} {w : World} {base : Nat} {held : Bool}
theorem trod_bytes {fuel : Nat} {cs : List Value} {y : DataW H × List MemPlace} (h : DataW.trod enc Tryd.prog w base (fun _ => true) held fuel 25 cs = some y) :
    ∃ v xs, cs = [v] ∧ Rd w v xs ∧ Bytes xs ∧ (xs = [] ∨ ∃ el sp, y.1 = .slice el sp ∧ el.length = xs.length) := by
  rcases Deep.open_slice Tryd.underlying25 h with ⟨rfl, _⟩ | ⟨a, len, cap, m, n, D, Pl, rfl, hb, hl, hm, hmm, hy, hx⟩
  · exact ⟨_, [], rfl, Rd.nil w, (by unfold Bytes; simp), .inl rfl⟩
  · rcases open_ints Tryd.underlying25 Tryd.underlying5 (by kernel_rfl) h with ⟨h0, _⟩ | ⟨a', len', cap', zs, hcs, _, hl', hm', hz, _, hx', hwf⟩
    · simp at h0
    · simp only [List.cons.injEq, Value.slice.injEq, Option.some.injEq, and_true] at hcs
      obtain ⟨rfl, rfl, rfl⟩ := hcs
      simp only [if_true] at hz
      have hl2 : (zs.take len).length = len := by simp; omega
      refine ⟨_, zs.take len, rfl, ?_, fun x hx' => u8_bounds (hwf x (List.mem_of_mem_take hx')), .inr ⟨_, _, by rw [hy], by simp; omega⟩⟩
      by_cases h0 : len = 0
      · subst h0
        exact ⟨some a, _, by rw [hl2], .inl (by simp)⟩
      · obtain ⟨b, o, sp⟩ := a
        have hsp : sp = none := by
          have := hx' 0 (by omega)
          simpa [Addr.add] using World.cell?_spot this
        subst hsp
        refine ⟨_, _, by rw [hl2], .inr ⟨b, o, rfl, fun i hi => ?_⟩⟩
        have h := hx' i (by omega)
        rw [addr_add] at h
        rw [h]
        simp [List.getD, show i < len by omega]
theorem reach46 : reachBytes ≤ 140737488355000 := by decide
theorem open_bytesS {r : Reach} {b0 : Nat} {v : Value} {d : DataW H} {p : List MemPlace} (hv : Value.okWide Tryd.prog w r b0 25 v) (h : DataW.Trod enc Tryd.prog w base (fun _ => true) held 25 v d p)
    (hs : ∀ n ∈ d.weights Tryd.prog 25, n ≤ reachBytes) : ∃ xs : List Int, Rd w v xs ∧ Bytes xs ∧ xs.length ≤ 140737488355000 := by
  have hr := reach46
  obtain ⟨xs, rx, bx, lx⟩ := open_bytes hv h
  obtain ⟨fuel, hf⟩ := h
  obtain ⟨v', xs', e, r', _, z⟩ := trod_bytes hf
  obtain ⟨q, c, rfl⟩ := rx.len
  obtain ⟨q', c', rfl⟩ := r'.len
  simp only [Value.cells, List.cons.injEq, Value.slice.injEq, and_true] at e
  refine ⟨xs, rx, bx, ?_⟩
  rcases z with rfl | ⟨el, sp, z1, z2⟩
  · have h5 : xs.length = ([] : List Int).length := e.2.1
    rw [h5]
    simp
  · simp only at z1
    rw [z1] at hs
    have h4 := (weights_slice Tryd.underlying25 hs).1
    rw [show Tryd.prog.bytesOf 5 = 1 by kernel_rfl, z2] at h4
    omega
theorem open_mg {r : Reach} {b0 : Nat} {v : Value} {d : DataW H} {p : List MemPlace} (hv : Value.okWide Tryd.prog w r b0 27 v) (h : DataW.Trod enc Tryd.prog w base (fun _ => true) held 27 v d p)
    (hs : ∀ n ∈ d.weights Tryd.prog 27, n ≤ reachBytes) : ∃ m q k, v = .agg (mgRow m q m.data.length k).toArray ∧ Rd w (.slice q m.data.length k) m.data ∧ m.ok ∧ m.data.length ≤ 140737488355000 := by
  have hr := reach46
  obtain ⟨arr, rfl, _, _⟩ : ∃ cs, v = .agg cs ∧ cs.size = Tryd.prog.cellsOf 27 ∧ Row.okWide Tryd.prog w r b0 27 cs := by
    simpa [Value.okWide, Tryd.underlying27] using hv
  obtain ⟨fuel, hf⟩ := h
  obtain ⟨hl, mm, ys, hx, hfld⟩ := trod_struct Tryd.underlying27 (n := 9) (by kernel_rfl) hf
  simp only at hx
  subst hx
  have c1 : Tryd.prog.cellsOf 22 = 1 := by kernel_rfl
  have c4 : Tryd.prog.cellsOf 24 = 4 := by kernel_rfl
  have cb : Tryd.prog.cellsOf 25 = 1 := by kernel_rfl
  obtain ⟨y0, g0, t0⟩ := hfld 0 _ rfl
  obtain ⟨y1, g1, t1⟩ := hfld 1 _ rfl
  obtain ⟨y2, g2, t2⟩ := hfld 2 _ rfl
  obtain ⟨y3, g3, t3⟩ := hfld 3 _ rfl
  obtain ⟨y4, g4, t4⟩ := hfld 4 _ rfl
  obtain ⟨y5, g5, t5⟩ := hfld 5 _ rfl
  dsimp only at t0 t1 t2 t3 t4 t5
  rw [c1] at t0 t1 t2 t4
  rw [c4] at t3
  rw [cb] at t5
  have m5 := weights_struct Tryd.underlying27 hs (j := 5) rfl (show (ys.map (·.1))[5]? = some y5.1 by rw [List.getElem?_map, g5]; rfl)
  dsimp only at m5
  obtain ⟨a0, e0, h0⟩ := trod_u64B Tryd.underlying22 t0
  obtain ⟨a1, e1, h1⟩ := trod_u64B Tryd.underlying22 t1
  obtain ⟨a2, e2, h2⟩ := trod_u64B Tryd.underlying22 t2
  obtain ⟨a4, e4, h4⟩ := trod_u64B Tryd.underlying22 t4
  obtain ⟨l3, h3⟩ := trod_arrI Tryd.underlying24 Tryd.underlying22 c4 c1 t3
  obtain ⟨b0, f0, w0⟩ := h3 0 (by omega)
  obtain ⟨b1, f1, w1⟩ := h3 1 (by omega)
  obtain ⟨b2, f2, w2⟩ := h3 2 (by omega)
  obtain ⟨b3, f3, w3⟩ := h3 3 (by omega)
  obtain ⟨v5, xs, e5, r5, bx, z5⟩ := trod_bytes t5
  obtain ⟨q, k, rfl⟩ := r5.len
  have s5 : xs.length ≤ 140737488355000 := by
    rcases z5 with z | ⟨el, sp, z1, z2⟩
    · rw [z]; simp
    · rw [z1] at m5
      have := (weights_slice Tryd.underlying25 m5).1
      rw [show Tryd.prog.bytesOf 5 = 1 by kernel_rfl, z2] at this
      omega
  obtain ⟨cs, hcs⟩ : ∃ cs, (Value.agg arr).cells.toList = cs := ⟨_, rfl⟩
  have ha : arr = cs.toArray := by rw [← hcs]; simp [Value.cells]
  rw [hcs] at hl e0 e1 e2 e4 f0 f1 f2 f3 e5
  have dg : ∀ {x : Int}, (Lit.int .u64 x).wf = true → Dg x := fun hx => by
    have := u64_bd hx
    unfold Dg B; omega
  have sub : ∀ {i : Nat} {u : Value}, i < 4 → ((cs.drop 3).take 4)[i]? = some u → cs[3 + i]? = some u := fun hi h => by
    rw [List.getElem?_take, if_pos hi, List.getElem?_drop] at h
    exact h
  have e8 : cs[8]? = some (.slice q xs.length k) := one_at e5
  refine ⟨⟨a0, a1, a2, ⟨b0, b1, b2, b3⟩, a4, xs⟩, q, k, ?_, r5, ⟨h0, h1, h2, ⟨dg w0, dg w1, dg w2, dg w3⟩, h4, bx⟩, s5⟩
  rw [ha]
  congr 2
  apply List.ext_getElem?
  intro i
  have hi : i = 0 ∨ i = 1 ∨ i = 2 ∨ i = 3 ∨ i = 4 ∨ i = 5 ∨ i = 6 ∨ i = 7 ∨ i = 8 ∨ 9 ≤ i := by omega
  rcases hi with rfl | rfl | rfl | rfl | rfl | rfl | rfl | rfl | rfl | hi
  · rw [e0]; rfl
  · rw [e1]; rfl
  · rw [e2]; rfl
  · rw [sub (i := 0) (by omega) f0]; rfl
  · rw [sub (i := 1) (by omega) f1]; rfl
  · rw [sub (i := 2) (by omega) f2]; rfl
  · rw [sub (i := 3) (by omega) f3]; rfl
  · rw [e4]; rfl
  · rw [e8]; rfl
  · rw [List.getElem?_eq_none (by omega), List.getElem?_eq_none (by rw [mgRow_len]; omega)]
end
end Go.Proofs.YtcpoaalhpjipaaaDoor
namespace Go.Proofs.YtcpoaalhpjipaaaDoor
set_option maxRecDepth 100000
open Go.ChangeShapes Go.WideShapes Go.ChangeAt Go.RowKit Go.Deep

theorem bulk_pos {H : Type} (d : DataW H) : 1 ≤ Rows.uptoBulk d := by
  cases d with
  | lit l => cases l <;> simp [Rows.uptoBulk]
  | nil => simp [Rows.uptoBulk]
  | ptr d => simp [Rows.uptoBulk]
  | slice elems spare => simp [Rows.uptoBulk]
  | agg parts => simp [Rows.uptoBulk]
  | iface t d => simp [Rows.uptoBulk]
  | map entries => simp [Rows.uptoBulk]
  | held h => simp [Rows.uptoBulk]
theorem bulk_app {H : Type} (l r : List (DataW H)) : Rows.uptoBulkAll (l ++ r) = Rows.uptoBulkAll l + Rows.uptoBulkAll r := by
  induction l with
  | nil => simp [Rows.uptoBulkAll]
  | cons x l ih => simp only [List.cons_append, Rows.uptoBulkAll, ih]; omega
theorem bulk_len {H : Type} (l : List (DataW H)) : l.length ≤ Rows.uptoBulkAll l := by
  induction l with
  | nil => simp [Rows.uptoBulkAll]
  | cons x r ih => have := bulk_pos x; simp only [Rows.uptoBulkAll, List.length_cons]; omega
theorem bulk_slice {H : Type} (el sp : List (DataW H)) : Rows.uptoBulkAll el + 1 ≤ Rows.uptoBulk (.slice el sp) := by
  simp only [Rows.uptoBulk]; omega
theorem blobs_app (L M : List (List Int)) : blobs (L ++ M) = blobs L ++ blobs M := by simp [blobs]
theorem blobs_bulk {H : Type} {f : Nat → List Int} {D : Nat → DataW H} : ∀ n, (∀ i, i < n → (f i).length + 1 ≤ Rows.uptoBulk (D i)) → (blobs ((List.range n).map f)).length ≤ 8 * Rows.uptoBulkAll ((List.range n).map D)
  | 0, _ => by simp [blobs]
  | n + 1, h => by
    have ih := blobs_bulk n (fun i hi => h i (by omega))
    have hn := h n (by omega)
    rw [List.range_succ, List.map_append, List.map_append, blobs_app, bulk_app, List.length_append]
    have e : (blobs (List.map f [n])).length = 8 + (f n).length := by simp [blobs]
    have e2 : Rows.uptoBulkAll (List.map D [n]) = Rows.uptoBulk (D n) := by simp [Rows.uptoBulkAll]
    omega

section
variable {H : Type} {enc : TypeId × Value → H} {w : World} {base : Nat} {held : Bool}
theorem trod_bytesB {fuel : Nat} {cs : List Value} {y : DataW H × List MemPlace} (h : DataW.trod enc Tryd.prog w base (fun _ => true) held fuel 25 cs = some y) :
    ∃ v xs, cs = [v] ∧ Rd w v xs ∧ Bytes xs ∧ xs.length + 1 ≤ Rows.uptoBulk y.1 := by
  rcases Deep.open_slice Tryd.underlying25 h with ⟨rfl, _⟩ | ⟨a, len, cap, m, n, D, Pl, rfl, hb, hl, hm, hmm, hy, hx⟩
  · exact ⟨_, [], rfl, Rd.nil w, (fun x hx => by simp at hx), by have := bulk_pos y.1; simpa using this⟩
  · rcases open_ints Tryd.underlying25 Tryd.underlying5 (by kernel_rfl) h with ⟨h0, _⟩ | ⟨a', len', cap', zs, hcs, _, hl', hm', hz, _, hx', hwf⟩
    · simp at h0
    · simp only [List.cons.injEq, Value.slice.injEq, Option.some.injEq, and_true] at hcs
      obtain ⟨rfl, rfl, rfl⟩ := hcs
      simp only [if_true] at hz
      have hl2 : (zs.take len).length = len := by simp; omega
      refine ⟨_, zs.take len, rfl, ?_, fun x hx => u8_bounds (hwf x (List.mem_of_mem_take hx)), ?_⟩
      · by_cases h0 : len = 0
        · subst h0
          exact ⟨some a, _, by rw [hl2], .inl (by simp)⟩
        · obtain ⟨b, o, sp⟩ := a
          have hsp : sp = none := by
            have := hx' 0 (by omega)
            simpa [Addr.add] using World.cell?_spot this
          subst hsp
          refine ⟨_, _, by rw [hl2], .inr ⟨b, o, rfl, fun i hi => ?_⟩⟩
          have h := hx' i (by omega)
          rw [addr_add] at h
          rw [h]
          simp [List.getD, show i < len by omega]
      · rw [hy, hl2]
        have h1 := bulk_slice ((List.range len).map D) ((List.range (m - len)).map fun j => D (len + j))
        have h2 := bulk_len ((List.range len).map D)
        simp only [List.length_map, List.length_range] at h2
        simp only [Rows.uptoBulk]
        omega
theorem open_blobs {r : Reach} {b0 : Nat} {v : Value} {d : DataW H} {p : List MemPlace} (hv : Value.okWide Tryd.prog w r b0 93 v) (h : DataW.Trod enc Tryd.prog w base (fun _ => true) held 93 v d p) :
    ∃ L, RdL w v L [] ∧ (∀ b ∈ L, Bytes b) ∧ (blobs L).length ≤ 8 * Rows.uptoBulk d := by
  obtain ⟨a0, len0, cap0, rfl⟩ := okWide_slice Tryd.underlying93 hv
  obtain ⟨fuel, hf⟩ := h
  rcases Deep.open_slice Tryd.underlying93 hf with ⟨h0, _⟩ | ⟨a, len, cap, m, n, D, Pl, h0, hb, hl, hm, hmm, hy, hx⟩
  · simp [Value.cells] at h0
    obtain ⟨rfl, rfl, rfl⟩ := h0
    exact ⟨[], ⟨_, _, rfl, .inl rfl⟩, (fun b hb => by simp at hb), by simp [blobs]⟩
  · simp [Value.cells] at h0
    obtain ⟨rfl, rfl, rfl⟩ := h0
    simp only [if_true] at hmm
    subst hmm
    have key : ∀ i, ∃ xs : List Int, i < len0 → ∃ u, w.cell? (a.add i) = some u ∧ Rd w u xs ∧ Bytes xs ∧ xs.length + 1 ≤ Rows.uptoBulk (D i) := by
      intro i
      by_cases hi : i < len0
      · obtain ⟨cs', hc, ht⟩ := hx i (by omega)
        rw [show Tryd.prog.cellsOf 25 = 1 by kernel_rfl, Nat.mul_one] at hc
        obtain ⟨v, xs, rfl, hrd, hbx, hd⟩ := trod_bytesB ht
        refine ⟨xs, fun _ => ⟨v, ?_, hrd, hbx, hd⟩⟩
        have := (World.cells?_some hc).2.2 0 (by decide)
        simpa [Addr.add_add] using this
      · exact ⟨[], fun h => absurd h hi⟩
    obtain ⟨f, hf⟩ := Classical.axiomOfChoice key
    have hlen : ((List.range len0).map f).length = len0 := by simp
    refine ⟨(List.range len0).map f, ⟨some a, _, by rw [hlen], ?_⟩, ?_, ?_⟩
    · by_cases h0 : len0 = 0
      · exact .inl (by simp [h0])
      · obtain ⟨b, o, sp⟩ := a
        have hsp : sp = none := by
          obtain ⟨u, hu, _⟩ := hf 0 (by omega)
          simpa [Addr.add] using World.cell?_spot hu
        subst hsp
        refine .inr ⟨b, o, rfl, by simp, fun i hi => ?_⟩
        have hi' : i < len0 := by simpa using hi
        obtain ⟨u, hu, hrd, _⟩ := hf i hi'
        rw [addr_add] at hu
        have e : ((List.range len0).map f).getD i [] = f i := by simp [List.getD, hi']
        exact ⟨u, hu, by rw [e]; exact hrd, fun _ _ _ => by simp⟩
    · intro b hb
      obtain ⟨i, hi, rfl⟩ := List.mem_map.1 hb
      obtain ⟨u, _, _, h3, _⟩ := hf i (by simpa using hi)
      exact h3
    · have h1 := blobs_bulk (D := D) len0 (fun i hi => by obtain ⟨_, _, _, _, h4⟩ := hf i hi; exact h4)
      have h2 := bulk_slice ((List.range len0).map D) ((List.range (m - len0)).map fun j => D (len0 + j))
      rw [show d = (d, p).1 from rfl, hy]
      simp only [Rows.uptoBulk]
      omega
end
end Go.Proofs.YtcpoaalhpjipaaaDoor
namespace Go.Proofs.YtcpoaalhpjipaaaDoor
set_option maxRecDepth 100000
open Go.ChangeShapes Go.WideShapes Go.ChangeAt Go.RowKit Go.Deep

section
variable {H : Type} {enc : TypeId × Value → H} {w : World} {base : Nat} {held : Bool}
theorem blobs_count {v : Value} {d : DataW H} {p : List MemPlace} {L : List (List Int)} (hR : RdL w v L []) (h : DataW.Trod enc Tryd.prog w base (fun _ => true) held 93 v d p) : L.length ≤ maxLen := by
  obtain ⟨q, c, rfl, _⟩ := hR
  obtain ⟨fuel, hf⟩ := h
  rcases Deep.open_slice Tryd.underlying93 hf with ⟨h0, _⟩ | ⟨a, len, cap, m, n, D, Pl, h0, hb, hl, hm, _⟩
  · simp only [Value.cells, List.cons.injEq, Value.slice.injEq, and_true] at h0
    rw [h0.2.1]; exact Nat.zero_le _
  · simp only [Value.cells, List.cons.injEq, Value.slice.injEq, and_true] at h0
    omega

theorem mapM_memB {α β : Type} {f : α → Option β} : ∀ {L : List α} {xs : List β}, L.mapM f = some xs → ∀ i ∈ L, ∃ y, f i = some y
  | [], _, _, i, hi => by simp at hi
  | a :: L, xs, h, i, hi => by
    rw [List.mapM_cons] at h
    simp only [bind, Option.bind_eq_some_iff, pure, Option.some.injEq] at h
    obtain ⟨y, hy, ys, hys, _⟩ := h
    rcases List.mem_cons.1 hi with rfl | hi
    · exact ⟨y, hy⟩
    · exact mapM_memB hys i hi
theorem trod_hashB {t e : TypeId} {P : Program} {spare : Nat → Bool} {fuel : Nat} {cs : List Value} {x : DataW H × List MemPlace} (ht : P.underlying t = some (.array 32 e)) (he : P.underlying e = some (.int .u8)) (hC : P.cellsOf t = 32) (h1 : P.cellsOf e = 1)
    (h : DataW.trod enc P w base spare held fuel t cs = some x) : ∃ F : List Int, F.length = 32 ∧ cs = hc F ∧ Bytes F := by
  cases fuel with
  | zero => simp [DataW.trod] at h
  | succ m =>
    rw [DataW.trod_step] at h
    unfold DataW.trodStep at h
    simp only [ht, h1, hC, Nat.mul_one] at h
    split at h
    · rename_i hl
      simp only [Option.map_eq_some_iff] at h
      obtain ⟨ys, hy, _⟩ := h
      have key : ∀ i, i < 32 → ∃ a, cs[i]? = some (.int .u8 a) ∧ 0 ≤ a ∧ a < 256 := by
        intro i hi
        obtain ⟨y, hy⟩ := mapM_memB hy i (by simp [hi])
        obtain ⟨a, ea, _, wa⟩ := DataW.trod_int he hy
        refine ⟨a, ?_, u8_bounds wa⟩
        have := congrArg (fun l => l[0]?) ea
        simpa [List.getElem?_take, List.getElem?_drop] using this
      refine ⟨cs.map fun v => match v with | .int _ q => q | _ => 0, by simp [hl], ?_, ?_⟩
      · apply List.ext_getElem?
        intro i
        by_cases hi : i < 32
        · obtain ⟨a, e0, _⟩ := key i hi
          simp [hc, e0]
        · rw [List.getElem?_eq_none (by omega), List.getElem?_eq_none (by simp [hc]; omega)]
      · intro z hz
        obtain ⟨v, hv, rfl⟩ := List.mem_map.1 hz
        obtain ⟨i, hi, rfl⟩ := List.getElem_of_mem hv
        obtain ⟨a, e0, ha⟩ := key i (by omega)
        rw [List.getElem?_eq_getElem hi, Option.some.injEq] at e0
        rw [e0]
        exact ha
    · simp at h
theorem open_hashB {r : Reach} {b0 : Nat} {v : Value} {d : DataW H} {p : List MemPlace} (hv : Value.okWide Tryd.prog w r b0 44 v) (h : DataW.Trod enc Tryd.prog w base (fun _ => true) held 44 v d p) :
    ∃ F : List Int, F.length = 32 ∧ v = .agg (hc F).toArray ∧ Bytes F := by
  obtain ⟨cs, rfl, _, _⟩ : ∃ cs, v = .agg cs ∧ cs.size = Tryd.prog.cellsOf 44 ∧ Row.okWide Tryd.prog w r b0 44 cs := by
    simpa [Value.okWide, Tryd.underlying44] using hv
  obtain ⟨fuel, hf⟩ := h
  obtain ⟨F, hF, e, hb⟩ := trod_hashB Tryd.underlying44 Tryd.underlying5 (by kernel_rfl) (by kernel_rfl) hf
  exact ⟨F, hF, by rw [← e]; simp [Value.cells], hb⟩
end
end Go.Proofs.YtcpoaalhpjipaaaDoor
namespace Go.Proofs.YtcpoaalhpjipaaaDoor
open Go.ChangeShapes Go.WideShapes Go.ChangeAt Go.RowKit
set_option maxRecDepth 100000

def rootsL : List (String × DataW Unit) := [("bascule/digest.roots", Rows.laid_bascule_digest_roots)]
theorem gRoots : Tryd.prog.globalNamed "bascule/digest.roots" = some 0 := by kernel_rfl
theorem gRootsType : (Tryd.prog.globals[0]?).map (·.type) = some 156 := by kernel_rfl
theorem rootsData : (Rows.laid_bascule_digest_roots : DataW Unit) = Lib.tabData .u32 rootsZ := by rfl
theorem tbl_of {W : World} (h : laidMetH Tryd.prog rootsL W) : Tbl W := by
  have h' : laidMetH Tryd.prog (("bascule/digest.roots", Lib.tabData .u32 rootsZ) :: []) W := by rw [← rootsData]; exact h
  have := Lib.tabIs_of_head (rest := []) gRoots gRootsType Tryd.underlying156 Tryd.underlying148 (by kernel_rfl) (by kernel_rfl) h'
  intro i hi
  exact this.cell gRoots i (by have : rootsZ.length = 64 := rfl; omega)
/-- The door's own heap meets the condition. -/
theorem door_met (os : Os) (args : Array Value) : laidMetH Tryd.prog rootsL ((World.doorLaid Tryd.prog 400 os).forCall (fun _ _ => 0) ⟨#[], args, []⟩).memory :=
  laidMetH_of_parts3 (fuel := 8) (laidMet_of_run' 8 (by kernel_rfl) (by kernel_rfl)) (by kernel_rfl) (by kernel_rfl)
end Go.Proofs.YtcpoaalhpjipaaaDoor
