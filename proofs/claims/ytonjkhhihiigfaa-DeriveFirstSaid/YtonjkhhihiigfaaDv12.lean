/-
  Which batches may be; what the program's GetBatch answers.; GetBatch, its Txs within new blocks.
-/
import Derived.Test.YtonjkhhihiigfaaDv6
import Derived.Test.YtonjkhhihiigfaaDv11
namespace Go.Proofs.Ytonjkhhihiigfaa
set_option maxRecDepth 100000
open Go.RowKit

theorem RightTx_g {w : World} {t : Tg} {q : Option Addr} {n k : Nat} (hg : ¬ t.gas ≤ 65536) :
    Calls Try.prog 52 #[.agg (txRow t q n k).toArray] w fun e w' => e = .returned (.bool false) ∧ Below w.heap.size w w' := by
  have B0 := Lib.hid ((Below.refl w.heap.size w).alloc (Nat.le_refl _) (.cells (txRow t q n k).toArray 54))
  have K := TxAt.new w 54 t q n k
  obtain ⟨-, -, -, -, -, -, -, -, c8, c9⟩ := K.cells
  clear K
  have hgI : (65536 : Int) < t.gas := by omega
  have dg : decide ((65536 : Int) < t.gas) = true := decide_eq_true hgI
  go_enter Try.func52, Try.ntmps52
  go_wp2_with fail
  go_step3
  go_wp2_with fail
  rw [Exit.noGoto_ret]
  go_ret
  exact ⟨rfl, B0.out⟩
theorem RightTx_l {w : World} {t : Tg} {q : Option Addr} {n k : Nat} (hg : t.gas ≤ 65536) (hl : ¬ (n : Int) ≤ 256) :
    Calls Try.prog 52 #[.agg (txRow t q n k).toArray] w fun e w' => e = .returned (.bool false) ∧ Below w.heap.size w w' := by
  have B0 := Lib.hid ((Below.refl w.heap.size w).alloc (Nat.le_refl _) (.cells (txRow t q n k).toArray 54))
  have K := TxAt.new w 54 t q n k
  obtain ⟨-, -, -, -, -, -, -, -, c8, c9⟩ := K.cells
  clear K
  have hgI : ¬ (65536 : Int) < t.gas := by omega
  have dg : decide ((65536 : Int) < t.gas) = false := by rw [decide_eq_false_iff_not]; exact hgI
  have hlI : (256 : Int) < (n : Int) := by omega
  have dl : decide ((256 : Int) < (n : Int)) = true := decide_eq_true hlI
  go_enter Try.func52, Try.ntmps52
  go_wp2_with fail
  go_step3
  go_wp2_with fail
  rw [Exit.noGoto_ret]
  go_ret
  exact ⟨rfl, B0.out⟩

theorem RightTx_any {w : World} {t : Tg} {q : Option Addr} {n k : Nat} (hr : Rd w (.slice q n k) t.data) (hx : Bytes t.data) (hn : n ≤ 140737488355328) :
    Calls Try.prog 52 #[.agg (txRow t q n k).toArray] w fun e w' => e = .returned (.bool (okT t n)) ∧ Below w.heap.size w w' := by
  by_cases hg : t.gas ≤ 65536
  · by_cases hl : (n : Int) ≤ 256
    · have e0 : okT t n = okK t n := by unfold okT; rw [decide_eq_true hg, decide_eq_true hl]; rfl
      rw [e0]
      unfold okK
      by_cases h1 : t.kd = 1
      · rw [if_pos h1]; exact RightTx_k1 hr hx hn hg hl h1
      · rw [if_neg h1]
        by_cases h2 : t.kd = 2
        · rw [if_pos h2]; exact RightTx_k2 hr hx hn hg hl h2
        · rw [if_neg h2]
          by_cases h3 : t.kd = 3
          · rw [if_pos h3]; exact RightTx_k3 hr hx hn hg hl h3
          · rw [if_neg h3]
            exact RightTx_k0 hr hx hn hg hl (by simpa using fun e => h1 e.symm) (by simpa using fun e => h2 e.symm) (by simpa using fun e => h3 e.symm)
    · have e0 : okT t n = false := by unfold okT; rw [decide_eq_false hl]; simp
      rw [e0]; exact RightTx_l hg hl
  · have e0 : okT t n = false := by unfold okT; rw [decide_eq_false hg]; simp
    rw [e0]; exact RightTx_g hg
/-- May a batch be? -/
def okL (L : List Tg) : Bool := L.all fun t => okT t t.data.length
def okB (L : List Tg) : Bool := decide (L.length ≤ 8) && okL L
def TgsOk (L : List Tg) : Prop := ∀ t ∈ L, t.ok ∧ t.data.length ≤ 140737488355328
theorem TgsOk.get {L : List Tg} (h : TgsOk L) {i : Nat} (hi : i < L.length) : (L.getD i tg0).ok ∧ (L.getD i tg0).data.length ≤ 140737488355328 := by
  have e : L.getD i tg0 = L[i] := by simp [List.getD, hi]
  rw [e]
  exact h _ (List.getElem_mem hi)
set_option maxHeartbeats 8000000 in
theorem rightBatch_any {w : World} {ep : Int} {q : Option Addr} {c : Nat} {L : List Tg} (hr : RdTx w q L) (ok : TgsOk L) (hn : L.length ≤ 140737488355328) :
    Calls Try.prog 39 #[.agg #[.int .u64 ep, .slice q L.length c]] w fun e w' => e = .returned (.bool (okB L)) ∧ Below w.heap.size w w' := by
  have b0 : Below w.heap.size w (w.alloc (.cells #[.int .u64 ep, .slice q L.length c] 78)) := (Below.refl _ _).alloc (Nat.le_refl _) _
  have B0 := Lib.hid b0
  have K0 := heap_alloc_new w (.cells #[.int .u64 ep, .slice q L.length c] 78)
  have c1 : (w.alloc (.cells #[.int .u64 ep, .slice q L.length c] 78)).cell? ⟨w.heap.size, 1, none⟩ = some (.slice q L.length c) := (Joins.cell_of_block K0 1).trans rfl
  have R0 := Lib.hid (hr.on b0)
  have OK := Lib.hid ok
  have YES : Hid (L.length ≤ 8 → (∀ j, j < L.length → okT (L.getD j tg0) (L.getD j tg0).data.length = true) → okB L = true) := fun h1 h2 => by
    unfold okB okL
    rw [decide_eq_true h1, Bool.true_and, List.all_eq_true]
    intro t ht
    obtain ⟨i, hi, e⟩ := List.getElem_of_mem ht
    have := h2 i hi
    have e2 : L.getD i tg0 = t := by simp [List.getD, hi, e]
    rwa [e2] at this
  have NO : Hid (∀ j, j < L.length → okT (L.getD j tg0) (L.getD j tg0).data.length = false → okB L = false) := fun j hj h => by
    unfold okB okL
    rw [Bool.and_eq_false_iff]
    right
    rw [List.all_eq_false]
    exact ⟨L[j], List.getElem_mem hj, by have e2 : L.getD j tg0 = L[j] := by simp [List.getD, hj]
                                         rw [e2] at h; rw [h]; simp⟩
  have NO8 : Hid (¬ L.length ≤ 8 → okB L = false) := fun h => by unfold okB; rw [decide_eq_false h]; rfl
  obtain ⟨res, hres⟩ : ∃ res, okB L = res := ⟨_, rfl⟩
  rw [hres] at YES NO NO8 ⊢
  clear hr ok b0 K0 hres
  go_enter Try.func39, Try.ntmps39
  by_cases h8 : L.length ≤ 8
  rotate_left
  · have hI : (8 : Int) < (L.length : Int) := by omega
    have E := NO8.out h8
    go_wp2_with fail
    go_ret
    exact ⟨by rw [E]; rfl, B0.out⟩
  have hI : ¬ (8 : Int) < (L.length : Int) := by omega
  have dI : decide ((8 : Int) < (L.length : Int)) = false := by rw [decide_eq_false_iff_not]; exact hI
  go_wp2_with fail
  clear c1 hI dI
  generalize w.alloc (.cells #[.int .u64 ep, .slice q L.length c] 78) = w0 at *
  go_loopw [12] (fun iv wr => ∃ i : Nat, iv = .int .i64 (i : Int) ∧ i ≤ L.length ∧ Hid (∀ j, j < i → okT (L.getD j tg0) (L.getD j tg0).data.length = true) ∧ Hid (Below w.heap.size w wr) ∧ Hid (RdTx wr q L)) (fun iv _ => L.length - (intOf iv).toNat)
  case atStart => exact ⟨0, rfl, by omega, Lib.hid (fun j hj => by omega), B0, R0⟩
  case round =>
    clear B0 R0
    obtain ⟨i, rfl, hi', hS, hB, hQ⟩ := hrel
    by_cases hlt : i < L.length
    · have hne : L ≠ [] := fun e => by rw [e] at hlt; simp at hlt
      obtain ⟨b, off, rfl, hx2⟩ := hQ.out.resolve_left hne
      obtain ⟨qi, ki, r10, rh⟩ := hx2 i hlt
      have oks := OK.out.get hlt
      have FN : Hid (okT (L.getD i tg0) (L.getD i tg0).data.length = false → res = false) := NO.out i hlt
      have FS : Hid (okT (L.getD i tg0) (L.getD i tg0).data.length = true → ∀ j, j < i + 1 → okT (L.getD j tg0) (L.getD j tg0).data.length = true) := fun hk j hj => by
        by_cases e : j = i
        · subst e; exact hk
        · exact hS.out j (by omega)
      obtain ⟨t, htx⟩ : ∃ t, L.getD i tg0 = t := ⟨_, rfl⟩
      rw [htx] at r10 rh oks FN FS
      have hlen := txRow_len t qi t.data.length ki
      have bA : Below wr.heap.size wr (wr.alloc (.cells (txRow tg0 none 0 0).toArray 54)) := (Below.refl _ _).alloc (Nat.le_refl _) _
      have KA := TxAt.new wr 54 tg0 none 0 0
      have th := KA.there
      have cs : Below wr.heap.size wr ((wr.alloc (.cells (txRow tg0 none 0 0).toArray 54)).setCells wr.heap.size 0 (txRow t qi t.data.length ki)) := below_setCells' _ (Nat.le_refl _) _ _ bA
      have K1 := (KA.put t qi t.data.length ki)
      have hrow := K1.row
      have R1 := Lib.hid (rh.on cs)
      have Q1 := Lib.hid (hQ.out.on cs)
      have B1 := Lib.hid (hB.out.trans (cs.mono hB.out.size))
      have OT := Lib.hid oks
      have szz : ((wr.alloc (.cells (txRow tg0 none 0 0).toArray 54)).setCells wr.heap.size 0 (txRow t qi t.data.length ki)).heap.size = wr.heap.size + 1 := by rw [size_setCells]; simp
      clear hx2 hne rh oks htx hS hQ hB bA KA cs K1
      go_wp2_with fail
      clear r10 th szz hrow
      refine (RightTx_any R1.out OT.out.1.data OT.out.2).mono ?_
      rintro e w5 ⟨rfl, hb5⟩
      have B5 := Lib.hid (B1.out.trans (hb5.mono B1.out.size))
      have Q5 := Lib.hid (Q1.out.on hb5)
      clear hb5 B1 Q1 R1
      cases hk : okT t t.data.length with
      | false =>
        have E := FN.out hk
        clear FN FS hk
        go_wp2_with fail
        go_ret
        exact ⟨by rw [E]; rfl, B5.out⟩
      | true =>
        have S5 := Lib.hid (FS.out hk)
        clear FN FS hk
        go_wp2_with fail
        go_roundw
        case rel => exact ⟨i + 1, by go_num, by omega, S5, B5, Q5⟩
        case measure => simp [intOf]; omega
    · obtain rfl : i = L.length := by omega
      have E := YES.out h8 hS.out
      clear YES NO NO8 hS hQ
      go_wp2_with fail
      go_ret
      exact ⟨by rw [E]; rfl, hB.out⟩

/-! ### GetBatch -/
theorem bIt_ok {xs : List Int} (hx : Bytes xs) : ∀ i, TgsOk (bIt xs i).1
  | 0 => fun t ht => by cases ht
  | i + 1 => fun t ht => by
    rcases List.mem_append.1 ht with ht | ht
    · exact bIt_ok hx i t ht
    · obtain rfl : t = _ := by simpa using ht
      exact ⟨tM_ok hx _ _, by have := tM_len xs (bIt xs i).2.1 (bIt xs i).2.2; omega⟩
def brOk (xs : List Int) : Bool := !(bIt xs (bN xs)).2.2 && decide ((bIt xs (bN xs)).2.1 = xs.length)
def bOk (xs : List Int) : Bool := brOk xs && okB (bIt xs (bN xs)).1
def bE (xs : List Int) : Int := if bOk xs = true then 0 else 21
def bGe (xs : List Int) : Int := if bOk xs = true then bEp xs else 0
def bGl (xs : List Int) : List Tg := if bOk xs = true then (bIt xs (bN xs)).1 else []
set_option maxHeartbeats 4000000 in
theorem readB_any {w : World} {b : Nat} {vb : Value} {xs : List Int} (hr : Rd w vb xs) (hx : Bytes xs) (hl : xs.length ≤ 140737488355328) (hK : w.heap[b]? = some (.cells #[.int .u64 0, .slice none 0 0] 78 (0, 0))) :
    Calls Try.prog 58 #[vb, .iface 118 (.pointer (some ⟨b, 0, none⟩))] w fun e w' => ∃ g, e = .returned (.bool (brOk xs)) ∧ w'.heap[b]? = some (.cells #[.int .u64 (bEp xs), .slice (some ⟨g, 0, none⟩) (bN xs) (bN xs)] 78 (0, 0)) ∧ RdTx w' (some ⟨g, 0, none⟩) (bIt xs (bN xs)).1 ∧ Chg w w' [b] := by
  have BX := Lib.hid hx
  have KN := Lib.hid (NewReader_any hr hl)
  have K0 := Lib.hid hK
  have hbl : b < w.heap.size := (Array.getElem?_eq_some_iff.1 hK).1
  have RK : Hid (brOk xs = (!(bIt xs (bN xs)).2.2 && decide ((bIt xs (bN xs)).2.1 = xs.length))) := rfl
  obtain ⟨qv, cv, rfl⟩ := hr.len
  clear hr hx hK
  go_enter Try.func58, Try.ntmps58
  go_wp2_with fail
  refine KN.out.mono ?_
  rintro e w1 ⟨p, v1, rfl, hV, hp, hb1, -⟩
  have S1 := Lib.hid (RSt.mk0 hV)
  have K1 : Hid (w1.heap[b]? = some (.cells #[.int .u64 0, .slice none 0 0] 78 (0, 0))) := by show _ = _; rw [hb1.block b hbl]; exact K0.out
  have B1 := Lib.hid hb1
  clear hV hb1 KN K0
  go_wp2_with fail
  refine (Batchparse_any K1.out S1.out BX.out (by omega)).mono ?_
  rintro e w2 ⟨g, rfl, hK2, hR2, hS2, -, hC2⟩
  have K2 := Lib.hid hK2
  have R2 := Lib.hid hR2
  have C2 : Hid (Chg w w2 [b]) := (Chg.below B1.out (Nat.le_refl _) [b]).trans hC2 (fun x hx hl => by simp at hx ⊢; omega)
  clear hK2 hR2 hC2 K1 S1 B1
  go_wp2_with fail
  refine (Done_st hS2).mono ?_
  rintro e w3 ⟨z, m, rfl, rfl, hz⟩
  have K3 := Lib.hid (show (w2.drewN m).heap[b]? = some (.cells #[.int .u64 (bEp xs), .slice (some ⟨g, 0, none⟩) (bN xs) (bN xs)] 78 (0, 0)) from K2.out)
  have R3 := Lib.hid (R2.out.on (below_drewN (Below.refl _ _) m))
  have C3 : Hid (Chg w (w2.drewN m) [b]) := C2.out.trans (show Chg w2 (w2.drewN m) [] from ⟨rfl, rfl, rfl, Nat.le_refl _, fun _ _ _ => rfl⟩) (fun x hx _ => by cases hx)
  have HZ : Hid ((z == 0) = brOk xs) := by
    show _ = _
    rw [RK.out]
    by_cases h : z = 0
    · obtain ⟨h1, h2⟩ := hz.1 h
      rw [h1, h]; simp [h2]
    · have h0 : (z == 0) = false := by simpa using h
      rw [h0]
      cases hg : (bIt xs (bN xs)).2.2 with
      | true => rfl
      | false =>
        have : ¬ (bIt xs (bN xs)).2.1 = xs.length := fun e => h (hz.2 ⟨hg, e⟩)
        simp [this]
  clear hz hS2 K2 R2 C2
  go_wp2_with fail
  go_ret
  exact ⟨g, by first | rw [HZ.out]; rfl | rfl, K3.out, R3.out, C3.out⟩
theorem RdTx.two {w : World} {b n0 c0 : Nat} {x : Int} {q q0 : Option Addr} {L : List Tg} {u v : Value} (h : RdTx w q L) (hb : w.heap[b]? = some (.cells #[.int .u64 x, .slice q0 n0 c0] 78 (0, 0))) : RdTx ((w.setCell ⟨b, 0, none⟩ u).setCell ⟨b, 1, none⟩ v) q L := by
  have cs : Chg w ((w.setCell ⟨b, 0, none⟩ u).setCell ⟨b, 1, none⟩ v) [b] := ((Chg.refl w [b]).setCell (p := ⟨b, 0, none⟩) (.inl (by simp)) _).setCell (p := ⟨b, 1, none⟩) (.inl (by simp)) _
  have nb : ∀ {o : Nat} {z : Int}, ¬ w.cell? ⟨b, o, none⟩ = some (.int .u8 z) := fun {o z} e => by
    rw [Joins.cell_of_block hb] at e
    rcases o with _ | _ | o <;> simp at e
  rcases h with h | ⟨g, off, e, hx⟩
  · exact .inl h
  · refine .inr ⟨g, off, e, fun i hi => ?_⟩
    obtain ⟨qi, ki, h1, h2⟩ := hx i hi
    have hl : (rowOf w g (off + i * 10) 10).length = 10 := by rw [h1, txRow_len]
    have hg : g < w.heap.size := by
      unfold rowOf at hl
      cases e : w.heap[g]? with
      | none => rw [e] at hl; simp at hl
      | some y => exact (Array.getElem?_eq_some_iff.1 e).1
    have hgb : g ≠ b := fun e => by
      subst e
      rw [rowOf_block hb] at hl
      simp at hl
      omega
    refine ⟨qi, ki, ?_, h2.chg cs (fun hne k hk _ hm => ?_)⟩
    · rw [← h1]
      unfold rowOf
      rw [cs.block g hg (by simpa using hgb)]
    · obtain rfl : k = b := by simpa using hm
      obtain ⟨q', c', e', h'⟩ := h2
      obtain ⟨b', o', e2, hc⟩ := h'.resolve_left hne
      subst e2
      simp only [Value.slice.injEq] at e'
      obtain ⟨rfl, -, -⟩ := e'
      simp only [Value.ownBlock, Option.some.injEq] at hk
      have := hc 0 (List.length_pos_iff.2 hne)
      rw [hk] at this
      exact nb this
def GbP (xs : List Int) (w : World) (e : Ending) (w' : World) : Prop := ∃ q c, e = .returned (.tuple #[.agg #[.int .u64 (bGe xs), .slice q (bGl xs).length c], .int .i64 (bE xs)]) ∧ RdTx w' q (bGl xs) ∧ Below w.heap.size w w'
theorem GbP.no {xs : List Int} {w W : World} (h : bOk xs = false) (hb : Below w.heap.size w W) : GbP xs w (.returned (.tuple #[.agg #[.int .u64 0, .slice none 0 0], .int .i64 21])) W := by
  have e1 : bGe xs = 0 := by unfold bGe; rw [if_neg (by rw [h]; simp)]
  have e2 : bE xs = 21 := by unfold bE; rw [if_neg (by rw [h]; simp)]
  have e3 : bGl xs = [] := by unfold bGl; rw [if_neg (by rw [h]; simp)]
  exact ⟨none, 0, by rw [e1, e2, e3]; rfl, by rw [e3]; exact .inl rfl, hb⟩
theorem GbP.yes {xs : List Int} {w W : World} {q : Option Addr} {c : Nat} (h : bOk xs = true) (hr : RdTx W q (bIt xs (bN xs)).1) (hb : Below w.heap.size w W) : GbP xs w (.returned (.tuple #[.agg #[.int .u64 (bEp xs), .slice q (bN xs) c], .int .i64 0])) W := by
  have e1 : bGe xs = bEp xs := if_pos h
  have e2 : bE xs = 0 := if_pos h
  have e3 : bGl xs = (bIt xs (bN xs)).1 := if_pos h
  exact ⟨q, c, by rw [e1, e2, e3, bIt_len], by rw [e3]; exact hr, hb⟩
set_option maxHeartbeats 4000000 in
theorem GetBatch_any {w : World} {vb : Value} {xs : List Int} (hr : Rd w vb xs) (hx : Bytes xs) (hl : xs.length ≤ 140737488355328) :
    Calls Try.prog 44 #[vb] w (GbP xs w) := by
  have b1 : Below w.heap.size w (w.alloc (.cells #[.int .u64 0, .slice none 0 0] 78)) := (Below.refl _ _).alloc (Nat.le_refl _) _
  have b2 : Below (w.alloc (.cells #[.int .u64 0, .slice none 0 0] 78)).heap.size (w.alloc (.cells #[.int .u64 0, .slice none 0 0] 78)) ((w.alloc (.cells #[.int .u64 0, .slice none 0 0] 78)).alloc (.cells #[.int .u64 0, .slice none 0 0] 78)) := (Below.refl _ _).alloc (Nat.le_refl _) _
  have hz : (w.alloc (.cells #[.int .u64 0, .slice none 0 0] 78)).heap.size = w.heap.size + 1 := by simp
  have R00 := heap_alloc_new w (.cells #[.int .u64 0, .slice none 0 0] 78)
  have R0 : Hid (((w.alloc (.cells #[.int .u64 0, .slice none 0 0] 78)).alloc (.cells #[.int .u64 0, .slice none 0 0] 78)).heap[w.heap.size]? = some (.cells #[.int .u64 0, .slice none 0 0] 78 (0, 0))) := by
    show _ = _
    rw [b2.block _ (Array.getElem?_eq_some_iff.1 R00).1]; exact R00
  have K0 := heap_alloc_new (w.alloc (.cells #[.int .u64 0, .slice none 0 0] 78)) (.cells #[.int .u64 0, .slice none 0 0] 78)
  rw [hz] at K0
  have B0 := Lib.hid (b1.trans (b2.mono b1.size))
  have KR := Lib.hid (readB_any (hr.on B0.out) hx hl K0)
  have KRH := Lib.hid (fun (W : World) (q : Option Addr) (c : Nat) (h : RdTx W q (bIt xs (bN xs)).1) => rightBatch_any (ep := bEp xs) (c := c) h (bIt_ok hx _) (by rw [bIt_len]; have := (bN_le hx).1; omega))
  have ML : (bIt xs (bN xs)).1.length = bN xs := bIt_len xs _
  rw [ML] at KRH
  have MK : Hid (bOk xs = (brOk xs && okB (bIt xs (bN xs)).1)) := rfl
  have NO := Lib.hid (fun (h : bOk xs = false) (W : World) (hb : Below w.heap.size w W) => GbP.no h hb)
  have YES := Lib.hid (fun (h : bOk xs = true) (W : World) (q : Option Addr) (c : Nat) (hr : RdTx W q (bIt xs (bN xs)).1) (hb : Below w.heap.size w W) => GbP.yes (c := c) h hr hb)
  obtain ⟨QP, hQP⟩ : ∃ QP, GbP xs w = QP := ⟨_, rfl⟩
  rw [hQP] at NO YES ⊢
  obtain ⟨L, hL⟩ : ∃ L, (bIt xs (bN xs)).1 = L := ⟨_, rfl⟩
  rw [hL] at KR MK KRH YES
  obtain ⟨n, hn⟩ : ∃ n, bN xs = n := ⟨_, rfl⟩
  rw [hn] at KR KRH YES
  obtain ⟨ep, hep⟩ : ∃ ep, bEp xs = ep := ⟨_, rfl⟩
  rw [hep] at KR KRH YES
  obtain ⟨ok, hok⟩ : ∃ ok, okB L = ok := ⟨_, rfl⟩
  rw [hok] at KRH MK
  obtain ⟨r, hrr⟩ : ∃ r, brOk xs = r := ⟨_, rfl⟩
  rw [hrr] at KR MK
  obtain ⟨mo, hmo⟩ : ∃ mo, bOk xs = mo := ⟨_, rfl⟩
  rw [hmo] at MK NO YES
  obtain ⟨qv, cv, rfl⟩ := hr.len
  have SZ : Hid (((w.alloc (.cells #[.int .u64 0, .slice none 0 0] 78)).alloc (.cells #[.int .u64 0, .slice none 0 0] 78)).heap.size = w.heap.size + 2) := by show _ = _; simp
  clear hr hx b1 b2 hz K0 R00 ML hQP hL hn hep hok hrr hmo
  go_enter Try.func44, Try.ntmps44
  go_wp2_with fail
  generalize ((w.alloc (.cells #[.int .u64 0, .slice none 0 0] 78)).alloc (.cells #[.int .u64 0, .slice none 0 0] 78)) = w0 at *
  refine KR.out.mono ?_
  rintro e w1 ⟨g, rfl, hK1, hR1, hC1⟩
  have R1 : Hid (w1.heap[w.heap.size]? = some (.cells #[.int .u64 0, .slice none 0 0] 78 (0, 0))) := by
    show _ = _
    rw [hC1.block _ (Array.getElem?_eq_some_iff.1 R0.out).1 (by simp)]; exact R0.out
  have B1 : Hid (Below w.heap.size w w1) := Lib.hid (B0.out.trans (hC1.toBelow B0.out.size (fun g hg => by simp at hg; omega)))
  have K1 := Lib.hid hK1
  have D1 := Lib.hid hR1
  clear hK1 hR1 hC1 KR R0 B0
  have c0 : w1.cell? ⟨w.heap.size + 1, 0, none⟩ = some (.int .u64 ep) := (Joins.cell_of_block K1.out 0).trans rfl
  have c1 : w1.cell? ⟨w.heap.size + 1, 1, none⟩ = some (.slice (some ⟨g, 0, none⟩) n n) := (Joins.cell_of_block K1.out 1).trans rfl
  have r0 : w1.cell? ⟨w.heap.size, 0, none⟩ = some (.int .u64 0) := (Joins.cell_of_block R1.out 0).trans rfl
  have r1 : w1.cell? ⟨w.heap.size, 1, none⟩ = some (.slice none 0 0) := (Joins.cell_of_block R1.out 1).trans rfl
  have y0 := Joins.unfrozen_of_block R1.out 0
  have y1 := Joins.unfrozen_of_block R1.out 1
  cases r with
  | false =>
    have E := Lib.hid (NO.out (by rw [MK.out]; rfl))
    have BX : Hid (Below w.heap.size w ((w1.setCell ⟨w.heap.size, 0, none⟩ (.int .u64 0)).setCell ⟨w.heap.size, 1, none⟩ (.slice none 0 0))) := ((B1.out.setCell (p := ⟨_, 0, none⟩) (by simp) _).setCell (p := ⟨_, 1, none⟩) (by simp) _)
    have hb9 : ((w1.setCell ⟨w.heap.size, 0, none⟩ (.int .u64 0)).setCell ⟨w.heap.size, 1, none⟩ (.slice none 0 0)).heap[w.heap.size]? = some (.cells #[.int .u64 0, .slice none 0 0] 78 (0, 0)) := Joins.block_setCell (Joins.block_setCell R1.out _) _
    have x0 := (Joins.cell_of_block hb9 0).trans (rfl : _ = some _)
    have x1 := (Joins.cell_of_block hb9 1).trans (rfl : _ = some _)
    clear hb9
    go_wp2_with fail
    refine bodyPost_ret (v := .tuple #[.agg #[.int .u64 0, .slice none 0 0], .int .i64 21]) (by simp [results, Try.results44, go_sem, x0, x1]) rfl (E.out _ BX.out)
  | true =>
    go_wp2_with fail
    refine (KRH.out w1 (some ⟨g, 0, none⟩) n D1.out).mono ?_
    rintro e w2 ⟨rfl, hb2⟩
    have R2 : Hid (w2.heap[w.heap.size]? = some (.cells #[.int .u64 0, .slice none 0 0] 78 (0, 0))) := by show _ = _; rw [hb2.block _ (Array.getElem?_eq_some_iff.1 R1.out).1]; exact R1.out
    have K2 : Hid (w2.heap[w.heap.size + 1]? = some (.cells #[.int .u64 ep, .slice (some ⟨g, 0, none⟩) n n] 78 (0, 0))) := by show _ = _; rw [hb2.block _ (Array.getElem?_eq_some_iff.1 K1.out).1]; exact K1.out
    have B2 := Lib.hid (B1.out.trans (hb2.mono B1.out.size))
    have D2 := Lib.hid (D1.out.on hb2)
    clear hb2 K1 R1 B1 D1 KRH c0 c1 r0 r1 y0 y1
    have c0 : w2.cell? ⟨w.heap.size + 1, 0, none⟩ = some (.int .u64 ep) := (Joins.cell_of_block K2.out 0).trans rfl
    have c1 : w2.cell? ⟨w.heap.size + 1, 1, none⟩ = some (.slice (some ⟨g, 0, none⟩) n n) := (Joins.cell_of_block K2.out 1).trans rfl
    have r0 : w2.cell? ⟨w.heap.size, 0, none⟩ = some (.int .u64 0) := (Joins.cell_of_block R2.out 0).trans rfl
    have r1 : w2.cell? ⟨w.heap.size, 1, none⟩ = some (.slice none 0 0) := (Joins.cell_of_block R2.out 1).trans rfl
    have y0 := Joins.unfrozen_of_block R2.out 0
    have y1 := Joins.unfrozen_of_block R2.out 1
    cases ok with
    | false =>
      have E := Lib.hid (NO.out (by rw [MK.out]; rfl))
      have BX : Hid (Below w.heap.size w ((w2.setCell ⟨w.heap.size, 0, none⟩ (.int .u64 0)).setCell ⟨w.heap.size, 1, none⟩ (.slice none 0 0))) := ((B2.out.setCell (p := ⟨_, 0, none⟩) (by simp) _).setCell (p := ⟨_, 1, none⟩) (by simp) _)
      have hb9 : ((w2.setCell ⟨w.heap.size, 0, none⟩ (.int .u64 0)).setCell ⟨w.heap.size, 1, none⟩ (.slice none 0 0)).heap[w.heap.size]? = some (.cells #[.int .u64 0, .slice none 0 0] 78 (0, 0)) := Joins.block_setCell (Joins.block_setCell R2.out _) _
      have x0 := (Joins.cell_of_block hb9 0).trans (rfl : _ = some _)
      have x1 := (Joins.cell_of_block hb9 1).trans (rfl : _ = some _)
      clear hb9
      go_wp2_with fail
      refine bodyPost_ret (v := .tuple #[.agg #[.int .u64 0, .slice none 0 0], .int .i64 21]) (by simp [results, Try.results44, go_sem, x0, x1]) rfl (E.out _ BX.out)
    | true =>
      have BX : Hid (Below w.heap.size w ((w2.setCell ⟨w.heap.size, 0, none⟩ (.int .u64 ep)).setCell ⟨w.heap.size, 1, none⟩ (.slice (some ⟨g, 0, none⟩) n n))) := ((B2.out.setCell (p := ⟨_, 0, none⟩) (by simp) _).setCell (p := ⟨_, 1, none⟩) (by simp) _)
      have hb9 : ((w2.setCell ⟨w.heap.size, 0, none⟩ (.int .u64 ep)).setCell ⟨w.heap.size, 1, none⟩ (.slice (some ⟨g, 0, none⟩) n n)).heap[w.heap.size]? = some (.cells #[.int .u64 ep, .slice (some ⟨g, 0, none⟩) n n] 78 (0, 0)) := Joins.block_setCell (Joins.block_setCell R2.out _) _
      have x0 := (Joins.cell_of_block hb9 0).trans (rfl : _ = some _)
      have x1 := (Joins.cell_of_block hb9 1).trans (rfl : _ = some _)
      have DX : Hid (RdTx ((w2.setCell ⟨w.heap.size, 0, none⟩ (.int .u64 ep)).setCell ⟨w.heap.size, 1, none⟩ (.slice (some ⟨g, 0, none⟩) n n)) (some ⟨g, 0, none⟩) L) := D2.out.two R2.out
      have E := Lib.hid (YES.out (by rw [MK.out]; rfl) _ (some ⟨g, 0, none⟩) n DX.out BX.out)
      clear NO YES MK D2 DX BX
      clear hb9
      go_wp2_with fail
      refine bodyPost_ret (v := .tuple #[.agg #[.int .u64 ep, .slice (some ⟨g, 0, none⟩) n n], .int .i64 0]) (by simp [results, Try.results44, go_sem, x0, x1]) rfl (E.out)
end Go.Proofs.Ytonjkhhihiigfaa
namespace Go.Proofs.Ytonjkhhihiigfaa
set_option maxRecDepth 100000
open Go.RowKit

/-- A Tx's ten cells. -/
def PTx (w : World) (F : Fp) (t : Tg) (r : List Value) : Prop := ∃ q k, r = txRow t q t.data.length k ∧ RdF w F (.slice q t.data.length k) t.data
theorem PTx_ok : FpOk PTx where
  mono := fun ⟨q, c, e, h⟩ hG => ⟨q, c, e, h.mono hG⟩
  agr := fun ⟨q, c, e, h⟩ ha => ⟨q, c, e, h.agr ha⟩
  lt := fun ⟨q, c, e, h⟩ => ⟨q, c, e, h.lt⟩
theorem RwF.rdTx {w : World} {F : Fp} {q : Option Addr} {L : List Tg} (h : RwF 10 tg0 PTx w F q L) : RdTx w q L := by
  rcases h with h | ⟨b, off, e, _, hx⟩
  · exact .inl h
  · refine .inr ⟨b, off, e, fun i hi => ?_⟩
    obtain ⟨r, _, h2, qi, ki, h3, h4⟩ := hx i hi
    exact ⟨qi, ki, h2.trans h3, h4.rd⟩
theorem DoneTx.rdF {W : World} {mx g B : Nat} {done post : List Value} {L : List Tg} (h : DoneTx W mx done L) (hb : W.heap[g]? = some (.cells (done ++ post).toArray 54 (0, 0))) (hg : B ≤ g) (hm : B ≤ mx) : RwF 10 tg0 PTx W (fun x => B ≤ x) (some ⟨g, 0, none⟩) L := by
  refine .inr ⟨g, 0, rfl, hg, fun j hj => ?_⟩
  obtain ⟨q, k, h1, h2, h3⟩ := h.2 j hj
  refine ⟨_, ?_, rfl, q, k, ?_, h2, fun _ x hx => Nat.le_trans hm (h3 x hx)⟩
  all_goals
    have hl := h.1
    have e : ((done ++ post).drop (j * 10)).take 10 = (done.drop (j * 10)).take 10 := by
      rw [List.drop_append_of_le_length (by omega), List.take_append_of_le_length (by rw [List.length_drop]; omega)]
    have e2 : rowOf W g (0 + j * 10) 10 = txRow (L.getD j tg0) q (L.getD j tg0).data.length k := by
      rw [rowOf_block hb, Nat.zero_add, ← h1, ← e]
      simp [List.take_drop]
  · rw [e2, txRow_len]
  · exact e2
set_option maxHeartbeats 16000000 in
theorem Batchparse_f {w : World} {bb p : Nat} {v : Value} {xs : List Int} (hK : w.heap[bb]? = some (.cells #[.int .u64 0, .slice none 0 0] 78 (0, 0))) (hS : RSt w p v xs 0 false) (hx : Bytes xs) (hbp : bb ≠ p) :
    Calls Try.prog 90 #[.pointer (some ⟨bb, 0, none⟩), .pointer (some ⟨p, 0, none⟩)] w fun e w' => ∃ g, e = .returned (.tuple #[]) ∧ w'.heap[bb]? = some (.cells #[.int .u64 (bEp xs), .slice (some ⟨g, 0, none⟩) (bN xs) (bN xs)] 78 (0, 0)) ∧ RwF 10 tg0 PTx w' (fun x => w.heap.size ≤ x) (some ⟨g, 0, none⟩) (bIt xs (bN xs)).1 ∧ RSt w' p v xs (bIt xs (bN xs)).2.1 (bIt xs (bN xs)).2.2 ∧ w.heap.size ≤ g ∧ Chg w w' [bb, p] := by
  obtain ⟨i0, hi, hz0, hz1, hz2⟩ := info_parts Try.infoTx
  replace hi := Lib.hid hi
  replace hz0 := Lib.hid hz0
  replace hz1 := Lib.hid hz1
  replace hz2 := Lib.hid hz2
  have BX := Lib.hid hx
  have hbl : bb < w.heap.size := (Array.getElem?_eq_some_iff.1 hK).1
  have K0 := Lib.hid hK
  have S0 := Lib.hid hS
  have EP : Hid (bEp xs = uV (fU false xs 0 8) xs 0) := rfl
  obtain ⟨hn8, hnz⟩ := bN_le hx
  have NZ := Lib.hid hnz
  have HF0 : Hid (fC (fU false xs 0 8) xs (0 + 8) 8 = (bIt xs 0).2.2) := rfl
  have HP0 : Hid ((bIt xs 0).2.1 = 16) := rfl
  have HL0 : Hid ((bIt xs 0).1 = []) := rfl
  have IT : Hid (∀ i, bIt xs (i + 1) = ((bIt xs i).1 ++ [tM xs (bIt xs i).2.1 (bIt xs i).2.2], tE xs (bIt xs i).2.1 (bIt xs i).2.2, t7 xs (bIt xs i).2.1 (bIt xs i).2.2)) := fun i => rfl
  have IL : Hid (∀ i, (bIt xs i).1.length = i) := bIt_len xs
  obtain ⟨BI, hBI⟩ : ∃ BI, bIt xs = BI := ⟨_, rfl⟩
  rw [hBI] at NZ HF0 HP0 HL0 IT IL ⊢
  obtain ⟨n, hn⟩ : ∃ n, bN xs = n := ⟨_, rfl⟩
  rw [hn] at hn8 NZ ⊢
  obtain ⟨ep, hep⟩ : ∃ ep, bEp xs = ep := ⟨_, rfl⟩
  rw [hep] at EP ⊢
  clear hK hS hx hnz hBI hn hep
  have c0 : w.cell? ⟨bb, 0, none⟩ = some (.int .u64 0) := (Joins.cell_of_block K0.out 0).trans rfl
  go_enter Try.func90, Try.ntmps90
  go_wp2_with fail
  clear c0
  refine (Uint_st S0.out BX.out).mono ?_
  rintro e w1 ⟨rfl, hs, hc⟩
  rw [← EP.out]
  have K1 : w1.heap[bb]? = some (.cells #[.int .u64 0, .slice none 0 0] 78 (0, 0)) := by rw [hc.block bb hbl (by simpa using hbp)]; exact K0.out
  have c0 : w1.cell? ⟨bb, 0, none⟩ = some (.int .u64 0) := (Joins.cell_of_block K1 0).trans rfl
  have y0 := Joins.unfrozen_of_block K1 0
  have cs : Chg w1 (w1.setCell ⟨bb, 0, none⟩ (.int .u64 ep)) [bb] := (Chg.refl _ [bb]).setCell (p := ⟨bb, 0, none⟩) (.inl (by simp)) _
  have K2 : Hid ((w1.setCell ⟨bb, 0, none⟩ (.int .u64 ep)).heap[bb]? = some (.cells #[.int .u64 ep, .slice none 0 0] 78 (0, 0))) := Joins.block_setCell (i := 0) K1 _
  have S2 := Lib.hid (hs.chg2 cs (by simpa using Ne.symm hbp) (fun ho g hg hm => by
    obtain rfl : g = bb := by simpa using hm
    exact own_ne ho K1 (by decide) hg))
  have C2 : Hid (Chg w (w1.setCell ⟨bb, 0, none⟩ (.int .u64 ep)) [bb, p]) := (hc.more (by simp)).trans (cs.more (by simp)) (fun x hx _ => hx)
  clear hs hc K1 cs K0 S0
  go_wp2_with fail
  clear c0 y0
  generalize w1.setCell ⟨bb, 0, none⟩ (.int .u64 ep) = w2 at *
  refine (Count_det (most := 8) S2.out BX.out (by omega)).mono ?_
  rintro e w3 ⟨rfl, hs, hc⟩
  rw [HF0.out] at hs ⊢
  rw [show 0 + 8 = 8 from rfl, NZ.out]
  have hb2 : bb < w2.heap.size := (Array.getElem?_eq_some_iff.1 K2.out).1
  have K3 : Hid (w3.heap[bb]? = some (.cells #[.int .u64 ep, .slice none 0 0] 78 (0, 0))) := by
    show _ = _
    rw [hc.block bb hb2 (by simpa using hbp)]; exact K2.out
  have S3 : Hid (RSt w3 p v xs 16 (BI 0).2.2) := hs
  have C3 : Hid (Chg w w3 [bb, p]) := C2.out.trans (hc.more (by simp)) (fun x hx _ => hx)
  clear hs hc K2 S2 C2 hb2
  go_wp2_with (refine wpList_make_full _ rfl _ _ _ rfl 0 _ _ _ _ Try.underlying76 hi.out hz0.out hz1.out _ _ _ _ n rfl rfl rfl rfl ?b1 ?b2 ?b3 ?_)
  case b1 => rw [hz2.out]; omega
  case b2 => unfold maxLen; omega
  case b3 => omega
  intro w4 own4 grow4
  have b4 : Below w3.heap.size w3 w4 := (Below.refl _ _).grown grow4 (Nat.le_refl _) (by intro k hk; simp at hk)
  have hbs : bb < w3.heap.size := (Array.getElem?_eq_some_iff.1 K3.out).1
  have hps : p < w3.heap.size := S3.out.lt
  have K4 : w4.heap[bb]? = some (.cells #[.int .u64 ep, .slice none 0 0] 78 (0, 0)) := by rw [b4.block bb hbs]; exact K3.out
  have G4 : w4.heap[w3.heap.size]? = some (.cells ([] ++ ztx n).toArray 54 (0, 0)) := by
    rcases own4.2 with ⟨e, _⟩ | ⟨g', cap, cur, e, _, h1, h2, h3, h4, h5⟩
    · simp at e
    · simp only [Value.slice.injEq, Option.some.injEq, Addr.mk.injEq] at e
      obtain ⟨⟨e1, -, -⟩, -, e2⟩ := e
      subst e1 e2
      rw [h1]
      have e1 : (madeCells (txRow tg0 none 0 0).toArray (n * 10)).toList = ztx n := made_tx n
      rw [e1] at h5
      have hl : cur.toList.length = n * 10 := by rw [Array.length_toList, h4]
      rw [List.take_of_length_le (by omega)] at h5
      rw [List.nil_append, ← h5]
  have hg4 : w3.heap.size < w4.heap.size := (Array.getElem?_eq_some_iff.1 G4).1
  have c1 : w4.cell? ⟨bb, 1, none⟩ = some (.slice none 0 0) := (Joins.cell_of_block K4 1).trans rfl
  have y1 := Joins.unfrozen_of_block K4 1
  have cs : Chg w4 (w4.setCell ⟨bb, 1, none⟩ (.slice (some ⟨w3.heap.size, 0, none⟩) n n)) [bb] := (Chg.refl _ [bb]).setCell (p := ⟨bb, 1, none⟩) (.inl (by simp)) _
  have K5 : Hid ((w4.setCell ⟨bb, 1, none⟩ (.slice (some ⟨w3.heap.size, 0, none⟩) n n)).heap[bb]? = some (.cells #[.int .u64 ep, .slice (some ⟨w3.heap.size, 0, none⟩) n n] 78 (0, 0))) := Joins.block_setCell (i := 1) K4 _
  have G5 : Hid ((w4.setCell ⟨bb, 1, none⟩ (.slice (some ⟨w3.heap.size, 0, none⟩) n n)).heap[w3.heap.size]? = some (.cells ([] ++ ztx n).toArray 54 (0, 0))) := by
    show _ = _
    rw [cs.block _ hg4 (by simp; omega)]; exact G4
  have S5 := Lib.hid ((S3.out.on b4).chg2 cs (by simpa using Ne.symm hbp) (fun ho g hg hm => by
    obtain rfl : g = bb := by simpa using hm
    exact own_ne ho K4 (by decide) hg))
  have C5 : Hid (Chg w (w4.setCell ⟨bb, 1, none⟩ (.slice (some ⟨w3.heap.size, 0, none⟩) n n)) [bb, p]) := (C3.out.trans (Chg.below b4 (Nat.le_refl _) [bb, p]) (fun x hx _ => hx)).trans (cs.more (by simp)) (fun x hx _ => hx)
  have hwg : Hid (w.heap.size ≤ w3.heap.size) := C3.out.size
  have hMX : Hid (w3.heap.size < (w4.setCell ⟨bb, 1, none⟩ (.slice (some ⟨w3.heap.size, 0, none⟩) n n)).heap.size) := Nat.lt_of_lt_of_le hg4 cs.size
  have d1 : (w4.setCell ⟨bb, 1, none⟩ (.slice (some ⟨w3.heap.size, 0, none⟩) n n)).cell? ⟨bb, 1, none⟩ = some (.slice (some ⟨w3.heap.size, 0, none⟩) n n) := (Joins.cell_of_block K5.out 1).trans rfl
  clear own4 grow4 b4 K4 G4 cs K3 S3 C3
  go_wp2_with fail
  clear c1 y1 d1
  obtain ⟨g, hg⟩ : ∃ g, w3.heap.size = g := ⟨_, rfl⟩
  rw [hg] at K5 G5 S5 C5 hwg hMX hbs hps ⊢
  generalize w4.setCell ⟨bb, 1, none⟩ (.slice (some ⟨g, 0, none⟩) n n) = w5 at *
  clear hg hg4
  obtain ⟨mx, hmx⟩ : ∃ mx, w5.heap.size = mx := ⟨_, rfl⟩
  have D5 : Hid (DoneTx w5 mx [] (BI 0).1) := by
    rw [HL0.out]
    exact ⟨rfl, fun j hj => by simp at hj⟩
  have P5 : Hid (RSt w5 p v xs (BI 0).2.1 (BI 0).2.2) := by rw [HP0.out]; exact S5.out
  have M5 : Hid (mx ≤ w5.heap.size) := Nat.le_of_eq hmx.symm
  have hgm : Hid (g < mx) := by rw [← hmx]; exact hMX.out
  clear hmx hMX S5
  go_loopw [21] (fun iv wr => ∃ (i : Nat) (done : List Value), iv = .int .i64 (i : Int) ∧ i ≤ n ∧ Hid (wr.heap[bb]? = some (.cells #[.int .u64 ep, .slice (some ⟨g, 0, none⟩) n n] 78 (0, 0))) ∧ Hid (wr.heap[g]? = some (.cells (done ++ ztx (n - i)).toArray 54 (0, 0))) ∧ Hid (DoneTx wr mx done (BI i).1) ∧ Hid (RSt wr p v xs (BI i).2.1 (BI i).2.2) ∧ Hid (mx ≤ wr.heap.size) ∧ Hid (Chg w wr [bb, p])) (fun iv _ => n - (intOf iv).toNat)
  case atStart => exact ⟨0, [], rfl, by omega, K5, G5, D5, P5, M5, C5⟩
  case round =>
    clear K5 G5 D5 P5 M5 C5
    obtain ⟨i, done, rfl, hil, hK, hG, hD, hS, hM, hC⟩ := hrel
    by_cases hlt : i < n
    · have d1 : wr.cell? ⟨bb, 1, none⟩ = some (.slice (some ⟨g, 0, none⟩) n n) := (Joins.cell_of_block hK.out 1).trans rfl
      have hdl : done.length = i * 10 := by have := hD.out.1; rw [IL.out i] at this; exact this
      have T0 : Hid (TxIn wr g done (txRow tg0 none 0 0) (ztx (n - (i + 1)))) := by
        have := hG.out
        rw [show n - i = (n - (i + 1)) + 1 by omega] at this
        exact this
      have HDL := Lib.hid hdl
      clear hdl hG
      go_wp2_with fail
      clear d1
      refine (Txparse_any T0.out HDL.out.symm hS.out BX.out (by have := hgm.out; omega)).mono ?_
      rintro e w6 ⟨q, k, rfl, hT, hS6, hR, hF, hC6⟩
      have hgb : bb ≠ g := by omega
      have K6 : Hid (w6.heap[bb]? = some (.cells #[.int .u64 ep, .slice (some ⟨g, 0, none⟩) n n] 78 (0, 0))) := by
        show _ = _
        rw [hC6.block bb (Array.getElem?_eq_some_iff.1 hK.out).1 (by simp; omega)]; exact hK.out
      have D6 : Hid (DoneTx w6 mx (done ++ txRow (tM xs (BI i).2.1 (BI i).2.2) q (tM xs (BI i).2.1 (BI i).2.2).data.length k) (BI (i + 1)).1) := by
        rw [IT.out i]
        exact (hD.out.chg hC6 (fun x hx => by have := hgm.out; simp at hx; omega)).add hR (fun g' hg' => Nat.le_trans hM.out (hF g' hg'))
      have G6 : Hid (w6.heap[g]? = some (.cells ((done ++ txRow (tM xs (BI i).2.1 (BI i).2.2) q (tM xs (BI i).2.1 (BI i).2.2).data.length k) ++ ztx (n - (i + 1))).toArray 54 (0, 0))) := by
        have := hT
        unfold TxIn at this
        rw [← List.append_assoc] at this
        exact this
      have S6 : Hid (RSt w6 p v xs (BI (i + 1)).2.1 (BI (i + 1)).2.2) := by rw [IT.out i]; exact hS6
      have M6 : Hid (mx ≤ w6.heap.size) := Nat.le_trans hM.out hC6.size
      have C6 : Hid (Chg w w6 [bb, p]) := hC.out.trans hC6 (fun x hx hl => by have := hwg.out; simp at hx ⊢; omega)
      clear hT hS6 hR hF hC6 T0 hK hD hS hM hC HDL hgb
      go_wp2_with fail
      go_roundw
      case rel => exact ⟨i + 1, _, by go_num, by omega, K6, G6, D6, S6, M6, C6⟩
      case measure => simp [intOf]; omega
    · obtain rfl : i = n := by omega
      have RD : Hid (RwF 10 tg0 PTx wr (fun x => w.heap.size ≤ x) (some ⟨g, 0, none⟩) (BI i).1) := hD.out.rdF hG.out hwg.out (Nat.le_trans hwg.out (Nat.le_of_lt hgm.out))
      clear hD hG
      go_wp2_with fail
      go_end0
      exact ⟨g, rfl, hK.out, RD.out, hS.out, hwg.out, hC.out⟩
set_option maxHeartbeats 4000000 in
theorem readB_f {w : World} {b : Nat} {vb : Value} {xs : List Int} (hr : Rd w vb xs) (hx : Bytes xs) (hl : xs.length ≤ 140737488355328) (hK : w.heap[b]? = some (.cells #[.int .u64 0, .slice none 0 0] 78 (0, 0))) :
    Calls Try.prog 58 #[vb, .iface 118 (.pointer (some ⟨b, 0, none⟩))] w fun e w' => ∃ g, e = .returned (.bool (brOk xs)) ∧ w'.heap[b]? = some (.cells #[.int .u64 (bEp xs), .slice (some ⟨g, 0, none⟩) (bN xs) (bN xs)] 78 (0, 0)) ∧ RwF 10 tg0 PTx w' (fun x => w.heap.size ≤ x) (some ⟨g, 0, none⟩) (bIt xs (bN xs)).1 ∧ Chg w w' [b] := by
  have BX := Lib.hid hx
  have KN := Lib.hid (NewReader_any hr hl)
  have K0 := Lib.hid hK
  have hbl : b < w.heap.size := (Array.getElem?_eq_some_iff.1 hK).1
  have RK : Hid (brOk xs = (!(bIt xs (bN xs)).2.2 && decide ((bIt xs (bN xs)).2.1 = xs.length))) := rfl
  obtain ⟨qv, cv, rfl⟩ := hr.len
  clear hr hx hK
  go_enter Try.func58, Try.ntmps58
  go_wp2_with fail
  refine KN.out.mono ?_
  rintro e w1 ⟨p, v1, rfl, hV, hp, hb1, -⟩
  have S1 := Lib.hid (RSt.mk0 hV)
  have K1 : Hid (w1.heap[b]? = some (.cells #[.int .u64 0, .slice none 0 0] 78 (0, 0))) := by show _ = _; rw [hb1.block b hbl]; exact K0.out
  have B1 := Lib.hid hb1
  clear hV hb1 KN K0
  go_wp2_with fail
  refine (Batchparse_f K1.out S1.out BX.out (by omega)).mono ?_
  rintro e w2 ⟨g, rfl, hK2, hR2, hS2, -, hC2⟩
  have K2 := Lib.hid hK2
  have R2 : Hid (RwF 10 tg0 PTx w2 (fun x => w.heap.size ≤ x) (some ⟨g, 0, none⟩) (bIt xs (bN xs)).1) := hR2.mono PTx_ok (fun x hx => Nat.le_trans B1.out.size hx)
  have C2 : Hid (Chg w w2 [b]) := (Chg.below B1.out (Nat.le_refl _) [b]).trans hC2 (fun x hx hl => by simp at hx ⊢; omega)
  clear hK2 hR2 hC2 K1 S1 B1
  go_wp2_with fail
  refine (Done_st hS2).mono ?_
  rintro e w3 ⟨z, m, rfl, rfl, hz⟩
  have K3 := Lib.hid (show (w2.drewN m).heap[b]? = some (.cells #[.int .u64 (bEp xs), .slice (some ⟨g, 0, none⟩) (bN xs) (bN xs)] 78 (0, 0)) from K2.out)
  have R3 := Lib.hid (R2.out.on PTx_ok (by decide) (below_drewN (Below.refl _ _) m))
  have C3 : Hid (Chg w (w2.drewN m) [b]) := C2.out.trans (show Chg w2 (w2.drewN m) [] from ⟨rfl, rfl, rfl, Nat.le_refl _, fun _ _ _ => rfl⟩) (fun x hx _ => by cases hx)
  have HZ : Hid ((z == 0) = brOk xs) := by
    show _ = _
    rw [RK.out]
    by_cases h : z = 0
    · obtain ⟨h1, h2⟩ := hz.1 h
      rw [h1, h]; simp [h2]
    · have h0 : (z == 0) = false := by simpa using h
      rw [h0]
      cases hg : (bIt xs (bN xs)).2.2 with
      | true => rfl
      | false =>
        have : ¬ (bIt xs (bN xs)).2.1 = xs.length := fun e => h (hz.2 ⟨hg, e⟩)
        simp [this]
  clear hz hS2 K2 R2 C2
  go_wp2_with fail
  go_ret
  exact ⟨g, by first | rw [HZ.out]; rfl | rfl, K3.out, R3.out, C3.out⟩
/-- What GetBatch answers. -/
def GbF (xs : List Int) (w : World) (e : Ending) (w' : World) : Prop := ∃ q c, e = .returned (.tuple #[.agg #[.int .u64 (bGe xs), .slice q (bGl xs).length c], .int .i64 (bE xs)]) ∧ RwF 10 tg0 PTx w' (fun x => w.heap.size ≤ x) q (bGl xs) ∧ Below w.heap.size w w'
theorem GbF.no {xs : List Int} {w W : World} (h : bOk xs = false) (hb : Below w.heap.size w W) : GbF xs w (.returned (.tuple #[.agg #[.int .u64 0, .slice none 0 0], .int .i64 21])) W := by
  have hn : ¬ bOk xs = true := by rw [h]; simp
  have e1 : bGe xs = 0 := if_neg hn
  have e2 : bGl xs = [] := if_neg hn
  have e3 : bE xs = 21 := if_neg hn
  exact ⟨none, 0, by rw [e1, e2, e3]; rfl, by rw [e2]; exact .inl rfl, hb⟩
theorem GbF.yes {xs : List Int} {w W : World} {q : Option Addr} {c : Nat} (h : bOk xs = true) (hr : RwF 10 tg0 PTx W (fun x => w.heap.size ≤ x) q (bIt xs (bN xs)).1) (hb : Below w.heap.size w W) : GbF xs w (.returned (.tuple #[.agg #[.int .u64 (bEp xs), .slice q (bN xs) c], .int .i64 0])) W := by
  have e1 : bGe xs = bEp xs := if_pos h
  have e2 : bGl xs = (bIt xs (bN xs)).1 := if_pos h
  have e3 : bE xs = 0 := if_pos h
  have e4 : (bIt xs (bN xs)).1.length = bN xs := bIt_len xs _
  exact ⟨q, c, by rw [e1, e2, e3, e4], by rw [e2]; exact hr, hb⟩
set_option maxHeartbeats 4000000 in
theorem GetBatch_f {w : World} {vb : Value} {xs : List Int} (hr : Rd w vb xs) (hx : Bytes xs) (hl : xs.length ≤ 140737488355328) :
    Calls Try.prog 44 #[vb] w (GbF xs w) := by
  have b1 : Below w.heap.size w (w.alloc (.cells #[.int .u64 0, .slice none 0 0] 78)) := (Below.refl _ _).alloc (Nat.le_refl _) _
  have b2 : Below (w.alloc (.cells #[.int .u64 0, .slice none 0 0] 78)).heap.size (w.alloc (.cells #[.int .u64 0, .slice none 0 0] 78)) ((w.alloc (.cells #[.int .u64 0, .slice none 0 0] 78)).alloc (.cells #[.int .u64 0, .slice none 0 0] 78)) := (Below.refl _ _).alloc (Nat.le_refl _) _
  have hz : (w.alloc (.cells #[.int .u64 0, .slice none 0 0] 78)).heap.size = w.heap.size + 1 := by simp
  have R00 := heap_alloc_new w (.cells #[.int .u64 0, .slice none 0 0] 78)
  have R0 : Hid (((w.alloc (.cells #[.int .u64 0, .slice none 0 0] 78)).alloc (.cells #[.int .u64 0, .slice none 0 0] 78)).heap[w.heap.size]? = some (.cells #[.int .u64 0, .slice none 0 0] 78 (0, 0))) := by
    show _ = _
    rw [b2.block _ (Array.getElem?_eq_some_iff.1 R00).1]; exact R00
  have K0 := heap_alloc_new (w.alloc (.cells #[.int .u64 0, .slice none 0 0] 78)) (.cells #[.int .u64 0, .slice none 0 0] 78)
  rw [hz] at K0
  have B0 := Lib.hid (b1.trans (b2.mono b1.size))
  have KR := Lib.hid (readB_f (hr.on B0.out) hx hl K0)
  have KRH := Lib.hid (fun (W : World) (q : Option Addr) (c : Nat) (h : RdTx W q (bIt xs (bN xs)).1) => rightBatch_any (ep := bEp xs) (c := c) h (bIt_ok hx _) (by rw [bIt_len]; have := (bN_le hx).1; omega))
  have ML : (bIt xs (bN xs)).1.length = bN xs := bIt_len xs _
  rw [ML] at KRH
  have MK : Hid (bOk xs = (brOk xs && okB (bIt xs (bN xs)).1)) := rfl
  have NO := Lib.hid (fun (h : bOk xs = false) (W : World) (hb : Below w.heap.size w W) => GbF.no h hb)
  have YES := Lib.hid (fun (h : bOk xs = true) (W : World) (q : Option Addr) (c : Nat) (hr : RwF 10 tg0 PTx W (fun x => w.heap.size ≤ x) q (bIt xs (bN xs)).1) (hb : Below w.heap.size w W) => GbF.yes (c := c) h hr hb)
  obtain ⟨QP, hQP⟩ : ∃ QP, GbF xs w = QP := ⟨_, rfl⟩
  rw [hQP] at NO YES ⊢
  obtain ⟨L, hL⟩ : ∃ L, (bIt xs (bN xs)).1 = L := ⟨_, rfl⟩
  rw [hL] at KR MK KRH YES
  obtain ⟨n, hn⟩ : ∃ n, bN xs = n := ⟨_, rfl⟩
  rw [hn] at KR KRH YES
  obtain ⟨ep, hep⟩ : ∃ ep, bEp xs = ep := ⟨_, rfl⟩
  rw [hep] at KR KRH YES
  obtain ⟨ok, hok⟩ : ∃ ok, okB L = ok := ⟨_, rfl⟩
  rw [hok] at KRH MK
  obtain ⟨r, hrr⟩ : ∃ r, brOk xs = r := ⟨_, rfl⟩
  rw [hrr] at KR MK
  obtain ⟨mo, hmo⟩ : ∃ mo, bOk xs = mo := ⟨_, rfl⟩
  rw [hmo] at MK NO YES
  obtain ⟨qv, cv, rfl⟩ := hr.len
  have SZ : Hid (((w.alloc (.cells #[.int .u64 0, .slice none 0 0] 78)).alloc (.cells #[.int .u64 0, .slice none 0 0] 78)).heap.size = w.heap.size + 2) := by show _ = _; simp
  clear hr hx b1 b2 hz K0 R00 ML hQP hL hn hep hok hrr hmo
  go_enter Try.func44, Try.ntmps44
  go_wp2_with fail
  generalize ((w.alloc (.cells #[.int .u64 0, .slice none 0 0] 78)).alloc (.cells #[.int .u64 0, .slice none 0 0] 78)) = w0 at *
  refine KR.out.mono ?_
  rintro e w1 ⟨g, rfl, hK1, hR1, hC1⟩
  have R1 : Hid (w1.heap[w.heap.size]? = some (.cells #[.int .u64 0, .slice none 0 0] 78 (0, 0))) := by
    show _ = _
    rw [hC1.block _ (Array.getElem?_eq_some_iff.1 R0.out).1 (by simp)]; exact R0.out
  have B1 : Hid (Below w.heap.size w w1) := Lib.hid (B0.out.trans (hC1.toBelow B0.out.size (fun g hg => by simp at hg; omega)))
  have K1 := Lib.hid hK1
  have D1 : Hid (RwF 10 tg0 PTx w1 (fun x => w0.heap.size ≤ x) (some ⟨g, 0, none⟩) L) := hR1
  clear hK1 hR1 hC1 KR R0 B0
  have c0 : w1.cell? ⟨w.heap.size + 1, 0, none⟩ = some (.int .u64 ep) := (Joins.cell_of_block K1.out 0).trans rfl
  have c1 : w1.cell? ⟨w.heap.size + 1, 1, none⟩ = some (.slice (some ⟨g, 0, none⟩) n n) := (Joins.cell_of_block K1.out 1).trans rfl
  have r0 : w1.cell? ⟨w.heap.size, 0, none⟩ = some (.int .u64 0) := (Joins.cell_of_block R1.out 0).trans rfl
  have r1 : w1.cell? ⟨w.heap.size, 1, none⟩ = some (.slice none 0 0) := (Joins.cell_of_block R1.out 1).trans rfl
  have y0 := Joins.unfrozen_of_block R1.out 0
  have y1 := Joins.unfrozen_of_block R1.out 1
  cases r with
  | false =>
    have E := Lib.hid (NO.out (by rw [MK.out]; rfl))
    have BX : Hid (Below w.heap.size w ((w1.setCell ⟨w.heap.size, 0, none⟩ (.int .u64 0)).setCell ⟨w.heap.size, 1, none⟩ (.slice none 0 0))) := ((B1.out.setCell (p := ⟨_, 0, none⟩) (by simp) _).setCell (p := ⟨_, 1, none⟩) (by simp) _)
    have hb9 : ((w1.setCell ⟨w.heap.size, 0, none⟩ (.int .u64 0)).setCell ⟨w.heap.size, 1, none⟩ (.slice none 0 0)).heap[w.heap.size]? = some (.cells #[.int .u64 0, .slice none 0 0] 78 (0, 0)) := Joins.block_setCell (Joins.block_setCell R1.out _) _
    have x0 := (Joins.cell_of_block hb9 0).trans (rfl : _ = some _)
    have x1 := (Joins.cell_of_block hb9 1).trans (rfl : _ = some _)
    clear hb9
    go_wp2_with fail
    refine bodyPost_ret (v := .tuple #[.agg #[.int .u64 0, .slice none 0 0], .int .i64 21]) (by simp [results, Try.results44, go_sem, x0, x1]) rfl (E.out _ BX.out)
  | true =>
    go_wp2_with fail
    refine (KRH.out w1 (some ⟨g, 0, none⟩) n D1.out.rdTx).mono ?_
    rintro e w2 ⟨rfl, hb2⟩
    have R2 : Hid (w2.heap[w.heap.size]? = some (.cells #[.int .u64 0, .slice none 0 0] 78 (0, 0))) := by show _ = _; rw [hb2.block _ (Array.getElem?_eq_some_iff.1 R1.out).1]; exact R1.out
    have K2 : Hid (w2.heap[w.heap.size + 1]? = some (.cells #[.int .u64 ep, .slice (some ⟨g, 0, none⟩) n n] 78 (0, 0))) := by show _ = _; rw [hb2.block _ (Array.getElem?_eq_some_iff.1 K1.out).1]; exact K1.out
    have B2 := Lib.hid (B1.out.trans (hb2.mono B1.out.size))
    have D2 := Lib.hid (D1.out.on PTx_ok (by decide) hb2)
    clear hb2 K1 R1 B1 D1 KRH c0 c1 r0 r1 y0 y1
    have c0 : w2.cell? ⟨w.heap.size + 1, 0, none⟩ = some (.int .u64 ep) := (Joins.cell_of_block K2.out 0).trans rfl
    have c1 : w2.cell? ⟨w.heap.size + 1, 1, none⟩ = some (.slice (some ⟨g, 0, none⟩) n n) := (Joins.cell_of_block K2.out 1).trans rfl
    have r0 : w2.cell? ⟨w.heap.size, 0, none⟩ = some (.int .u64 0) := (Joins.cell_of_block R2.out 0).trans rfl
    have r1 : w2.cell? ⟨w.heap.size, 1, none⟩ = some (.slice none 0 0) := (Joins.cell_of_block R2.out 1).trans rfl
    have y0 := Joins.unfrozen_of_block R2.out 0
    have y1 := Joins.unfrozen_of_block R2.out 1
    cases ok with
    | false =>
      have E := Lib.hid (NO.out (by rw [MK.out]; rfl))
      have BX : Hid (Below w.heap.size w ((w2.setCell ⟨w.heap.size, 0, none⟩ (.int .u64 0)).setCell ⟨w.heap.size, 1, none⟩ (.slice none 0 0))) := ((B2.out.setCell (p := ⟨_, 0, none⟩) (by simp) _).setCell (p := ⟨_, 1, none⟩) (by simp) _)
      have hb9 : ((w2.setCell ⟨w.heap.size, 0, none⟩ (.int .u64 0)).setCell ⟨w.heap.size, 1, none⟩ (.slice none 0 0)).heap[w.heap.size]? = some (.cells #[.int .u64 0, .slice none 0 0] 78 (0, 0)) := Joins.block_setCell (Joins.block_setCell R2.out _) _
      have x0 := (Joins.cell_of_block hb9 0).trans (rfl : _ = some _)
      have x1 := (Joins.cell_of_block hb9 1).trans (rfl : _ = some _)
      clear hb9
      go_wp2_with fail
      refine bodyPost_ret (v := .tuple #[.agg #[.int .u64 0, .slice none 0 0], .int .i64 21]) (by simp [results, Try.results44, go_sem, x0, x1]) rfl (E.out _ BX.out)
    | true =>
      have BX : Hid (Below w.heap.size w ((w2.setCell ⟨w.heap.size, 0, none⟩ (.int .u64 ep)).setCell ⟨w.heap.size, 1, none⟩ (.slice (some ⟨g, 0, none⟩) n n))) := ((B2.out.setCell (p := ⟨_, 0, none⟩) (by simp) _).setCell (p := ⟨_, 1, none⟩) (by simp) _)
      have hb9 : ((w2.setCell ⟨w.heap.size, 0, none⟩ (.int .u64 ep)).setCell ⟨w.heap.size, 1, none⟩ (.slice (some ⟨g, 0, none⟩) n n)).heap[w.heap.size]? = some (.cells #[.int .u64 ep, .slice (some ⟨g, 0, none⟩) n n] 78 (0, 0)) := Joins.block_setCell (Joins.block_setCell R2.out _) _
      have x0 := (Joins.cell_of_block hb9 0).trans (rfl : _ = some _)
      have x1 := (Joins.cell_of_block hb9 1).trans (rfl : _ = some _)
      have DX : Hid (RwF 10 tg0 PTx ((w2.setCell ⟨w.heap.size, 0, none⟩ (.int .u64 ep)).setCell ⟨w.heap.size, 1, none⟩ (.slice (some ⟨g, 0, none⟩) n n)) (fun x => w.heap.size ≤ x) (some ⟨g, 0, none⟩) L) := (D2.out.agr PTx_ok (by decide) (Agr.chg (K := [w.heap.size]) (((Chg.refl _ _).setCell (p := ⟨w.heap.size, 0, none⟩) (.inl (by simp)) _).setCell (p := ⟨w.heap.size, 1, none⟩) (.inl (by simp)) _) (fun x hx hm => by
        obtain rfl : x = w.heap.size := by simpa using hm
        have := SZ.out
        omega))).mono PTx_ok (fun x hx => by have := SZ.out; omega)
      have E := Lib.hid (YES.out (by rw [MK.out]; rfl) _ (some ⟨g, 0, none⟩) n DX.out BX.out)
      clear NO YES MK D2 DX BX
      clear hb9
      go_wp2_with fail
      refine bodyPost_ret (v := .tuple #[.agg #[.int .u64 ep, .slice (some ⟨g, 0, none⟩) n n], .int .i64 0]) (by simp [results, Try.results44, go_sem, x0, x1]) rfl (E.out)
end Go.Proofs.Ytonjkhhihiigfaa
