/-
  The bytes of a message: what is written has the room that it fills.; Txs, as a law's argument.
-/
import Derived.Test.YtcpoaalhpjipaaaDoorMd16
import Derived.Test.YtcpoaalhpjipaaaDoorMd18
import Derived.Test.YtcpoaalhpjipaaaDoorMd19
namespace Go.Proofs.YtcpoaalhpjipaaaDoor
set_option maxRecDepth 100000
open Go.RowKit

theorem RdC.on9 {w w' : World} {v : Value} {xs : List Int} (h : RdC w v xs) (hb : Below w.heap.size w w') : RdC w' v xs := by
  obtain ⟨q, c, rfl, hl, hx⟩ := h
  obtain ⟨q', c', e, hx'⟩ := Rd.on ⟨q, c, rfl, hx⟩ hb
  simp only [Value.slice.injEq] at e
  obtain ⟨rfl, -, rfl⟩ := e
  exact ⟨_, _, rfl, hl, hx'⟩
theorem RdC.cap9 {w : World} {q : Option Addr} {n c : Nat} {xs : List Int} (h : RdC w (.slice q n c) xs) : xs.length ≤ c := by
  obtain ⟨q', c', e, hl, hx⟩ := h
  simp only [Value.slice.injEq] at e
  omega
theorem RdC.take9 {w : World} {q : Option Addr} {c k : Nat} {xs : List Int} (h : RdC w (.slice q xs.length c) xs) (hk : k ≤ xs.length) : Rd w (.slice q k c) (xs.take k) := by
  obtain ⟨q', c', e, hl, hx⟩ := h
  simp only [Value.slice.injEq, true_and] at e
  obtain ⟨rfl, rfl⟩ := e
  refine ⟨q, c, by rw [List.length_take]; congr 1; omega, ?_⟩
  rcases hx with rfl | ⟨b, off, rfl, h⟩
  · exact .inl (by simp)
  · refine .inr ⟨b, off, rfl, fun i hi => ?_⟩
    rw [List.length_take] at hi
    rw [h i (by omega)]
    simp [List.getD, show i < k by omega]
theorem cut9 (c : Int) {n : Nat} (h0 : 0 < n) (h1 : n ≤ 1000000) : ∃ k : Nat, k < n ∧ (wrap64 (c.tmod (n : Int) + (n : Int))).tmod (n : Int) = (k : Int) := by
  have a := Int.tmod_lt_of_pos c (show (0 : Int) < (n : Int) by omega)
  have b := Int.lt_tmod_of_pos c (show (0 : Int) < (n : Int) by omega)
  have e : wrap64 (c.tmod (n : Int) + (n : Int)) = c.tmod (n : Int) + (n : Int) := by unfold wrap64; omega
  rw [e]
  have h4 := Int.tmod_nonneg (n : Int) (show 0 ≤ c.tmod (n : Int) + (n : Int) by omega)
  have h5 := Int.tmod_lt_of_pos (c.tmod (n : Int) + (n : Int)) (show (0 : Int) < (n : Int) by omega)
  exact ⟨((c.tmod (n : Int) + (n : Int)).tmod (n : Int)).toNat, by omega, by omega⟩
theorem bytes_app9 {A X : List Int} (h : Bytes A) (h2 : Bytes X) : Bytes (A ++ X) := fun x hx => by
  rcases List.mem_append.1 hx with e | e
  · exact h x e
  · exact h2 x e
theorem bytes_take9 {A : List Int} (h : Bytes A) (k : Nat) : Bytes (A.take k) := fun x hx => h x (List.mem_of_mem_take hx)
theorem w4_bytes9 (x : W4) : Bytes x.bytes := fun y hy => by
  obtain ⟨i, -, rfl⟩ := List.mem_map.1 hy
  have := by_lo (V x.a x.b x.c x.d) (32 - 1 - i)
  omega
theorem txB_bytes9 {t : Tg} (ok : t.ok) : Bytes (txB t) := by
  unfold txB
  exact bytes_app9 (be8_bytes _) (bytes_app9 (be8_bytes _) (bytes_app9 (be8_bytes _) (bytes_app9 (be8_bytes _) (bytes_app9 (w4_bytes9 _) (bytes_app9 (be8_bytes _) (bytes_app9 (be8_bytes _) ok.data))))))
theorem baB_bytes9 {ep : Int} {L : List Tg} (ok : TgsOk L) (i : Nat) : Bytes (baB ep L i) := by
  unfold baB
  refine bytes_app9 (be8_bytes _) (bytes_app9 (be8_bytes _) (fun x hx => ?_))
  obtain ⟨l, hl, hx⟩ := List.mem_flatten.1 hx
  obtain ⟨t, ht, rfl⟩ := List.mem_map.1 hl
  exact txB_bytes9 (ok t (List.mem_of_mem_take ht)).1 x hx
theorem baB_ge {ep : Int} {L : List Tg} (i : Nat) : 16 ≤ (baB ep L i).length := by
  unfold baB
  rw [List.length_append, List.length_append, be8_len, be8_len]
  omega

set_option maxHeartbeats 4000000 in
theorem PutMessage_cap {w : World} {m : Mg} {q : Option Addr} {k : Nat} (ok : m.ok) (hr : Rd w (.slice q m.data.length k) m.data) (hl : m.data.length ≤ 1000000) :
    Calls Tryd.prog 10 #[.agg (mgRow m q m.data.length k).toArray] w fun e w' => ∃ q' k', e = .returned (.tuple #[.slice q' (pMB m).length k', .int .i64 (pME m)]) ∧ RdC w' (.slice q' (pMB m).length k') (pMB m) ∧ Below w.heap.size w w' := by
  have OK := Lib.hid ok
  have HV : Hid (∀ W, Below w.heap.size w W → Rd W (.slice q m.data.length k) m.data) := fun W hb => hr.on hb
  have hl2 : m.data.length ≤ 140737488355000 := by omega
  have b1 : Below w.heap.size w (w.alloc (.cells (mgRow m q m.data.length k).toArray 30)) := (Below.refl _ _).alloc (Nat.le_refl _) _
  have K0 := Lib.hid (MgAt.new w 30 m q m.data.length k)
  have B0 := Lib.hid b1
  have hrow := K0.out.row
  have h9 := mgRow_len m q m.data.length k
  have KR := fun W => RightMessage_any (w := W) (m := m) (q := q) (n := m.data.length) (k := k) ok.gas (by unfold maxLen; omega)
  have HY : Hid (okM m = true → pMB m = mgB m ∧ pME m = 0) := fun h => ⟨if_pos h, if_pos h⟩
  have HN : Hid (okM m = false → pMB m = [] ∧ pME m = 1) := fun h => by unfold pMB pME; rw [h]; exact ⟨rfl, rfl⟩
  have e0 : decide (m.gas ≤ 65536 ∧ m.data.length ≤ 64) = okM m := rfl
  rw [e0] at KR
  have KRH := Lib.hid KR
  clear hr b1 KR e0 ok
  obtain ⟨b, hbk⟩ : ∃ b, okM m = b := ⟨_, rfl⟩
  rw [hbk] at KRH HY HN
  clear hbk
  go_enter Tryd.func10, Tryd.ntmps10
  go_wp2_with fail
  generalize (w.alloc (.cells (mgRow m q m.data.length k).toArray 30)) = w0 at *
  refine (KRH.out w0).mono ?_
  rintro e w1 ⟨rfl, hb1⟩
  have B1 := Lib.hid (B0.out.trans (hb1.mono B0.out.size))
  have K1 := K0.out.on hb1
  have hrow := K1.row
  clear hb1 K1 KRH K0
  cases b with
  | false =>
    have E := Lib.hid (HN.out rfl)
    clear HN HY
    go_wp2_with fail
    go_ret2
    exact ⟨none, 0, by rw [E.out.1, E.out.2]; rfl, by rw [E.out.1]; exact RdC.nil w1, B1.out⟩
  | true =>
    have E := Lib.hid (HY.out rfl)
    clear HN HY
    go_wp2_with fail
    refine (messageBytes_any OK.out (HV.out _ B1.out) hl2).mono ?_
    rintro e w3 ⟨u, rfl, hS⟩
    obtain ⟨q3, k3, rfl⟩ := hS.len
    have RD := Lib.hid (rdC_of hS)
    have B3 := Lib.hid (B1.out.trans (hS.below.mono B1.out.size))
    clear hS hrow h9
    go_wp2_with fail
    go_ret2
    exact ⟨q3, k3, by rw [E.out.1, E.out.2]; rfl, by rw [E.out.1]; exact RD.out, B3.out⟩

end Go.Proofs.YtcpoaalhpjipaaaDoor
namespace Go.Proofs.YtcpoaalhpjipaaaDoor
set_option maxRecDepth 100000
open Go.ChangeShapes Go.WideShapes Go.ChangeAt Go.RowKit Go.Deep

theorem rowOf_vals {w : World} {b o n : Nat} {cs : List Value} (hn : cs.length = n) (h0 : 0 < n) (h : ∀ j v, cs[j]? = some v → w.cell? ⟨b, o + j, none⟩ = some v) : rowOf w b o n = cs := by
  subst hn
  have hf := h 0 cs[0] (by simp [h0])
  unfold World.cell? at hf
  split at hf
  · rename_i C t fr hb
    rw [rowOf_block hb]
    apply List.ext_getElem?
    intro j
    by_cases hj : j < cs.length
    · have := h j cs[j] (by simp [hj])
      rw [Joins.cell_of_block hb] at this
      have hlt := (Array.getElem?_eq_some_iff.1 this).1
      rw [Array.getElem?_toList, Array.getElem?_extract, if_pos (by omega), this, List.getElem?_eq_getElem hj]
    · rw [List.getElem?_eq_none (by rw [Array.length_toList, Array.size_extract]; omega), List.getElem?_eq_none (by omega)]
  · simp at hf

theorem i64_bd {x : Int} (h : (Lit.int .i64 x).wf = true) : -9223372036854775808 ≤ x ∧ x < 9223372036854775808 := by
  have : -9223372036854775808 ≤ x ∧ x ≤ 9223372036854775807 := by simpa [Lit.wf, IntKind.min, IntKind.max, IntKind.signed, IntKind.bits] using h
  omega
section
variable {H : Type} {enc : TypeId × Value → H} {w : World} {base : Nat} {held : Bool}
theorem trod_tx {fuel : Nat} {cs : List Value} {y : DataW H × List MemPlace} (hf : DataW.trod enc Tryd.prog w base (fun _ => true) held fuel 54 cs = some y)
    (hs : ∀ n ∈ y.1.weights Tryd.prog 54, n ≤ reachBytes) : ∃ (t : Tg) (q : Option Addr) (k : Nat), cs = txRow t q t.data.length k ∧ t.ok ∧ Rd w (.slice q t.data.length k) t.data ∧ t.data.length ≤ 140737488355000 := by
  have hr := reach46
  obtain ⟨hl, mm, ys, hx, hfld⟩ := trod_struct Tryd.underlying54 (n := 10) (by kernel_rfl) hf
  rw [hx] at hs
  have ci : Tryd.prog.cellsOf 3 = 1 := by kernel_rfl
  have c1 : Tryd.prog.cellsOf 22 = 1 := by kernel_rfl
  have c4 : Tryd.prog.cellsOf 24 = 4 := by kernel_rfl
  have cb : Tryd.prog.cellsOf 25 = 1 := by kernel_rfl
  obtain ⟨y0, g0, t0⟩ := hfld 0 _ rfl
  obtain ⟨y1, g1, t1⟩ := hfld 1 _ rfl
  obtain ⟨y2, g2, t2⟩ := hfld 2 _ rfl
  obtain ⟨y3, g3, t3⟩ := hfld 3 _ rfl
  obtain ⟨y4, g4, t4⟩ := hfld 4 _ rfl
  obtain ⟨y5, g5, t5⟩ := hfld 5 _ rfl
  obtain ⟨y6, g6, t6⟩ := hfld 6 _ rfl
  dsimp only at t0 t1 t2 t3 t4 t5 t6
  rw [ci] at t0
  rw [c1] at t1 t2 t3 t5
  rw [c4] at t4
  rw [cb] at t6
  have m6 := weights_struct Tryd.underlying54 hs (j := 6) rfl (show (ys.map (·.1))[6]? = some y6.1 by rw [List.getElem?_map, g6]; rfl)
  dsimp only at m6
  obtain ⟨a0, e0', _, h0'⟩ := DataW.trod_int Tryd.underlying3 t0
  have e0 := one_at e0'
  have h0 := i64_bd h0'
  obtain ⟨a1, e1, h1⟩ := trod_u64B Tryd.underlying22 t1
  obtain ⟨a2, e2, h2⟩ := trod_u64B Tryd.underlying22 t2
  obtain ⟨a3, e3, h3⟩ := trod_u64B Tryd.underlying22 t3
  obtain ⟨a5, e5, h5⟩ := trod_u64B Tryd.underlying22 t5
  obtain ⟨l4, h4⟩ := trod_arrI Tryd.underlying24 Tryd.underlying22 c4 c1 t4
  obtain ⟨b0, f0, w0⟩ := h4 0 (by omega)
  obtain ⟨b1, f1, w1⟩ := h4 1 (by omega)
  obtain ⟨b2, f2, w2⟩ := h4 2 (by omega)
  obtain ⟨b3, f3, w3⟩ := h4 3 (by omega)
  obtain ⟨v6, xs, e6, r6, bx, z6⟩ := trod_bytes t6
  obtain ⟨q, k, rfl⟩ := r6.len
  have s6 : xs.length ≤ 140737488355000 := by
    rcases z6 with z | ⟨el, sp, z1, z2⟩
    · rw [z]; simp
    · rw [z1] at m6
      have := (weights_slice Tryd.underlying25 m6).1
      rw [show Tryd.prog.bytesOf 5 = 1 by kernel_rfl, z2] at this
      omega
  have dg : ∀ {x : Int}, (Lit.int .u64 x).wf = true → Dg x := fun hx => by
    have := u64_bd hx
    unfold Dg B; omega
  have sub : ∀ {i : Nat} {u : Value}, i < 4 → ((cs.drop 4).take 4)[i]? = some u → cs[4 + i]? = some u := fun hi h => by
    rw [List.getElem?_take, if_pos hi, List.getElem?_drop] at h
    exact h
  have e9 : cs[9]? = some (.slice q xs.length k) := one_at e6
  refine ⟨⟨a0, a1, a2, a3, ⟨b0, b1, b2, b3⟩, a5, xs⟩, q, k, ?_, ⟨h0, h1, h2, h3, ⟨dg w0, dg w1, dg w2, dg w3⟩, h5, bx⟩, r6, s6⟩
  apply List.ext_getElem?
  intro i
  have hi : i = 0 ∨ i = 1 ∨ i = 2 ∨ i = 3 ∨ i = 4 ∨ i = 5 ∨ i = 6 ∨ i = 7 ∨ i = 8 ∨ i = 9 ∨ 10 ≤ i := by omega
  rcases hi with rfl | rfl | rfl | rfl | rfl | rfl | rfl | rfl | rfl | rfl | hi
  · rw [e0]; rfl
  · rw [e1]; rfl
  · rw [e2]; rfl
  · rw [e3]; rfl
  · rw [sub (i := 0) (by omega) f0]; rfl
  · rw [sub (i := 1) (by omega) f1]; rfl
  · rw [sub (i := 2) (by omega) f2]; rfl
  · rw [sub (i := 3) (by omega) f3]; rfl
  · rw [e5]; rfl
  · rw [e9]; rfl
  · rw [List.getElem?_eq_none (by omega), List.getElem?_eq_none (by rw [txRow_len]; omega)]
theorem open_txs {r : Reach} {b0 : Nat} {v : Value} {d : DataW H} {p : List MemPlace} (hv : Value.okWide Tryd.prog w r b0 52 v) (h : DataW.Trod enc Tryd.prog w base (fun _ => true) held 52 v d p)
    (hs : ∀ n ∈ d.weights Tryd.prog 52, n ≤ reachBytes) : ∃ q c L, v = .slice q L.length c ∧ RdTx w q L ∧ (∀ t ∈ L, t.ok ∧ t.data.length ≤ 140737488355328) ∧ L.length ≤ 140737488355000 := by
  have hr := reach46
  obtain ⟨a0, len0, cap0, rfl⟩ := okWide_slice Tryd.underlying52 hv
  obtain ⟨fuel, hf⟩ := h
  rcases Deep.open_slice Tryd.underlying52 hf with ⟨h0, _⟩ | ⟨a, len, cap, m, n, D, Pl, hcs, hb, hl, hm, hmm, hy, hx⟩
  · simp [Value.cells] at h0
    obtain ⟨rfl, rfl, rfl⟩ := h0
    exact ⟨none, 0, [], rfl, .inl rfl, fun s h => by simp at h, by simp⟩
  · simp [Value.cells] at hcs
    obtain ⟨e1, e2, e3⟩ := hcs
    subst e1 e2 e3
    simp only [if_true] at hmm
    subst hmm
    simp only [Prod.mk.injEq] at hy
    rw [hy.1] at hs
    obtain ⟨w1, w2⟩ := weights_slice Tryd.underlying52 hs
    rw [show Tryd.prog.bytesOf 54 = 96 by kernel_rfl] at w1
    have key : ∀ i, ∃ x : Tg × Option Addr × Nat, i < len0 → x.1.ok ∧ Rd w (.slice x.2.1 x.1.data.length x.2.2) x.1.data ∧ x.1.data.length ≤ 140737488355000 ∧ ∀ j u, (txRow x.1 x.2.1 x.1.data.length x.2.2)[j]? = some u → w.cell? (a.add (i * 10 + j)) = some u := by
      intro i
      by_cases hi : i < len0
      · obtain ⟨cs', hc1, ht⟩ := hx i (by omega)
        rw [show Tryd.prog.cellsOf 54 = 10 by kernel_rfl] at hc1
        obtain ⟨s, q, k, rfl, ok, hq, hle⟩ := trod_tx ht (w2 (D i) (List.mem_map.2 ⟨i, by simpa using hi, rfl⟩))
        refine ⟨(s, q, k), fun _ => ⟨ok, hq, hle, fun j u hu => ?_⟩⟩
        have hj : j < 10 := by
          have := (List.getElem?_eq_some_iff.1 hu).1
          rw [txRow_len] at this
          exact this
        have := (World.cells?_some hc1).2.2 j hj
        rw [Addr.add_add] at this
        rw [this]
        exact hu
      · exact ⟨(tg0, none, 0), fun h => absurd h hi⟩
    obtain ⟨f, hf⟩ := Classical.axiomOfChoice key
    have hlen : ((List.range len0).map fun i => (f i).1).length = len0 := by simp
    have hg : ∀ i, i < len0 → ((List.range len0).map fun i => (f i).1).getD i tg0 = (f i).1 := fun i hi => by simp [List.getD, hi]
    have hle : len0 ≤ 140737488355000 := by
      simp only [List.length_map, List.length_range] at w1
      omega
    refine ⟨some a, _, (List.range len0).map fun i => (f i).1, by rw [hlen], ?_, ?_, by rw [hlen]; exact hle⟩
    · by_cases h0 : len0 = 0
      · exact .inl (by simp [h0])
      · obtain ⟨b, o, sp⟩ := a
        have hsp : sp = none := by
          obtain ⟨ok, _, _, h3⟩ := hf 0 (by omega)
          have hl := txRow_len (f 0).1 (f 0).2.1 (f 0).1.data.length (f 0).2.2
          have := h3 0 _ (List.getElem?_eq_getElem (by omega))
          simpa [Addr.add] using World.cell?_spot this
        subst hsp
        refine .inr ⟨b, o, rfl, fun i hi => ?_⟩
        rw [hlen] at hi
        obtain ⟨ok, h2, _, h3⟩ := hf i hi
        rw [hg i hi]
        refine ⟨(f i).2.1, (f i).2.2, rowOf_vals (txRow_len _ _ _ _) (by decide) (fun j u hu => ?_), h2⟩
        have := h3 j u hu
        rw [addr_add] at this
        rw [← this]
        congr 2
        omega
    · intro s hS
      obtain ⟨i, hi, rfl⟩ := List.mem_map.1 hS
      have := hf i (List.mem_range.1 hi)
      exact ⟨this.1, by omega⟩
end
end Go.Proofs.YtcpoaalhpjipaaaDoor
